
/-
  Contracts of package text: the string that a literal represents (Unquote and its parts).
-/
import Derived.Test.YtgicbmibhnnflaaGreatDoorRefQuote
namespace Go.Proofs.YtgicbmibhnnflaaGreatDoor.T1
open Go.RowKit
def hexV (n : Int) : Int := if 48 ≤ n ∧ n ≤ 57 then n - 48 else if 97 ≤ n ∧ n ≤ 102 then n - 87 else if 65 ≤ n ∧ n ≤ 70 then n - 55 else -1
theorem hexV_bounds (n : Int) : -1 ≤ hexV n ∧ hexV n ≤ 15 := by
  unfold hexV
  split
  · omega
  · split
    · omega
    · split <;> omega
theorem hexDigit_yes (n : Int) (w : World) (h0 : 0 ≤ n) (h1 : n ≤ 255) (h : 0 ≤ hexV n) :
    Calls Tryz.prog 132 #[.int .u8 n] w fun e w' => e = .returned (.tuple #[.int .i64 (hexV n), .bool true]) ∧ w = w' := by
  have hc : (48 ≤ n ∧ n ≤ 57) ∨ (97 ≤ n ∧ n ≤ 102) ∨ (65 ≤ n ∧ n ≤ 70) := by unfold hexV at h; omega
  clear h
  rcases hc with ⟨a, b⟩ | ⟨a, b⟩ | ⟨a, b⟩
  all_goals
    first
      | (have e1 : Hid (hexV n = n - 48) := Lib.hid (by unfold hexV; omega)
         have e2 : digB n = true := by unfold digB; simp; omega
         go_enter Tryz.func132, Tryz.ntmps132
         go_wp2_with (go_at_call 59; refine (isDigit_any _ _ (by omega) (by omega)).mono ?_; rintro e w' ⟨rfl, rfl⟩)
         go_ret2
         exact ⟨by rw [e1.out]; rfl, rfl⟩)
      | (have e1 : Hid (hexV n = n - 97 + 10) := Lib.hid (by unfold hexV; omega)
         have e2 : digB n = false := by unfold digB; simp; omega
         go_enter Tryz.func132, Tryz.ntmps132
         go_wp2_with (go_at_call 59; refine (isDigit_any _ _ (by omega) (by omega)).mono ?_; rintro e w' ⟨rfl, rfl⟩)
         go_ret2
         exact ⟨by rw [e1.out]; rfl, rfl⟩)
      | (have e1 : Hid (hexV n = n - 65 + 10) := Lib.hid (by unfold hexV; omega)
         have e2 : digB n = false := by unfold digB; simp; omega
         go_enter Tryz.func132, Tryz.ntmps132
         go_wp2_with (go_at_call 59; refine (isDigit_any _ _ (by omega) (by omega)).mono ?_; rintro e w' ⟨rfl, rfl⟩)
         go_ret2
         exact ⟨by rw [e1.out]; rfl, rfl⟩)
theorem hexDigit_no (n : Int) (w : World) (h0 : 0 ≤ n) (h1 : n ≤ 255) (h : hexV n < 0) :
    Calls Tryz.prog 132 #[.int .u8 n] w fun e w' => e = .returned (.tuple #[.int .i64 0, .bool false]) ∧ w = w' := by
  have hc : (n < 48) ∨ (57 < n ∧ n < 65) ∨ (70 < n ∧ n < 97) ∨ 102 < n := by unfold hexV at h; omega
  have e2 : digB n = false := by unfold digB; simp; omega
  clear h
  rcases hc with a | ⟨a, b⟩ | ⟨a, b⟩ | a
  all_goals
    go_enter Tryz.func132, Tryz.ntmps132
    go_wp2_with (go_at_call 59; refine (isDigit_any _ _ (by omega) (by omega)).mono ?_; rintro e w' ⟨rfl, rfl⟩)
    go_ret2
    exact ⟨rfl, rfl⟩
def bv (l : List UInt8) (k : Nat) : Int := hexV ((l.getD k 0).toNat : Int)
def cdL (l : List UInt8) : Nat → Int
  | 0 => 0
  | k + 1 => cdL l k * 16 + bv l k
def OkL (l : List UInt8) (k : Nat) : Prop := ∀ j, j < k → 0 ≤ bv l j
theorem okL_zero (l : List UInt8) : OkL l 0 := fun _ h => absurd h (by omega)
theorem okL_succ {l : List UInt8} {k : Nat} (h : OkL l k) (h1 : 0 ≤ bv l k) : OkL l (k + 1) := fun j hj => by
  by_cases e : j = k
  · subst e; exact h1
  · exact h j (by omega)
theorem cdL_bounds {l : List UInt8} : ∀ {k : Nat}, OkL l k → 0 ≤ cdL l k ∧ cdL l k < 16 ^ k
  | 0, _ => by simp [cdL]
  | k + 1, h => by
    have ih := cdL_bounds (l := l) (k := k) (fun j hj => h j (by omega))
    have h1 := h k (by omega)
    have h2 := (hexV_bounds ((l.getD k 0).toNat : Int)).2
    have h3 : bv l k ≤ 15 := h2
    have e : cdL l (k + 1) = cdL l k * 16 + bv l k := rfl
    have p : (16 : Int) ^ (k + 1) = 16 ^ k * 16 := by rw [Int.pow_succ]
    rw [e, p]; omega
def okB (l : List UInt8) : Bool := decide (4 ≤ l.length) && decide (0 ≤ bv l 0) && decide (0 ≤ bv l 1) && decide (0 ≤ bv l 2) && decide (0 ≤ bv l 3) && decide (cdL l 4 ≤ 255)
def numL4 (l : List UInt8) : Option UInt8 := if okB l then some (UInt8.ofNat (cdL l 4).toNat) else none
def nb2 (k : Int) : Option UInt8 → Value
  | some b => .tuple #[.int .u8 b.toNat, .int .i64 k]
  | none => .tuple #[.int .u8 0, .int .i64 0]
theorem nb2_some {k n : Int} {b : UInt8} (h : (b.toNat : Int) = n) : nb2 k (some b) = .tuple #[.int .u8 n, .int .i64 k] := by subst h; rfl
theorem numL4_short {l : List UInt8} (h : l.length < 4) : numL4 l = none := by
  unfold numL4 okB; rw [if_neg]; simp; omega
theorem numL4_bad {l : List UInt8} {k : Nat} (hk : k < 4) (h : bv l k < 0) : numL4 l = none := by
  have : k = 0 ∨ k = 1 ∨ k = 2 ∨ k = 3 := by omega
  unfold numL4 okB; rw [if_neg]
  rcases this with rfl | rfl | rfl | rfl <;> simp <;> omega
theorem numL4_big {l : List UInt8} (h : 255 < cdL l 4) : numL4 l = none := by
  unfold numL4 okB; rw [if_neg]; simp; omega
theorem numL4_yes {l : List UInt8} (h0 : 4 ≤ l.length) (h : OkL l 4) (h1 : cdL l 4 ≤ 255) : numL4 l = some (UInt8.ofNat (cdL l 4).toNat) := by
  unfold numL4 okB
  rw [if_pos]
  simp [h0, h 0 (by omega), h 1 (by omega), h 2 (by omega), h 3 (by omega), h1]
theorem ofNat_toNat {n : Int} (h0 : 0 ≤ n) (h1 : n ≤ 255) : ((UInt8.ofNat n.toNat).toNat : Int) = n := by
  rw [UInt8.toNat_ofNat']; omega
theorem getD_at (s : ByteArray) (k : Nat) (h : k < s.size) : s.data.toList.getD k 0 = s[k] := by
  have := size_eq s
  rw [List.getD_eq_getElem?_getD, List.getElem?_eq_getElem (by omega)]; rfl
def NbPost (k : Int) (o : Option UInt8) (w : World) (e : Ending) (w' : World) : Prop := e = .returned (nb2 k o) ∧ w = w'
theorem numbered_short (s : ByteArray) (w : World) (h : s.size < 4) :
    Calls Tryz.prog 123 #[.string s] w (NbPost 6 (numL4 s.data.toList) w) := by
  rw [numL4_short (by rw [size_eq]; exact h)]
  go_enter Tryz.func123, Tryz.ntmps123
  go_wp2_with fail
  go_ret2
  exact ⟨rfl, rfl⟩
theorem numbered_long (s : ByteArray) (w : World) (h : 4 ≤ s.size) (hs : s.size ≤ maxLen) :
    Calls Tryz.prog 123 #[.string s] w (NbPost 6 (numL4 s.data.toList) w) := by
  unfold maxLen at hs
  have hl := Lib.hid (size_eq s)
  go_enter Tryz.func123, Tryz.ntmps123
  go_wp2_with fail
  go_loop [4, 11] (fun n i => ∃ k : Nat, k ≤ 4 ∧ i = .int .i64 k ∧ n = .int .i64 (cdL s.data.toList k) ∧ OkL s.data.toList k) (fun _ i => 4 - (intOf i).toNat)
  case atStart => exact ⟨0, by omega, rfl, rfl, okL_zero _⟩
  case round =>
    obtain ⟨k, hk, rfl, rfl, hok⟩ := hrel
    obtain ⟨c0, c1⟩ := cdL_bounds hok
    by_cases hlt : k < 4
    · have c2 : cdL s.data.toList k < 65536 := by
        have : k = 0 ∨ k = 1 ∨ k = 2 ∨ k = 3 := by omega
        rcases this with rfl | rfl | rfl | rfl <;> simp at c1 <;> omega
      clear c1
      have hks : k < s.size := by omega
      have hbk := byte_lt s[k]
      have hbv : bv s.data.toList k = hexV (s[k].toNat : Int) := by unfold bv; rw [getD_at s k hks]
      have hv := hexV_bounds (s[k].toNat : Int)
      by_cases hh : 0 ≤ hexV (s[k].toNat : Int)
      · have H1 := Lib.hid (okL_succ hok (by rw [hbv]; exact hh))
        have H2 : Hid (cdL s.data.toList (k + 1) = cdL s.data.toList k * 16 + hexV (s[k].toNat : Int)) := Lib.hid (by rw [← hbv]; rfl)
        clear hbv hok
        go_wp2_with (go_at_call 132; refine (hexDigit_yes _ _ (by omega) (by omega) hh).mono ?_; rintro e w' ⟨rfl, rfl⟩)
        go_round
        case rel => exact ⟨k + 1, by omega, by go_num, by rw [H2.out], H1.out⟩
        case measure => simp [intOf]; omega
      · have H1 : Hid (numL4 s.data.toList = none) := Lib.hid (numL4_bad hlt (by rw [hbv]; omega))
        clear hbv hok
        go_wp2_with (go_at_call 132; refine (hexDigit_no _ _ (by omega) (by omega) (by omega)).mono ?_; rintro e w' ⟨rfl, rfl⟩)
        go_ret2
        exact ⟨by rw [H1.out]; rfl, rfl⟩
    · obtain rfl : k = 4 := by omega
      simp only [Int.reducePow] at c1
      by_cases hbig : 255 < cdL s.data.toList 4
      · have H1 := Lib.hid (numL4_big hbig)
        go_wp2
        go_ret2
        exact ⟨by rw [H1.out]; rfl, rfl⟩
      · have hle : cdL s.data.toList 4 ≤ 255 := by omega
        have H1 := Lib.hid (numL4_yes (by rw [hl.out]; exact h) hok hle)
        have H2 := Lib.hid (ofNat_toNat c0 hle)
        clear hbig hok
        go_wp2
        go_ret2
        exact ⟨by rw [H1.out, nb2_some H2.out]; rfl, rfl⟩
theorem numbered_any (s : ByteArray) (w : World) (hs : s.size ≤ maxLen) :
    Calls Tryz.prog 123 #[.string s] w (NbPost 6 (numL4 s.data.toList) w) := by
  by_cases h : s.size < 4
  · exact numbered_short s w h
  · exact numbered_long s w (by omega) hs
def simpleL (c : UInt8) : Option UInt8 :=
  if c = 34 then some 34 else if c = 92 then some 92 else if c = 47 then some 47 else if c = 98 then some 8 else if c = 102 then some 12
  else if c = 110 then some 10 else if c = 114 then some 13 else if c = 116 then some 9 else none
theorem simple_none {c : UInt8} (h1 : c ≠ 34) (h2 : c ≠ 92) (h3 : c ≠ 47) (h4 : c ≠ 98) (h5 : c ≠ 102) (h6 : c ≠ 110) (h7 : c ≠ 114) (h8 : c ≠ 116) : simpleL c = none := by
  unfold simpleL; rw [if_neg h1, if_neg h2, if_neg h3, if_neg h4, if_neg h5, if_neg h6, if_neg h7, if_neg h8]
theorem escaped_const (n : Int) (x : UInt8) (w : World) (h : (n = 34 ∧ x = 34) ∨ (n = 92 ∧ x = 92) ∨ (n = 47 ∧ x = 47) ∨ (n = 98 ∧ x = 8) ∨ (n = 102 ∧ x = 12) ∨ (n = 110 ∧ x = 10) ∨ (n = 114 ∧ x = 13) ∨ (n = 116 ∧ x = 9)) :
    Calls Tryz.prog 124 #[.int .u8 n] w (NbPost 2 (some x) w) := by
  rcases h with ⟨rfl, rfl⟩ | ⟨rfl, rfl⟩ | ⟨rfl, rfl⟩ | ⟨rfl, rfl⟩ | ⟨rfl, rfl⟩ | ⟨rfl, rfl⟩ | ⟨rfl, rfl⟩ | ⟨rfl, rfl⟩
  all_goals
    go_enter Tryz.func124, Tryz.ntmps124
    go_wp2_with fail
    go_ret2
    exact ⟨rfl, rfl⟩
theorem escaped_none (c : UInt8) (w : World) (h1 : c ≠ 34) (h2 : c ≠ 92) (h3 : c ≠ 47) (h4 : c ≠ 98) (h5 : c ≠ 102) (h6 : c ≠ 110) (h7 : c ≠ 114) (h8 : c ≠ 116) :
    Calls Tryz.prog 124 #[.int .u8 c.toNat] w (NbPost 2 none w) := by
  have g1 : ((c.toNat : Int) == 34) = false := u8_ne h1
  have g2 : ((c.toNat : Int) == 92) = false := u8_ne h2
  have g3 : ((c.toNat : Int) == 47) = false := u8_ne h3
  have g4 : ((c.toNat : Int) == 98) = false := u8_ne h4
  have g5 : ((c.toNat : Int) == 102) = false := u8_ne h5
  have g6 : ((c.toNat : Int) == 110) = false := u8_ne h6
  have g7 : ((c.toNat : Int) == 114) = false := u8_ne h7
  have g8 : ((c.toNat : Int) == 116) = false := u8_ne h8
  go_enter Tryz.func124, Tryz.ntmps124
  go_wp2_with fail
  go_ret2
  exact ⟨rfl, rfl⟩
theorem escaped_any (c : UInt8) (w : World) : Calls Tryz.prog 124 #[.int .u8 c.toNat] w (NbPost 2 (simpleL c) w) := by
  by_cases h1 : c = 34
  · subst h1; exact escaped_const 34 34 w (by simp)
  by_cases h2 : c = 92
  · subst h2; exact escaped_const 92 92 w (by simp)
  by_cases h3 : c = 47
  · subst h3; exact escaped_const 47 47 w (by simp)
  by_cases h4 : c = 98
  · subst h4; exact escaped_const 98 8 w (by simp)
  by_cases h5 : c = 102
  · subst h5; exact escaped_const 102 12 w (by simp)
  by_cases h6 : c = 110
  · subst h6; exact escaped_const 110 10 w (by simp)
  by_cases h7 : c = 114
  · subst h7; exact escaped_const 114 13 w (by simp)
  by_cases h8 : c = 116
  · subst h8; exact escaped_const 116 9 w (by simp)
  rw [simple_none h1 h2 h3 h4 h5 h6 h7 h8]
  exact escaped_none c w h1 h2 h3 h4 h5 h6 h7 h8
/- One step: the first byte that the content represents, and how many bytes represent it. -/
def stepL : List UInt8 → Option (UInt8 × Nat)
  | [] => none
  | c :: r =>
    if c = 34 ∨ prB (c.toNat : Int) = false then none
    else if c ≠ 92 then some (c, 1)
    else match r with
      | [] => none
      | d :: t => if d = 117 then (numL4 t).map (·, 6) else (simpleL d).map (·, 2)
def fb2 : Option (UInt8 × Nat) → Value
  | some (b, k) => .tuple #[.int .u8 b.toNat, .int .i64 k]
  | none => .tuple #[.int .u8 0, .int .i64 0]
theorem fb2_map (o : Option UInt8) (k : Nat) : fb2 (o.map (·, k)) = nb2 k o := by cases o <;> rfl
def FbPost (o : Option (UInt8 × Nat)) (w : World) (e : Ending) (w' : World) : Prop := e = .returned (fb2 o) ∧ w = w'
theorem stepL_cons (c : UInt8) (r : List UInt8) : stepL (c :: r) = if c = 34 ∨ prB (c.toNat : Int) = false then none
    else if c ≠ 92 then some (c, 1)
    else match r with
      | [] => none
      | d :: t => if d = 117 then (numL4 t).map (·, 6) else (simpleL d).map (·, 2) := rfl
theorem stepL_esc (d : UInt8) (t : List UInt8) : stepL (92 :: d :: t) = if d = 117 then (numL4 t).map (·, 6) else (simpleL d).map (·, 2) := by
  rw [stepL_cons, if_neg (by decide), if_neg (by decide)]
theorem list_of {s : ByteArray} (h : 0 < s.size) : s.data.toList = s[0] :: s.data.toList.drop 1 := by
  have h1 := size_eq s
  have h2 : s.data.toList[0]'(by omega) :: s.data.toList.drop (0 + 1) = s.data.toList.drop 0 := List.getElem_cons_drop (by omega)
  rw [List.drop_zero] at h2
  exact h2.symm
theorem list_of2 {s : ByteArray} (h : 2 ≤ s.size) : s.data.toList = s[0]'(by omega) :: s[1]'(by omega) :: s.data.toList.drop 2 := by
  have h1 := size_eq s
  have h2 : s.data.toList[1]'(by omega) :: s.data.toList.drop (1 + 1) = s.data.toList.drop 1 := List.getElem_cons_drop (by omega)
  conv => lhs; rw [list_of (by omega : 0 < s.size)]
  rw [← h2]; rfl
theorem drop_of (s : ByteArray) (k : Nat) : (s.extract k s.size).data.toList = s.data.toList.drop k := by
  rw [Lib.extract_data, List.take_of_length_le (by rw [List.length_drop, size_eq]; omega)]
theorem first_bad (s : ByteArray) (w : World) (h0 : 0 < s.size) (h : s[0] = 34 ∨ prB (s[0].toNat : Int) = false) :
    Calls Tryz.prog 116 #[.string s] w (FbPost (stepL s.data.toList) w) := by
  have H : Hid (stepL s.data.toList = none) := Lib.hid (by rw [list_of h0, stepL_cons, if_pos h])
  have hb := byte_lt s[0]
  by_cases h1 : s[0] = 34
  · have g1 : ((s[0].toNat : Int) == 34) = true := by rw [h1]; rfl
    clear h h1
    go_enter Tryz.func116, Tryz.ntmps116
    go_wp2_with fail
    go_ret2
    exact ⟨by rw [H.out]; rfl, rfl⟩
  · have g1 : ((s[0].toNat : Int) == 34) = false := u8_ne h1
    have g2 : prB (s[0].toNat : Int) = false := h.resolve_left h1
    clear h h1
    go_enter Tryz.func116, Tryz.ntmps116
    go_wp2_with (go_at_call 122; refine (isPrintable_any _ _ (by omega) (by omega)).mono ?_; rintro e w' ⟨rfl, rfl⟩)
    go_ret2
    exact ⟨by rw [H.out]; rfl, rfl⟩
theorem first_plain (s : ByteArray) (w : World) (h0 : 0 < s.size) (h : s[0] ≠ 34) (hp : prB (s[0].toNat : Int) = true) (h2 : s[0] ≠ 92) :
    Calls Tryz.prog 116 #[.string s] w (FbPost (stepL s.data.toList) w) := by
  have H : Hid (stepL s.data.toList = some (s[0], 1)) := Lib.hid (by rw [list_of h0, stepL_cons, if_neg (by simp [h, hp]), if_pos h2])
  have hb := byte_lt s[0]
  have g1 : ((s[0].toNat : Int) == 34) = false := u8_ne h
  have g2 : ((s[0].toNat : Int) == 92) = false := u8_ne h2
  clear h h2
  go_enter Tryz.func116, Tryz.ntmps116
  go_wp2_with (go_at_call 122; refine (isPrintable_any _ _ (by omega) (by omega)).mono ?_; rintro e w' ⟨rfl, rfl⟩)
  go_ret2
  exact ⟨by rw [H.out]; rfl, rfl⟩
theorem first_esc1 (s : ByteArray) (w : World) (h0 : s.size = 1) (h2 : s[0]'(by omega) = 92) :
    Calls Tryz.prog 116 #[.string s] w (FbPost (stepL s.data.toList) w) := by
  have H : Hid (stepL s.data.toList = none) := Lib.hid (by
    have h3 := size_eq s
    rw [list_of (by omega : 0 < s.size), List.drop_eq_nil_of_le (by omega), h2]; decide)
  have h0' : 0 < s.size := by omega
  have hs1 : (s.size : Int) < 2 := by omega
  have hb := byte_lt s[0]
  have g1 : ((s[0].toNat : Int) == 34) = false := by rw [h2]; rfl
  have g2 : ((s[0].toNat : Int) == 92) = true := by rw [h2]; rfl
  have g3 : prB (s[0].toNat : Int) = true := by rw [h2]; decide
  clear h2 h0
  go_enter Tryz.func116, Tryz.ntmps116
  go_wp2_with (go_at_call 122; refine (isPrintable_any _ _ (by omega) (by omega)).mono ?_; rintro e w' ⟨rfl, rfl⟩)
  go_ret2
  exact ⟨by rw [H.out]; rfl, rfl⟩
theorem step_two {s : ByteArray} (h0 : 2 ≤ s.size) (h2 : s[0]'(by omega) = 92) : stepL s.data.toList = if s[1]'(by omega) = 117 then (numL4 (s.data.toList.drop 2)).map (·, 6) else (simpleL (s[1]'(by omega))).map (·, 2) := by
  rw [list_of2 h0]
  generalize s.data.toList = l
  rw [h2, stepL_esc]; rfl
theorem first_esc2 (s : ByteArray) (w : World) (h0 : 2 ≤ s.size) (hs : s.size ≤ maxLen) (h2 : s[0]'(by omega) = 92) :
    Calls Tryz.prog 116 #[.string s] w (FbPost (stepL s.data.toList) w) := by
  have hst := step_two h0 h2
  unfold maxLen at hs
  have h0' : 0 < s.size := by omega
  have h1' : 1 < s.size := by omega
  have hb := byte_lt s[0]
  have hb1 := byte_lt s[1]
  have g1 : ((s[0].toNat : Int) == 34) = false := by rw [h2]; rfl
  have g2 : ((s[0].toNat : Int) == 92) = true := by rw [h2]; rfl
  have g3 : prB (s[0].toNat : Int) = true := by rw [h2]; decide
  clear h2
  by_cases hu : s[1] = 117
  · rw [if_pos hu] at hst
    have g4 : ((s[1].toNat : Int) == 117) = true := by rw [hu]; rfl
    have H := Lib.hid hst
    clear hst hu
    go_enter Tryz.func116, Tryz.ntmps116
    go_wp2_with (go_at_call 122; refine (isPrintable_any _ _ (by omega) (by omega)).mono ?_; rintro e w' ⟨rfl, rfl⟩)
    have hn : (s.extract 2 s.size).data.toList = s.data.toList.drop 2 := drop_of s 2
    have hx : (s.extract 2 s.size).size ≤ maxLen := by
      rw [← size_eq, hn, List.length_drop, size_eq]; unfold maxLen; omega
    have HN := Lib.hid hn
    clear hn
    refine (numbered_any _ _ hx).mono ?_
    rw [HN.out]
    clear hx
    cases ho : numL4 (s.data.toList.drop 2) with
    | none =>
      rintro e w' ⟨rfl, rfl⟩
      have H2 : Hid (stepL s.data.toList = none) := Lib.hid (by rw [H.out, ho]; rfl)
      clear ho
      unfold nb2
      go_wp2
      go_ret2
      exact ⟨by rw [H2.out]; rfl, rfl⟩
    | some b =>
      rintro e w' ⟨rfl, rfl⟩
      have H2 : Hid (stepL s.data.toList = some (b, 6)) := Lib.hid (by rw [H.out, ho]; rfl)
      clear ho
      unfold nb2
      go_wp2
      go_ret2
      exact ⟨by rw [H2.out]; rfl, rfl⟩
  · rw [if_neg hu] at hst
    have g4 : ((s[1].toNat : Int) == 117) = false := u8_ne hu
    have H := Lib.hid hst
    clear hst hu
    go_enter Tryz.func116, Tryz.ntmps116
    go_wp2_with (go_at_call 122; refine (isPrintable_any _ _ (by omega) (by omega)).mono ?_; rintro e w' ⟨rfl, rfl⟩)
    refine (escaped_any _ _).mono ?_
    cases ho : simpleL s[1] with
    | none =>
      rintro e w' ⟨rfl, rfl⟩
      have H2 : Hid (stepL s.data.toList = none) := Lib.hid (by rw [H.out, ho]; rfl)
      clear ho
      unfold nb2
      go_wp2
      go_ret2
      exact ⟨by rw [H2.out]; rfl, rfl⟩
    | some b =>
      rintro e w' ⟨rfl, rfl⟩
      have H2 : Hid (stepL s.data.toList = some (b, 2)) := Lib.hid (by rw [H.out, ho]; rfl)
      clear ho
      unfold nb2
      go_wp2
      go_ret2
      exact ⟨by rw [H2.out]; rfl, rfl⟩
theorem first_any (s : ByteArray) (w : World) (h0 : 0 < s.size) (hs : s.size ≤ maxLen) :
    Calls Tryz.prog 116 #[.string s] w (FbPost (stepL s.data.toList) w) := by
  by_cases h : s[0] = 34 ∨ prB (s[0].toNat : Int) = false
  · exact first_bad s w h0 h
  have h1 : s[0] ≠ 34 := fun e => h (Or.inl e)
  have hp : prB (s[0].toNat : Int) = true := by
    cases e : prB (s[0].toNat : Int)
    · exact absurd (Or.inr e) h
    · rfl
  by_cases h2 : s[0] = 92
  · by_cases h3 : s.size = 1
    · exact first_esc1 s w h3 h2
    · exact first_esc2 s w (by omega) hs h2
  · exact first_plain s w h0 h1 hp h2
end Go.Proofs.YtgicbmibhnnflaaGreatDoor.T1
