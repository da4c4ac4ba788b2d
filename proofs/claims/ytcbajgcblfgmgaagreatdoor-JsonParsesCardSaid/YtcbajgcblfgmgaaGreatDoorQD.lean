
/-
  Contracts of the reference package of layer 1: the string that a literal represents. Contract of the reference package of layer 1: Unquote.
-/
import Derived.Test.YtcbajgcblfgmgaaGreatDoorTextUnquote2
namespace Go.Proofs.YtcbajgcblfgmgaaGreatDoor.T1
open Go.RowKit
theorem rvalue_dig (n : Int) (w : World) (a : 48 ≤ n) (b : n ≤ 57) (h0 : 0 ≤ n) (h1 : n ≤ 255) :
    Calls Tryz.prog 76 #[.int .u8 n] w fun e w' => e = .returned (.int .i64 (hexV n)) ∧ w = w' := by
  have e1 : Hid (hexV n = n - 48) := Lib.hid (by unfold hexV; omega)
  have e2 : digB n = true := by unfold digB; simp; omega
  go_enter Tryz.func76, Tryz.ntmps76
  go_wp2_with (go_at_call 65; refine (rdigit_any _ _ (by omega) (by omega)).mono ?_; rintro e w' ⟨rfl, rfl⟩)
  go_ret
  exact ⟨by rw [e1.out]; rfl, rfl⟩
theorem rvalue_lo (n : Int) (w : World) (a : 97 ≤ n) (b : n ≤ 102) (h0 : 0 ≤ n) (h1 : n ≤ 255) :
    Calls Tryz.prog 76 #[.int .u8 n] w fun e w' => e = .returned (.int .i64 (hexV n)) ∧ w = w' := by
  have e1 : Hid (hexV n = n - 87) := Lib.hid (by unfold hexV; omega)
  have e2 : digB n = false := by unfold digB; simp; omega
  go_enter Tryz.func76, Tryz.ntmps76
  go_wp2_with (go_at_call 65; refine (rdigit_any _ _ (by omega) (by omega)).mono ?_; rintro e w' ⟨rfl, rfl⟩)
  go_ret
  exact ⟨by rw [e1.out]; rfl, rfl⟩
theorem rvalue_up (n : Int) (w : World) (a : 65 ≤ n) (b : n ≤ 70) (h0 : 0 ≤ n) (h1 : n ≤ 255) :
    Calls Tryz.prog 76 #[.int .u8 n] w fun e w' => e = .returned (.int .i64 (hexV n)) ∧ w = w' := by
  have e1 : Hid (hexV n = n - 55) := Lib.hid (by unfold hexV; omega)
  have e2 : digB n = false := by unfold digB; simp; omega
  go_enter Tryz.func76, Tryz.ntmps76
  go_wp2_with (go_at_call 65; refine (rdigit_any _ _ (by omega) (by omega)).mono ?_; rintro e w' ⟨rfl, rfl⟩)
  go_ret
  exact ⟨by rw [e1.out]; rfl, rfl⟩
theorem rvalue_n1 (n : Int) (w : World) (a : n < 48) (h0 : 0 ≤ n) (h1 : n ≤ 255) :
    Calls Tryz.prog 76 #[.int .u8 n] w fun e w' => e = .returned (.int .i64 (hexV n)) ∧ w = w' := by
  have e1 : Hid (hexV n = -1) := Lib.hid (by unfold hexV; omega)
  have e2 : digB n = false := by unfold digB; simp; omega
  go_enter Tryz.func76, Tryz.ntmps76
  go_wp2_with (go_at_call 65; refine (rdigit_any _ _ (by omega) (by omega)).mono ?_; rintro e w' ⟨rfl, rfl⟩)
  go_ret
  exact ⟨by rw [e1.out]; rfl, rfl⟩
theorem rvalue_n2 (n : Int) (w : World) (a : 57 < n) (b : n < 65) (h0 : 0 ≤ n) (h1 : n ≤ 255) :
    Calls Tryz.prog 76 #[.int .u8 n] w fun e w' => e = .returned (.int .i64 (hexV n)) ∧ w = w' := by
  have e1 : Hid (hexV n = -1) := Lib.hid (by unfold hexV; omega)
  have e2 : digB n = false := by unfold digB; simp; omega
  go_enter Tryz.func76, Tryz.ntmps76
  go_wp2_with (go_at_call 65; refine (rdigit_any _ _ (by omega) (by omega)).mono ?_; rintro e w' ⟨rfl, rfl⟩)
  go_ret
  exact ⟨by rw [e1.out]; rfl, rfl⟩
theorem rvalue_n3 (n : Int) (w : World) (a : 70 < n) (b : n < 97) (h0 : 0 ≤ n) (h1 : n ≤ 255) :
    Calls Tryz.prog 76 #[.int .u8 n] w fun e w' => e = .returned (.int .i64 (hexV n)) ∧ w = w' := by
  have e1 : Hid (hexV n = -1) := Lib.hid (by unfold hexV; omega)
  have e2 : digB n = false := by unfold digB; simp; omega
  go_enter Tryz.func76, Tryz.ntmps76
  go_wp2_with (go_at_call 65; refine (rdigit_any _ _ (by omega) (by omega)).mono ?_; rintro e w' ⟨rfl, rfl⟩)
  go_ret
  exact ⟨by rw [e1.out]; rfl, rfl⟩
theorem rvalue_n4 (n : Int) (w : World) (a : 102 < n) (h0 : 0 ≤ n) (h1 : n ≤ 255) :
    Calls Tryz.prog 76 #[.int .u8 n] w fun e w' => e = .returned (.int .i64 (hexV n)) ∧ w = w' := by
  have e1 : Hid (hexV n = -1) := Lib.hid (by unfold hexV; omega)
  have e2 : digB n = false := by unfold digB; simp; omega
  go_enter Tryz.func76, Tryz.ntmps76
  go_wp2_with (go_at_call 65; refine (rdigit_any _ _ (by omega) (by omega)).mono ?_; rintro e w' ⟨rfl, rfl⟩)
  go_ret
  exact ⟨by rw [e1.out]; rfl, rfl⟩
theorem rvalue_any (n : Int) (w : World) (h0 : 0 ≤ n) (h1 : n ≤ 255) :
    Calls Tryz.prog 76 #[.int .u8 n] w fun e w' => e = .returned (.int .i64 (hexV n)) ∧ w = w' := by
  by_cases a1 : n < 48
  · exact rvalue_n1 n w a1 h0 h1
  by_cases a2 : n ≤ 57
  · exact rvalue_dig n w (by omega) a2 h0 h1
  by_cases a3 : n < 65
  · exact rvalue_n2 n w (by omega) a3 h0 h1
  by_cases a4 : n ≤ 70
  · exact rvalue_up n w (by omega) a4 h0 h1
  by_cases a5 : n < 97
  · exact rvalue_n3 n w (by omega) a5 h0 h1
  by_cases a6 : n ≤ 102
  · exact rvalue_lo n w (by omega) a6 h0 h1
  exact rvalue_n4 n w (by omega) h0 h1
def sb2 : Option UInt8 → Value
  | some b => .tuple #[.int .u8 b.toNat, .bool true]
  | none => .tuple #[.int .u8 0, .bool false]
def SbPost (o : Option UInt8) (w : World) (e : Ending) (w' : World) : Prop := e = .returned (sb2 o) ∧ w = w'
theorem rsimple_const (n : Int) (x : UInt8) (w : World) (h : (n = 34 ∧ x = 34) ∨ (n = 92 ∧ x = 92) ∨ (n = 47 ∧ x = 47) ∨ (n = 98 ∧ x = 8) ∨ (n = 102 ∧ x = 12) ∨ (n = 110 ∧ x = 10) ∨ (n = 114 ∧ x = 13) ∨ (n = 116 ∧ x = 9)) :
    Calls Tryz.prog 63 #[.int .u8 n] w (SbPost (some x) w) := by
  rcases h with ⟨rfl, rfl⟩ | ⟨rfl, rfl⟩ | ⟨rfl, rfl⟩ | ⟨rfl, rfl⟩ | ⟨rfl, rfl⟩ | ⟨rfl, rfl⟩ | ⟨rfl, rfl⟩ | ⟨rfl, rfl⟩
  all_goals
    go_enter Tryz.func63, Tryz.ntmps63
    go_wp2_with fail
    go_ret2
    exact ⟨rfl, rfl⟩
theorem rsimple_none (c : UInt8) (w : World) (h1 : c ≠ 34) (h2 : c ≠ 92) (h3 : c ≠ 47) (h4 : c ≠ 98) (h5 : c ≠ 102) (h6 : c ≠ 110) (h7 : c ≠ 114) (h8 : c ≠ 116) :
    Calls Tryz.prog 63 #[.int .u8 c.toNat] w (SbPost none w) := by
  have g1 : ((c.toNat : Int) == 34) = false := u8_ne h1
  have g2 : ((c.toNat : Int) == 92) = false := u8_ne h2
  have g3 : ((c.toNat : Int) == 47) = false := u8_ne h3
  have g4 : ((c.toNat : Int) == 98) = false := u8_ne h4
  have g5 : ((c.toNat : Int) == 102) = false := u8_ne h5
  have g6 : ((c.toNat : Int) == 110) = false := u8_ne h6
  have g7 : ((c.toNat : Int) == 114) = false := u8_ne h7
  have g8 : ((c.toNat : Int) == 116) = false := u8_ne h8
  go_enter Tryz.func63, Tryz.ntmps63
  go_wp2_with fail
  go_ret2
  exact ⟨rfl, rfl⟩
theorem rsimple_any (c : UInt8) (w : World) : Calls Tryz.prog 63 #[.int .u8 c.toNat] w (SbPost (simpleL c) w) := by
  by_cases h1 : c = 34
  · subst h1; exact rsimple_const 34 34 w (by simp)
  by_cases h2 : c = 92
  · subst h2; exact rsimple_const 92 92 w (by simp)
  by_cases h3 : c = 47
  · subst h3; exact rsimple_const 47 47 w (by simp)
  by_cases h4 : c = 98
  · subst h4; exact rsimple_const 98 8 w (by simp)
  by_cases h5 : c = 102
  · subst h5; exact rsimple_const 102 12 w (by simp)
  by_cases h6 : c = 110
  · subst h6; exact rsimple_const 110 10 w (by simp)
  by_cases h7 : c = 114
  · subst h7; exact rsimple_const 114 13 w (by simp)
  by_cases h8 : c = 116
  · subst h8; exact rsimple_const 116 9 w (by simp)
  rw [simple_none h1 h2 h3 h4 h5 h6 h7 h8]
  exact rsimple_none c w h1 h2 h3 h4 h5 h6 h7 h8
def codeV (l : List UInt8) : Int := if 0 ≤ bv l 0 ∧ 0 ≤ bv l 1 ∧ 0 ≤ bv l 2 ∧ 0 ≤ bv l 3 then cdL l 4 else -1
theorem codeV_bad {l : List UInt8} {k : Nat} (hk : k < 4) (h : bv l k < 0) : codeV l = -1 := by
  have : k = 0 ∨ k = 1 ∨ k = 2 ∨ k = 3 := by omega
  unfold codeV; rw [if_neg]
  rcases this with rfl | rfl | rfl | rfl <;> omega
theorem codeV_ok {l : List UInt8} (h : OkL l 4) : codeV l = cdL l 4 := by
  unfold codeV; rw [if_pos ⟨h 0 (by omega), h 1 (by omega), h 2 (by omega), h 3 (by omega)⟩]
theorem rcode_any (s : ByteArray) (w : World) (h : s.size = 4) :
    Calls Tryz.prog 64 #[.string s] w fun e w' => e = .returned (.int .i64 (codeV s.data.toList)) ∧ w = w' := by
  have h4 : ((s.size : Int) != 4) = false := by rw [h]; rfl
  have hs : 4 ≤ s.size := by omega
  clear h
  go_enter Tryz.func64, Tryz.ntmps64
  go_wp2_with fail
  go_loop [3, 4] (fun n i => ∃ k : Nat, k ≤ 4 ∧ i = .int .i64 k ∧ n = .int .i64 (cdL s.data.toList k) ∧ OkL s.data.toList k) (fun _ i => 4 - (intOf i).toNat)
  case atStart => exact ⟨0, by omega, rfl, rfl, okL_zero _⟩
  case round =>
    obtain ⟨k, hk, rfl, rfl, hok⟩ := hrel
    obtain ⟨c0, c1⟩ := cdL_bounds hok
    by_cases hlt : k < 4
    · have c2 : cdL s.data.toList k < 65536 := by
        have : k = 0 ∨ k = 1 ∨ k = 2 ∨ k = 3 := by omega
        rcases this with rfl | rfl | rfl | rfl <;> simp at c1 <;> omega
      clear c1
      have hks : k < s.size := by omega
      have hbk := byte_lt s[k]
      have hbv : bv s.data.toList k = hexV (s[k].toNat : Int) := by unfold bv; rw [getD_at s k hks]
      have hv := hexV_bounds (s[k].toNat : Int)
      by_cases hh : 0 ≤ hexV (s[k].toNat : Int)
      · have H1 := Lib.hid (okL_succ hok (by rw [hbv]; exact hh))
        have H2 : Hid (cdL s.data.toList (k + 1) = 16 * cdL s.data.toList k + hexV (s[k].toNat : Int)) := Lib.hid (by rw [← hbv, Int.mul_comm]; rfl)
        clear hbv hok
        go_wp2_with (go_at_call 76; refine (rvalue_any _ _ (by omega) (by omega)).mono ?_; rintro e w' ⟨rfl, rfl⟩)
        go_round
        case rel => exact ⟨k + 1, by omega, by go_num, by rw [H2.out], H1.out⟩
        case measure => simp [intOf]; omega
      · have H1 : Hid (codeV s.data.toList = -1) := Lib.hid (codeV_bad hlt (by rw [hbv]; omega))
        clear hbv hok
        go_wp2_with (go_at_call 76; refine (rvalue_any _ _ (by omega) (by omega)).mono ?_; rintro e w' ⟨rfl, rfl⟩)
        go_ret
        exact ⟨by rw [H1.out]; rfl, rfl⟩
    · obtain rfl : k = 4 := by omega
      have H1 := Lib.hid (codeV_ok hok)
      clear hok c1
      go_wp2
      go_ret
      exact ⟨by rw [H1.out]; rfl, rfl⟩
theorem bv_take (t : List UInt8) {k : Nat} (h : k < 4) : bv (t.take 4) k = bv t k := by
  unfold bv
  rw [List.getD_eq_getElem?_getD, List.getD_eq_getElem?_getD, List.getElem?_take, if_pos h]
theorem cdL_congr {a b : List UInt8} : ∀ {k : Nat}, (∀ j, j < k → bv a j = bv b j) → cdL a k = cdL b k
  | 0, _ => rfl
  | k + 1, h => by
    unfold cdL
    rw [cdL_congr (k := k) (fun j hj => h j (by omega)), h k (by omega)]
theorem codeV_take (t : List UInt8) : codeV (t.take 4) = codeV t := by
  unfold codeV
  rw [bv_take t (by omega), bv_take t (by omega), bv_take t (by omega), bv_take t (by omega), cdL_congr (fun j hj => bv_take t hj)]
theorem numL4_code {t : List UInt8} (h : 4 ≤ t.length) : numL4 t = if 0 ≤ codeV t ∧ codeV t ≤ 255 then some (UInt8.ofNat (codeV t).toNat) else none := by
  unfold numL4 okB codeV
  by_cases e : 0 ≤ bv t 0 ∧ 0 ≤ bv t 1 ∧ 0 ≤ bv t 2 ∧ 0 ≤ bv t 3
  · rw [if_pos e]
    obtain ⟨e0, e1, e2, e3⟩ := e
    have hb := (cdL_bounds (l := t) (k := 4) (fun j hj => by
      have : j = 0 ∨ j = 1 ∨ j = 2 ∨ j = 3 := by omega
      rcases this with rfl | rfl | rfl | rfl <;> assumption)).1
    simp [h, e0, e1, e2, e3, hb]
  · rw [if_neg e, if_neg (by simp; omega), if_neg (by omega)]
theorem codeV_bounds (t : List UInt8) : -1 ≤ codeV t ∧ codeV t < 65536 := by
  unfold codeV
  split
  · rename_i e
    obtain ⟨e0, e1, e2, e3⟩ := e
    have hb := (cdL_bounds (l := t) (k := 4) (fun j hj => by
      have : j = 0 ∨ j = 1 ∨ j = 2 ∨ j = 3 := by omega
      rcases this with rfl | rfl | rfl | rfl <;> assumption))
    simp at hb; omega
  · omega
end Go.Proofs.YtcbajgcblfgmgaaGreatDoor.T1
namespace Go.Proofs.YtcbajgcblfgmgaaGreatDoor.T1
open Go.RowKit
theorem runquote_no (s : ByteArray) (w : World) (hs : s.size ≤ maxLen) (h : ¬ (2 ≤ s.size ∧ s.data.toList.getD 0 0 = 34 ∧ s.data.toList.getD (s.size - 1) 0 = 34)) :
    Calls Tryz.prog 49 #[.string s] w (UqPost (unquoteL s.data.toList) w) := by
  have e : unquoteL s.data.toList = none := by unfold unquoteL; rw [size_eq, if_neg h]
  rw [e]
  unfold maxLen at hs
  by_cases h2 : 2 ≤ s.size
  · have h0' : 0 < s.size := by omega
    have h1' : s.size - 1 < s.size := by omega
    rw [getD_at s 0 h0', getD_at s (s.size - 1) h1'] at h
    by_cases ha : s[0] = 34
    · have hb : s[s.size - 1] ≠ 34 := fun e => h ⟨h2, ha, e⟩
      have g1 : ((s[0].toNat : Int) != 34) = false := by rw [ha]; rfl
      have g2 : ((s[s.size - 1].toNat : Int) != 34) = true := by
        have := u8_ne hb
        rw [bne]; rw [show ((s[s.size - 1].toNat : Int) == 34) = false from this]; rfl
      clear h ha hb
      go_enter Tryz.func49, Tryz.ntmps49
      go_wp2_with fail
      go_ret2
      exact ⟨rfl, Below.refl _ _⟩
    · have g1 : ((s[0].toNat : Int) != 34) = true := by
        have := u8_ne ha
        rw [bne]; rw [show ((s[0].toNat : Int) == 34) = false from this]; rfl
      clear h ha
      go_enter Tryz.func49, Tryz.ntmps49
      go_wp2_with fail
      go_ret2
      exact ⟨rfl, Below.refl _ _⟩
  · have h2' : (s.size : Int) < 2 := by omega
    clear h h2
    go_enter Tryz.func49, Tryz.ntmps49
    go_wp2_with fail
    go_ret2
    exact ⟨rfl, Below.refl _ _⟩
theorem rest_at (m : ByteArray) (k : Nat) (h : k < m.size) : m.data.toList.drop k = m[k] :: m.data.toList.drop (k + 1) :=
  (List.getElem_cons_drop (by rw [size_eq]; exact h)).symm
theorem step_bad (m : ByteArray) (k : Nat) (h : k < m.size) (hb : m[k] = 34 ∨ prB (m[k].toNat : Int) = false) : stepL (m.data.toList.drop k) = none := by
  rw [rest_at m k h, stepL_cons, if_pos hb]
theorem step_plain (m : ByteArray) (k : Nat) (h : k < m.size) (h1 : m[k] ≠ 34) (h2 : prB (m[k].toNat : Int) = true) (h3 : m[k] ≠ 92) : stepL (m.data.toList.drop k) = some (m[k], 1) := by
  rw [rest_at m k h, stepL_cons, if_neg (by simp [h1, h2]), if_pos h3]
theorem step_last (m : ByteArray) (k : Nat) (h : k < m.size) (h3 : m[k] = 92) (hl : m.size ≤ k + 1) : stepL (m.data.toList.drop k) = none := by
  rw [rest_at m k h, List.drop_eq_nil_of_le (by rw [size_eq]; omega), h3]; decide
theorem step_esc (m : ByteArray) (k : Nat) (h : k + 1 < m.size) (h3 : m[k] = 92) : stepL (m.data.toList.drop k) = if m[k + 1] = 117 then (numL4 (m.data.toList.drop (k + 2))).map (·, 6) else (simpleL m[k + 1]).map (·, 2) := by
  rw [rest_at m k (by omega), rest_at m (k + 1) h, h3, stepL_esc]
theorem prB_parts {n : Int} (h : prB n = true) : 32 ≤ n ∧ n ≤ 126 := by unfold prB at h; simpa using h
theorem prB_not {n : Int} (h : prB n = false) : n < 32 ∨ 126 < n := by unfold prB at h; simp at h; omega
/- What a round does: the content m, its place k, what was read so far. -/
structure Rd (l : List UInt8) (m : ByteArray) (B : World) (k : Nat) (done : List UInt8) (w : World) : Prop where
  le : k ≤ m.size
  len : done.length ≤ k
  at' : UnqAt l done (m.data.toList.drop k)
  below : Below B.heap.size B w
theorem Rd.step {l : List UInt8} {m : ByteArray} {B w w' : World} {k j : Nat} {done : List UInt8} {b : UInt8} (h : Rd l m B k done w) (hs : stepL (m.data.toList.drop k) = some (b, j)) (hb : Below w.heap.size w w') : Rd l m B (k + j) (done ++ [b]) w' := by
  have hl := stepL_len hs
  rw [List.length_drop, size_eq] at hl
  have h1 := h.le
  have h2 := h.len
  refine ⟨by omega, by rw [List.length_append]; simp; omega, ?_, below_tr h.below hb⟩
  have := unqAt_step h.at' hs
  rwa [List.drop_drop] at this
theorem Rd.bad {l : List UInt8} {m : ByteArray} {B w : World} {k : Nat} {done : List UInt8} (h : Rd l m B k done w) (hk : k < m.size) (hs : stepL (m.data.toList.drop k) = none) : unqR l = none :=
  unqAt_bad h.at' (by rw [rest_at m k hk]; simp) hs
theorem Rd.fin {l : List UInt8} {m : ByteArray} {B w : World} {k : Nat} {done : List UInt8} (h : Rd l m B k done w) (hk : ¬ k < m.size) : unqR l = some done :=
  unqAt_end h.at' (List.drop_eq_nil_of_le (by rw [size_eq]; omega))
set_option maxRecDepth 100000 in
set_option maxHeartbeats 1000000 in
theorem runquote_yes (s : ByteArray) (w : World) (hs : s.size ≤ 137438953472) (h2 : 2 ≤ s.size) (ha : s.data.toList.getD 0 0 = 34) (hb : s.data.toList.getD (s.size - 1) 0 = 34) :
    Calls Tryz.prog 49 #[.string s] w (UqPost (unquoteL s.data.toList) w) := by
  have e : unquoteL s.data.toList = unqR (midL s.data.toList) := by unfold unquoteL; rw [size_eq, if_pos ⟨h2, ha, hb⟩]
  rw [e]
  clear e
  have h0' : 0 < s.size := by omega
  have h1' : s.size - 1 < s.size := by omega
  rw [getD_at s 0 h0'] at ha
  rw [getD_at s (s.size - 1) h1'] at hb
  have g1 : ((s[0].toNat : Int) != 34) = false := by rw [ha]; rfl
  have g2 : ((s[s.size - 1].toNat : Int) != 34) = false := by rw [hb]; rfl
  clear ha hb
  go_enter Tryz.func49, Tryz.ntmps49
  go_wp2_with fail
  have hml : (s.extract 1 (s.size - 1)).size ≤ s.size := by
    rw [← size_eq, mid_of, ← size_eq s]; unfold midL; rw [List.length_take, List.length_drop]; omega
  have hat : UnqAt (midL s.data.toList) [] (s.extract 1 (s.size - 1)).data.toList := by rw [mid_of]; exact unqAt_start _
  generalize s.extract 1 (s.size - 1) = m at *
  generalize midL s.data.toList = l at *
  go_loopw [5, 6] (fun o i wr => ∃ (k : Nat) (done : List UInt8), i = .int .i64 k ∧ o = .string ⟨done.toArray⟩ ∧ Rd l m w k done wr) (fun _ i _ => m.size - (intOf i).toNat)
  case atStart => exact ⟨0, [], rfl, rfl, Nat.zero_le _, Nat.le_refl _, hat, Below.refl _ _⟩
  case round =>
    obtain ⟨k, done, rfl, rfl, hR⟩ := hrel
    have hk := hR.le
    have hd := hR.len
    clear hat
    by_cases hlt : k < m.size
    · have hbk := byte_lt m[k]
      by_cases c1 : m[k] = 34 ∨ prB (m[k].toNat : Int) = false
      · have H := Lib.hid (hR.bad hlt (step_bad m k hlt c1))
        have HB := Lib.hid hR.below
        by_cases c2 : prB (m[k].toNat : Int) = false
        · rcases prB_not c2 with c3 | c3
          all_goals
            clear c1 c2 hR
            go_wp2_with fail
            go_ret2
            exact ⟨by rw [H.out]; rfl, HB.out⟩
        · have c3 : m[k] = 34 := c1.resolve_right c2
          have c4 : ((m[k].toNat : Int) == 34) = true := by rw [c3]; rfl
          obtain ⟨c5, c6⟩ := prB_parts (by simpa using c2)
          clear c1 c2 c3 hR
          go_wp2_with fail
          go_ret2
          exact ⟨by rw [H.out]; rfl, HB.out⟩
      have c2 : m[k] ≠ 34 := fun e => c1 (Or.inl e)
      have c3 : prB (m[k].toNat : Int) = true := by
        cases e : prB (m[k].toNat : Int)
        · exact absurd (Or.inr e) c1
        · rfl
      have c4 : ((m[k].toNat : Int) == 34) = false := u8_ne c2
      obtain ⟨c5, c6⟩ := prB_parts c3
      clear c1
      by_cases c7 : m[k] = 92
      · have c8 : ((m[k].toNat : Int) != 92) = false := by rw [c7]; rfl
        clear c2 c3
        by_cases c9 : m.size ≤ k + 1
        · have H := Lib.hid (hR.bad hlt (step_last m k hlt c7 c9))
          have HB := Lib.hid hR.below
          have c10 : (m.size : Int) ≤ (k : Int) + 1 := by omega
          clear c7 hR c9
          go_wp2_with fail
          go_ret2
          exact ⟨by rw [H.out]; rfl, HB.out⟩
        have c10 : k + 1 < m.size := by omega
        have c11 : (k : Int) + 1 < m.size := by omega
        have HS := Lib.hid (step_esc m k c10 c7)
        have HR := Lib.hid hR
        clear c7 hR c9
        go_wp2_with fail
        refine (rsimple_any _ _).mono ?_
        cases ho : simpleL m[k + 1] with
        | some x =>
          rintro e w2 ⟨rfl, rfl⟩
          have hne : m[k + 1] ≠ 117 := by intro e; rw [e, show simpleL 117 = none by decide] at ho; cases ho
          have H : Hid (stepL (m.data.toList.drop k) = some (x, 2)) := Lib.hid (by rw [HS.out, if_neg hne, ho]; rfl)
          have hcv := fun w => conv_B w #[.int .u8 (x.toNat : Int)] [x] 1 1 rfl rfl
          have hadd := fun w => add_L w done [x] (by simp; omega)
          clear ho hne HS
          unfold sb2
          go_wp2
          go_roundw
          case rel => exact ⟨k + 2, done ++ [x], by go_num, rfl, HR.out.step H.out ((Below.refl _ _).alloc (Nat.le_refl _) _)⟩
          case measure => simp [intOf]; omega
        | none =>
          rintro e w2 ⟨rfl, rfl⟩
          by_cases d1 : m[k + 1] = 117
          · have d2 : ((m[k + 1].toNat : Int) != 117) = false := by rw [d1]; rfl
            by_cases d3 : m.size < k + 6
            · have H : Hid (unqR l = none) := Lib.hid (HR.out.bad hlt (by rw [HS.out, if_pos d1, numL4_short (by rw [List.length_drop, size_eq]; omega)]; rfl))
              have HB := Lib.hid HR.out.below
              have d4 : (m.size : Int) < (k : Int) + 6 := by omega
              clear ho d1 HS d3
              unfold sb2
              go_wp2
              go_ret2
              exact ⟨by rw [H.out]; rfl, HB.out⟩
            · have d3' : k + 6 ≤ m.size := by omega
              have d4 : (k : Int) + 6 ≤ m.size := by omega
              have hx : (m.extract (k + 2) (k + 6)).data.toList = (m.data.toList.drop (k + 2)).take 4 := by
                rw [Lib.extract_data]; congr 1; omega
              have hxs : (m.extract (k + 2) (k + 6)).size = 4 := by rw [← size_eq, hx, List.length_take, List.length_drop, size_eq]; omega
              have HX : Hid (codeV (m.extract (k + 2) (k + 6)).data.toList = codeV (m.data.toList.drop (k + 2))) := Lib.hid (by rw [hx, codeV_take])
              have HC := Lib.hid (numL4_code (t := m.data.toList.drop (k + 2)) (by rw [List.length_drop, size_eq]; omega))
              have HXS := Lib.hid hxs
              have HS2 : Hid (stepL (m.data.toList.drop k) = (numL4 (m.data.toList.drop (k + 2))).map (·, 6)) := Lib.hid (by rw [HS.out, if_pos d1])
              have hcb := codeV_bounds (m.data.toList.drop (k + 2))
              clear ho d1 HS d3 hx hxs
              unfold sb2
              go_wp2_with fail
              refine (rcode_any _ _ HXS.out).mono ?_
              rw [HX.out]
              generalize hv : codeV (m.data.toList.drop (k + 2)) = v at *
              have HV := Lib.hid hv
              clear hv
              rintro e w2 ⟨rfl, rfl⟩
              obtain ⟨b1, b2⟩ := hcb
              by_cases e1 : v < 0
              · have H : Hid (unqR l = none) := Lib.hid (HR.out.bad hlt (by rw [HS2.out, HC.out, if_neg (by omega)]; rfl))
                have HB := Lib.hid HR.out.below
                go_wp2
                go_ret2
                exact ⟨by rw [H.out]; rfl, HB.out⟩
              · have e1' : 0 ≤ v := by omega
                by_cases e2 : 255 < v
                · have H : Hid (unqR l = none) := Lib.hid (HR.out.bad hlt (by rw [HS2.out, HC.out, if_neg (by omega)]; rfl))
                  have HB := Lib.hid HR.out.below
                  clear e1
                  go_wp2
                  go_ret2
                  exact ⟨by rw [H.out]; rfl, HB.out⟩
                · have e2' : v ≤ 255 := by omega
                  have H : Hid (stepL (m.data.toList.drop k) = some (UInt8.ofNat v.toNat, 6)) := Lib.hid (by rw [HS2.out, HC.out, if_pos ⟨e1', e2'⟩]; rfl)
                  have hcv := fun w => conv_B w #[.int .u8 v] [UInt8.ofNat v.toNat] 1 1 rfl (by rw [List.map_cons, ofNat_toNat e1' e2']; rfl)
                  have hadd := fun w => add_L w done [UInt8.ofNat v.toNat] (by simp; omega)
                  clear e1 e2
                  go_wp2
                  go_roundw
                  case rel => exact ⟨k + 6, done ++ [UInt8.ofNat v.toNat], by go_num, rfl, HR.out.step H.out ((Below.refl _ _).alloc (Nat.le_refl _) _)⟩
                  case measure => simp [intOf]; omega
          · have d2 : ((m[k + 1].toNat : Int) != 117) = true := by
              have := u8_ne d1
              rw [bne]; rw [show ((m[k + 1].toNat : Int) == 117) = false from this]; rfl
            have H : Hid (unqR l = none) := Lib.hid (HR.out.bad hlt (by rw [HS.out, if_neg d1, ho]; rfl))
            have HB := Lib.hid HR.out.below
            clear ho d1 HS
            unfold sb2
            go_wp2
            go_ret2
            exact ⟨by rw [H.out]; rfl, HB.out⟩
      · have H := Lib.hid (step_plain m k hlt c2 c3 c7)
        have HR := Lib.hid hR
        have c8 : ((m[k].toNat : Int) != 92) = true := by
          have := u8_ne c7
          rw [bne]; rw [show ((m[k].toNat : Int) == 92) = false from this]; rfl
        have hcv := fun w => conv_B w #[.int .u8 (m[k].toNat : Int)] [m[k]] 1 1 rfl rfl
        have hadd := fun w => add_L w done [m[k]] (by simp; omega)
        clear c2 c3 c7 hR
        go_wp2_with fail
        go_roundw
        case rel => exact ⟨k + 1, done ++ [m[k]], by go_num, rfl, HR.out.step H.out ((Below.refl _ _).alloc (Nat.le_refl _) _)⟩
        case measure => simp [intOf]; omega
    · have H := Lib.hid (hR.fin hlt)
      have HB := Lib.hid hR.below
      clear hR
      go_wp2_with fail
      go_ret2
      exact ⟨by rw [H.out]; rfl, HB.out⟩
theorem runquote_any (s : ByteArray) (w : World) (hs : s.size ≤ 137438953472) :
    Calls Tryz.prog 49 #[.string s] w (UqPost (unquoteL s.data.toList) w) := by
  by_cases h : 2 ≤ s.size ∧ s.data.toList.getD 0 0 = 34 ∧ s.data.toList.getD (s.size - 1) 0 = 34
  · exact runquote_yes s w hs h.1 h.2.1 h.2.2
  · exact runquote_no s w (by unfold maxLen; omega) h
end Go.Proofs.YtcbajgcblfgmgaaGreatDoor.T1
