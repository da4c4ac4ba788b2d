
/-
  Contracts of package text: the literal of a string (Quote).
-/
import Derived.Test.YtcbajgcblfgmgaaGreatDoorTextChars
namespace Go.Proofs.YtcbajgcblfgmgaaGreatDoor.T1
open Go.RowKit
def hexL : List UInt8 := [48, 49, 50, 51, 52, 53, 54, 55, 56, 57, 97, 98, 99, 100, 101, 102]
def hexC (n : Nat) : UInt8 := hexL.getD n 0
def escL (c : UInt8) : List UInt8 :=
  if c = 34 then [92, 34] else if c = 92 then [92, 92] else if c = 10 then [92, 110] else if c = 13 then [92, 114] else if c = 9 then [92, 116]
  else if prB (c.toNat : Int) then [c] else [92, 117, 48, 48, hexC (c.toNat / 16), hexC (c.toNat % 16)]
theorem aq_quote (v : Value) (l : List UInt8) (w : World) (base : Nat) (hown : OwnB w base v l) (hl : l.length ≤ 1099511627776) (hbase : base ≤ w.heap.size) :
    Calls Tryz.prog 55 #[v, .int .u8 34] w (AppB w base v (l ++ [92, 34])) := by
  go_enter Tryz.func55, Tryz.ntmps55
  go_wp2_with (at_builtin; refine append_B rfl _ _ rfl base v l rfl (hown.alloc _) _ _ [92, 34] rfl ?_ ?_ ?_ ?_)
  · exact cells_B _ _ _ [92, 34] rfl
  · simp; omega
  · simp; omega
  · intro v' w' h1 h2
    go_wp2
    go_ret
    exact AppB.mk h1 h2
theorem aq_back (v : Value) (l : List UInt8) (w : World) (base : Nat) (hown : OwnB w base v l) (hl : l.length ≤ 1099511627776) (hbase : base ≤ w.heap.size) :
    Calls Tryz.prog 55 #[v, .int .u8 92] w (AppB w base v (l ++ [92, 92])) := by
  go_enter Tryz.func55, Tryz.ntmps55
  go_wp2_with (at_builtin; refine append_B rfl _ _ rfl base v l rfl (hown.alloc _) _ _ [92, 92] rfl ?_ ?_ ?_ ?_)
  · exact cells_B _ _ _ [92, 92] rfl
  · simp; omega
  · simp; omega
  · intro v' w' h1 h2
    go_wp2
    go_ret
    exact AppB.mk h1 h2
theorem aq_line (v : Value) (l : List UInt8) (w : World) (base : Nat) (hown : OwnB w base v l) (hl : l.length ≤ 1099511627776) (hbase : base ≤ w.heap.size) :
    Calls Tryz.prog 55 #[v, .int .u8 10] w (AppB w base v (l ++ [92, 110])) := by
  go_enter Tryz.func55, Tryz.ntmps55
  go_wp2_with (at_builtin; refine append_B rfl _ _ rfl base v l rfl (hown.alloc _) _ _ [92, 110] rfl ?_ ?_ ?_ ?_)
  · exact cells_B _ _ _ [92, 110] rfl
  · simp; omega
  · simp; omega
  · intro v' w' h1 h2
    go_wp2
    go_ret
    exact AppB.mk h1 h2
theorem aq_ret (v : Value) (l : List UInt8) (w : World) (base : Nat) (hown : OwnB w base v l) (hl : l.length ≤ 1099511627776) (hbase : base ≤ w.heap.size) :
    Calls Tryz.prog 55 #[v, .int .u8 13] w (AppB w base v (l ++ [92, 114])) := by
  go_enter Tryz.func55, Tryz.ntmps55
  go_wp2_with (at_builtin; refine append_B rfl _ _ rfl base v l rfl (hown.alloc _) _ _ [92, 114] rfl ?_ ?_ ?_ ?_)
  · exact cells_B _ _ _ [92, 114] rfl
  · simp; omega
  · simp; omega
  · intro v' w' h1 h2
    go_wp2
    go_ret
    exact AppB.mk h1 h2
theorem aq_tab (v : Value) (l : List UInt8) (w : World) (base : Nat) (hown : OwnB w base v l) (hl : l.length ≤ 1099511627776) (hbase : base ≤ w.heap.size) :
    Calls Tryz.prog 55 #[v, .int .u8 9] w (AppB w base v (l ++ [92, 116])) := by
  go_enter Tryz.func55, Tryz.ntmps55
  go_wp2_with (at_builtin; refine append_B rfl _ _ rfl base v l rfl (hown.alloc _) _ _ [92, 116] rfl ?_ ?_ ?_ ?_)
  · exact cells_B _ _ _ [92, 116] rfl
  · simp; omega
  · simp; omega
  · intro v' w' h1 h2
    go_wp2
    go_ret
    exact AppB.mk h1 h2
theorem aq_plain (c : UInt8) (v : Value) (l : List UInt8) (w : World) (base : Nat) (hown : OwnB w base v l) (hl : l.length ≤ 1099511627776) (hbase : base ≤ w.heap.size)
    (h1 : c ≠ 34) (h2 : c ≠ 92) (h3 : c ≠ 10) (h4 : c ≠ 13) (h5 : c ≠ 9) (hp : prB (c.toNat : Int) = true) :
    Calls Tryz.prog 55 #[v, .int .u8 c.toNat] w (AppB w base v (l ++ [c])) := by
  have hb := byte_lt c
  have g1 : ((c.toNat : Int) == 34) = false := u8_ne h1
  have g2 : ((c.toNat : Int) == 92) = false := u8_ne h2
  have g3 : ((c.toNat : Int) == 10) = false := u8_ne h3
  have g4 : ((c.toNat : Int) == 13) = false := u8_ne h4
  have g5 : ((c.toNat : Int) == 9) = false := u8_ne h5
  go_enter Tryz.func55, Tryz.ntmps55
  go_wp2_with (first | (go_at_call 68; refine (isPrintable_any _ _ (by omega) (by omega)).mono ?_; rintro e w' ⟨rfl, rfl⟩) | (at_builtin; refine append_B rfl _ _ rfl base v l rfl (hown.alloc _) _ _ [c] rfl ?_ ?_ ?_ ?_))
  · exact cells_B _ _ _ [c] rfl
  · simp; omega
  · simp; omega
  · intro v' w' h1 h2
    go_wp2
    go_ret
    exact AppB.mk h1 h2
theorem hex_at (k n : Nat) (e : k = n) (h : k < (⟨#[48, 49, 50, 51, 52, 53, 54, 55, 56, 57, 97, 98, 99, 100, 101, 102]⟩ : ByteArray).size) :
    (⟨#[48, 49, 50, 51, 52, 53, 54, 55, 56, 57, 97, 98, 99, 100, 101, 102]⟩ : ByteArray)[k]'h = hexC n := by
  subst e
  have h' : k < 16 := h
  have : ∀ k, (h : k < 16) → (⟨#[48, 49, 50, 51, 52, 53, 54, 55, 56, 57, 97, 98, 99, 100, 101, 102]⟩ : ByteArray)[k]'h = hexC k := by decide +kernel
  exact this k h'
theorem bits_and15 (c : UInt8) : bits BinOp.and IntKind.u8 (c.toNat : Int) 15 = (c.toNat : Int) % 16 := by
  have : ∀ c : Fin 256, bits BinOp.and IntKind.u8 ((UInt8.ofNat c.val).toNat : Int) 15 = ((UInt8.ofNat c.val).toNat : Int) % 16 := by decide +kernel
  have h := this ⟨c.toNat, c.toNat_lt⟩
  simpa using h
theorem aq_hex (c : UInt8) (v : Value) (l : List UInt8) (w : World) (base : Nat) (hown : OwnB w base v l) (hl : l.length ≤ 1099511627776) (hbase : base ≤ w.heap.size)
    (h1 : c ≠ 34) (h2 : c ≠ 92) (h3 : c ≠ 10) (h4 : c ≠ 13) (h5 : c ≠ 9) (hp : prB (c.toNat : Int) = false) :
    Calls Tryz.prog 55 #[v, .int .u8 c.toNat] w (AppB w base v (l ++ [92, 117, 48, 48, hexC (c.toNat / 16), hexC (c.toNat % 16)])) := by
  have hb := byte_lt c
  have g1 : ((c.toNat : Int) == 34) = false := u8_ne h1
  have g2 : ((c.toNat : Int) == 92) = false := u8_ne h2
  have g3 : ((c.toNat : Int) == 10) = false := u8_ne h3
  have g4 : ((c.toNat : Int) == 13) = false := u8_ne h4
  have g5 : ((c.toNat : Int) == 9) = false := u8_ne h5
  have hI1 : 0 ≤ (c.toNat : Int) / 16 := by omega
  have hI2 : (c.toNat : Int) / 16 < 16 := by omega
  have hI3 : 0 ≤ (c.toNat : Int) % 16 := by omega
  have hI4 : (c.toNat : Int) % 16 < 16 := by omega
  have hbt : bits BinOp.and IntKind.u8 (c.toNat : Int) 15 = (c.toNat : Int) % 16 := bits_and15 c
  have x1 : ∀ h, (⟨#[48, 49, 50, 51, 52, 53, 54, 55, 56, 57, 97, 98, 99, 100, 101, 102]⟩ : ByteArray)[((c.toNat : Int) / 16).toNat]'h = hexC (c.toNat / 16) := fun h => hex_at _ _ (by omega) h
  have x2 : ∀ h, (⟨#[48, 49, 50, 51, 52, 53, 54, 55, 56, 57, 97, 98, 99, 100, 101, 102]⟩ : ByteArray)[((c.toNat : Int) % 16).toNat]'h = hexC (c.toNat % 16) := fun h => hex_at _ _ (by omega) h
  obtain ⟨i0, hi, hz0, hz1, hz2⟩ := info_parts info5
  go_enter Tryz.func55, Tryz.ntmps55
  go_wp2_with (go_at_call 68; refine (isPrintable_any _ _ (by omega) (by omega)).mono ?_; rintro e w' ⟨rfl, rfl⟩)
  go_region_law ((refine step_append_lies _ rfl (.tmp 41) (.tmp 48) 45 rfl base 5 i0 (.int .u8 0) 1 1 Tryz.underlying45 hi hz0 hz1 hz2 rfl (by decide) v l.length (l.map fun c : UInt8 => .int .u8 (c.toNat : Int)) rfl (hown.alloc _).drew _ 6 _ ([92, 117, 48, 48, hexC (c.toNat / 16), hexC (c.toNat % 16)].map fun c : UInt8 => .int .u8 (c.toNat : Int)) rfl (by simp) (cells_L _ _ _ _ rfl) (bytes_one _) (by decide) (by unfold maxLen; omega) (by omega) (by simp; omega) _ rfl ?_); intro g cap w1 h1 h2 h3 h4)
  all_goals
    go_wp2
    go_ret
    exact AppB.mk' h1 h2 (by simp)
theorem aq_any (c : UInt8) (v : Value) (l : List UInt8) (w : World) (base : Nat) (hown : OwnB w base v l) (hl : l.length ≤ 1099511627776) (hbase : base ≤ w.heap.size) :
    Calls Tryz.prog 55 #[v, .int .u8 c.toNat] w (AppB w base v (l ++ escL c)) := by
  unfold escL
  by_cases h1 : c = 34
  · subst h1; exact aq_quote v l w base hown hl hbase
  by_cases h2 : c = 92
  · subst h2; exact aq_back v l w base hown hl hbase
  by_cases h3 : c = 10
  · subst h3; exact aq_line v l w base hown hl hbase
  by_cases h4 : c = 13
  · subst h4; exact aq_ret v l w base hown hl hbase
  by_cases h5 : c = 9
  · subst h5; exact aq_tab v l w base hown hl hbase
  rw [if_neg h1, if_neg h2, if_neg h3, if_neg h4, if_neg h5]
  cases hp : prB (c.toNat : Int)
  · exact aq_hex c v l w base hown hl hbase h1 h2 h3 h4 h5 hp
  · exact aq_plain c v l w base hown hl hbase h1 h2 h3 h4 h5 hp
def quoteL (l : List UInt8) : List UInt8 := 34 :: l.flatMap escL ++ [34]
theorem esc_len (c : UInt8) : (escL c).length ≤ 6 := by unfold escL; repeat' split
                                                        all_goals simp
theorem flat_len (l : List UInt8) : (l.flatMap escL).length ≤ 6 * l.length := by
  induction l with
  | nil => simp
  | cons c l ih => simp only [List.flatMap_cons, List.length_append, List.length_cons]; have := esc_len c; omega
theorem quote_any (s : ByteArray) (w : World) (hs : s.size ≤ 137438953472) :
    Calls Tryz.prog 34 #[.string s] w fun e w' => e = .returned (.string ⟨(quoteL s.data.toList).toArray⟩) ∧ Below w.heap.size w w' := by
  obtain ⟨i0, hi, hz0, hz1, hz2⟩ := info_parts info5
  go_enter Tryz.func34, Tryz.ntmps34
  go_wp2_with (refine wpList_make_own _ rfl _ _ 45 rfl w.heap.size 5 i0 (.int .u8 0) 1 Tryz.underlying45 hi hz0 hz1 _ _ _ (s.size + 2) rfl rfl rfl ?_ ?_ ?_ ?_)
  · rw [hz2]; omega
  · unfold maxLen; omega
  · exact Nat.le_refl _
  intro w1 hown1 hg1
  have hown1 : OwnB w1 w.heap.size _ [] := hown1
  have hb1 : Below w.heap.size w w1 := (Below.refl _ _).grown hg1 (Nat.le_refl _) (by simp)
  have hs1 := hb1.size
  clear hg1
  go_wp2_with (at_builtin; refine append_B rfl _ _ rfl w.heap.size _ _ rfl (hown1.alloc _) _ _ [34] rfl (cells_B _ _ _ [34] rfl) (by simp) ?_ ?_)
  · simp; omega
  intro v2 w2 hown2 hg2
  have hb2 : Below w.heap.size w w2 := (hb1.alloc hs1 _).grown hg2 (by simp; omega) (by intro k hk; have := hown1.lt k hk; omega)
  clear hg2 hown1 hb1 hs1
  have hs2 := hb2.size
  go_wp2
  go_loopw [3, 4] (fun v i wr => ∃ k : Nat, k ≤ s.size ∧ i = .int .i64 k ∧ OwnB wr w.heap.size v (34 :: (s.data.toList.take k).flatMap escL) ∧ Below w.heap.size w wr) (fun _ i _ => s.size - (intOf i).toNat)
  case atStart => exact ⟨0, Nat.zero_le _, rfl, hown2, hb2⟩
  case round =>
    obtain ⟨k, hk, rfl, hown, hb⟩ := hrel
    have hsz := hb.size
    have hfl := flat_len (s.data.toList.take k)
    have htl : (s.data.toList.take k).length ≤ k := List.length_take_le _ _
    clear hown2 hb2 hs2
    by_cases hlt : k < s.size
    · have H1 := Lib.hid (take_snoc s.data.toList k (by simpa using hlt))
      go_wp2_with (go_at_call 55; refine (aq_any _ _ _ _ _ hown ?_ hsz).mono ?_)
      · rw [List.length_cons]; omega
      rintro e w3 ⟨v3, rfl, hown3, hg3⟩
      go_wp2
      go_roundw
      case rel => 
        refine ⟨k + 1, by omega, by go_num, ?_, hb.grown hg3 hsz (by intro j hj; have := hown.lt j hj; omega)⟩
        rw [H1.out, List.flatMap_append]
        simp only [List.flatMap_cons, List.flatMap_nil, List.append_nil]
        exact hown3
      case measure => simp [intOf]; omega
    · have e : s.data.toList.take k = s.data.toList := List.take_of_length_le (by simp; omega)
      rw [e] at hown hfl
      clear e
      go_wp2_with (at_builtin; refine append_B rfl _ _ rfl w.heap.size _ _ rfl (hown.alloc _) _ _ [34] rfl (cells_B _ _ _ [34] rfl) ?_ ?_ ?_)
      · have e2 : s.data.toList.length = s.size := by rw [Array.length_toList]; rfl
        simp only [List.length_cons, List.length_nil]; omega
      · simp; omega
      intro v3 w3 hown3 hg3
      have hcv := hown3.string (by simp)
      have hb3 : Below w.heap.size w w3 := (hb.alloc hsz _).grown hg3 (by simp; omega) (by intro j hj; have := hown.lt j hj; omega)
      clear hg3 hown3 hown hb hsz
      go_wp2
      go_ret
      exact ⟨by simp [quoteL], hb3⟩
end Go.Proofs.YtcbajgcblfgmgaaGreatDoor.T1
