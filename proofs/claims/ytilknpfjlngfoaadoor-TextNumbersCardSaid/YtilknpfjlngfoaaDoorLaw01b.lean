/-
  The laws of layer 1 on reading literals, walked.
-/
import Derived.Test.YtilknpfjlngfoaaDoorLaw01
import Derived.Test.YtilknpfjlngfoaaDoorRefUnquote2
namespace Go.Proofs.YtilknpfjlngfoaaDoor
open Go.RowKit
theorem numL4_four (a b c d : UInt8) (r : List UInt8) : numL4 (a :: b :: c :: d :: r) = numL4 [a, b, c, d] := by
  have e : ∀ k, k < 4 → bv (a :: b :: c :: d :: r) k = bv [a, b, c, d] k := by
    intro k hk
    have : k = 0 ∨ k = 1 ∨ k = 2 ∨ k = 3 := by omega
    rcases this with rfl | rfl | rfl | rfl <;> rfl
  unfold numL4 okB
  rw [e 0 (by omega), e 1 (by omega), e 2 (by omega), e 3 (by omega), cdL_congr e]
  simp
theorem numL4_hex : ∀ n : Fin 256, numL4 [48, 48, hexC (n.val / 16), hexC (n.val % 16)] = some (UInt8.ofNat n.val) := by decide +kernel
theorem step_escL (c : UInt8) (r : List UInt8) : stepL (escL c ++ r) = some (c, (escL c).length) := by
  unfold escL
  by_cases h1 : c = 34
  · subst h1; rw [if_pos rfl]; show stepL (92 :: 34 :: r) = _; rw [stepL_esc]; rfl
  rw [if_neg h1]
  by_cases h2 : c = 92
  · subst h2; rw [if_pos rfl]; show stepL (92 :: 92 :: r) = _; rw [stepL_esc]; rfl
  rw [if_neg h2]
  by_cases h3 : c = 10
  · subst h3; rw [if_pos rfl]; show stepL (92 :: 110 :: r) = _; rw [stepL_esc]; rfl
  rw [if_neg h3]
  by_cases h4 : c = 13
  · subst h4; rw [if_pos rfl]; show stepL (92 :: 114 :: r) = _; rw [stepL_esc]; rfl
  rw [if_neg h4]
  by_cases h5 : c = 9
  · subst h5; rw [if_pos rfl]; show stepL (92 :: 116 :: r) = _; rw [stepL_esc]; rfl
  rw [if_neg h5]
  cases hp : prB (c.toNat : Int)
  · simp only [Bool.false_eq_true, if_false]
    show stepL (92 :: 117 :: 48 :: 48 :: hexC (c.toNat / 16) :: hexC (c.toNat % 16) :: r) = _
    rw [stepL_esc, if_pos rfl, numL4_four, numL4_hex ⟨c.toNat, c.toNat_lt⟩]
    simp
  · simp only [if_true]
    show stepL (c :: r) = _
    rw [stepL_cons, if_neg (by simp [h1, hp]), if_pos h2]; rfl
theorem unqR_flat : ∀ l : List UInt8, unqR (l.flatMap escL) = some l
  | [] => rfl
  | c :: l => by
    rw [List.flatMap_cons, unqR_step (step_escL c _), List.drop_left, unqR_flat l]; rfl
theorem unquote_quote (l : List UInt8) : unquoteL (quoteL l) = some l := by
  have hlen : (quoteL l).length = (l.flatMap escL).length + 2 := by unfold quoteL; simp
  have hmid : midL (quoteL l) = l.flatMap escL := by
    unfold midL; rw [hlen]; unfold quoteL; simp
  have h0 : (quoteL l).getD 0 0 = 34 := rfl
  have h1 : (quoteL l).getD ((quoteL l).length - 1) 0 = 34 := by
    rw [hlen]
    unfold quoteL
    rw [List.getD_eq_getElem?_getD, List.getElem?_append_right (by simp)]
    simp
  unfold unquoteL
  rw [if_pos ⟨by omega, h0, h1⟩, hmid, unqR_flat]
theorem returns_long (s : ByteArray) (w : World) (hL : Laid w) (hs : s.size ≤ maxLen) (h : 2000 < s.size) :
    Calls Tryd.prog 5 #[.string s] w fun e w' => e = .returned (.bool true) ∧ Below w.heap.size w w' := by
  have HL := Lib.hid hL
  have HS := Lib.hid hs
  have h1 : decide (2000 < s.size) = true := by simpa using h
  clear hL hs
  go_enter Tryd.func5, Tryd.ntmps5
  go_wp2_with fail
  refine (long_any _ _ HS.out).mono ?_
  rintro e w1 ⟨rfl, rfl⟩
  go_wp2_with fail
  refine (example_any _ HL.out).mono ?_
  rintro e w1 ⟨rfl, hb⟩
  go_wp2_with fail
  go_ret
  exact ⟨rfl, hb⟩
theorem quote_len (s : ByteArray) (h : s.size ≤ 2000) : (quoteL s.data.toList).length ≤ 12002 := by
  have h2 := flat_len s.data.toList
  have h3 := size_eq s
  unfold quoteL
  simp only [List.length_cons, List.length_append, List.length_nil]; omega
theorem returns_short (s : ByteArray) (w : World) (hL : Laid w) (h : s.size ≤ 2000) :
    Calls Tryd.prog 5 #[.string s] w fun e w' => e = .returned (.bool true) ∧ Below w.heap.size w w' := by
  have HL := Lib.hid hL
  have h1 : decide (2000 < s.size) = false := by simpa using h
  clear hL
  have hql := quote_len s h
  go_enter Tryd.func5, Tryd.ntmps5
  go_wp2_with fail
  refine (long_any _ _ (by unfold maxLen; omega)).mono ?_
  rintro e w1 ⟨rfl, rfl⟩
  go_wp2_with fail
  refine (quote_any _ _ (by omega)).mono ?_
  rintro e w1 ⟨rfl, hb1⟩
  have HB1 := Lib.hid hb1
  have HL1 := Lib.hid (HL.out.below hb1)
  clear hb1
  have hu : unquoteL (⟨(quoteL s.data.toList).toArray⟩ : ByteArray).data.toList = some s.data.toList := unquote_quote _
  have hqs : (⟨(quoteL s.data.toList).toArray⟩ : ByteArray).size ≤ 12002 := by simpa [ByteArray.size] using hql
  generalize (⟨(quoteL s.data.toList).toArray⟩ : ByteArray) = q at *
  have HU := Lib.hid hu
  clear hu hql
  go_wp2_with fail
  refine (unquote_any _ _ (by omega)).mono ?_
  rw [HU.out]
  rintro e w2 ⟨rfl, hb2⟩
  have HB2 := Lib.hid (below_tr HB1.out hb2)
  have HL2 := Lib.hid (HL1.out.below hb2)
  clear hb2
  unfold uq2
  go_wp2_with fail
  refine (example_any _ HL2.out).mono ?_
  rintro e w3 ⟨rfl, hb3⟩
  have HB3 := Lib.hid (below_tr HB2.out hb3)
  clear hb3
  go_wp2_with fail
  go_ret
  exact ⟨by simp, HB3.out⟩
theorem returns_any (s : ByteArray) (w : World) (hL : Laid w) (hs : s.size ≤ maxLen) :
    Calls Tryd.prog 5 #[.string s] w fun e w' => e = .returned (.bool true) ∧ Below w.heap.size w w' := by
  by_cases h : 2000 < s.size
  · exact returns_long s w hL hs h
  · exact returns_short s w hL (by omega)
theorem quotes_any (s : ByteArray) (w : World) (hL : Laid w) (hs : s.size ≤ maxLen) :
    Calls Tryd.prog 4 #[.string s] w fun e w' => e = .returned (.bool true) ∧ Below w.heap.size w w' := by
  by_cases h : 2000 < s.size
  · exact quotes_long s w hL hs h
  · exact quotes_short s w hL (by omega)
theorem unquotes_long (s : ByteArray) (w : World) (hL : Laid w) (hs : s.size ≤ maxLen) (h : 2000 < s.size) :
    Calls Tryd.prog 6 #[.string s] w fun e w' => e = .returned (.bool true) ∧ Below w.heap.size w w' := by
  have HL := Lib.hid hL
  have HS := Lib.hid hs
  have h1 : decide (2000 < s.size) = true := by simpa using h
  clear hL hs
  go_enter Tryd.func6, Tryd.ntmps6
  go_wp2_with fail
  refine (long_any _ _ HS.out).mono ?_
  rintro e w1 ⟨rfl, rfl⟩
  go_wp2_with fail
  refine (example_any _ HL.out).mono ?_
  rintro e w1 ⟨rfl, hb⟩
  go_wp2_with fail
  go_ret
  exact ⟨rfl, hb⟩
theorem unquotes_short (s : ByteArray) (w : World) (hL : Laid w) (h : s.size ≤ 2000) :
    Calls Tryd.prog 6 #[.string s] w fun e w' => e = .returned (.bool true) ∧ Below w.heap.size w w' := by
  have HL := Lib.hid hL
  have h1 : decide (2000 < s.size) = false := by simpa using h
  clear hL
  go_enter Tryd.func6, Tryd.ntmps6
  go_wp2_with fail
  refine (long_any _ _ (by unfold maxLen; omega)).mono ?_
  rintro e w1 ⟨rfl, rfl⟩
  go_wp2_with fail
  refine (unquote_any _ _ (by omega)).mono ?_
  generalize hu : unquoteL s.data.toList = o
  have HU := Lib.hid hu
  clear hu
  rintro e w2 ⟨rfl, hb2⟩
  have HB2 := Lib.hid hb2
  have HL2 := Lib.hid (HL.out.below hb2)
  clear hb2
  cases o
  all_goals
    unfold uq2
    go_wp2_with fail
    refine (runquote_any _ _ (by omega)).mono ?_
    rw [HU.out]
    rintro e w3 ⟨rfl, hb3⟩
    have HB3 := Lib.hid (below_tr HB2.out hb3)
    have HL3 := Lib.hid (HL2.out.below hb3)
    clear hb3
    unfold uq2
    go_wp2_with fail
    refine (example_any _ HL3.out).mono ?_
    rintro e w4 ⟨rfl, hb4⟩
    have HB4 := Lib.hid (below_tr HB3.out hb4)
    clear hb4
    go_wp2_with fail
    go_ret
    exact ⟨by simp, HB4.out⟩
theorem unquotes_any (s : ByteArray) (w : World) (hL : Laid w) (hs : s.size ≤ maxLen) :
    Calls Tryd.prog 6 #[.string s] w fun e w' => e = .returned (.bool true) ∧ Below w.heap.size w w' := by
  by_cases h : 2000 < s.size
  · exact unquotes_long s w hL hs h
  · exact unquotes_short s w hL (by omega)
end Go.Proofs.YtilknpfjlngfoaaDoor
