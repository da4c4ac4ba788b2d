
/-
  A quoted string is read back.
-/
import Derived.Test.YtgicbmibhnnflaaGreatDoorRefUnquote
namespace Go.Proofs.YtgicbmibhnnflaaGreatDoor.T1
open Go.RowKit
theorem numL4_four (a b c d : UInt8) (r : List UInt8) : numL4 (a :: b :: c :: d :: r) = numL4 [a, b, c, d] := by
  have e : ∀ k, k < 4 → bv (a :: b :: c :: d :: r) k = bv [a, b, c, d] k := by
    intro k hk
    have : k = 0 ∨ k = 1 ∨ k = 2 ∨ k = 3 := by omega
    rcases this with rfl | rfl | rfl | rfl <;> rfl
  unfold numL4 okB
  rw [e 0 (by omega), e 1 (by omega), e 2 (by omega), e 3 (by omega), cdL_congr e]
  simp
theorem numL4_hex : ∀ n : Fin 256, numL4 [48, 48, hexC (n.val / 16), hexC (n.val % 16)] = some (UInt8.ofNat n.val) := by decide +kernel
theorem step_escL (c : UInt8) (r : List UInt8) : stepL (escL c ++ r) = some (c, (escL c).length) := by
  unfold escL
  by_cases h1 : c = 34
  · subst h1; rw [if_pos rfl]; show stepL (92 :: 34 :: r) = _; rw [stepL_esc]; rfl
  rw [if_neg h1]
  by_cases h2 : c = 92
  · subst h2; rw [if_pos rfl]; show stepL (92 :: 92 :: r) = _; rw [stepL_esc]; rfl
  rw [if_neg h2]
  by_cases h3 : c = 10
  · subst h3; rw [if_pos rfl]; show stepL (92 :: 110 :: r) = _; rw [stepL_esc]; rfl
  rw [if_neg h3]
  by_cases h4 : c = 13
  · subst h4; rw [if_pos rfl]; show stepL (92 :: 114 :: r) = _; rw [stepL_esc]; rfl
  rw [if_neg h4]
  by_cases h5 : c = 9
  · subst h5; rw [if_pos rfl]; show stepL (92 :: 116 :: r) = _; rw [stepL_esc]; rfl
  rw [if_neg h5]
  cases hp : prB (c.toNat : Int)
  · simp only [Bool.false_eq_true, if_false]
    show stepL (92 :: 117 :: 48 :: 48 :: hexC (c.toNat / 16) :: hexC (c.toNat % 16) :: r) = _
    rw [stepL_esc, if_pos rfl, numL4_four, numL4_hex ⟨c.toNat, c.toNat_lt⟩]
    simp
  · simp only [if_true]
    show stepL (c :: r) = _
    rw [stepL_cons, if_neg (by simp [h1, hp]), if_pos h2]; rfl
theorem unqR_flat : ∀ l : List UInt8, unqR (l.flatMap escL) = some l
  | [] => rfl
  | c :: l => by
    rw [List.flatMap_cons, unqR_step (step_escL c _), List.drop_left, unqR_flat l]; rfl
theorem unquote_quote (l : List UInt8) : unquoteL (quoteL l) = some l := by
  have hlen : (quoteL l).length = (l.flatMap escL).length + 2 := by unfold quoteL; simp
  have hmid : midL (quoteL l) = l.flatMap escL := by
    unfold midL; rw [hlen]; unfold quoteL; simp
  have h0 : (quoteL l).getD 0 0 = 34 := rfl
  have h1 : (quoteL l).getD ((quoteL l).length - 1) 0 = 34 := by
    rw [hlen]
    unfold quoteL
    rw [List.getD_eq_getElem?_getD, List.getElem?_append_right (by simp)]
    simp
  unfold unquoteL
  rw [if_pos ⟨by omega, h0, h1⟩, hmid, unqR_flat]
end Go.Proofs.YtgicbmibhnnflaaGreatDoor.T1
