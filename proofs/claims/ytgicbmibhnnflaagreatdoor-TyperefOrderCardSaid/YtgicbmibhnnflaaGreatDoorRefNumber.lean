
/-
  Contracts of the reference package of layer 1: integers as text.
-/
import Derived.Test.YtgicbmibhnnflaaGreatDoorNumPlain
import Derived.Test.YtgicbmibhnnflaaGreatDoorRefQuote
namespace Go.Proofs.YtgicbmibhnnflaaGreatDoor.T1
open Go.RowKit
theorem nDig_le (u : Nat) : (Lib.decDigits u).length ≤ u / 2 + 1 := by
  induction u using Nat.strongRecOn with
  | _ u ih =>
    by_cases h : u < 10
    · rw [Lib.decDigits_one h]; simp
    · rw [Lib.decDigits, dif_neg h, List.length_append]
      have := ih (u / 10) (by omega)
      simp; omega
theorem tmod_neg (u : Nat) : (-(u : Int)).tmod 10 = -((u % 10 : Nat) : Int) := by
  rw [Int.neg_tmod]; congr 1
theorem tdiv_neg (u : Nat) : (-(u : Int)).tdiv 10 = -((u / 10 : Nat) : Int) := by
  rw [Int.neg_tdiv]; congr 1
/- The digits of t behind the sign of s. -/
def rForm (neg : Bool) (t : List UInt8) : Bool := decide (t ≠ []) && !(decide (t.getD 0 0 = 48) && (decide (1 < t.length) || neg)) && allDg t
def rNum (neg : Bool) (t : List UInt8) : Int × Int :=
  if rForm neg t then
    if 9223372036854775808 < val t then (0, 4)
    else if neg then (-(val t : Int), 0)
    else if val t = 9223372036854775808 then (0, 4) else ((val t : Int), 0)
  else (0, 3)
theorem rForm_canon {neg : Bool} {t : List UInt8} (h : rForm neg t = true) : Canon t ∧ (neg = true → t.getD 0 0 ≠ 48) := by
  unfold rForm at h
  simp only [Bool.and_eq_true, decide_eq_true_eq, Bool.not_eq_true', Bool.and_eq_false_iff, Bool.or_eq_false_iff, decide_eq_false_iff_not] at h
  obtain ⟨⟨h0, h1⟩, h2⟩ := h
  refine ⟨⟨h0, h2, fun e => ?_⟩, fun hn e => ?_⟩
  · rcases h1 with h1 | h1
    · exact absurd e h1
    · match t, h0, e, h1 with
      | [c], _, e, _ => have : c = 48 := e; rw [this]
      | _ :: _ :: _, _, _, h1 => exact absurd h1.1 (by simp)
  · rcases h1 with h1 | h1
    · exact h1 e
    · rw [hn] at h1; cases h1.2
theorem rNum_plain {l : List UInt8} (h : l.getD 0 0 ≠ 45 ∨ l = []) : rNum false l = numL l := by
  unfold rNum
  cases hf : rForm false l
  · have : decL l = false := by
      cases hd : decL l
      · rfl
      · exfalso
        rcases dec_canon hd with ⟨d, rfl, hc⟩ | ⟨d, rfl, hc, hz⟩
        · have : rForm false l = true := by
            unfold rForm
            simp only [Bool.and_eq_true, decide_eq_true_eq, Bool.not_eq_true', Bool.and_eq_false_iff, Bool.or_eq_false_iff, decide_eq_false_iff_not]
            refine ⟨⟨hc.ne, ?_⟩, hc.dg⟩
            by_cases e : l.getD 0 0 = 48
            · right; rw [hc.lead e]; simp
            · left; exact e
          rw [this] at hf; cases hf
        · rcases h with h | h
          · exact h rfl
          · cases h
    rw [num_form this]; rfl
  · obtain ⟨hc, _⟩ := rForm_canon hf
    rw [num_plain hc]
    simp only [if_true]
    by_cases e1 : 9223372036854775808 < val l
    · rw [if_pos e1, if_neg (by omega)]
    · rw [if_neg e1]
      simp only [Bool.false_eq_true, if_false]
      by_cases e2 : val l = 9223372036854775808
      · rw [if_pos e2, if_neg (by omega)]
      · rw [if_neg e2, if_pos (by omega)]
theorem rNum_minus (d : List UInt8) : rNum true d = numL (45 :: d) := by
  unfold rNum
  cases hf : rForm true d
  · have : decL (45 :: d) = false := by
      cases hd : decL (45 :: d)
      · rfl
      · exfalso
        rcases dec_canon hd with ⟨d', e, hc⟩ | ⟨d', e, hc, hz⟩
        · have := hc.dg
          rw [← e] at this
          have := (allDg_cons.1 this).1
          revert this; decide
        · cases e
          have : rForm true d = true := by
            unfold rForm
            simp only [Bool.and_eq_true, decide_eq_true_eq, Bool.not_eq_true', Bool.and_eq_false_iff, Bool.or_eq_false_iff, decide_eq_false_iff_not]
            exact ⟨⟨hc.ne, Or.inl hz⟩, hc.dg⟩
          rw [this] at hf; cases hf
    rw [num_form this]; rfl
  · obtain ⟨hc, hz⟩ := rForm_canon hf
    rw [num_minus hc (hz rfl)]
    simp only [if_true]
    by_cases e1 : 9223372036854775808 < val d
    · rw [if_pos e1, if_neg (by omega)]
    · rw [if_neg e1, if_pos (by omega)]
end Go.Proofs.YtgicbmibhnnflaaGreatDoor.T1
