
/-
  Plain facts on decimal numerals: values of digits, digits of values.
-/
import Derived.Test.YtgicbmibhnnflaaGreatDoorTextNumber
namespace Go.Proofs.YtgicbmibhnnflaaGreatDoor.T1
open Go.RowKit
def dv (c : UInt8) : Nat := c.toNat - 48
def valF (acc : Nat) (l : List UInt8) : Nat := l.foldl (fun a c => a * 10 + dv c) acc
theorem valF_cons (acc : Nat) (c : UInt8) (l : List UInt8) : valF acc (c :: l) = valF (acc * 10 + dv c) l := by
  unfold valF; rw [List.foldl_cons]
theorem valF_snoc (acc : Nat) (l : List UInt8) (c : UInt8) : valF acc (l ++ [c]) = valF acc l * 10 + dv c := by
  unfold valF; rw [List.foldl_append, List.foldl_cons, List.foldl_nil]
theorem valF_ge : ∀ (l : List UInt8) (acc : Nat), acc ≤ valF acc l
  | [], _ => Nat.le_refl _
  | c :: l, acc => by
    rw [valF_cons]
    have := valF_ge l (acc * 10 + dv c)
    omega
theorem dig_range {c : UInt8} (h : digB (c.toNat : Int) = true) : 48 ≤ c.toNat ∧ c.toNat ≤ 57 := by unfold digB at h; simp at h; omega
theorem allDg_cons {c : UInt8} {l : List UInt8} : allDg (c :: l) = true ↔ digB (c.toNat : Int) = true ∧ allDg l = true := by
  unfold allDg; rw [List.all_cons, Bool.and_eq_true]
theorem allDg_append {a b : List UInt8} : allDg (a ++ b) = true ↔ allDg a = true ∧ allDg b = true := by
  unfold allDg; rw [List.all_append, Bool.and_eq_true]
theorem parse_val : ∀ (l : List UInt8) (acc : Nat), acc < 18446744073709551616 → allDg l = true → Lib.parseUint10 acc l = if valF acc l < 18446744073709551616 then .ok (valF acc l) else .range
  | [], acc, ha, _ => by rw [if_pos (show valF acc [] < _ from ha)]; rfl
  | c :: r, acc, ha, h => by
    rw [allDg_cons] at h
    have hc := dig_range h.1
    have hd : dv c = c.toNat - 48 := rfl
    have hge := valF_ge r (acc * 10 + dv c)
    unfold Lib.parseUint10
    rw [if_pos hc, valF_cons]
    by_cases h1 : 1844674407370955162 ≤ acc
    · rw [if_pos h1, if_neg (by omega)]
    rw [if_neg h1]
    by_cases h2 : 18446744073709551616 ≤ acc * 10 + (c.toNat - 48)
    · rw [if_pos h2, if_neg (by omega)]
    rw [if_neg h2]
    exact parse_val r _ (by omega) h.2
def val (l : List UInt8) : Nat := valF 0 l
/- A decimal numeral: digits, the first of which is 0 only if it is the only one. -/
structure Canon (d : List UInt8) : Prop where
  ne : d ≠ []
  dg : allDg d = true
  lead : d.getD 0 0 = 48 → d = [48]
theorem num_plain {d : List UInt8} (h : Canon d) : numL d = if val d < 9223372036854775808 then ((val d : Int), 0) else (0, 4) := by
  obtain ⟨h0, h1, h2⟩ := h
  have hdec : decL d = true := by
    unfold decL
    have ht : Lib.trimPrefix d [45] = d := by
      cases d with
      | nil => rfl
      | cons c r =>
        refine trim_other r ?_
        rintro rfl
        have := (allDg_cons.1 h1).1
        revert this; decide
    rw [ht, if_neg h0]
    by_cases e : d.getD 0 0 = 48
    · rw [if_pos e, h2 e]; rfl
    · rw [if_neg e]; exact h1
  unfold numL
  rw [hdec, if_pos rfl]
  cases d with
  | nil => exact absurd rfl h0
  | cons c r =>
    have hc := dig_range (allDg_cons.1 h1).1
    rw [Lib.atoiAll_plain c r (by omega) (by omega)]
    unfold Lib.parseMag
    rw [if_neg h0, parse_val _ 0 (by omega) h1]
    show _ = if val (c :: r) < _ then _ else _
    unfold val
    generalize valF 0 (c :: r) = v
    by_cases e1 : v < 18446744073709551616
    · rw [if_pos e1]
      unfold Lib.signless
      by_cases e2 : v < 9223372036854775808
      · rw [if_pos e2]; simp only; rw [if_neg (by omega)]
      · rw [if_neg e2]; simp only; rw [if_pos (by omega)]
    · rw [if_neg e1, if_neg (by omega)]; rfl
theorem num_minus {d : List UInt8} (h : Canon d) (hz : d.getD 0 0 ≠ 48) : numL (45 :: d) = if val d ≤ 9223372036854775808 then (-(val d : Int), 0) else (0, 4) := by
  obtain ⟨h0, h1, h2⟩ := h
  have hdec : decL (45 :: d) = true := by
    unfold decL
    rw [trim_minus, if_neg h0, if_neg hz]; exact h1
  unfold numL
  rw [hdec, if_pos rfl, Lib.atoiAll_minus]
  unfold Lib.parseMag
  rw [if_neg h0, parse_val _ 0 (by omega) h1]
  show _ = if val d ≤ _ then _ else _
  unfold val
  generalize valF 0 d = v
  by_cases e1 : v < 18446744073709551616
  · rw [if_pos e1]
    unfold Lib.signed
    by_cases e2 : v ≤ 9223372036854775808
    · rw [if_pos e2]; simp only; rw [if_neg (by omega)]
    · rw [if_neg e2]; simp only; rw [if_pos (by omega)]
  · rw [if_neg e1, if_neg (by omega)]; rfl
theorem digit_byte {x : Nat} (h : x < 10) : (UInt8.ofNat (48 + x)).toNat = 48 + x := by rw [UInt8.toNat_ofNat']; omega
theorem decDigits_val (u : Nat) : allDg (Lib.decDigits u) = true ∧ val (Lib.decDigits u) = u ∧ Lib.decDigits u ≠ [] ∧ ((Lib.decDigits u).getD 0 0 = 48 → u = 0) := by
  induction u using Nat.strongRecOn with
  | _ u ih =>
    by_cases h : u < 10
    · have hb := digit_byte h
      rw [Lib.decDigits_one h]
      refine ⟨?_, ?_, by simp, ?_⟩
      · rw [allDg_cons]; refine ⟨?_, rfl⟩
        unfold digB; rw [hb]; simp; omega
      · show 0 * 10 + dv _ = u
        unfold dv; rw [hb]; omega
      · intro e
        have e' : UInt8.ofNat (48 + u) = 48 := e
        have := congrArg UInt8.toNat e'
        rw [hb] at this
        have h48 : (48 : UInt8).toNat = 48 := rfl
        omega
    · obtain ⟨i1, i2, i3, i4⟩ := ih (u / 10) (by omega)
      have hb := digit_byte (x := u % 10) (by omega)
      rw [Lib.decDigits, dif_neg h]
      refine ⟨?_, ?_, by simp, ?_⟩
      · rw [allDg_append]
        refine ⟨i1, ?_⟩
        rw [allDg_cons]; refine ⟨?_, rfl⟩
        unfold digB; rw [hb]; simp; omega
      · unfold val at i2 ⊢
        rw [valF_snoc, i2]; unfold dv; rw [hb]; omega
      · intro e
        have e' : (Lib.decDigits (u / 10)).getD 0 0 = 48 := by
          cases hd : Lib.decDigits (u / 10) with
          | nil => exact absurd hd i3
          | cons a b => rw [hd] at e; exact e
        have := i4 e'; omega
theorem decDigits_canon (u : Nat) : Canon (Lib.decDigits u) := by
  obtain ⟨h1, _, h3, h4⟩ := decDigits_val u
  refine ⟨h3, h1, fun e => ?_⟩
  have := h4 e; subst this
  rw [Lib.decDigits_one (by omega)]; rfl
theorem num_itoa (n : Int) (h0 : -9223372036854775808 ≤ n) (h1 : n ≤ 9223372036854775807) : numL (Lib.itoa n) = (n, 0) := by
  unfold Lib.itoa
  by_cases h : n < 0
  · rw [if_pos h, num_minus (decDigits_canon _) (fun e => by have := (decDigits_val n.natAbs).2.2.2 e; omega), (decDigits_val _).2.1, if_pos (by omega)]
    congr 1; omega
  · rw [if_neg h, num_plain (decDigits_canon _), (decDigits_val _).2.1, if_pos (by omega)]
    congr 1; omega
theorem val_pos {d : List UInt8} (h : Canon d) (hz : d.getD 0 0 ≠ 48) : 1 ≤ val d := by
  obtain ⟨h0, h1, _⟩ := h
  cases d with
  | nil => exact absurd rfl h0
  | cons c r =>
    have hc := dig_range (allDg_cons.1 h1).1
    have hne : c.toNat ≠ 48 := fun e => hz (UInt8.toNat_inj.1 e)
    have := valF_ge r (0 * 10 + dv c)
    unfold val; rw [valF_cons]
    have hd : dv c = c.toNat - 48 := rfl
    omega
theorem digits_val (n : Nat) : ∀ (d : List UInt8), d.length = n → Canon d → Lib.decDigits (val d) = d := by
  induction n with
  | zero => intro d hl h; exact absurd (List.eq_nil_of_length_eq_zero hl) h.ne
  | succ n ih =>
    intro d hl h
    by_cases h0 : d.getD 0 0 = 48
    · rw [h.lead h0]
      show Lib.decDigits 0 = _
      rw [Lib.decDigits_one (by omega)]; rfl
    obtain ⟨e, c, rfl⟩ : ∃ e c, d = e ++ [c] := ⟨d.dropLast, d.getLast h.ne, (List.dropLast_concat_getLast h.ne).symm⟩
    have hdg := allDg_append.1 h.dg
    have hc := dig_range (allDg_cons.1 hdg.2).1
    have hdv : dv c = c.toNat - 48 := rfl
    by_cases he : e = []
    · subst he
      have hv : val ([] ++ [c]) = c.toNat - 48 := by show 0 * 10 + dv c = _; rw [hdv]; omega
      rw [hv, Lib.decDigits_one (by omega)]
      have : 48 + (c.toNat - 48) = c.toNat := by omega
      rw [this]; simp
    · have hcan : Canon e := by
        refine ⟨he, hdg.1, fun e1 => ?_⟩
        cases e with
        | nil => exact absurd rfl he
        | cons a b => exact absurd e1 h0
      have hlead : e.getD 0 0 ≠ 48 := by
        cases e with
        | nil => exact absurd rfl he
        | cons a b => exact h0
      have hp := val_pos hcan hlead
      have hlen : e.length = n := by rw [List.length_append] at hl; simp at hl; omega
      have hv : val (e ++ [c]) = val e * 10 + (c.toNat - 48) := by unfold val; rw [valF_snoc, hdv]
      rw [hv, Lib.decDigits, dif_neg (by omega), show (val e * 10 + (c.toNat - 48)) / 10 = val e by omega, ih e hlen hcan, show (val e * 10 + (c.toNat - 48)) % 10 = c.toNat - 48 by omega]
      have : 48 + (c.toNat - 48) = c.toNat := by omega
      rw [this]; simp
theorem dec_canon {l : List UInt8} (h : decL l = true) : (∃ d, l = d ∧ Canon d) ∨ (∃ d, l = 45 :: d ∧ Canon d ∧ d.getD 0 0 ≠ 48) := by
  rcases dec_parts h with rfl | ⟨d, h0, h1, h2, h3, _⟩
  · exact Or.inl ⟨[48], rfl, by simp, rfl, fun _ => rfl⟩
  · rcases h3 with rfl | rfl
    · exact Or.inl ⟨_, rfl, h0, h2, fun e => absurd e h1⟩
    · exact Or.inr ⟨d, rfl, ⟨h0, h2, fun e => absurd e h1⟩, h1⟩
theorem num_form {l : List UInt8} (h : decL l = false) : numL l = (0, 3) := by unfold numL; rw [h]; rfl
theorem itoa_num {l : List UInt8} (h : (numL l).2 = 0) : Lib.itoa (numL l).1 = l := by
  cases hd : decL l
  · rw [num_form hd] at h; cases h
  · rcases dec_canon hd with ⟨d, rfl, hc⟩ | ⟨d, rfl, hc, hz⟩
    · rw [num_plain hc] at h ⊢
      by_cases e : val l < 9223372036854775808
      · rw [if_pos e]; unfold Lib.itoa
        rw [if_neg (by simp only; omega)]
        exact digits_val _ l rfl hc
      · rw [if_neg e] at h; cases h
    · rw [num_minus hc hz] at h ⊢
      have hp := val_pos hc hz
      by_cases e : val d ≤ 9223372036854775808
      · rw [if_pos e]; unfold Lib.itoa
        rw [if_pos (by simp only; omega)]
        rw [show (-(val d : Int)).natAbs = val d by omega, digits_val _ d rfl hc]
      · rw [if_neg e] at h; cases h
theorem num_bounds (l : List UInt8) : -9223372036854775808 ≤ (numL l).1 ∧ (numL l).1 ≤ 9223372036854775807 := by
  cases hd : decL l
  · rw [num_form hd]; decide
  · rcases dec_canon hd with ⟨d, rfl, hc⟩ | ⟨d, rfl, hc, hz⟩
    · rw [num_plain hc]; split
      · simp only; omega
      · decide
    · rw [num_minus hc hz]; split
      · simp only; omega
      · decide
end Go.Proofs.YtgicbmibhnnflaaGreatDoor.T1
