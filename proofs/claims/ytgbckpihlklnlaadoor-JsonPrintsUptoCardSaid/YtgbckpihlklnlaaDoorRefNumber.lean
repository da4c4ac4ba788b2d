
/-
  Contracts of the reference package of layer 1: integers as text.
-/
import Derived.Test.YtgbckpihlklnlaaDoorNumPlain
import Derived.Test.YtgbckpihlklnlaaDoorRefQuote
namespace Go.Proofs.YtgbckpihlklnlaaDoor.T1
open Go.RowKit
theorem nDig_le (u : Nat) : (Lib.decDigits u).length ≤ u / 2 + 1 := by
  induction u using Nat.strongRecOn with
  | _ u ih =>
    by_cases h : u < 10
    · rw [Lib.decDigits_one h]; simp
    · rw [Lib.decDigits, dif_neg h, List.length_append]
      have := ih (u / 10) (by omega)
      simp; omega
theorem tmod_neg (u : Nat) : (-(u : Int)).tmod 10 = -((u % 10 : Nat) : Int) := by
  rw [Int.neg_tmod]; congr 1
theorem tdiv_neg (u : Nat) : (-(u : Int)).tdiv 10 = -((u / 10 : Nat) : Int) := by
  rw [Int.neg_tdiv]; congr 1
theorem rdigits_any (u : Nat) : ∀ (n : Int) (w : World), u ≤ 9223372036854775808 → n = -(u : Int) →
    Calls Tryd.prog 46 #[.int .i64 n] w (StrB w (Lib.decDigits u)) := by
  induction u using Nat.strongRecOn with
  | _ u ih =>
    intro n w hu hn
    have b0 : n ≤ 0 := by omega
    have b1 : -9223372036854775808 ≤ n := by omega
    have e1 : n.tmod 10 = -((u % 10 : Nat) : Int) := by rw [hn]; exact tmod_neg u
    have e2 : n.tdiv 10 = -((u / 10 : Nat) : Int) := by rw [hn]; exact tdiv_neg u
    have hb := digit_byte (x := u % 10) (by omega)
    have hdd : Lib.decDigits u = if u < 10 then [UInt8.ofNat (48 + u % 10)] else Lib.decDigits (u / 10) ++ [UInt8.ofNat (48 + u % 10)] := by
      by_cases h : u < 10
      · rw [if_pos h, Lib.decDigits_one h, Nat.mod_eq_of_lt h]
      · rw [if_neg h]; conv => lhs; rw [Lib.decDigits, dif_neg h]
    generalize UInt8.ofNat (48 + u % 10) = b at *
    have hcv := fun w => conv_B w #[.int .u8 (48 + (u : Int) % 10)] [b] 1 1 rfl (by rw [List.map_cons, hb]; rfl)
    have HDD := Lib.hid hdd
    clear hdd
    have IH := Lib.hid ih
    clear ih hb
    by_cases h : u < 10
    · have hd : Hid (Lib.decDigits u = [b]) := Lib.hid (by rw [HDD.out, if_pos h])
      have h' : -10 < n := by omega
      clear hn
      go_enter Tryd.func46, Tryd.ntmps46
      go_wp2_with fail
      go_ret
      exact ⟨by rw [hd.out]; rfl, (Below.refl _ _).alloc (Nat.le_refl _) _⟩
    · have hd : Hid (Lib.decDigits u = Lib.decDigits (u / 10) ++ [b]) := Lib.hid (by rw [HDD.out, if_neg h])
      have h' : n ≤ -10 := by omega
      have hl := nDig_le (u / 10)
      have hadd := fun w => add_L w (Lib.decDigits (u / 10)) [b] (by simp; omega)
      clear hn
      go_enter Tryd.func46, Tryd.ntmps46
      go_wp2_with fail
      refine (IH.out (u / 10) (by omega) _ _ (by omega) (by omega)).mono ?_
      rintro e w2 ⟨rfl, hb2⟩
      have HB := Lib.hid (((Below.refl w.heap.size w).alloc (Nat.le_refl _) _).trans (hb2.mono (by simp)))
      clear hb2
      go_wp2_with fail
      go_ret
      exact ⟨by rw [hd.out]; rfl, HB.out⟩
theorem rdecimal_any (n : Int) (w : World) (h0 : -9223372036854775808 ≤ n) (h1 : n ≤ 9223372036854775807) :
    Calls Tryd.prog 29 #[.int .i64 n] w (StrB w (Lib.itoa n)) := by
  by_cases h : n < 0
  · have e : Hid (Lib.itoa n = [45] ++ Lib.decDigits n.natAbs) := Lib.hid (by unfold Lib.itoa; rw [if_pos h]; rfl)
    have hl := nDig_le n.natAbs
    have hadd := fun w => add_L w [45] (Lib.decDigits n.natAbs) (by simp; omega)
    go_enter Tryd.func29, Tryd.ntmps29
    go_wp2_with fail
    refine (rdigits_any n.natAbs _ _ (by omega) (by omega)).mono ?_
    rintro e w2 ⟨rfl, hb2⟩
    have HB := Lib.hid hb2
    clear hb2
    go_wp2_with fail
    go_ret
    exact ⟨by rw [e.out]; rfl, HB.out⟩
  · have e : Hid (Lib.itoa n = Lib.decDigits n.toNat) := Lib.hid (by unfold Lib.itoa; rw [if_neg h])
    have h' : 0 ≤ n := by omega
    clear h
    go_enter Tryd.func29, Tryd.ntmps29
    go_wp2_with fail
    refine (rdigits_any n.toNat _ _ (by omega) (by omega)).mono ?_
    rintro e2 w2 ⟨rfl, hb2⟩
    have HB := Lib.hid hb2
    clear hb2
    go_wp2_with fail
    go_ret
    exact ⟨by rw [e.out]; rfl, HB.out⟩
/- The digits of t behind the sign of s. -/
def rForm (neg : Bool) (t : List UInt8) : Bool := decide (t ≠ []) && !(decide (t.getD 0 0 = 48) && (decide (1 < t.length) || neg)) && allDg t
def rNum (neg : Bool) (t : List UInt8) : Int × Int :=
  if rForm neg t then
    if 9223372036854775808 < val t then (0, 4)
    else if neg then (-(val t : Int), 0)
    else if val t = 9223372036854775808 then (0, 4) else ((val t : Int), 0)
  else (0, 3)
theorem rForm_canon {neg : Bool} {t : List UInt8} (h : rForm neg t = true) : Canon t ∧ (neg = true → t.getD 0 0 ≠ 48) := by
  unfold rForm at h
  simp only [Bool.and_eq_true, decide_eq_true_eq, Bool.not_eq_true', Bool.and_eq_false_iff, Bool.or_eq_false_iff, decide_eq_false_iff_not] at h
  obtain ⟨⟨h0, h1⟩, h2⟩ := h
  refine ⟨⟨h0, h2, fun e => ?_⟩, fun hn e => ?_⟩
  · rcases h1 with h1 | h1
    · exact absurd e h1
    · match t, h0, e, h1 with
      | [c], _, e, _ => have : c = 48 := e; rw [this]
      | _ :: _ :: _, _, _, h1 => exact absurd h1.1 (by simp)
  · rcases h1 with h1 | h1
    · exact h1 e
    · rw [hn] at h1; cases h1.2
theorem rNum_plain {l : List UInt8} (h : l.getD 0 0 ≠ 45 ∨ l = []) : rNum false l = numL l := by
  unfold rNum
  cases hf : rForm false l
  · have : decL l = false := by
      cases hd : decL l
      · rfl
      · exfalso
        rcases dec_canon hd with ⟨d, rfl, hc⟩ | ⟨d, rfl, hc, hz⟩
        · have : rForm false l = true := by
            unfold rForm
            simp only [Bool.and_eq_true, decide_eq_true_eq, Bool.not_eq_true', Bool.and_eq_false_iff, Bool.or_eq_false_iff, decide_eq_false_iff_not]
            refine ⟨⟨hc.ne, ?_⟩, hc.dg⟩
            by_cases e : l.getD 0 0 = 48
            · right; rw [hc.lead e]; simp
            · left; exact e
          rw [this] at hf; cases hf
        · rcases h with h | h
          · exact h rfl
          · cases h
    rw [num_form this]; rfl
  · obtain ⟨hc, _⟩ := rForm_canon hf
    rw [num_plain hc]
    simp only [if_true]
    by_cases e1 : 9223372036854775808 < val l
    · rw [if_pos e1, if_neg (by omega)]
    · rw [if_neg e1]
      simp only [Bool.false_eq_true, if_false]
      by_cases e2 : val l = 9223372036854775808
      · rw [if_pos e2, if_neg (by omega)]
      · rw [if_neg e2, if_pos (by omega)]
theorem rNum_minus (d : List UInt8) : rNum true d = numL (45 :: d) := by
  unfold rNum
  cases hf : rForm true d
  · have : decL (45 :: d) = false := by
      cases hd : decL (45 :: d)
      · rfl
      · exfalso
        rcases dec_canon hd with ⟨d', e, hc⟩ | ⟨d', e, hc, hz⟩
        · have := hc.dg
          rw [← e] at this
          have := (allDg_cons.1 this).1
          revert this; decide
        · cases e
          have : rForm true d = true := by
            unfold rForm
            simp only [Bool.and_eq_true, decide_eq_true_eq, Bool.not_eq_true', Bool.and_eq_false_iff, Bool.or_eq_false_iff, decide_eq_false_iff_not]
            exact ⟨⟨hc.ne, Or.inl hz⟩, hc.dg⟩
          rw [this] at hf; cases hf
    rw [num_form this]; rfl
  · obtain ⟨hc, hz⟩ := rForm_canon hf
    rw [num_minus hc (hz rfl)]
    simp only [if_true]
    by_cases e1 : 9223372036854775808 < val d
    · rw [if_pos e1, if_neg (by omega)]
    · rw [if_neg e1, if_pos (by omega)]
end Go.Proofs.YtgbckpihlklnlaaDoor.T1
