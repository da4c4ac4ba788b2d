/-
  The law of layer 1 on integers as text, walked.
-/
import Derived.Test.YtilknpfjlngfoaaDoorLaw01b
import Derived.Test.YtilknpfjlngfoaaDoorRefNumber2
import Derived.OpenShut
namespace Go.Proofs.YtilknpfjlngfoaaDoor
open Go.RowKit
theorem nDig_pow : ∀ (k u : Nat), u < 10 ^ (k + 1) → (Lib.decDigits u).length ≤ k + 1
  | 0, u, h => by rw [Lib.decDigits_one (by simpa using h)]; simp
  | k + 1, u, h => by
    by_cases h1 : u < 10
    · rw [Lib.decDigits_one h1]; simp
    · rw [Lib.decDigits, dif_neg h1, List.length_append]
      have := nDig_pow k (u / 10) (by rw [Nat.pow_succ] at h; omega)
      simp; omega
theorem itoa_len (n : Int) (h0 : -9223372036854775808 ≤ n) (h1 : n ≤ 9223372036854775807) : (Lib.itoa n).length ≤ 21 := by
  unfold Lib.itoa
  split
  · have := nDig_pow 19 n.natAbs (by omega)
    simp; omega
  · have := nDig_pow 19 n.toNat (by omega)
    omega
theorem str_back (s : ByteArray) (l : List UInt8) (h : l = s.data.toList) : (⟨l.toArray⟩ : ByteArray) = s := by subst h; rfl
theorem numbers_any (s : ByteArray) (n : Int) (w : World) (hL : Laid w) (hs : s.size ≤ 281474976710656) (h0 : -9223372036854775808 ≤ n) (h1 : n ≤ 9223372036854775807) :
    Calls Tryd.prog 7 #[.string s, .int .i64 n] w fun e w' => e = .returned (.bool true) ∧ Below w.heap.size w w' := by
  have HL := Lib.hid hL
  clear hL
  have hpb := num_bounds s.data.toList
  have hpi := itoa_num (l := s.data.toList)
  have HN := Lib.hid (num_itoa n h0 h1)
  have hil := itoa_len n h0 h1
  go_enter Tryd.func7, Tryd.ntmps7
  go_wp2_with fail
  refine (number_any _ _ HL.out hs).mono ?_
  generalize hp : numL s.data.toList = p at *
  have HP := Lib.hid hp
  clear hp
  obtain ⟨v, c⟩ := p
  rintro e w1 ⟨rfl, hb1⟩
  have HB1 := Lib.hid hb1
  have HL1 := Lib.hid (HL.out.below hb1)
  clear hb1
  unfold num2
  go_wp2_with fail
  refine (rnumber_any _ _ (by unfold maxLen; omega)).mono ?_
  rw [HP.out]
  rintro e w2 ⟨rfl, rfl⟩
  unfold num2
  obtain ⟨v0, v1⟩ := hpb
  by_cases hc : c = 0
  · subst hc
    have HS := Lib.hid (str_back s _ (hpi rfl))
    clear hpi
    go_wp2_with fail
    refine (decimal_any _ _ HL1.out v0 v1).mono ?_
    rw [HS.out]
    rintro e w3 ⟨rfl, hb3⟩
    have HB3 := Lib.hid (below_tr HB1.out hb3)
    have HL3 := Lib.hid (HL1.out.below hb3)
    clear hb3
    go_wp2_with fail
    refine (decimal_any _ _ HL3.out h0 h1).mono ?_
    rintro e w4 ⟨rfl, hb4⟩
    have HB4 := Lib.hid (below_tr HB3.out hb4)
    have HL4 := Lib.hid (HL3.out.below hb4)
    clear hb4
    have hnum := HN.out
    have hsz : (⟨(Lib.itoa n).toArray⟩ : ByteArray).size ≤ 281474976710656 := by simp only [ByteArray.size, List.size_toArray]; omega
    have hdl : (⟨(Lib.itoa n).toArray⟩ : ByteArray).data.toList = Lib.itoa n := rfl
    generalize hd : (⟨(Lib.itoa n).toArray⟩ : ByteArray) = d at *
    rw [← hdl] at hnum
    have HNUM := Lib.hid hnum
    have HDD := Lib.hid hd
    clear hnum hdl hd
    go_wp2_with fail
    refine (number_any _ _ HL4.out hsz).mono ?_
    rw [HNUM.out]
    rintro e w5 ⟨rfl, hb5⟩
    have HB5 := Lib.hid (below_tr HB4.out hb5)
    have HL5 := Lib.hid (HL4.out.below hb5)
    clear hb5
    unfold num2
    go_wp2_with fail
    refine (decimal_any _ _ HL5.out h0 h1).mono ?_
    rw [HDD.out]
    rintro e w6 ⟨rfl, hb6⟩
    have HB6 := Lib.hid (below_tr HB5.out hb6)
    have HL6 := Lib.hid (HL5.out.below hb6)
    clear hb6
    go_wp2_with fail
    refine (rdecimal_any _ _ h0 h1).mono ?_
    unfold StrB
    rw [HDD.out]
    rintro e w7 ⟨rfl, hb7⟩
    have HB7 := Lib.hid (below_tr HB6.out hb7)
    have HL7 := Lib.hid (HL6.out.below hb7)
    clear hb7
    go_wp2_with fail
    refine (example_any _ HL7.out).mono ?_
    rintro e w8 ⟨rfl, hb8⟩
    have HB8 := Lib.hid (below_tr HB7.out hb8)
    clear hb8
    go_wp2_with fail
    go_ret
    exact ⟨by simp, HB8.out⟩
  · have hc0 : (c == 0) = false := by rw [beq_eq_false_iff_ne]; exact hc
    clear hpi
    go_wp2_with fail
    refine (decimal_any _ _ HL1.out h0 h1).mono ?_
    rintro e w4 ⟨rfl, hb4⟩
    have HB4 := Lib.hid (below_tr HB1.out hb4)
    have HL4 := Lib.hid (HL1.out.below hb4)
    clear hb4
    have hnum := HN.out
    have hsz : (⟨(Lib.itoa n).toArray⟩ : ByteArray).size ≤ 281474976710656 := by simp only [ByteArray.size, List.size_toArray]; omega
    have hdl : (⟨(Lib.itoa n).toArray⟩ : ByteArray).data.toList = Lib.itoa n := rfl
    generalize hd : (⟨(Lib.itoa n).toArray⟩ : ByteArray) = d at *
    rw [← hdl] at hnum
    have HNUM := Lib.hid hnum
    have HDD := Lib.hid hd
    clear hnum hdl hd
    go_wp2_with fail
    refine (number_any _ _ HL4.out hsz).mono ?_
    rw [HNUM.out]
    rintro e w5 ⟨rfl, hb5⟩
    have HB5 := Lib.hid (below_tr HB4.out hb5)
    have HL5 := Lib.hid (HL4.out.below hb5)
    clear hb5
    unfold num2
    go_wp2_with fail
    refine (decimal_any _ _ HL5.out h0 h1).mono ?_
    rw [HDD.out]
    rintro e w6 ⟨rfl, hb6⟩
    have HB6 := Lib.hid (below_tr HB5.out hb6)
    have HL6 := Lib.hid (HL5.out.below hb6)
    clear hb6
    go_wp2_with fail
    refine (rdecimal_any _ _ h0 h1).mono ?_
    unfold StrB
    rw [HDD.out]
    rintro e w7 ⟨rfl, hb7⟩
    have HB7 := Lib.hid (below_tr HB6.out hb7)
    have HL7 := Lib.hid (HL6.out.below hb7)
    clear hb7
    go_wp2_with fail
    refine (example_any _ HL7.out).mono ?_
    rintro e w8 ⟨rfl, hb8⟩
    have HB8 := Lib.hid (below_tr HB7.out hb8)
    clear hb8
    go_wp2_with fail
    go_ret
    exact ⟨by simp, HB8.out⟩
theorem numbers_row (s : ByteArray) (n : Int) (w : World) (hL : Laid w) (_ : s.size ≤ maxLen) (wf : (Lit.int .i64 n).wf = true) (hz : s.size ≤ 140737488351232) :
    Calls Tryd.prog 7 #[.string s, .int .i64 n] w fun e w' => e = .returned (.bool true) ∧ Below w.heap.size w w' := by
  have hb := bounds_i64 wf
  exact numbers_any s n w hL (by omega) hb.1 hb.2
end Go.Proofs.YtilknpfjlngfoaaDoor
