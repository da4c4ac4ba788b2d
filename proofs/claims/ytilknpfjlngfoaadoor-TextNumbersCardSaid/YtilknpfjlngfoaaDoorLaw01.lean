/-
  The laws of layer 1, walked.
-/
import Derived.Test.YtilknpfjlngfoaaDoorExample
namespace Go.Proofs.YtilknpfjlngfoaaDoor
open Go.RowKit
theorem names_any (s : ByteArray) (w : World) (hL : Laid w) (hs : s.size ≤ maxLen) :
    Calls Tryd.prog 3 #[.string s] w fun e w' => e = .returned (.bool true) ∧ Below w.heap.size w w' := by
  have HL := Lib.hid hL
  have HS := Lib.hid hs
  clear hL hs
  go_enter Tryd.func3, Tryd.ntmps3
  go_wp2_with fail
  refine (name_any _ _ HS.out).mono ?_
  rintro e w1 ⟨rfl, rfl⟩
  go_wp2_with fail
  refine (rname_any _ _ HS.out).mono ?_
  rintro e w1 ⟨rfl, rfl⟩
  go_wp2_with fail
  refine (reserved_any _ _).mono ?_
  rintro e w1 ⟨rfl, rfl⟩
  go_wp2_with fail
  refine (rres_any _ _ HS.out).mono ?_
  rintro e w1 ⟨rfl, rfl⟩
  go_wp2_with fail
  refine (example_any _ HL.out).mono ?_
  rintro e w1 ⟨rfl, hb⟩
  go_wp2_with fail
  go_ret
  exact ⟨by simp, hb⟩
theorem quotes_long (s : ByteArray) (w : World) (hL : Laid w) (hs : s.size ≤ maxLen) (h : 2000 < s.size) :
    Calls Tryd.prog 4 #[.string s] w fun e w' => e = .returned (.bool true) ∧ Below w.heap.size w w' := by
  have HL := Lib.hid hL
  have HS := Lib.hid hs
  have h1 : decide (2000 < s.size) = true := by simpa using h
  clear hL hs
  go_enter Tryd.func4, Tryd.ntmps4
  go_wp2_with fail
  refine (long_any _ _ HS.out).mono ?_
  rintro e w1 ⟨rfl, rfl⟩
  go_wp2_with fail
  refine (example_any _ HL.out).mono ?_
  rintro e w1 ⟨rfl, hb⟩
  go_wp2_with fail
  go_ret
  exact ⟨rfl, hb⟩
theorem quote_bytes (l : List UInt8) : ∀ c ∈ quoteL l, 32 ≤ (c.toNat : Int) ∧ (c.toNat : Int) ≤ 126 := by
  have h1 : ∀ n : Fin 16, 32 ≤ ((hexC n.val).toNat : Int) ∧ ((hexC n.val).toNat : Int) ≤ 126 := by decide +kernel
  intro c hc
  unfold quoteL at hc
  simp only [List.cons_append, List.mem_cons, List.mem_append, List.mem_flatMap, List.not_mem_nil, or_false] at hc
  rcases hc with rfl | ⟨d, _, hd⟩ | rfl
  · decide
  · unfold escL at hd
    by_cases e1 : d = 34
    · rw [if_pos e1] at hd; simp at hd; rcases hd with rfl | rfl <;> decide
    rw [if_neg e1] at hd
    by_cases e2 : d = 92
    · rw [if_pos e2] at hd; simp at hd; subst hd; decide
    rw [if_neg e2] at hd
    by_cases e3 : d = 10
    · rw [if_pos e3] at hd; simp at hd; rcases hd with rfl | rfl <;> decide
    rw [if_neg e3] at hd
    by_cases e4 : d = 13
    · rw [if_pos e4] at hd; simp at hd; rcases hd with rfl | rfl <;> decide
    rw [if_neg e4] at hd
    by_cases e5 : d = 9
    · rw [if_pos e5] at hd; simp at hd; rcases hd with rfl | rfl <;> decide
    rw [if_neg e5] at hd
    by_cases e6 : prB (d.toNat : Int) = true
    · rw [if_pos e6] at hd
      simp only [List.mem_singleton] at hd
      subst hd
      unfold prB at e6
      simpa using e6
    · rw [if_neg e6] at hd
      have hdl := d.toNat_lt
      have k1 := h1 ⟨d.toNat / 16, by omega⟩
      have k2 := h1 ⟨d.toNat % 16, by omega⟩
      simp only [List.mem_cons, List.not_mem_nil, or_false] at hd
      rcases hd with rfl | rfl | rfl | rfl | rfl | rfl
      · decide
      · decide
      · decide
      · decide
      · exact k1
      · exact k2
  · decide
theorem quote_byteAt {l : List UInt8} {d : ByteArray} (hd : (⟨(quoteL l).toArray⟩ : ByteArray) = d) : ∀ (k : Nat) (h : k < d.size), 32 ≤ (d[k].toNat : Int) ∧ (d[k].toNat : Int) ≤ 126 := by
  subst hd
  intro k h
  have h' : k < (quoteL l).length := by simpa [ByteArray.size] using h
  exact quote_bytes l _ (List.getElem_mem (l := quoteL l) (n := k) h')
theorem quotes_short (s : ByteArray) (w : World) (hL : Laid w) (h : s.size ≤ 2000) :
    Calls Tryd.prog 4 #[.string s] w fun e w' => e = .returned (.bool true) ∧ Below w.heap.size w w' := by
  have HL := Lib.hid hL
  have h1 : decide (2000 < s.size) = false := by simpa using h
  clear hL
  have hql : (quoteL s.data.toList).length ≤ 12002 := by
    have h2 := flat_len s.data.toList
    have h3 := size_eq s
    unfold quoteL
    simp only [List.length_cons, List.length_append, List.length_nil]; omega
  go_enter Tryd.func4, Tryd.ntmps4
  go_wp2_with fail
  refine (long_any _ _ (by unfold maxLen; omega)).mono ?_
  rintro e w1 ⟨rfl, rfl⟩
  go_wp2_with fail
  refine (quote_any _ _ (by omega)).mono ?_
  rintro e w1 ⟨rfl, hb1⟩
  have HB1 := Lib.hid hb1
  have HL1 := Lib.hid (HL.out.below hb1)
  clear hb1
  generalize hq : (⟨(quoteL s.data.toList).toArray⟩ : ByteArray) = q at *
  have hqb := Lib.hid (quote_byteAt hq)
  have hqs : q.size ≤ 12002 := by rw [← hq]; simpa [ByteArray.size] using hql
  have HQ := Lib.hid hq
  clear hq hql
  go_wp2_with fail
  go_loop [4] (fun i => ∃ k : Nat, k ≤ q.size ∧ i = .int .i64 k) (fun i => q.size - (intOf i).toNat)
  case atStart => exact ⟨0, Nat.zero_le _, rfl⟩
  case round =>
    obtain ⟨k, hk, rfl⟩ := hrel
    by_cases hlt : k < q.size
    · obtain ⟨b1, b2⟩ := hqb.out k hlt
      go_wp2
      go_round
      case rel => exact ⟨k + 1, by omega, by go_num⟩
      case measure => simp [intOf]; omega
    · go_wp2_with fail
      refine (rquote_any _ _ (by omega)).mono ?_
      rintro e w2 ⟨rfl, hb2⟩
      have HB2 := Lib.hid (below_tr HB1.out hb2)
      have HL2 := Lib.hid (HL1.out.below hb2)
      clear hb2
      rw [HQ.out]
      go_wp2_with fail
      refine (example_any _ HL2.out).mono ?_
      rintro e w3 ⟨rfl, hb3⟩
      have HB3 := Lib.hid (below_tr HB2.out hb3)
      clear hb3
      go_wp2
      go_ret
      exact ⟨by simp, HB3.out⟩
end Go.Proofs.YtilknpfjlngfoaaDoor
