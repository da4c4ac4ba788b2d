
/-
  The law TokenReturns.
-/
import Derived.Test.YtpmahimlpajdcaaDoorOwn
namespace Go.Proofs.YtpmahimlpajdcaaDoor
open Go.RowKit
theorem esc_pos : ∀ c : UInt8, 1 ≤ (T1.escL c).length := all_u8 (by decide +kernel)
theorem flat_ge : ∀ t : List UInt8, t.length ≤ (t.flatMap T1.escL).length
  | [] => Nat.le_refl _
  | c :: t => by
    have h1 := esc_pos c
    have h2 := flat_ge t
    rw [List.flatMap_cons, List.length_append, List.length_cons]; omega
theorem word_ge (p : Tk) : p.2.1.length ≤ (wordK p).length := by
  unfold wordK
  split
  · have := flat_ge p.2.1
    unfold T1.quoteL
    simp only [List.length_cons, List.length_append, List.length_nil]; omega
  · exact Nat.le_refl _
theorem tail_ge : ∀ (ps : List Tk) (p : Tk), p ∈ ps → (wordK p).length ≤ (tailK ps).length
  | [], _, h => by simp at h
  | q :: r, p, h => by
    show _ ≤ (32 :: (wordK q ++ tailK r)).length
    rw [List.length_cons, List.length_append]
    rcases List.mem_cons.1 h with rfl | h
    · omega
    · have := tail_ge r p h; omega
/- What a short text's tokens are like. -/
theorem scan_small {l : List UInt8} {ts : List Tk} (hl : l.length ≤ 3000) (h : scR l = .ok ts) : ZOk (tz ts) ∧ ts.length ≤ 3001 := by
  unfold scR at h
  rw [if_neg (by omega)] at h
  obtain ⟨ps, rfl, h1, _⟩ := scF_places l _ 0 l ts h rfl (Nat.zero_le _)
  obtain ⟨g1, g2, g3⟩ := tail_len _ _ _ _ ps _ h rfl
  refine ⟨⟨by rw [tz_len, List.length_append]; show ps.length + 1 ≤ _; omega, ?_⟩, by rw [List.length_append]; show ps.length + 1 ≤ _; omega⟩
  intro q hq
  unfold tz at hq
  obtain ⟨p, hp, rfl⟩ := List.mem_map.1 hq
  show p.2.1.length ≤ 70000
  rcases List.mem_append.1 hp with hp | hp
  · have := word_ge p
    have := tail_ge ps p hp
    omega
  · simp at hp; subst hp; exact Nat.zero_le _
theorem alike_len {a b : List Tk} (h : alike a b) : a.length = b.length := by
  have := congrArg List.length h; simpa using this
theorem returns_early (s : ByteArray) (w : World) (hL : LK w) (h : 2000 < s.size) :
    Calls Tryd.prog 5 #[.string s] w fun e w' => e = .returned (.bool true) ∧ Below w.heap.size w w' := by
  have CALL := Lib.hid (long_any s w)
  have EX := Lib.hid (example_any w hL)
  clear hL
  by_cases h2 : s.size ≤ 65536
  · rw [decide_eq_true (And.intro h h2)] at CALL
    go_enter Tryd.func5, Tryd.ntmps5
    go_wp2_with fail
    refine CALL.out.mono ?_
    rintro e w1 ⟨rfl, rfl⟩
    go_wp2_with fail
    refine EX.out.mono ?_
    rintro e w2 ⟨rfl, hb⟩
    have HB := Lib.hid hb
    clear hb
    go_wp2_with fail
    go_ret
    exact ⟨rfl, HB.out⟩
  · rw [decide_eq_false (fun h => h2 h.2)] at CALL
    have g : (s.size : Int) > 65536 := by omega
    go_enter Tryd.func5, Tryd.ntmps5
    go_wp2_with fail
    refine CALL.out.mono ?_
    rintro e w1 ⟨rfl, rfl⟩
    go_wp2_with fail
    refine EX.out.mono ?_
    rintro e w2 ⟨rfl, hb⟩
    have HB := Lib.hid hb
    clear hb
    go_wp2_with fail
    go_ret
    exact ⟨rfl, HB.out⟩
set_option maxRecDepth 100000 in
set_option maxHeartbeats 4000000 in
theorem returns_late (s : ByteArray) (w : World) (hL : LK w) (h : s.size ≤ 2000) :
    Calls Tryd.prog 5 #[.string s] w fun e w' => e = .returned (.bool true) ∧ Below w.heap.size w w' := by
  have CALL := Lib.hid (long_any s w)
  rw [decide_eq_false (fun h2 => by omega)] at CALL
  have SC := Lib.hid (scan_any s w hL)
  have HL := Lib.hid hL
  have hsz := T1.size_eq s
  have g : ¬ (s.size : Int) > 65536 := by omega
  clear hL
  go_enter Tryd.func5, Tryd.ntmps5
  go_wp2_with fail
  refine CALL.out.mono ?_
  rintro e w1 ⟨rfl, rfl⟩
  go_wp2_with fail
  refine SC.out.mono ?_
  rintro e w2 ⟨ha, hb⟩
  have HB := Lib.hid hb
  have HL2 := Lib.hid (HL.out.below hb)
  clear hb CALL SC
  cases hR : scR s.data.toList with
  | error x =>
    rw [hR] at ha
    obtain ⟨i, c⟩ := x
    obtain ⟨rfl, hc⟩ := ha
    have hc0 : (c == 0) = false := beq_false_of_ne hc
    have EX := Lib.hid (example_any w2 HL2.out)
    clear hR hc
    go_wp2_with fail
    refine EX.out.mono ?_
    rintro e w3 ⟨rfl, hb⟩
    have HB3 := Lib.hid (HB.out.trans (hb.mono HB.out.size))
    clear hb
    go_wp2_with fail
    go_ret
    exact ⟨rfl, HB3.out⟩
  | ok ts =>
    rw [hR] at ha
    obtain ⟨v, rfl, hown⟩ := ha
    obtain ⟨hzok, htl⟩ := scan_small (by omega) hR
    obtain ⟨ps, ep, hk5, hjl, ts2, hR2, hal⟩ := scan_print (by omega) hR
    have hj : joinZ (tz ts) = joinK ps := by rw [ep]; exact join_K ps _ hk5
    have HTS2 := Lib.hid (alike_len hal)
    have HAL := Lib.hid (alike_z hal)
    have HOA := Lib.hid hown.z
    obtain ⟨A, c, rfl, hz, hc⟩ := hown.z.at
    have PR := Lib.hid (print_any (tz ts) hzok A c w2 hz)
    rw [hj] at PR
    have HTL := Lib.hid htl
    clear hown hz hc hR hzok hk5 ep hj hal htl
    go_wp2_with fail
    refine PR.out.mono ?_
    rintro e w3 ⟨rfl, hb⟩
    have HB3 := Lib.hid (HB.out.trans (hb.mono HB.out.size))
    have HOA3 := Lib.hid (HOA.out.stay hb)
    have SC0 := scan_any ⟨(joinK ps).toArray⟩ w3 (HL2.out.below hb)
    have e0 : (⟨(joinK ps).toArray⟩ : ByteArray).data.toList = joinK ps := by simp
    rw [e0, hR2] at SC0
    have SC2 := Lib.hid SC0
    have HL3 := Lib.hid (HL2.out.below hb)
    clear hb SC0 e0 hR2 PR HOA
    go_wp2_with fail
    refine SC2.out.mono ?_
    rintro e w4 ⟨⟨v2, rfl, hown2⟩, hb⟩
    have HB4 := Lib.hid (HB3.out.trans (hb.mono HB3.out.size))
    have HOA4 := Lib.hid (HOA3.out.stay hb)
    have HOB4 := Lib.hid hown2.z
    have HL4 := Lib.hid (HL3.out.below hb)
    obtain ⟨A4, c4, e4, hz4, _⟩ := HOA4.out.at
    injection e4 with e5 e6 e7
    subst e5 e7
    obtain ⟨B, d, rfl, hzb, _⟩ := HOB4.out.at
    have OA0 := own_any (tz ts) (by rw [tz_len]; have := HTL.out; omega) A c w4 hz4
    have OA := Lib.hid OA0
    have HTL2 : Hid (ts2.length ≤ 3001) := Lib.hid (by rw [← HTS2.out]; exact HTL.out)
    clear hb SC2 hown2 hz4 hzb OA0 HOA3 HOA4
    go_wp2_with fail
    refine OA.out.mono ?_
    rintro e w5 ⟨⟨va, rfl, howa⟩, hb⟩
    have HB5 := Lib.hid (HB4.out.trans (hb.mono HB4.out.size))
    have HVA := Lib.hid howa
    have HOB5 := Lib.hid (HOB4.out.stay hb)
    have HL5 := Lib.hid (HL4.out.below hb)
    obtain ⟨B5, d5, e8, hz5, _⟩ := HOB5.out.at
    injection e8 with e9 e10 e11
    subst e9 e11
    have OB0 := own_any (tz ts2) (by rw [tz_len]; have := HTL2.out; omega) B d w5 hz5
    have OB := Lib.hid OB0
    clear hb OA howa hz5 OB0 HOB4 HOB5
    go_wp2_with fail
    refine OB.out.mono ?_
    rintro e w6 ⟨⟨vb, rfl, howb⟩, hb⟩
    have HB6 := Lib.hid (HB5.out.trans (hb.mono HB5.out.size))
    have HL6 := Lib.hid (HL5.out.below hb)
    obtain ⟨A6, c6, ea6, hza6, _⟩ := (HVA.out.stay hb).at
    obtain ⟨B6, d6, eb6, hzb6, _⟩ := howb.at
    subst ea6 eb6
    have AK := Lib.hid (alike_any (tz ts) (tz ts2) (by rw [tz_len]; have := HTL.out; omega) HAL.out A6 B6 c6 d6 w6 hza6 hzb6)
    clear hb OB howb hza6 hzb6 HVA
    go_wp2_with fail
    refine AK.out.mono ?_
    rintro e w7 ⟨rfl, hb⟩
    have HB7 := Lib.hid (HB6.out.trans (hb.mono HB6.out.size))
    have EX := Lib.hid (example_any w7 (HL6.out.below hb))
    clear hb AK
    go_wp2_with fail
    refine EX.out.mono ?_
    rintro e w8 ⟨rfl, hb⟩
    have HB8 := Lib.hid (HB7.out.trans (hb.mono HB7.out.size))
    clear hb
    go_wp2_with fail
    go_ret
    exact ⟨rfl, HB8.out⟩
theorem returns_any (s : ByteArray) (w : World) (hL : LK w) (_hs : s.size ≤ maxLen) :
    Calls Tryd.prog 5 #[.string s] w fun e w' => e = .returned (.bool true) ∧ Below w.heap.size w w' := by
  rcases Nat.lt_or_ge 2000 s.size with h | h
  · exact returns_early s w hL h
  · exact returns_late s w hL h
end Go.Proofs.YtpmahimlpajdcaaDoor
