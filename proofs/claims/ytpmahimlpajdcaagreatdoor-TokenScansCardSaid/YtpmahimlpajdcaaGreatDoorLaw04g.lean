
/-
  The law TokenScans.
-/
import Derived.Test.YtpmahimlpajdcaaGreatDoorRScan
import Derived.Test.YtpmahimlpajdcaaGreatDoorRSame
namespace Go.Proofs.YtpmahimlpajdcaaGreatDoor
open Go.RowKit
theorem scF_count : ∀ (f a : Nat) (l : List UInt8) (ts : List Tk), scF f a l = .ok ts → ts.length ≤ l.length + 1
  | 0, _, _, _, h => by cases h
  | f + 1, a, l, ts, h => by
    have hs := sepN_le l
    unfold scF at h
    by_cases he : l.drop (sepN l) = []
    · rw [if_pos he] at h; cases h; simp
    · rw [if_neg he] at h
      cases ht : tokR (l.drop (sepN l)) with
      | error c => rw [ht] at h; cases h
      | ok p =>
        obtain ⟨k, t, n⟩ := p
        have h1 := tokR_len he ht
        rw [ht] at h
        simp only at h
        rw [List.length_drop] at h1
        cases hr : scF f (a + sepN l + n) ((l.drop (sepN l)).drop n) with
        | error e => rw [hr] at h; cases h
        | ok r =>
          rw [hr] at h
          cases h
          have := scF_count f _ _ _ hr
          rw [List.length_drop, List.length_drop] at this
          rw [List.length_cons]; omega
theorem scR_count {l : List UInt8} {ts : List Tk} (h : scR l = .ok ts) : ts.length ≤ l.length + 1 := by
  unfold scR at h
  split at h
  · cases h
  · exact scF_count _ _ _ _ h
set_option maxRecDepth 100000 in
set_option maxHeartbeats 4000000 in
theorem scans_long (s : ByteArray) (w : World) (hL : LK w) (h : 2000 < s.size ∧ s.size ≤ 65536) :
    Calls Tryz.prog 3 #[.string s] w fun e w' => e = .returned (.bool true) ∧ Below w.heap.size w w' := by
  have CALL := Lib.hid (long_any s w)
  have EX := Lib.hid (example_any w hL)
  clear hL
  rw [decide_eq_true h] at CALL
  go_enter Tryz.func3, Tryz.ntmps3
  go_wp2_with fail
  refine CALL.out.mono ?_
  rintro e w1 ⟨rfl, rfl⟩
  go_wp2_with fail
  refine EX.out.mono ?_
  rintro e w2 ⟨rfl, hb⟩
  have HB := Lib.hid hb
  clear hb
  go_wp2_with fail
  go_ret
  exact ⟨rfl, HB.out⟩
set_option maxRecDepth 100000 in
set_option maxHeartbeats 4000000 in
theorem scans_other (s : ByteArray) (w : World) (hL : LK w) (h : ¬ (2000 < s.size ∧ s.size ≤ 65536)) :
    Calls Tryz.prog 3 #[.string s] w fun e w' => e = .returned (.bool true) ∧ Below w.heap.size w w' := by
  have CALL := Lib.hid (long_any s w)
  rw [decide_eq_false h] at CALL
  have SC := Lib.hid (scan_any s w hL)
  have RS := Lib.hid (fun w2 => rscan_any s w2)
  have HL := Lib.hid hL
  have hsz := T1.size_eq s
  clear hL
  go_enter Tryz.func3, Tryz.ntmps3
  go_wp2_with fail
  refine CALL.out.mono ?_
  rintro e w1 ⟨rfl, rfl⟩
  go_wp2_with fail
  refine SC.out.mono ?_
  rintro e w2 ⟨ha, hb⟩
  have HB := Lib.hid hb
  have HL2 := Lib.hid (HL.out.below hb)
  clear hb CALL SC
  cases hR : scR s.data.toList with
  | error x =>
    rw [hR] at ha RS
    obtain ⟨i, c⟩ := x
    obtain ⟨rfl, hc⟩ := ha
    have OW := Lib.hid (fun w3 => own_any [] (by simp) none 0 w3 (fun h0 => absurd h0 (Nat.lt_irrefl 0)))
    clear hR hc
    go_wp2_with fail
    refine (RS.out w2).mono ?_
    rintro e w3 ⟨⟨rfl, _⟩, hb⟩
    have HB3 := Lib.hid (HB.out.trans (hb.mono HB.out.size))
    have HL3 := Lib.hid (HL2.out.below hb)
    clear hb
    go_wp2_with fail
    refine (OW.out w3).mono ?_
    rintro e w4 ⟨⟨v, rfl, hv⟩, hb⟩
    have HB4 := Lib.hid (HB3.out.trans (hb.mono HB3.out.size))
    have HL4 := Lib.hid (HL3.out.below hb)
    obtain ⟨A, d, rfl, _, _⟩ := hv.at
    have SM := Lib.hid (same_any [] (by simp) A none d 0 w4 (fun h0 => absurd h0 (Nat.lt_irrefl 0)) (fun h0 => absurd h0 (Nat.lt_irrefl 0)))
    clear hb hv
    go_wp2_with fail
    refine SM.out.mono ?_
    rintro e w5 ⟨rfl, hb⟩
    have HB5 := Lib.hid (HB4.out.trans (hb.mono HB4.out.size))
    have EX := Lib.hid (example_any w5 (HL4.out.below hb))
    clear hb SM OW RS
    go_wp2_with fail
    refine EX.out.mono ?_
    rintro e w6 ⟨rfl, hb⟩
    have HB6 := Lib.hid (HB5.out.trans (hb.mono HB5.out.size))
    clear hb
    go_wp2_with fail
    go_ret
    exact ⟨rfl, HB6.out⟩
  | ok ts =>
    rw [hR] at ha RS
    obtain ⟨v, rfl, hown⟩ := ha
    have hct := scR_count hR
    have hs2 : s.size ≤ 65536 := by
      rcases Nat.lt_or_ge 65536 s.size with h2 | h2
      · unfold scR at hR; rw [if_pos (by omega)] at hR; cases hR
      · exact h2
    have HTL : Hid ((tz ts).length ≤ 70000) := Lib.hid (by rw [tz_len]; omega)
    have HOA := Lib.hid hown.z
    clear hown hR hct hs2
    go_wp2_with fail
    refine (RS.out w2).mono ?_
    rintro e w3 ⟨⟨vb, rfl, howb⟩, hb⟩
    have HB3 := Lib.hid (HB.out.trans (hb.mono HB.out.size))
    have HOA3 := Lib.hid (HOA.out.stay hb)
    have HOB3 := Lib.hid howb
    have HL3 := Lib.hid (HL2.out.below hb)
    obtain ⟨A, c, rfl, hz3, _⟩ := HOA3.out.at
    have OA := Lib.hid (own_any (tz ts) HTL.out A c w3 hz3)
    clear hb howb hz3 HOA RS
    go_wp2_with fail
    refine OA.out.mono ?_
    rintro e w4 ⟨⟨va, rfl, howa⟩, hb⟩
    have HB4 := Lib.hid (HB3.out.trans (hb.mono HB3.out.size))
    have HOB4 := Lib.hid (HOB3.out.stay hb)
    have HL4 := Lib.hid (HL3.out.below hb)
    obtain ⟨A4, c4, rfl, hz4, _⟩ := howa.at
    obtain ⟨B4, d4, rfl, hy4, _⟩ := HOB4.out.at
    have SM := Lib.hid (same_any (tz ts) HTL.out A4 B4 c4 d4 w4 hz4 hy4)
    clear hb howa hz4 hy4 OA
    go_wp2_with fail
    refine SM.out.mono ?_
    rintro e w5 ⟨rfl, hb⟩
    have HB5 := Lib.hid (HB4.out.trans (hb.mono HB4.out.size))
    have EX := Lib.hid (example_any w5 (HL4.out.below hb))
    clear hb SM
    go_wp2_with fail
    refine EX.out.mono ?_
    rintro e w6 ⟨rfl, hb⟩
    have HB6 := Lib.hid (HB5.out.trans (hb.mono HB5.out.size))
    clear hb
    go_wp2_with fail
    go_ret
    exact ⟨rfl, HB6.out⟩
theorem scans_any (s : ByteArray) (w : World) (hL : LK w) (_hs : s.size ≤ maxLen) :
    Calls Tryz.prog 3 #[.string s] w fun e w' => e = .returned (.bool true) ∧ Below w.heap.size w w' := by
  by_cases h : 2000 < s.size ∧ s.size ≤ 65536
  · exact scans_long s w hL h
  · exact scans_other s w hL h
end Go.Proofs.YtpmahimlpajdcaaGreatDoor
