
/-
  The law TokenPlaces.
-/
import Derived.Test.YtpmahimlpajdcaaDoorLaw04a
namespace Go.Proofs.YtpmahimlpajdcaaDoor
open Go.RowKit
theorem TB.past {W : World} {b : Nat} {c0 c1 c2 : Value} (h : TB W b c0 c1 c2) : (∀ x : Past W, x.w.cell? ⟨b, 0, none⟩ = some c0) ∧ (∀ x : Past W, x.w.cell? ⟨b, 1, none⟩ = some c1) ∧ (∀ x : Past W, x.w.cell? ⟨b, 2, none⟩ = some c2) := by
  have hx := fun x : Past W => TB.cells (W := x.w) (past_block h x)
  exact ⟨fun x => (hx x).1, fun x => (hx x).2.1, fun x => (hx x).2.2⟩
theorem places_early (s : ByteArray) (w : World) (hL : LK w) (h1 : 2000 < s.size) (h2 : s.size ≤ 65536) :
    Calls Tryd.prog 6 #[.string s] w fun e w' => e = .returned (.bool true) ∧ Below w.heap.size w w' := by
  have CALL := Lib.hid (long_any s w)
  rw [decide_eq_true (And.intro h1 h2)] at CALL
  have EX := Lib.hid (example_any w hL)
  clear hL
  go_enter Tryd.func6, Tryd.ntmps6
  go_wp2_with fail
  refine CALL.out.mono ?_
  rintro e w1 ⟨rfl, rfl⟩
  go_wp2_with fail
  refine EX.out.mono ?_
  rintro e w2 ⟨rfl, hb⟩
  have HB := Lib.hid hb
  clear hb
  go_wp2_with fail
  go_ret
  exact ⟨rfl, HB.out⟩
set_option maxRecDepth 100000 in
set_option maxHeartbeats 4000000 in
theorem places_scan (s : ByteArray) (w : World) (hL : LK w) (h12 : ¬ (2000 < s.size ∧ s.size ≤ 65536)) :
    Calls Tryd.prog 6 #[.string s] w fun e w' => e = .returned (.bool true) ∧ Below w.heap.size w w' := by
  have CALL := Lib.hid (long_any s w)
  rw [decide_eq_false h12] at CALL
  have SC := Lib.hid (scan_any s w hL)
  have HL := Lib.hid hL
  have hsz := T1.size_eq s
  have hml : maxLen ≤ 9223372036854775807 := by decide
  clear hL h12
  go_enter Tryd.func6, Tryd.ntmps6
  go_wp2_with fail
  refine CALL.out.mono ?_
  rintro e w1 ⟨rfl, rfl⟩
  go_wp2_with fail
  refine SC.out.mono ?_
  rintro e w2 ⟨ha, hb⟩
  have HB := Lib.hid hb
  have EX := Lib.hid (example_any w2 (HL.out.below hb))
  cases hR : scR s.data.toList with
  | error x =>
    rw [hR] at ha
    obtain ⟨i, c⟩ := x
    obtain ⟨rfl, hc⟩ := ha
    have hc0 : (c == 0) = false := beq_false_of_ne hc
    clear hb hR hc SC
    go_wp2_with fail
    refine EX.out.mono ?_
    rintro e w3 ⟨rfl, hb⟩
    have HB3 := Lib.hid (HB.out.trans (hb.mono HB.out.size))
    clear hb
    go_wp2_with fail
    go_ret
    exact ⟨rfl, HB3.out⟩
  | ok ts =>
    rw [hR] at ha
    obtain ⟨v, rfl, hown⟩ := ha
    obtain ⟨A, c, rfl, hz, hc⟩ := hown.z.at
    have hsm : s.data.toList.length ≤ 65536 := by
      rcases Nat.lt_or_ge 65536 s.data.toList.length with h | h
      · unfold scR at hR; rw [if_pos h] at hR; cases hR
      · exact h
    have hF : scF (s.data.toList.length + 1) 0 s.data.toList = .ok ts := by unfold scR at hR; rw [if_neg (by omega)] at hR; exact hR
    obtain ⟨ps, rfl, hpl, hasc⟩ := scF_places s.data.toList _ 0 _ ts hF rfl (Nat.zero_le _)
    have HZ := Lib.hid hz
    have HPL := Lib.hid hpl
    have HASC := Lib.hid hasc
    have hpn := (tail_len _ _ _ _ ps _ hF rfl).2.1
    have hlen : (tz (ps ++ [(5, [], s.data.toList.length)])).length = ps.length + 1 := by rw [tz_len, List.length_append]; rfl
    have hlast : (tz (ps ++ [(5, [], s.data.toList.length)]))[ps.length]? = some (5, [], (s.size : Int)) := by
      unfold tz
      rw [List.map_append, List.getElem?_append_right (by simp)]
      simp [hsz]
    obtain ⟨a, k9, t9, i9, rfl, hp, h0, h1, h2⟩ := z_round (j := ps.length) hz (Below.refl _ _) (by omega)
    rw [hlast] at hp
    injection hp with hp
    injection hp with p1 hp
    injection hp with p2 p3
    subst p1 p2 p3
    rw [hlen]
    have HLEN := Lib.hid hlen
    have e1 : ((ps.length + 1 : Nat) : Int) - 1 = (ps.length : Int) := by omega
    have e2 : ¬ ((ps.length + 1 : Nat) : Int) < 1 := by omega
    have e3 : (ps.length : Int) < ((ps.length + 1 : Nat) : Int) := by omega
    clear hb hown hz hc hpl hasc hR hF hlen hlast CALL SC
    go_wp2_with fail
    go_loopw [6] (fun i wr => ∃ k : Nat, i = .int .i64 k ∧ k ≤ ps.length ∧ Below w2.heap.size w2 wr) (fun i _ => ps.length - (intOf i).toNat)
    case atStart => exact ⟨0, rfl, Nat.zero_le _, Below.refl _ _⟩
    case round =>
      obtain ⟨k, rfl, hk, hb⟩ := hrel
      have HBR := Lib.hid hb
      clear h0 h1 h2
      by_cases hlt : k < ps.length
      · obtain ⟨a', kd, t, at', ea, hp, h0, h1, h2⟩ := z_round (j := k) HZ.out hb (by have := HLEN.out; omega)
        obtain rfl : a = a' := Option.some.inj ea
        obtain ⟨⟨kd', t', n⟩, hpk⟩ : ∃ p, ps[k]? = some p := ⟨_, List.getElem?_eq_getElem hlt⟩
        have hp2 : (kd', t', (n : Int)) = (kd, t, at') := by
          unfold tz at hp
          rw [List.getElem?_map, List.getElem?_append_left hlt, hpk] at hp
          exact Option.some.inj hp
        injection hp2 with p1 hp2
        injection hp2 with p2 p3
        subst p1 p2 p3
        have PO := Lib.hid (HPL.out _ (List.mem_of_getElem? hpk))
        have n1 : (n : Int) < s.size := by have : n < s.data.toList.length := PO.out.lt; omega
        have n2 : (0 : Int) ≤ n := by omega
        have n5 : (kd' == 5) = false := beq_false_of_ne PO.out.kind
        have q1 : (k : Int) < ((ps.length + 1 : Nat) : Int) := by omega
        have q2 : (k : Int) < (ps.length : Int) := by omega
        have hX : TB (wr.alloc (.cells #[.int .i64 kd', .string ⟨t'.toArray⟩, .int .i64 n] 32 (0, 0))) wr.heap.size (.int .i64 kd') (.string ⟨t'.toArray⟩) (.int .i64 n) := heap_alloc_new wr _
        have hb1 := (Below.refl wr.heap.size wr).alloc (Nat.le_refl _) (.cells #[.int .i64 kd', .string ⟨t'.toArray⟩, .int .i64 n] 32 (0, 0))
        have HB1 := Lib.hid (HBR.out.trans (hb1.mono HBR.out.size))
        obtain ⟨x0, x1, x2⟩ := hX.cells
        have HX := Lib.hid hX
        obtain ⟨tb, htb⟩ : ∃ tb : ByteArray, (⟨t'.toArray⟩ : ByteArray) = tb := ⟨_, rfl⟩
        have htl : tb.data.toList = t' := by rw [← htb]
        have HTL := Lib.hid htl
        rw [htb] at x1 h1 HX HB1
        clear hp hX hb1 htl htb
        by_cases hk0 : k = 0
        · have g0 : ¬ ((k : Int) > 0) := by omega
          clear hk0 hpk
          go_wp2_with fail
          clear h0 h1 h2 x0 x1 x2
          refine wp_region_past (fun W => TB W wr.heap.size (.int .i64 kd') (.string tb) (.int .i64 n) ∧ Below w2.heap.size w2 W) ⟨HX.out, HB1.out⟩ (by kernel_rfl) ?_
          intro W ⟨f1, f2⟩ hbw
          obtain ⟨y0, y1, y2⟩ := f1.past
          have d0 : decide ((n : Int) < 0) = false := decide_eq_false (by omega)
          have d3 : decide (s.size ≤ n) = false := decide_eq_false (by omega)
          have d4 : decide (0 < k) = false := decide_eq_false (by omega)
          repeat (go_big_quiet_step (fail))
          refine wpQuiet_nil ?_
          intro _ hw'
          obtain ⟨xw, rfl⟩ := hw'
          have HBX := Lib.hid (f2.trans (xw.b.mono f2.size))
          have HXX := Lib.hid (f1.stay xw.b)
          clear y0 y1 y2 f1 f2 hbw
          generalize xw.w = wx at *
          go_wp2_with fail
          by_cases h4 : kd' = 4
          · have hs4 : (s[n]'(by omega)).toNat = 34 := by
              have h5 := PO.out.text h4
              have h6 : s.data.toList.getD n 0 = s[n]'(by omega) := T1.getD_at s n (by omega)
              have h7 : s[n]'(by omega) = 34 := h6.symm.trans h5
              rw [h7]; rfl
            subst h4
            refine wp_region_past (fun W => TB W wr.heap.size (.int .i64 4) (.string tb) (.int .i64 n) ∧ Below w2.heap.size w2 W) ⟨HXX.out, HBX.out⟩ (by kernel_rfl) ?_
            intro W ⟨f1, f2⟩ hbw
            obtain ⟨y0, y1, y2⟩ := f1.past
            repeat (go_big_quiet_step (fail))
            refine wpQuiet_nil ?_
            intro _ hw'
            obtain ⟨xw, rfl⟩ := hw'
            have HBY := Lib.hid (f2.trans (xw.b.mono f2.size))
            clear y0 y1 y2 f1 f2 hbw
            generalize xw.w = wy at *
            go_wp2_with fail
            go_roundw
            case rel => exact ⟨k + 1, by go_num, by omega, HBY.out⟩
            case measure => simp [intOf]; omega
          · have hot := PO.out.other h4
            have k4 : (kd' == 4) = false := beq_false_of_ne h4
            have k4' : (kd' != 4) = true := by simpa using h4
            have hts : n + tb.size ≤ s.size := by have := hot.1; rw [← T1.size_eq tb, HTL.out, ← hsz]; exact this
            have hts1 : (n : Int) + tb.size ≤ s.size := by omega
            have hts2 : (n : Int) ≤ (n : Int) + tb.size := by omega
            have hts3 : ((n : Int) + tb.size).toNat = n + tb.size := by omega
            have hts4 : decide ((s.size : Int) < (n : Int) + tb.size) = false := decide_eq_false (by omega)
            have hex : s.extract n (n + tb.size) = tb := by
              have h5 : (s.extract n (n + tb.size)).data.toList = tb.data.toList := by
                rw [ByteArray.data_extract, Array.toList_extract, HTL.out]
                show (s.data.toList.drop n).take (n + tb.size - n) = t'
                rw [Nat.add_sub_cancel_left]
                have := hot.2
                rw [← T1.size_eq tb, HTL.out]; exact this
              exact ByteArray.ext (Array.toList_inj.1 h5)
            clear hot h4
            refine wp_region_past (fun W => TB W wr.heap.size (.int .i64 kd') (.string tb) (.int .i64 n) ∧ Below w2.heap.size w2 W) ⟨HXX.out, HBX.out⟩ (by kernel_rfl) ?_
            intro W ⟨f1, f2⟩ hbw
            obtain ⟨y0, y1, y2⟩ := f1.past
            repeat (go_big_quiet_step (fail))
            refine wpQuiet_nil ?_
            intro _ hw'
            obtain ⟨xw, rfl⟩ := hw'
            have HBY := Lib.hid (f2.trans (xw.b.mono f2.size))
            clear y0 y1 y2 f1 f2 hbw
            generalize xw.w = wy at *
            go_wp2_with fail
            go_roundw
            case rel => exact ⟨k + 1, by go_num, by omega, HBY.out⟩
            case measure => simp [intOf]; omega
        · obtain ⟨j, rfl⟩ : ∃ j, k = j + 1 := ⟨k - 1, by omega⟩
          obtain ⟨kj, tj, nj, hpj, hnj⟩ : ∃ (kj : Int) (tj : List UInt8) (nj : Nat), ps[j]? = some (kj, tj, nj) ∧ nj < n := by
            have h5 : ps[j]? = some ps[j] := List.getElem?_eq_getElem (by omega)
            have h6 := List.pairwise_iff_getElem.1 HASC.out j (j + 1) (by omega) hlt (by omega)
            rw [(List.getElem?_eq_some_iff.1 hpk).2] at h6
            exact ⟨_, _, _, h5, h6⟩
          have hpz : (tz (ps ++ [(5, [], s.data.toList.length)]))[j]? = some (kj, tj, (nj : Int)) := by
            unfold tz
            rw [List.getElem?_map, List.getElem?_append_left (by omega), hpj]; rfl
          obtain ⟨a2, ea2, ha2, hcl⟩ := HZ.out (by have := HLEN.out; omega)
          obtain rfl : a = a2 := Option.some.inj ea2
          have HPC := Lib.hid (hcl j _ hpz)
          have HPA : Hid ((a.add (j * 3)).block < w2.heap.size) := Lib.hid (by rw [add_block]; exact ha2)
          have q3 : (j : Int) < ((ps.length + 1 : Nat) : Int) := by omega
          have q4 : (j : Int) < (ps.length : Int) + 1 := by omega
          clear hk0 hpk hpj hpz hcl ha2 ea2
          go_wp2_with fail
          clear h0 h1 h2 x0 x1 x2
          refine wp_region_past (fun W => TB W wr.heap.size (.int .i64 kd') (.string tb) (.int .i64 n) ∧ Below w2.heap.size w2 W) ⟨HX.out, HB1.out⟩ (by kernel_rfl) ?_
          intro W ⟨f1, f2⟩ hbw
          obtain ⟨y0, y1, y2⟩ := f1.past
          have d0 : decide ((n : Int) < 0) = false := decide_eq_false (by omega)
          have d3 : decide (s.size ≤ n) = false := decide_eq_false (by omega)
          have d5 : decide (n ≤ nj) = false := decide_eq_false (by omega)
          have hpx : ∀ x : Past W, x.w.cell? ⟨(a.add (j * 3)).block, (a.add (j * 3)).off + 2, none⟩ = some (.int .i64 nj) := fun x => ((HPC.out.kept HPA.out (f2.trans (x.b.mono f2.size)))).2.2
          repeat (go_big_quiet_step (fail))
          refine wpQuiet_nil ?_
          intro _ hw'
          obtain ⟨xw, rfl⟩ := hw'
          have HBX := Lib.hid (f2.trans (xw.b.mono f2.size))
          have HXX := Lib.hid (f1.stay xw.b)
          clear y0 y1 y2 f1 f2 hbw
          generalize xw.w = wx at *
          go_wp2_with fail
          by_cases h4 : kd' = 4
          · have hs4 : (s[n]'(by omega)).toNat = 34 := by
              have h5 := PO.out.text h4
              have h6 : s.data.toList.getD n 0 = s[n]'(by omega) := T1.getD_at s n (by omega)
              have h7 : s[n]'(by omega) = 34 := h6.symm.trans h5
              rw [h7]; rfl
            subst h4
            refine wp_region_past (fun W => TB W wr.heap.size (.int .i64 4) (.string tb) (.int .i64 n) ∧ Below w2.heap.size w2 W) ⟨HXX.out, HBX.out⟩ (by kernel_rfl) ?_
            intro W ⟨f1, f2⟩ hbw
            obtain ⟨y0, y1, y2⟩ := f1.past
            repeat (go_big_quiet_step (fail))
            refine wpQuiet_nil ?_
            intro _ hw'
            obtain ⟨xw, rfl⟩ := hw'
            have HBY := Lib.hid (f2.trans (xw.b.mono f2.size))
            clear y0 y1 y2 f1 f2 hbw
            generalize xw.w = wy at *
            go_wp2_with fail
            go_roundw
            case rel => exact ⟨j + 1 + 1, by go_num, by omega, HBY.out⟩
            case measure => simp [intOf]; omega
          · have hot := PO.out.other h4
            have k4 : (kd' == 4) = false := beq_false_of_ne h4
            have k4' : (kd' != 4) = true := by simpa using h4
            have hts : n + tb.size ≤ s.size := by have := hot.1; rw [← T1.size_eq tb, HTL.out, ← hsz]; exact this
            have hts1 : (n : Int) + tb.size ≤ s.size := by omega
            have hts2 : (n : Int) ≤ (n : Int) + tb.size := by omega
            have hts3 : ((n : Int) + tb.size).toNat = n + tb.size := by omega
            have hts4 : decide ((s.size : Int) < (n : Int) + tb.size) = false := decide_eq_false (by omega)
            have hex : s.extract n (n + tb.size) = tb := by
              have h5 : (s.extract n (n + tb.size)).data.toList = tb.data.toList := by
                rw [ByteArray.data_extract, Array.toList_extract, HTL.out]
                show (s.data.toList.drop n).take (n + tb.size - n) = t'
                rw [Nat.add_sub_cancel_left]
                have := hot.2
                rw [← T1.size_eq tb, HTL.out]; exact this
              exact ByteArray.ext (Array.toList_inj.1 h5)
            clear hot h4
            refine wp_region_past (fun W => TB W wr.heap.size (.int .i64 kd') (.string tb) (.int .i64 n) ∧ Below w2.heap.size w2 W) ⟨HXX.out, HBX.out⟩ (by kernel_rfl) ?_
            intro W ⟨f1, f2⟩ hbw
            obtain ⟨y0, y1, y2⟩ := f1.past
            repeat (go_big_quiet_step (fail))
            refine wpQuiet_nil ?_
            intro _ hw'
            obtain ⟨xw, rfl⟩ := hw'
            have HBY := Lib.hid (f2.trans (xw.b.mono f2.size))
            clear y0 y1 y2 f1 f2 hbw
            generalize xw.w = wy at *
            go_wp2_with fail
            go_roundw
            case rel => exact ⟨j + 1 + 1, by go_num, by omega, HBY.out⟩
            case measure => simp [intOf]; omega
      · have hke : ¬ ((k : Int) < (ps.length : Int)) := by omega
        have EX2 := Lib.hid (example_any wr ((HL.out.below HB.out).below HBR.out))
        have HB4 := Lib.hid (HB.out.trans (HBR.out.mono HB.out.size))
        go_wp2_with fail
        refine EX2.out.mono ?_
        rintro e w5 ⟨rfl, hb5⟩
        have HB5 := Lib.hid (HB4.out.trans (hb5.mono HB4.out.size))
        clear hb5
        go_wp2_with fail
        go_ret
        exact ⟨rfl, HB5.out⟩
theorem places_any (s : ByteArray) (w : World) (hL : LK w) (_hs : s.size ≤ maxLen) :
    Calls Tryd.prog 6 #[.string s] w fun e w' => e = .returned (.bool true) ∧ Below w.heap.size w w' := by
  by_cases h : 2000 < s.size ∧ s.size ≤ 65536
  · exact places_early s w hL h.1 h.2
  · exact places_scan s w hL h
end Go.Proofs.YtpmahimlpajdcaaDoor
