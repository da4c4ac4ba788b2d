
/-
  Parse of the program.
-/
import Derived.Test.YtgicbmibhnnflaaGreatDoorYRefr
import Derived.Test.YtgicbmibhnnflaaGreatDoorKFact3
namespace Go.Proofs.YtgicbmibhnnflaaGreatDoor
open Go.RowKit
def PaPost (o : Except Int (List UInt8 × Ws)) (w : World) (e : Ending) (w' : World) : Prop :=
  (match o with
    | .ok (n, ws) => (∃ u, e = .returned (.tuple #[u, .int .i64 0]) ∧ RefV w' w'.heap.size u ⟨n.toArray⟩ ws) ∧ ws.length ≤ 24
    | .error c => c ≠ 0 ∧ e = .returned (.tuple #[.agg #[.string ⟨#[]⟩, .slice none 0 0], .int .i64 c])) ∧ Below w.heap.size w w'
theorem scan_count {l : List UInt8} {ts : List Tk} (h : scR l = .ok ts) : ts.length ≤ 65537 := by
  obtain ⟨ps, n, rfl, _⟩ := scan_last h
  unfold scR at h
  split at h
  · cases h
  · have := (tail_len _ _ _ _ ps _ h rfl).2.1
    simp; omega
theorem end_tz {l : List UInt8} {ts : List Tk} (h : scR l = .ok ts) : EndZ (tz ts) := by
  obtain ⟨ps, n, rfl, hp⟩ := scan_last h
  refine ⟨tz ps, (5, [], (n : Int)), by unfold tz; simp, rfl, rfl, fun p hp' => ?_⟩
  unfold tz at hp'
  obtain ⟨q, hq, rfl⟩ := List.mem_map.1 hp'
  exact hp q hq
set_option maxRecDepth 100000 in
set_option maxHeartbeats 2000000 in
theorem tparse_any (s : ByteArray) (w : World) (hL : LK w) : Calls Tryz.prog 34 #[.string s] w (PaPost (paL s.data.toList) w) := by
  have hb0 := (Below.refl w.heap.size w).alloc (Nat.le_refl _) (.cells #[.string ⟨#[]⟩, .slice none 0 0] 24 (0, 0))
  have Z0 := Lib.hid (BxR.new w (.string ⟨#[]⟩) (.slice none 0 0))
  have CALL := Lib.hid (scan_any s _ (hL.below hb0))
  have B0 := Lib.hid hb0
  have HPA : Hid (paL s.data.toList = match scR s.data.toList with | .error e => .error e.2 | .ok ts => paT (kt ts)) := Lib.hid rfl
  generalize paL s.data.toList = R at *
  clear hb0 hL
  go_enter Tryz.func34, Tryz.ntmps34
  go_wp2_with fail
  generalize (w.alloc (.cells #[.string ⟨#[]⟩, .slice none 0 0] 24 (0, 0))) = W0 at *
  have hcall := CALL.out
  clear CALL
  cases hsc : scR s.data.toList with
  | error x =>
    obtain ⟨xi, xc⟩ := x
    rw [hsc] at hcall
    have HR : Hid (R = .error xc) := Lib.hid (by rw [HPA.out, hsc])
    clear hsc HPA
    refine hcall.mono ?_
    clear hcall
    rintro e w1 ⟨⟨rfl, hne⟩, hb⟩
    have HZ1 : Hid (BxR w1 w.heap.size (.string ⟨#[]⟩) (.slice none 0 0)) := Lib.hid (Z0.out.stay hb)
    have HB1 := Lib.hid (B0.out.trans (hb.mono B0.out.size))
    have HNE := Lib.hid hne
    have hxb : (xc != 0) = true := by simpa using hne
    clear hb hne
    have z0 := HZ1.out.cells.1
    have z1 := HZ1.out.cells.2
    have f0 := HZ1.out.frz 0
    have f1 := HZ1.out.frz 1
    go_wp2_with fail
    obtain ⟨y2, y3⟩ := (HZ1.out.two (.string ⟨#[]⟩) (.slice none 0 0)).cells
    refine bodyPost_ret (v := .tuple #[.agg #[.string ⟨#[]⟩, .slice none 0 0], .int .i64 xc]) (by simp [results, Tryz.results34, go_sem, y2, y3]) rfl ⟨?_, ?_⟩
    · rw [HR.out]; exact ⟨HNE.out, rfl⟩
    · exact Below.pair HB1.out (Nat.le_refl _) _ _
  | ok ts =>
    rw [hsc] at hcall
    have HR : Hid (R = paT (kt ts)) := Lib.hid (by rw [HPA.out, hsc])
    have HEZ := Lib.hid (end_tz hsc)
    have HCNT := Lib.hid (scan_count hsc)
    clear hsc HPA
    refine hcall.mono ?_
    clear hcall
    rintro e w1 ⟨⟨v, rfl, hown⟩, hb⟩
    obtain ⟨A, c, rfl, hz, hzc⟩ := hown.z.at
    have HZA := Lib.hid hz
    have HZC := Lib.hid hzc
    have HZ1 : Hid (BxR w1 w.heap.size (.string ⟨#[]⟩) (.slice none 0 0)) := Lib.hid (Z0.out.stay hb)
    have HB1 := Lib.hid (B0.out.trans (hb.mono B0.out.size))
    have HZLN : Hid ((tz ts).length = ts.length) := Lib.hid (tz_len ts)
    have HKZ := Lib.hid (kz_tz ts)
    generalize tz ts = zs at *
    clear hown hz hzc hb B0 Z0
    go_wp2_with fail
    have hb2 := (Below.refl w1.heap.size w1).alloc (Nat.le_refl _) (.cells #[.slice A zs.length c] 52 (0, 0))
    have hrd : RdP w1.heap.size zs (w1.alloc (.cells #[.slice A zs.length c] 52 (0, 0))) := ⟨A, c, heap_alloc_new _ _, HZC.out, HZA.out.kept hb2⟩
    have HZ2 : Hid (BxR (w1.alloc (.cells #[.slice A zs.length c] 52 (0, 0))) w.heap.size (.string ⟨#[]⟩) (.slice none 0 0)) := Lib.hid (HZ1.out.stay hb2)
    have HB2 : Hid (Below w.heap.size w (w1.alloc (.cells #[.slice A zs.length c] 52 (0, 0)))) := Lib.hid (HB1.out.trans (hb2.mono HB1.out.size))
    have HLT := Lib.hid HZ1.out.lt
    have HRD := Lib.hid hrd
    clear hb2 hrd HZ1
    generalize (w1.alloc (.cells #[.slice A zs.length c] 52 (0, 0))) = W2 at *
    have hcall := treference_any w1.heap.size zs W2 HRD.out HEZ.out (by have := HCNT.out; have := HZLN.out; omega)
    rw [HKZ.out] at hcall
    cases hrf : refP (kt ts) with
    | none =>
      rw [hrf] at hcall
      have HR2 : Hid (R = .error 3) := Lib.hid (by rw [HR.out]; unfold paT; rw [hrf])
      clear hrf
      refine hcall.mono ?_
      clear hcall
      rintro e w3 ⟨rfl, hb⟩
      have HZ3 : Hid (BxR w3 w.heap.size (.string ⟨#[]⟩) (.slice none 0 0)) := Lib.hid (HZ2.out.kept (hb.block _ HZ2.out.lt (by have := HLT.out; omega)))
      have HB3 := Lib.hid (HB2.out.trans (hb.below (by have := HLT.out; omega) HB2.out.size))
      have hb4 := (Below.refl w3.heap.size w3).alloc (Nat.le_refl _) (.cells #[.string ⟨#[]⟩, .slice none 0 0] 24 (0, 0))
      have HZ4 : Hid (BxR (w3.alloc (.cells #[.string ⟨#[]⟩, .slice none 0 0] 24 (0, 0))) w.heap.size (.string ⟨#[]⟩) (.slice none 0 0)) := Lib.hid (HZ3.out.stay hb4)
      have HB4 : Hid (Below w.heap.size w (w3.alloc (.cells #[.string ⟨#[]⟩, .slice none 0 0] 24 (0, 0)))) := Lib.hid (HB3.out.trans (hb4.mono HB3.out.size))
      clear hb hb4
      have z0 := HZ4.out.cells.1
      have z1 := HZ4.out.cells.2
      have f0 := HZ4.out.frz 0
      have f1 := HZ4.out.frz 1
      go_wp2_with fail
      obtain ⟨y2, y3⟩ := (HZ4.out.two (.string ⟨#[]⟩) (.slice none 0 0)).cells
      refine bodyPost_ret (v := .tuple #[.agg #[.string ⟨#[]⟩, .slice none 0 0], .int .i64 3]) (by simp [results, Tryz.results34, go_sem, y2, y3]) rfl ⟨?_, ?_⟩
      · rw [HR2.out]; exact ⟨by decide, rfl⟩
      · exact Below.pair HB4.out (Nat.le_refl _) _ _
    | some q =>
      obtain ⟨n, ws, r⟩ := q
      rw [hrf] at hcall
      have HR2 : Hid (R = if fivB r = true then (if 24 < ws.length then .error 5 else .ok (n, ws)) else .error 3) := Lib.hid (by rw [HR.out]; unfold paT; rw [hrf])
      clear hrf
      refine hcall.mono ?_
      clear hcall
      rintro e w3 ⟨⟨⟨u, rfl, A3, c3, rfl, hc3, hi3⟩, _⟩, hb⟩
      have HZ3 : Hid (BxR w3 w.heap.size (.string ⟨#[]⟩) (.slice none 0 0)) := Lib.hid (HZ2.out.kept (hb.block _ HZ2.out.lt (by have := HLT.out; omega)))
      have HB3 := Lib.hid (HB2.out.trans (hb.below (by have := HLT.out; omega) HB2.out.size))
      have hb4 := (Below.refl w3.heap.size w3).alloc (Nat.le_refl _) (.cells #[.string ⟨n.toArray⟩, .slice A3 ws.length c3] 24 (0, 0))
      have HZ4 : Hid (BxR (w3.alloc (.cells #[.string ⟨n.toArray⟩, .slice A3 ws.length c3] 24 (0, 0))) w.heap.size (.string ⟨#[]⟩) (.slice none 0 0)) := Lib.hid (HZ3.out.stay hb4)
      have HB4 : Hid (Below w.heap.size w (w3.alloc (.cells #[.string ⟨n.toArray⟩, .slice A3 ws.length c3] 24 (0, 0)))) := Lib.hid (HB3.out.trans (hb4.mono HB3.out.size))
      have HI4 : Hid (IntsAt (w3.alloc (.cells #[.string ⟨n.toArray⟩, .slice A3 ws.length c3] 24 (0, 0))) (w3.alloc (.cells #[.string ⟨n.toArray⟩, .slice A3 ws.length c3] 24 (0, 0))).heap.size A3 ws) := Lib.hid (hi3.stay hb4)
      have HC4 := Lib.hid hc3
      clear hb hb4 hi3 hc3
      cases hf : fivB r with
      | false =>
        have HR3 : Hid (R = .error 3) := Lib.hid (by rw [HR2.out, hf]; rfl)
        clear hf
        have z0 := HZ4.out.cells.1
        have z1 := HZ4.out.cells.2
        have f0 := HZ4.out.frz 0
        have f1 := HZ4.out.frz 1
        go_wp2_with fail
        obtain ⟨y2, y3⟩ := (HZ4.out.two (.string ⟨#[]⟩) (.slice none 0 0)).cells
        refine bodyPost_ret (v := .tuple #[.agg #[.string ⟨#[]⟩, .slice none 0 0], .int .i64 3]) (by simp [results, Tryz.results34, go_sem, y2, y3]) rfl ⟨?_, ?_⟩
        · rw [HR3.out]; exact ⟨by decide, rfl⟩
        · exact Below.pair HB4.out (Nat.le_refl _) _ _
      | true =>
        by_cases h24 : 24 < ws.length
        · have HR3 : Hid (R = .error 5) := Lib.hid (by rw [HR2.out, hf, if_pos rfl, if_pos h24])
          have hgt : (ws.length : Int) > 24 := by omega
          clear hf h24
          have z0 := HZ4.out.cells.1
          have z1 := HZ4.out.cells.2
          have f0 := HZ4.out.frz 0
          have f1 := HZ4.out.frz 1
          go_wp2_with fail
          obtain ⟨y2, y3⟩ := (HZ4.out.two (.string ⟨#[]⟩) (.slice none 0 0)).cells
          refine bodyPost_ret (v := .tuple #[.agg #[.string ⟨#[]⟩, .slice none 0 0], .int .i64 5]) (by simp [results, Tryz.results34, go_sem, y2, y3]) rfl ⟨?_, ?_⟩
          · rw [HR3.out]; exact ⟨by decide, rfl⟩
          · exact Below.pair HB4.out (Nat.le_refl _) _ _
        · have HR3 : Hid (R = .ok (n, ws)) := Lib.hid (by rw [HR2.out, hf, if_pos rfl, if_neg h24])
          have hgt : ¬ ((ws.length : Int) > 24) := by omega
          have HWL : Hid (ws.length ≤ 24) := Lib.hid (by omega)
          clear hf h24
          have z0 := HZ4.out.cells.1
          have z1 := HZ4.out.cells.2
          have f0 := HZ4.out.frz 0
          have f1 := HZ4.out.frz 1
          obtain ⟨y1, y2, y3⟩ := ref_end (n := ⟨n.toArray⟩) HZ4.out (Nat.le_refl _) HB4.out HC4.out HI4.out
          have HY := Lib.hid y1
          clear y1
          go_wp2_with fail
          obtain ⟨⟨u, e, hu⟩, hbl⟩ := HY.out
          cases e
          refine bodyPost_ret (v := .tuple #[.agg #[.string ⟨n.toArray⟩, .slice A3 ws.length c3], .int .i64 0]) (by simp [results, Tryz.results34, go_sem, y2, y3]) rfl ⟨?_, hbl⟩
          rw [HR3.out]
          exact ⟨⟨_, rfl, hu⟩, HWL.out⟩
end Go.Proofs.YtgicbmibhnnflaaGreatDoor
