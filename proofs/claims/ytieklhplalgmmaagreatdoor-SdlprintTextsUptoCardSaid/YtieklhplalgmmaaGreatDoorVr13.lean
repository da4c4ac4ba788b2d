
/-
  Texts joined: NT3 NT4 NT5.
-/
import Derived.Test.YtieklhplalgmmaaGreatDoorVr12
namespace Go.Proofs.YtieklhplalgmmaaGreatDoor
open Go.RowKit
theorem flat_step {l : List (List UInt8)} {j : Nat} {a : List UInt8} (h : l[j]? = some a) : ((l.take j).flatten).length + a.length ≤ l.flatten.length := by
  have h1 : l.take (j + 1) = l.take j ++ [a] := take_sn h
  have h2 : l.flatten = (l.take (j + 1)).flatten ++ (l.drop (j + 1)).flatten := by rw [← List.flatten_append, List.take_append_drop]
  rw [h2, h1, List.flatten_append, List.length_append, List.length_append]
  simp
set_option maxRecDepth 100000 in
set_option maxHeartbeats 8000000 in
theorem rlines_inp (xs : List InpT) (hf : ∀ x ∈ xs, inpFit x) (c1 c2 c3 c4 c5 u : Value) (w : World) (B : Nat) (h : InpsR w B u xs) (hB : B ≤ w.heap.size) (hl : (((xs.map inpTxt).map lineTxt).flatten).length ≤ 140737488355328) : Calls Tryz.prog 39 #[.agg #[.int .i64 5, c1, c2, c3, c4, c5, u]] w (SP (((xs.map inpTxt).map lineTxt).flatten) w) := by
  obtain ⟨A, c, rfl, _, hg, V, hA, hr⟩ := h
  unfold big at hg
  obtain ⟨n, hn⟩ : ∃ n, xs.length = n := ⟨_, rfl⟩
  rw [hn] at hA hg ⊢
  have hnm : (n : Int) ≤ 140737488351232 := by omega
  have HN := Lib.hid hn
  have HA := Lib.hid hA
  have HR := Lib.hid hr
  have HF := Lib.hid hf
  have HBB := Lib.hid hB
  have HLL := Lib.hid hl
  have HB0 : Hid (Below w.heap.size w (w.alloc (.cells #[.int .i64 5, c1, c2, c3, c4, c5, .slice A n c] 35 (0, 0)))) := Lib.hid (below_new _ _)
  have HK0 := Lib.hid (Bk.new w #[.int .i64 5, c1, c2, c3, c4, c5, .slice A n c] 35)
  clear hn hA hr hf hB hl hg
  have y0 := HK0.out.cell 0 _ rfl
  have y1 := HK0.out.cell 6 _ rfl
  go_enter Tryz.func39, Tryz.ntmps39
  go_wp2_with fail
  clear y0 y1
  go_loopw [3, 6] (fun v i wr => ∃ (j : Nat) (q : ByteArray), j ≤ n ∧ i = .int .i64 j ∧ v = .string q ∧ Hid (bL q = (((xs.map inpTxt).map lineTxt).take j).flatten ∧ Below w.heap.size w wr ∧ Bk wr w.heap.size #[.int .i64 5, c1, c2, c3, c4, c5, .slice A n c] 35)) (fun _ i _ => n - (intOf i).toNat)
  case atStart => exact ⟨0, _, Nat.zero_le _, rfl, rfl, Lib.hid ⟨rfl, HB0.out, HK0.out⟩⟩
  case round =>
    obtain ⟨j, q, hj, rfl, rfl, hr⟩ := hrel
    obtain ⟨hq, hb, hk⟩ := hr.out
    have HQ := Lib.hid hq
    have HB := Lib.hid hb
    have HKB := Lib.hid hk
    clear hq hb hk hr
    have y1 := HKB.out.cell 6 _ rfl
    by_cases hlt : j < n
    · have hlt' : (j : Int) < n := by omega
      obtain ⟨z, hzi⟩ : ∃ z, xs[j]? = some z := ⟨_, List.getElem?_eq_getElem (by rw [HN.out]; exact hlt)⟩
      obtain ⟨a, rfl, ha, hc0⟩ := HA.out (by omega)
      have hcc : ∀ q, q < 10 → wr.cell? (at_ (a.add (j * 10)) q) = some (V j q) := fun q hq => ((HB.out.mono HBB.out).cell (by rw [at_block, add_block]; exact ha)).trans (hc0 j hlt q hq)
      have k0 : wr.cell? (a.add (j * 10)) = some (V j 0) := hcc 0 (by omega)
      have k1 : wr.cell? ⟨(a.add (j * 10)).block, (a.add (j * 10)).off + 1, none⟩ = some (V j 1) := hcc 1 (by omega)
      have k2 : wr.cell? ⟨(a.add (j * 10)).block, (a.add (j * 10)).off + 2, none⟩ = some (V j 2) := hcc 2 (by omega)
      have k3 : wr.cell? ⟨(a.add (j * 10)).block, (a.add (j * 10)).off + 3, none⟩ = some (V j 3) := hcc 3 (by omega)
      have k4 : wr.cell? ⟨(a.add (j * 10)).block, (a.add (j * 10)).off + 4, none⟩ = some (V j 4) := hcc 4 (by omega)
      have k5 : wr.cell? ⟨(a.add (j * 10)).block, (a.add (j * 10)).off + 5, none⟩ = some (V j 5) := hcc 5 (by omega)
      have k6 : wr.cell? ⟨(a.add (j * 10)).block, (a.add (j * 10)).off + 6, none⟩ = some (V j 6) := hcc 6 (by omega)
      have k7 : wr.cell? ⟨(a.add (j * 10)).block, (a.add (j * 10)).off + 7, none⟩ = some (V j 7) := hcc 7 (by omega)
      have k8 : wr.cell? ⟨(a.add (j * 10)).block, (a.add (j * 10)).off + 8, none⟩ = some (V j 8) := hcc 8 (by omega)
      have k9 : wr.cell? ⟨(a.add (j * 10)).block, (a.add (j * 10)).off + 9, none⟩ = some (V j 9) := hcc 9 (by omega)
      have hxm : ((xs.map inpTxt).map lineTxt)[j]? = some (lineTxt (inpTxt z)) := by rw [List.getElem?_map, List.getElem?_map, hzi]; rfl
      have hst := flat_step hxm
      have HXS : Hid (((((xs.map inpTxt).map lineTxt).take (j + 1)).flatten) = (((xs.map inpTxt).map lineTxt).take j).flatten ++ lineTxt (inpTxt z)) := Lib.hid (by rw [take_sn hxm, List.flatten_append]; simp)
      have hlz : (lineTxt (inpTxt z)).length = (inpTxt z).length + 3 := by unfold lineTxt; simp only [List.length_append, List.length_cons, List.length_nil]; omega
      have hqz : q.size = ((((xs.map inpTxt).map lineTxt).take j).flatten).length := by rw [← bL_len, HQ.out]
      have hll := HLL.out
      have CALI := Lib.hid (rinput_any z (HF.out z (List.mem_of_getElem? hzi)) (V j) wr B (InpR.stays.kept (HR.out j z hzi) (HB.out.mono HBB.out)) (Nat.le_trans HBB.out HB.out.size) (by omega))
      obtain ⟨u1, hu1, hadd1⟩ := cat_ex q ⟨#[32, 32]⟩ (by show q.size + 2 ≤ _; omega)
      have hu1z : u1.size = q.size + 2 := by rw [← bL_len, hu1, List.length_append, bL_len]; rfl
      obtain ⟨oi, hoi⟩ : ∃ o : ByteArray, bL o = inpTxt z := ⟨⟨(inpTxt z).toArray⟩, bL_mk _⟩
      have hoiz : oi.size = (inpTxt z).length := by rw [← bL_len, hoi]
      obtain ⟨u2, hu2, hadd2⟩ := cat_ex u1 oi (by omega)
      have hu2z : u2.size = u1.size + oi.size := by rw [← bL_len, hu2, List.length_append, bL_len, bL_len]
      obtain ⟨u3, hu3, hadd3⟩ := cat_ex u2 ⟨#[10]⟩ (by show u2.size + 1 ≤ _; omega)
      have HU3 : Hid (bL u3 = (((xs.map inpTxt).map lineTxt).take (j + 1)).flatten) := Lib.hid (by rw [HXS.out, hu3, hu2, hu1, hoi, HQ.out]; unfold lineTxt; simp only [List.append_assoc]; rfl)
      have HOI := Lib.hid hoi
      clear hc0 hcc hzi hxm hst hlz hqz hll hu1 hu1z hoi hoiz hu2 hu2z hu3
      go_wp2_with fail
      refine CALI.out.mono ?_
      rintro e w5 ⟨⟨o', rfl, ho'⟩, hb5⟩
      obtain rfl : o' = oi := bL_inj (ho'.trans HOI.out.symm)
      have HB5 := Lib.hid (HB.out.trans (hb5.mono HB.out.size))
      have HK5 := Lib.hid (HKB.out.stay hb5)
      clear ho' hb5 CALI k0 k1 k2 k3 k4 k5 k6 k7 k8 k9 y1
      go_wp2_with fail
      go_roundw
      case rel => exact ⟨j + 1, u3, by omega, by go_num, rfl, Lib.hid ⟨HU3.out, HB5.out, HK5.out⟩⟩
      case measure => simp [intOf]; omega
    · have : j = n := by omega
      subst this
      have HFQ : Hid (bL q = ((xs.map inpTxt).map lineTxt).flatten) := Lib.hid (by have := HQ.out; rwa [List.take_of_length_le (by rw [List.length_map, List.length_map, HN.out]; exact Nat.le_refl _)] at this)
      go_wp2_with fail
      go_ret
      exact ⟨⟨q, rfl, HFQ.out⟩, HB.out⟩
set_option maxRecDepth 100000 in
set_option maxHeartbeats 8000000 in
theorem rlines_obj (xs : List FldT) (hf : ∀ x ∈ xs, fldFit x) (c1 c2 c3 c5 c6 u : Value) (w : World) (B : Nat) (h : FldsR w B u xs) (hB : B ≤ w.heap.size) (hl : (((xs.map fldTxt).map lineTxt).flatten).length ≤ 140737488355328) : Calls Tryz.prog 39 #[.agg #[.int .i64 1, c1, c2, c3, u, c5, c6]] w (SP (((xs.map fldTxt).map lineTxt).flatten) w) := by
  obtain ⟨A, c, rfl, _, hg, V, hA, hr⟩ := h
  unfold big at hg
  obtain ⟨n, hn⟩ : ∃ n, xs.length = n := ⟨_, rfl⟩
  rw [hn] at hA hg ⊢
  have hnm : (n : Int) ≤ 140737488351232 := by omega
  have HN := Lib.hid hn
  have HA := Lib.hid hA
  have HR := Lib.hid hr
  have HF := Lib.hid hf
  have HBB := Lib.hid hB
  have HLL := Lib.hid hl
  have HB0 : Hid (Below w.heap.size w (w.alloc (.cells #[.int .i64 1, c1, c2, c3, .slice A n c, c5, c6] 35 (0, 0)))) := Lib.hid (below_new _ _)
  have HK0 := Lib.hid (Bk.new w #[.int .i64 1, c1, c2, c3, .slice A n c, c5, c6] 35)
  clear hn hA hr hf hB hl hg
  have y0 := HK0.out.cell 0 _ rfl
  have y1 := HK0.out.cell 4 _ rfl
  go_enter Tryz.func39, Tryz.ntmps39
  go_wp2_with fail
  clear y0 y1
  go_loopw [3, 4] (fun v i wr => ∃ (j : Nat) (q : ByteArray), j ≤ n ∧ i = .int .i64 j ∧ v = .string q ∧ Hid (bL q = (((xs.map fldTxt).map lineTxt).take j).flatten ∧ Below w.heap.size w wr ∧ Bk wr w.heap.size #[.int .i64 1, c1, c2, c3, .slice A n c, c5, c6] 35)) (fun _ i _ => n - (intOf i).toNat)
  case atStart => exact ⟨0, _, Nat.zero_le _, rfl, rfl, Lib.hid ⟨rfl, HB0.out, HK0.out⟩⟩
  case round =>
    obtain ⟨j, q, hj, rfl, rfl, hr⟩ := hrel
    obtain ⟨hq, hb, hk⟩ := hr.out
    have HQ := Lib.hid hq
    have HB := Lib.hid hb
    have HKB := Lib.hid hk
    clear hq hb hk hr
    have y1 := HKB.out.cell 4 _ rfl
    by_cases hlt : j < n
    · have hlt' : (j : Int) < n := by omega
      obtain ⟨z, hzi⟩ : ∃ z, xs[j]? = some z := ⟨_, List.getElem?_eq_getElem (by rw [HN.out]; exact hlt)⟩
      obtain ⟨a, rfl, ha, hc0⟩ := HA.out (by omega)
      have hcc : ∀ q, q < 5 → wr.cell? (at_ (a.add (j * 5)) q) = some (V j q) := fun q hq => ((HB.out.mono HBB.out).cell (by rw [at_block, add_block]; exact ha)).trans (hc0 j hlt q hq)
      have k0 : wr.cell? (a.add (j * 5)) = some (V j 0) := hcc 0 (by omega)
      have k1 : wr.cell? ⟨(a.add (j * 5)).block, (a.add (j * 5)).off + 1, none⟩ = some (V j 1) := hcc 1 (by omega)
      have k2 : wr.cell? ⟨(a.add (j * 5)).block, (a.add (j * 5)).off + 2, none⟩ = some (V j 2) := hcc 2 (by omega)
      have k3 : wr.cell? ⟨(a.add (j * 5)).block, (a.add (j * 5)).off + 3, none⟩ = some (V j 3) := hcc 3 (by omega)
      have k4 : wr.cell? ⟨(a.add (j * 5)).block, (a.add (j * 5)).off + 4, none⟩ = some (V j 4) := hcc 4 (by omega)
      have hxm : ((xs.map fldTxt).map lineTxt)[j]? = some (lineTxt (fldTxt z)) := by rw [List.getElem?_map, List.getElem?_map, hzi]; rfl
      have hst := flat_step hxm
      have HXS : Hid (((((xs.map fldTxt).map lineTxt).take (j + 1)).flatten) = (((xs.map fldTxt).map lineTxt).take j).flatten ++ lineTxt (fldTxt z)) := Lib.hid (by rw [take_sn hxm, List.flatten_append]; simp)
      have hlz : (lineTxt (fldTxt z)).length = (fldTxt z).length + 3 := by unfold lineTxt; simp only [List.length_append, List.length_cons, List.length_nil]; omega
      have hqz : q.size = ((((xs.map fldTxt).map lineTxt).take j).flatten).length := by rw [← bL_len, HQ.out]
      have hll := HLL.out
      have CALI := Lib.hid (rfield_any z (HF.out z (List.mem_of_getElem? hzi)) (V j) wr B (FldR.stays.kept (HR.out j z hzi) (HB.out.mono HBB.out)) (Nat.le_trans HBB.out HB.out.size) (by omega))
      obtain ⟨u1, hu1, hadd1⟩ := cat_ex q ⟨#[32, 32]⟩ (by show q.size + 2 ≤ _; omega)
      have hu1z : u1.size = q.size + 2 := by rw [← bL_len, hu1, List.length_append, bL_len]; rfl
      obtain ⟨oi, hoi⟩ : ∃ o : ByteArray, bL o = fldTxt z := ⟨⟨(fldTxt z).toArray⟩, bL_mk _⟩
      have hoiz : oi.size = (fldTxt z).length := by rw [← bL_len, hoi]
      obtain ⟨u2, hu2, hadd2⟩ := cat_ex u1 oi (by omega)
      have hu2z : u2.size = u1.size + oi.size := by rw [← bL_len, hu2, List.length_append, bL_len, bL_len]
      obtain ⟨u3, hu3, hadd3⟩ := cat_ex u2 ⟨#[10]⟩ (by show u2.size + 1 ≤ _; omega)
      have HU3 : Hid (bL u3 = (((xs.map fldTxt).map lineTxt).take (j + 1)).flatten) := Lib.hid (by rw [HXS.out, hu3, hu2, hu1, hoi, HQ.out]; unfold lineTxt; simp only [List.append_assoc]; rfl)
      have HOI := Lib.hid hoi
      clear hc0 hcc hzi hxm hst hlz hqz hll hu1 hu1z hoi hoiz hu2 hu2z hu3
      go_wp2_with fail
      refine CALI.out.mono ?_
      rintro e w5 ⟨⟨o', rfl, ho'⟩, hb5⟩
      obtain rfl : o' = oi := bL_inj (ho'.trans HOI.out.symm)
      have HB5 := Lib.hid (HB.out.trans (hb5.mono HB.out.size))
      have HK5 := Lib.hid (HKB.out.stay hb5)
      clear ho' hb5 CALI k0 k1 k2 k3 k4 y1
      go_wp2_with fail
      go_roundw
      case rel => exact ⟨j + 1, u3, by omega, by go_num, rfl, Lib.hid ⟨HU3.out, HB5.out, HK5.out⟩⟩
      case measure => simp [intOf]; omega
    · have : j = n := by omega
      subst this
      have HFQ : Hid (bL q = ((xs.map fldTxt).map lineTxt).flatten) := Lib.hid (by have := HQ.out; rwa [List.take_of_length_le (by rw [List.length_map, List.length_map, HN.out]; exact Nat.le_refl _)] at this)
      go_wp2_with fail
      go_ret
      exact ⟨⟨q, rfl, HFQ.out⟩, HB.out⟩
set_option maxRecDepth 100000 in
set_option maxHeartbeats 8000000 in
theorem rlines_ifc (xs : List FldT) (hf : ∀ x ∈ xs, fldFit x) (c1 c2 c3 c5 c6 u : Value) (w : World) (B : Nat) (h : FldsR w B u xs) (hB : B ≤ w.heap.size) (hl : (((xs.map fldTxt).map lineTxt).flatten).length ≤ 140737488355328) : Calls Tryz.prog 39 #[.agg #[.int .i64 2, c1, c2, c3, u, c5, c6]] w (SP (((xs.map fldTxt).map lineTxt).flatten) w) := by
  obtain ⟨A, c, rfl, _, hg, V, hA, hr⟩ := h
  unfold big at hg
  obtain ⟨n, hn⟩ : ∃ n, xs.length = n := ⟨_, rfl⟩
  rw [hn] at hA hg ⊢
  have hnm : (n : Int) ≤ 140737488351232 := by omega
  have HN := Lib.hid hn
  have HA := Lib.hid hA
  have HR := Lib.hid hr
  have HF := Lib.hid hf
  have HBB := Lib.hid hB
  have HLL := Lib.hid hl
  have HB0 : Hid (Below w.heap.size w (w.alloc (.cells #[.int .i64 2, c1, c2, c3, .slice A n c, c5, c6] 35 (0, 0)))) := Lib.hid (below_new _ _)
  have HK0 := Lib.hid (Bk.new w #[.int .i64 2, c1, c2, c3, .slice A n c, c5, c6] 35)
  clear hn hA hr hf hB hl hg
  have y0 := HK0.out.cell 0 _ rfl
  have y1 := HK0.out.cell 4 _ rfl
  go_enter Tryz.func39, Tryz.ntmps39
  go_wp2_with fail
  clear y0 y1
  go_loopw [3, 4] (fun v i wr => ∃ (j : Nat) (q : ByteArray), j ≤ n ∧ i = .int .i64 j ∧ v = .string q ∧ Hid (bL q = (((xs.map fldTxt).map lineTxt).take j).flatten ∧ Below w.heap.size w wr ∧ Bk wr w.heap.size #[.int .i64 2, c1, c2, c3, .slice A n c, c5, c6] 35)) (fun _ i _ => n - (intOf i).toNat)
  case atStart => exact ⟨0, _, Nat.zero_le _, rfl, rfl, Lib.hid ⟨rfl, HB0.out, HK0.out⟩⟩
  case round =>
    obtain ⟨j, q, hj, rfl, rfl, hr⟩ := hrel
    obtain ⟨hq, hb, hk⟩ := hr.out
    have HQ := Lib.hid hq
    have HB := Lib.hid hb
    have HKB := Lib.hid hk
    clear hq hb hk hr
    have y1 := HKB.out.cell 4 _ rfl
    by_cases hlt : j < n
    · have hlt' : (j : Int) < n := by omega
      obtain ⟨z, hzi⟩ : ∃ z, xs[j]? = some z := ⟨_, List.getElem?_eq_getElem (by rw [HN.out]; exact hlt)⟩
      obtain ⟨a, rfl, ha, hc0⟩ := HA.out (by omega)
      have hcc : ∀ q, q < 5 → wr.cell? (at_ (a.add (j * 5)) q) = some (V j q) := fun q hq => ((HB.out.mono HBB.out).cell (by rw [at_block, add_block]; exact ha)).trans (hc0 j hlt q hq)
      have k0 : wr.cell? (a.add (j * 5)) = some (V j 0) := hcc 0 (by omega)
      have k1 : wr.cell? ⟨(a.add (j * 5)).block, (a.add (j * 5)).off + 1, none⟩ = some (V j 1) := hcc 1 (by omega)
      have k2 : wr.cell? ⟨(a.add (j * 5)).block, (a.add (j * 5)).off + 2, none⟩ = some (V j 2) := hcc 2 (by omega)
      have k3 : wr.cell? ⟨(a.add (j * 5)).block, (a.add (j * 5)).off + 3, none⟩ = some (V j 3) := hcc 3 (by omega)
      have k4 : wr.cell? ⟨(a.add (j * 5)).block, (a.add (j * 5)).off + 4, none⟩ = some (V j 4) := hcc 4 (by omega)
      have hxm : ((xs.map fldTxt).map lineTxt)[j]? = some (lineTxt (fldTxt z)) := by rw [List.getElem?_map, List.getElem?_map, hzi]; rfl
      have hst := flat_step hxm
      have HXS : Hid (((((xs.map fldTxt).map lineTxt).take (j + 1)).flatten) = (((xs.map fldTxt).map lineTxt).take j).flatten ++ lineTxt (fldTxt z)) := Lib.hid (by rw [take_sn hxm, List.flatten_append]; simp)
      have hlz : (lineTxt (fldTxt z)).length = (fldTxt z).length + 3 := by unfold lineTxt; simp only [List.length_append, List.length_cons, List.length_nil]; omega
      have hqz : q.size = ((((xs.map fldTxt).map lineTxt).take j).flatten).length := by rw [← bL_len, HQ.out]
      have hll := HLL.out
      have CALI := Lib.hid (rfield_any z (HF.out z (List.mem_of_getElem? hzi)) (V j) wr B (FldR.stays.kept (HR.out j z hzi) (HB.out.mono HBB.out)) (Nat.le_trans HBB.out HB.out.size) (by omega))
      obtain ⟨u1, hu1, hadd1⟩ := cat_ex q ⟨#[32, 32]⟩ (by show q.size + 2 ≤ _; omega)
      have hu1z : u1.size = q.size + 2 := by rw [← bL_len, hu1, List.length_append, bL_len]; rfl
      obtain ⟨oi, hoi⟩ : ∃ o : ByteArray, bL o = fldTxt z := ⟨⟨(fldTxt z).toArray⟩, bL_mk _⟩
      have hoiz : oi.size = (fldTxt z).length := by rw [← bL_len, hoi]
      obtain ⟨u2, hu2, hadd2⟩ := cat_ex u1 oi (by omega)
      have hu2z : u2.size = u1.size + oi.size := by rw [← bL_len, hu2, List.length_append, bL_len, bL_len]
      obtain ⟨u3, hu3, hadd3⟩ := cat_ex u2 ⟨#[10]⟩ (by show u2.size + 1 ≤ _; omega)
      have HU3 : Hid (bL u3 = (((xs.map fldTxt).map lineTxt).take (j + 1)).flatten) := Lib.hid (by rw [HXS.out, hu3, hu2, hu1, hoi, HQ.out]; unfold lineTxt; simp only [List.append_assoc]; rfl)
      have HOI := Lib.hid hoi
      clear hc0 hcc hzi hxm hst hlz hqz hll hu1 hu1z hoi hoiz hu2 hu2z hu3
      go_wp2_with fail
      refine CALI.out.mono ?_
      rintro e w5 ⟨⟨o', rfl, ho'⟩, hb5⟩
      obtain rfl : o' = oi := bL_inj (ho'.trans HOI.out.symm)
      have HB5 := Lib.hid (HB.out.trans (hb5.mono HB.out.size))
      have HK5 := Lib.hid (HKB.out.stay hb5)
      clear ho' hb5 CALI k0 k1 k2 k3 k4 y1
      go_wp2_with fail
      go_roundw
      case rel => exact ⟨j + 1, u3, by omega, by go_num, rfl, Lib.hid ⟨HU3.out, HB5.out, HK5.out⟩⟩
      case measure => simp [intOf]; omega
    · have : j = n := by omega
      subst this
      have HFQ : Hid (bL q = ((xs.map fldTxt).map lineTxt).flatten) := Lib.hid (by have := HQ.out; rwa [List.take_of_length_le (by rw [List.length_map, List.length_map, HN.out]; exact Nat.le_refl _)] at this)
      go_wp2_with fail
      go_ret
      exact ⟨⟨q, rfl, HFQ.out⟩, HB.out⟩
end Go.Proofs.YtieklhplalgmmaaGreatDoor
namespace Go.Proofs.YtieklhplalgmmaaGreatDoor
open Go.RowKit
set_option maxRecDepth 100000 in
set_option maxHeartbeats 8000000 in
theorem rlines_enum (xs : List MemT) (hf : ∀ x ∈ xs, dirsFit x.dirs) (c1 c2 c3 c4 c6 u : Value) (w : World) (B : Nat) (h : MemsR w B u xs) (hB : B ≤ w.heap.size) (hl : (((xs.map memTxt).map lineTxt).flatten).length ≤ 140737488355328) : Calls Tryz.prog 39 #[.agg #[.int .i64 4, c1, c2, c3, c4, u, c6]] w (SP (((xs.map memTxt).map lineTxt).flatten) w) := by
  obtain ⟨A, c, rfl, _, hg, V, hA, hr⟩ := h
  unfold big at hg
  obtain ⟨n, hn⟩ : ∃ n, xs.length = n := ⟨_, rfl⟩
  rw [hn] at hA hg ⊢
  have hnm : (n : Int) ≤ 140737488351232 := by omega
  have HN := Lib.hid hn
  have HA := Lib.hid hA
  have HR := Lib.hid hr
  have HF := Lib.hid hf
  have HBB := Lib.hid hB
  have HLL := Lib.hid hl
  have HB0 : Hid (Below w.heap.size w (w.alloc (.cells #[.int .i64 4, c1, c2, c3, c4, .slice A n c, c6] 35 (0, 0)))) := Lib.hid (below_new _ _)
  have HK0 := Lib.hid (Bk.new w #[.int .i64 4, c1, c2, c3, c4, .slice A n c, c6] 35)
  clear hn hA hr hf hB hl hg
  have y0 := HK0.out.cell 0 _ rfl
  have y1 := HK0.out.cell 5 _ rfl
  go_enter Tryz.func39, Tryz.ntmps39
  go_wp2_with fail
  clear y0 y1
  go_loopw [3, 5] (fun v i wr => ∃ (j : Nat) (q : ByteArray), j ≤ n ∧ i = .int .i64 j ∧ v = .string q ∧ Hid (bL q = (((xs.map memTxt).map lineTxt).take j).flatten ∧ Below w.heap.size w wr ∧ Bk wr w.heap.size #[.int .i64 4, c1, c2, c3, c4, .slice A n c, c6] 35)) (fun _ i _ => n - (intOf i).toNat)
  case atStart => exact ⟨0, _, Nat.zero_le _, rfl, rfl, Lib.hid ⟨rfl, HB0.out, HK0.out⟩⟩
  case round =>
    obtain ⟨j, q, hj, rfl, rfl, hr⟩ := hrel
    obtain ⟨hq, hb, hk⟩ := hr.out
    have HQ := Lib.hid hq
    have HB := Lib.hid hb
    have HKB := Lib.hid hk
    clear hq hb hk hr
    have y1 := HKB.out.cell 5 _ rfl
    by_cases hlt : j < n
    · have hlt' : (j : Int) < n := by omega
      obtain ⟨z, hzi⟩ : ∃ z, xs[j]? = some z := ⟨_, List.getElem?_eq_getElem (by rw [HN.out]; exact hlt)⟩
      obtain ⟨a, rfl, ha, hc0⟩ := HA.out (by omega)
      obtain ⟨A9, c9, e9, _, _⟩ := (HR.out j z hzi).dirs.form
      have hcc : ∀ q, q < 2 → wr.cell? (at_ (a.add (j * 2)) q) = some (V j q) := fun q hq => ((HB.out.mono HBB.out).cell (by rw [at_block, add_block]; exact ha)).trans (hc0 j hlt q hq)
      have K0 : Hid (wr.cell? (a.add (j * 2)) = some (.string z.name)) := Lib.hid ((hcc 0 (by omega)).trans (by rw [(HR.out j z hzi).name]))
      have K1 : Hid (wr.cell? ⟨(a.add (j * 2)).block, (a.add (j * 2)).off + 1, none⟩ = some (.slice A9 z.dirs.length c9)) := Lib.hid ((hcc 1 (by omega)).trans (by rw [e9]))
      have HDD : Hid (DirsR w B (.slice A9 z.dirs.length c9) z.dirs) := Lib.hid (by rw [← e9]; exact (HR.out j z hzi).dirs)
      have HAB : Hid ((a.add (j * 2)).block < wr.heap.size) := Lib.hid (by rw [add_block]; have := HBB.out; have := HB.out.size; omega)
      generalize z.dirs.length = n9 at *
      have hxm : ((xs.map memTxt).map lineTxt)[j]? = some (lineTxt (memTxt z)) := by rw [List.getElem?_map, List.getElem?_map, hzi]; rfl
      have hst := flat_step hxm
      have HXS : Hid (((((xs.map memTxt).map lineTxt).take (j + 1)).flatten) = (((xs.map memTxt).map lineTxt).take j).flatten ++ lineTxt (memTxt z)) := Lib.hid (by rw [take_sn hxm, List.flatten_append]; simp)
      have hlz : (lineTxt (memTxt z)).length = z.name.size + (tailTxt z.dirs).length + 3 := by unfold lineTxt memTxt; simp only [List.length_append, List.length_cons, List.length_nil, bL_len]; omega
      have hqz : q.size = ((((xs.map memTxt).map lineTxt).take j).flatten).length := by rw [← bL_len, HQ.out]
      have hll := HLL.out
      obtain ⟨u1, hu1, hadd1⟩ := cat_ex q ⟨#[32, 32]⟩ (by show q.size + 2 ≤ _; omega)
      have hu1z : u1.size = q.size + 2 := by rw [← bL_len, hu1, List.length_append, bL_len]; rfl
      obtain ⟨u4, hu4, hadd4⟩ := cat_ex u1 z.name (by omega)
      have hu4z : u4.size = u1.size + z.name.size := by rw [← bL_len, hu4, List.length_append, bL_len, bL_len]
      obtain ⟨oi, hoi⟩ : ∃ o : ByteArray, bL o = tailTxt z.dirs := ⟨⟨(tailTxt z.dirs).toArray⟩, bL_mk _⟩
      have hoiz : oi.size = (tailTxt z.dirs).length := by rw [← bL_len, hoi]
      obtain ⟨u2, hu2, hadd2⟩ := cat_ex u4 oi (by omega)
      have hu2z : u2.size = u4.size + oi.size := by rw [← bL_len, hu2, List.length_append, bL_len, bL_len]
      obtain ⟨u3, hu3, hadd3⟩ := cat_ex u2 ⟨#[10]⟩ (by show u2.size + 1 ≤ _; omega)
      have HU3 : Hid (bL u3 = (((xs.map memTxt).map lineTxt).take (j + 1)).flatten) := Lib.hid (by rw [HXS.out, hu3, hu2, hu4, hu1, hoi, HQ.out]; unfold lineTxt memTxt; simp only [List.append_assoc]; rfl)
      have CALT : Hid (∀ W, Below wr.heap.size wr W → Calls Tryz.prog 38 #[.slice A9 n9 c9] W fun e w' => e = .returned (.string oi) ∧ Below W.heap.size W w') := Lib.hid fun W hW => by
        refine (rtail_any z.dirs (HF.out z (List.mem_of_getElem? hzi)) _ W B (HDD.out.kept ((HB.out.trans (hW.mono HB.out.size)).mono HBB.out)) (Nat.le_trans HBB.out (Nat.le_trans HB.out.size hW.size)) (by omega)).mono ?_
        rintro e w' ⟨⟨o', rfl, ho'⟩, hb⟩
        exact ⟨by rw [bL_inj (ho'.trans hoi.symm)], hb⟩
      have HAD1 := Lib.hid hadd1
      have HAD2 := Lib.hid hadd2
      have HAD3 := Lib.hid hadd3
      have HAD4 := Lib.hid hadd4
      clear hc0 hcc hzi hxm hst hlz hqz hll hu1 hu1z hoi hoiz hu2 hu2z hu3 hu4 hu4z e9 hadd1 hadd2 hadd3 hadd4
      generalize hzn : z.name = nm at *
      go_wp2_with fail
      clear y1
      refine K.wp_region_past (fun W => Below wr.heap.size wr W) (Below.refl _ _) (by kernel_rfl) ?_
      intro W hbw _
      have HBW := Lib.hid hbw
      have p5 : ∀ y : K.Past W, y.w.cell? ⟨w.heap.size, 5, none⟩ = some (.slice (some a) n c) := fun y => ((HKB.out.stay HBW.out).stay y.b).cell 5 _ rfl
      have r0 : ∀ y : K.Past W, y.w.cell? (a.add (j * 2)) = some (.string nm) := fun y => ((y.b.mono HBW.out.size).cell HAB.out).trans ((HBW.out.cell HAB.out).trans K0.out)
      have r1 : ∀ y : K.Past W, y.w.cell? ⟨(a.add (j * 2)).block, (a.add (j * 2)).off + 1, none⟩ = some (.slice A9 n9 c9) := fun y => ((y.b.mono HBW.out.size).cell (p := ⟨(a.add (j * 2)).block, (a.add (j * 2)).off + 1, none⟩) HAB.out).trans ((HBW.out.cell (p := ⟨(a.add (j * 2)).block, (a.add (j * 2)).off + 1, none⟩) HAB.out).trans K1.out)
      have kT : Hid (∀ y : K.Past W, Calls Tryz.prog 38 #[.slice A9 n9 c9] y.w fun e w'' => e = .returned (.string oi) ∧ ∃ z : K.Past W, w'' = z.w) := Lib.hid fun y => K.past_of y (CALT.out _ (HBW.out.trans (y.b.mono HBW.out.size)))
      have hadd1 := HAD1.out
      have hadd2 := HAD2.out
      have hadd3 := HAD3.out
      have hadd4 := HAD4.out
      clear hbw
      repeat (go_big_quiet_step (with_reducible exact kT.out _))
      refine wpQuiet_nil ?_
      intro _ hw'
      obtain ⟨y, rfl⟩ := hw'
      have HB5 : Hid (Below w.heap.size w y.w) := Lib.hid (HB.out.trans ((HBW.out.trans (y.b.mono HBW.out.size)).mono HB.out.size))
      have HK5 : Hid (Bk y.w w.heap.size #[.int .i64 4, c1, c2, c3, c4, .slice (some a) n c, c6] 35) := Lib.hid ((HKB.out.stay HBW.out).stay y.b)
      clear p5 r0 r1 kT hadd1 hadd2 hadd3 hadd4
      go_wp2_with fail
      go_roundw
      case rel => exact ⟨j + 1, u3, by omega, by go_num, rfl, Lib.hid ⟨HU3.out, HB5.out, HK5.out⟩⟩
      case measure => simp [intOf]; omega
    · have : j = n := by omega
      subst this
      have HFQ : Hid (bL q = ((xs.map memTxt).map lineTxt).flatten) := Lib.hid (by have := HQ.out; rwa [List.take_of_length_le (by rw [List.length_map, List.length_map, HN.out]; exact Nat.le_refl _)] at this)
      go_wp2_with fail
      go_ret
      exact ⟨⟨q, rfl, HFQ.out⟩, HB.out⟩
end Go.Proofs.YtieklhplalgmmaaGreatDoor
namespace Go.Proofs.YtieklhplalgmmaaGreatDoor
open Go.RowKit
set_option maxRecDepth 100000 in
set_option maxHeartbeats 8000000 in
theorem rblock2 (nm : ByteArray) (ds : List DirT) (hfd : dirsFit ds) (L : List UInt8) (w : World) (B : Nat) (c2 c4 c5 c6 u : Value) (hd : DirsR w B u ds) (hB : B ≤ w.heap.size) (oL : ByteArray) (hoL : bL oL = L) (CL : ∀ W, Below w.heap.size w W → Calls Tryz.prog 39 #[.agg #[.int .i64 2, .string nm, c2, u, c4, c5, c6]] W fun e w' => e = .returned (.string oL) ∧ Below W.heap.size W w')
    (hl : (wInterface ++ (bL nm ++ (tailTxt ds ++ ([32, 123, 10] ++ (L ++ [125, 10]))))).length ≤ 140737488355328) : Calls Tryz.prog 18 #[.agg #[.int .i64 2, .string nm, c2, u, c4, c5, c6]] w (SP (wInterface ++ (bL nm ++ (tailTxt ds ++ ([32, 123, 10] ++ (L ++ [125, 10]))))) w) := by
  obtain ⟨A9, c9, rfl, _, _⟩ := hd.form
  have HDD0 := Lib.hid hd
  have HFD := Lib.hid hfd
  have HBB := Lib.hid hB
  have HCL := Lib.hid CL
  have HOL := Lib.hid hoL
  have HLZ : Hid (oL.size = L.length) := Lib.hid (by rw [← bL_len, hoL])
  have hwl : (wInterface).length = 10 := rfl
  have hll : 10 + nm.size + (tailTxt ds).length + 3 + L.length + 2 ≤ 140737488355328 := by
    have h1 := hl
    simp only [List.length_append, List.length_cons, List.length_nil, bL_len] at h1
    omega
  obtain ⟨u1, hu1, hadd1⟩ := cat_ex ⟨#[105, 110, 116, 101, 114, 102, 97, 99, 101, 32]⟩ nm (by show 10 + nm.size ≤ _; omega)
  have hu1z : u1.size = 10 + nm.size := by rw [← bL_len, hu1, List.length_append, bL_len nm]; rfl
  obtain ⟨o9, ho9⟩ : ∃ o : ByteArray, bL o = tailTxt ds := ⟨⟨(tailTxt ds).toArray⟩, bL_mk _⟩
  have ho9z : o9.size = (tailTxt ds).length := by rw [← bL_len, ho9]
  obtain ⟨u2, hu2, hadd2⟩ := cat_ex u1 o9 (by omega)
  have hu2z : u2.size = u1.size + o9.size := by rw [← bL_len, hu2, List.length_append, bL_len, bL_len]
  obtain ⟨u3, hu3, hadd3⟩ := cat_ex u2 ⟨#[32, 123, 10]⟩ (by show u2.size + 3 ≤ _; omega)
  have hu3z : u3.size = u2.size + 3 := by rw [← bL_len, hu3, List.length_append, bL_len]; rfl
  obtain ⟨u4, hu4, hadd4⟩ := cat_ex u3 oL (by have := HLZ.out; omega)
  have hu4z : u4.size = u3.size + oL.size := by rw [← bL_len, hu4, List.length_append, bL_len, bL_len]
  obtain ⟨u5, hu5, hadd5⟩ := cat_ex u4 ⟨#[125, 10]⟩ (by have := HLZ.out; show u4.size + 2 ≤ _; omega)
  have HU5 : Hid (bL u5 = wInterface ++ (bL nm ++ (tailTxt ds ++ ([32, 123, 10] ++ (L ++ [125, 10]))))) := Lib.hid (by rw [hu5, hu4, hu3, hu2, hu1, ho9, hoL]; simp only [List.append_assoc]; rfl)
  have CALT : Hid (∀ W, Below w.heap.size w W → Calls Tryz.prog 38 #[.slice A9 ds.length c9] W fun e w' => e = .returned (.string o9) ∧ Below W.heap.size W w') := Lib.hid fun W hW => by
    refine (rtail_any ds HFD.out _ W B (HDD0.out.kept (hW.mono HBB.out)) (Nat.le_trans HBB.out hW.size) (by omega)).mono ?_
    rintro e w' ⟨⟨o', rfl, ho'⟩, hb⟩
    exact ⟨by rw [bL_inj (ho'.trans ho9.symm)], hb⟩
  clear hu1 hu1z ho9 ho9z hu2 hu2z hu3 hu3z hu4 hu4z hu5 hll hwl hl hd hfd hB CL hoL HDD0
  generalize ds.length = n9 at *
  have HB2 : Hid (Below w.heap.size w ((w.alloc (.cells #[.int .i64 2, .string nm, c2, .slice A9 n9 c9, c4, c5, c6] 35 (0, 0))).alloc (.cells #[.string ⟨#[]⟩, .string ⟨#[116, 121, 112, 101, 32]⟩, .string ⟨#[105, 110, 116, 101, 114, 102, 97, 99, 101, 32]⟩, .string ⟨#[117, 110, 105, 111, 110, 32]⟩, .string ⟨#[101, 110, 117, 109, 32]⟩, .string ⟨#[105, 110, 112, 117, 116, 32]⟩] 9 (0, 0)))) := Lib.hid ((below_new _ _).trans ((below_new _ _).mono (by simp)))
  have HK2 : Hid (Bk ((w.alloc (.cells #[.int .i64 2, .string nm, c2, .slice A9 n9 c9, c4, c5, c6] 35 (0, 0))).alloc (.cells #[.string ⟨#[]⟩, .string ⟨#[116, 121, 112, 101, 32]⟩, .string ⟨#[105, 110, 116, 101, 114, 102, 97, 99, 101, 32]⟩, .string ⟨#[117, 110, 105, 111, 110, 32]⟩, .string ⟨#[101, 110, 117, 109, 32]⟩, .string ⟨#[105, 110, 112, 117, 116, 32]⟩] 9 (0, 0))) w.heap.size #[.int .i64 2, .string nm, c2, .slice A9 n9 c9, c4, c5, c6] 35) := Lib.hid ((Bk.new w #[.int .i64 2, .string nm, c2, .slice A9 n9 c9, c4, c5, c6] 35).stay (below_new _ _))
  have y0 := HK2.out.cell 0 _ rfl
  have y1 := HK2.out.cell 1 _ rfl
  have y2 := HK2.out.cell 2 _ rfl
  have y3 := HK2.out.cell 3 _ rfl
  have z1 := (Bk.new (w.alloc (.cells #[.int .i64 2, .string nm, c2, .slice A9 n9 c9, c4, c5, c6] 35 (0, 0))) #[.string ⟨#[]⟩, .string ⟨#[116, 121, 112, 101, 32]⟩, .string ⟨#[105, 110, 116, 101, 114, 102, 97, 99, 101, 32]⟩, .string ⟨#[117, 110, 105, 111, 110, 32]⟩, .string ⟨#[101, 110, 117, 109, 32]⟩, .string ⟨#[105, 110, 112, 117, 116, 32]⟩] 9).cell 2 _ rfl
  go_enter Tryz.func18, Tryz.ntmps18
  go_wp2_with fail
  refine (CALT.out _ HB2.out).mono ?_
  rintro e w5 ⟨rfl, hb5⟩
  have HB5 := Lib.hid (HB2.out.trans (hb5.mono HB2.out.size))
  have HK5 := Lib.hid (HK2.out.stay hb5)
  clear y0 y1 y2 y3 z1 hb5
  have y0 := HK5.out.cell 0 _ rfl
  have y1 := HK5.out.cell 1 _ rfl
  have y2 := HK5.out.cell 2 _ rfl
  have y3 := HK5.out.cell 3 _ rfl
  have y4 := HK5.out.cell 4 _ rfl
  have y5 := HK5.out.cell 5 _ rfl
  have y6 := HK5.out.cell 6 _ rfl
  go_wp2_with fail
  clear y0 y1 y2 y3 y4 y5 y6
  refine (HCL.out _ HB5.out).mono ?_
  rintro e w6 ⟨rfl, hb6⟩
  have HB6 := Lib.hid (HB5.out.trans (hb6.mono HB5.out.size))
  clear hb6
  go_wp2_with fail
  go_ret
  exact ⟨⟨u5, rfl, HU5.out⟩, HB6.out⟩
set_option maxRecDepth 100000 in
set_option maxHeartbeats 8000000 in
theorem rblock4 (nm : ByteArray) (ds : List DirT) (hfd : dirsFit ds) (L : List UInt8) (w : World) (B : Nat) (c2 c4 c5 c6 u : Value) (hd : DirsR w B u ds) (hB : B ≤ w.heap.size) (oL : ByteArray) (hoL : bL oL = L) (CL : ∀ W, Below w.heap.size w W → Calls Tryz.prog 39 #[.agg #[.int .i64 4, .string nm, c2, u, c4, c5, c6]] W fun e w' => e = .returned (.string oL) ∧ Below W.heap.size W w')
    (hl : (wEnum ++ (bL nm ++ (tailTxt ds ++ ([32, 123, 10] ++ (L ++ [125, 10]))))).length ≤ 140737488355328) : Calls Tryz.prog 18 #[.agg #[.int .i64 4, .string nm, c2, u, c4, c5, c6]] w (SP (wEnum ++ (bL nm ++ (tailTxt ds ++ ([32, 123, 10] ++ (L ++ [125, 10]))))) w) := by
  obtain ⟨A9, c9, rfl, _, _⟩ := hd.form
  have HDD0 := Lib.hid hd
  have HFD := Lib.hid hfd
  have HBB := Lib.hid hB
  have HCL := Lib.hid CL
  have HOL := Lib.hid hoL
  have HLZ : Hid (oL.size = L.length) := Lib.hid (by rw [← bL_len, hoL])
  have hwl : (wEnum).length = 5 := rfl
  have hll : 5 + nm.size + (tailTxt ds).length + 3 + L.length + 2 ≤ 140737488355328 := by
    have h1 := hl
    simp only [List.length_append, List.length_cons, List.length_nil, bL_len] at h1
    omega
  obtain ⟨u1, hu1, hadd1⟩ := cat_ex ⟨#[101, 110, 117, 109, 32]⟩ nm (by show 5 + nm.size ≤ _; omega)
  have hu1z : u1.size = 5 + nm.size := by rw [← bL_len, hu1, List.length_append, bL_len nm]; rfl
  obtain ⟨o9, ho9⟩ : ∃ o : ByteArray, bL o = tailTxt ds := ⟨⟨(tailTxt ds).toArray⟩, bL_mk _⟩
  have ho9z : o9.size = (tailTxt ds).length := by rw [← bL_len, ho9]
  obtain ⟨u2, hu2, hadd2⟩ := cat_ex u1 o9 (by omega)
  have hu2z : u2.size = u1.size + o9.size := by rw [← bL_len, hu2, List.length_append, bL_len, bL_len]
  obtain ⟨u3, hu3, hadd3⟩ := cat_ex u2 ⟨#[32, 123, 10]⟩ (by show u2.size + 3 ≤ _; omega)
  have hu3z : u3.size = u2.size + 3 := by rw [← bL_len, hu3, List.length_append, bL_len]; rfl
  obtain ⟨u4, hu4, hadd4⟩ := cat_ex u3 oL (by have := HLZ.out; omega)
  have hu4z : u4.size = u3.size + oL.size := by rw [← bL_len, hu4, List.length_append, bL_len, bL_len]
  obtain ⟨u5, hu5, hadd5⟩ := cat_ex u4 ⟨#[125, 10]⟩ (by have := HLZ.out; show u4.size + 2 ≤ _; omega)
  have HU5 : Hid (bL u5 = wEnum ++ (bL nm ++ (tailTxt ds ++ ([32, 123, 10] ++ (L ++ [125, 10]))))) := Lib.hid (by rw [hu5, hu4, hu3, hu2, hu1, ho9, hoL]; simp only [List.append_assoc]; rfl)
  have CALT : Hid (∀ W, Below w.heap.size w W → Calls Tryz.prog 38 #[.slice A9 ds.length c9] W fun e w' => e = .returned (.string o9) ∧ Below W.heap.size W w') := Lib.hid fun W hW => by
    refine (rtail_any ds HFD.out _ W B (HDD0.out.kept (hW.mono HBB.out)) (Nat.le_trans HBB.out hW.size) (by omega)).mono ?_
    rintro e w' ⟨⟨o', rfl, ho'⟩, hb⟩
    exact ⟨by rw [bL_inj (ho'.trans ho9.symm)], hb⟩
  clear hu1 hu1z ho9 ho9z hu2 hu2z hu3 hu3z hu4 hu4z hu5 hll hwl hl hd hfd hB CL hoL HDD0
  generalize ds.length = n9 at *
  have HB2 : Hid (Below w.heap.size w ((w.alloc (.cells #[.int .i64 4, .string nm, c2, .slice A9 n9 c9, c4, c5, c6] 35 (0, 0))).alloc (.cells #[.string ⟨#[]⟩, .string ⟨#[116, 121, 112, 101, 32]⟩, .string ⟨#[105, 110, 116, 101, 114, 102, 97, 99, 101, 32]⟩, .string ⟨#[117, 110, 105, 111, 110, 32]⟩, .string ⟨#[101, 110, 117, 109, 32]⟩, .string ⟨#[105, 110, 112, 117, 116, 32]⟩] 9 (0, 0)))) := Lib.hid ((below_new _ _).trans ((below_new _ _).mono (by simp)))
  have HK2 : Hid (Bk ((w.alloc (.cells #[.int .i64 4, .string nm, c2, .slice A9 n9 c9, c4, c5, c6] 35 (0, 0))).alloc (.cells #[.string ⟨#[]⟩, .string ⟨#[116, 121, 112, 101, 32]⟩, .string ⟨#[105, 110, 116, 101, 114, 102, 97, 99, 101, 32]⟩, .string ⟨#[117, 110, 105, 111, 110, 32]⟩, .string ⟨#[101, 110, 117, 109, 32]⟩, .string ⟨#[105, 110, 112, 117, 116, 32]⟩] 9 (0, 0))) w.heap.size #[.int .i64 4, .string nm, c2, .slice A9 n9 c9, c4, c5, c6] 35) := Lib.hid ((Bk.new w #[.int .i64 4, .string nm, c2, .slice A9 n9 c9, c4, c5, c6] 35).stay (below_new _ _))
  have y0 := HK2.out.cell 0 _ rfl
  have y1 := HK2.out.cell 1 _ rfl
  have y2 := HK2.out.cell 2 _ rfl
  have y3 := HK2.out.cell 3 _ rfl
  have z1 := (Bk.new (w.alloc (.cells #[.int .i64 4, .string nm, c2, .slice A9 n9 c9, c4, c5, c6] 35 (0, 0))) #[.string ⟨#[]⟩, .string ⟨#[116, 121, 112, 101, 32]⟩, .string ⟨#[105, 110, 116, 101, 114, 102, 97, 99, 101, 32]⟩, .string ⟨#[117, 110, 105, 111, 110, 32]⟩, .string ⟨#[101, 110, 117, 109, 32]⟩, .string ⟨#[105, 110, 112, 117, 116, 32]⟩] 9).cell 4 _ rfl
  go_enter Tryz.func18, Tryz.ntmps18
  go_wp2_with fail
  refine (CALT.out _ HB2.out).mono ?_
  rintro e w5 ⟨rfl, hb5⟩
  have HB5 := Lib.hid (HB2.out.trans (hb5.mono HB2.out.size))
  have HK5 := Lib.hid (HK2.out.stay hb5)
  clear y0 y1 y2 y3 z1 hb5
  have y0 := HK5.out.cell 0 _ rfl
  have y1 := HK5.out.cell 1 _ rfl
  have y2 := HK5.out.cell 2 _ rfl
  have y3 := HK5.out.cell 3 _ rfl
  have y4 := HK5.out.cell 4 _ rfl
  have y5 := HK5.out.cell 5 _ rfl
  have y6 := HK5.out.cell 6 _ rfl
  go_wp2_with fail
  clear y0 y1 y2 y3 y4 y5 y6
  refine (HCL.out _ HB5.out).mono ?_
  rintro e w6 ⟨rfl, hb6⟩
  have HB6 := Lib.hid (HB5.out.trans (hb6.mono HB5.out.size))
  clear hb6
  go_wp2_with fail
  go_ret
  exact ⟨⟨u5, rfl, HU5.out⟩, HB6.out⟩
set_option maxRecDepth 100000 in
set_option maxHeartbeats 8000000 in
theorem rblock5 (nm : ByteArray) (ds : List DirT) (hfd : dirsFit ds) (L : List UInt8) (w : World) (B : Nat) (c2 c4 c5 c6 u : Value) (hd : DirsR w B u ds) (hB : B ≤ w.heap.size) (oL : ByteArray) (hoL : bL oL = L) (CL : ∀ W, Below w.heap.size w W → Calls Tryz.prog 39 #[.agg #[.int .i64 5, .string nm, c2, u, c4, c5, c6]] W fun e w' => e = .returned (.string oL) ∧ Below W.heap.size W w')
    (hl : (wInput ++ (bL nm ++ (tailTxt ds ++ ([32, 123, 10] ++ (L ++ [125, 10]))))).length ≤ 140737488355328) : Calls Tryz.prog 18 #[.agg #[.int .i64 5, .string nm, c2, u, c4, c5, c6]] w (SP (wInput ++ (bL nm ++ (tailTxt ds ++ ([32, 123, 10] ++ (L ++ [125, 10]))))) w) := by
  obtain ⟨A9, c9, rfl, _, _⟩ := hd.form
  have HDD0 := Lib.hid hd
  have HFD := Lib.hid hfd
  have HBB := Lib.hid hB
  have HCL := Lib.hid CL
  have HOL := Lib.hid hoL
  have HLZ : Hid (oL.size = L.length) := Lib.hid (by rw [← bL_len, hoL])
  have hwl : (wInput).length = 6 := rfl
  have hll : 6 + nm.size + (tailTxt ds).length + 3 + L.length + 2 ≤ 140737488355328 := by
    have h1 := hl
    simp only [List.length_append, List.length_cons, List.length_nil, bL_len] at h1
    omega
  obtain ⟨u1, hu1, hadd1⟩ := cat_ex ⟨#[105, 110, 112, 117, 116, 32]⟩ nm (by show 6 + nm.size ≤ _; omega)
  have hu1z : u1.size = 6 + nm.size := by rw [← bL_len, hu1, List.length_append, bL_len nm]; rfl
  obtain ⟨o9, ho9⟩ : ∃ o : ByteArray, bL o = tailTxt ds := ⟨⟨(tailTxt ds).toArray⟩, bL_mk _⟩
  have ho9z : o9.size = (tailTxt ds).length := by rw [← bL_len, ho9]
  obtain ⟨u2, hu2, hadd2⟩ := cat_ex u1 o9 (by omega)
  have hu2z : u2.size = u1.size + o9.size := by rw [← bL_len, hu2, List.length_append, bL_len, bL_len]
  obtain ⟨u3, hu3, hadd3⟩ := cat_ex u2 ⟨#[32, 123, 10]⟩ (by show u2.size + 3 ≤ _; omega)
  have hu3z : u3.size = u2.size + 3 := by rw [← bL_len, hu3, List.length_append, bL_len]; rfl
  obtain ⟨u4, hu4, hadd4⟩ := cat_ex u3 oL (by have := HLZ.out; omega)
  have hu4z : u4.size = u3.size + oL.size := by rw [← bL_len, hu4, List.length_append, bL_len, bL_len]
  obtain ⟨u5, hu5, hadd5⟩ := cat_ex u4 ⟨#[125, 10]⟩ (by have := HLZ.out; show u4.size + 2 ≤ _; omega)
  have HU5 : Hid (bL u5 = wInput ++ (bL nm ++ (tailTxt ds ++ ([32, 123, 10] ++ (L ++ [125, 10]))))) := Lib.hid (by rw [hu5, hu4, hu3, hu2, hu1, ho9, hoL]; simp only [List.append_assoc]; rfl)
  have CALT : Hid (∀ W, Below w.heap.size w W → Calls Tryz.prog 38 #[.slice A9 ds.length c9] W fun e w' => e = .returned (.string o9) ∧ Below W.heap.size W w') := Lib.hid fun W hW => by
    refine (rtail_any ds HFD.out _ W B (HDD0.out.kept (hW.mono HBB.out)) (Nat.le_trans HBB.out hW.size) (by omega)).mono ?_
    rintro e w' ⟨⟨o', rfl, ho'⟩, hb⟩
    exact ⟨by rw [bL_inj (ho'.trans ho9.symm)], hb⟩
  clear hu1 hu1z ho9 ho9z hu2 hu2z hu3 hu3z hu4 hu4z hu5 hll hwl hl hd hfd hB CL hoL HDD0
  generalize ds.length = n9 at *
  have HB2 : Hid (Below w.heap.size w ((w.alloc (.cells #[.int .i64 5, .string nm, c2, .slice A9 n9 c9, c4, c5, c6] 35 (0, 0))).alloc (.cells #[.string ⟨#[]⟩, .string ⟨#[116, 121, 112, 101, 32]⟩, .string ⟨#[105, 110, 116, 101, 114, 102, 97, 99, 101, 32]⟩, .string ⟨#[117, 110, 105, 111, 110, 32]⟩, .string ⟨#[101, 110, 117, 109, 32]⟩, .string ⟨#[105, 110, 112, 117, 116, 32]⟩] 9 (0, 0)))) := Lib.hid ((below_new _ _).trans ((below_new _ _).mono (by simp)))
  have HK2 : Hid (Bk ((w.alloc (.cells #[.int .i64 5, .string nm, c2, .slice A9 n9 c9, c4, c5, c6] 35 (0, 0))).alloc (.cells #[.string ⟨#[]⟩, .string ⟨#[116, 121, 112, 101, 32]⟩, .string ⟨#[105, 110, 116, 101, 114, 102, 97, 99, 101, 32]⟩, .string ⟨#[117, 110, 105, 111, 110, 32]⟩, .string ⟨#[101, 110, 117, 109, 32]⟩, .string ⟨#[105, 110, 112, 117, 116, 32]⟩] 9 (0, 0))) w.heap.size #[.int .i64 5, .string nm, c2, .slice A9 n9 c9, c4, c5, c6] 35) := Lib.hid ((Bk.new w #[.int .i64 5, .string nm, c2, .slice A9 n9 c9, c4, c5, c6] 35).stay (below_new _ _))
  have y0 := HK2.out.cell 0 _ rfl
  have y1 := HK2.out.cell 1 _ rfl
  have y2 := HK2.out.cell 2 _ rfl
  have y3 := HK2.out.cell 3 _ rfl
  have z1 := (Bk.new (w.alloc (.cells #[.int .i64 5, .string nm, c2, .slice A9 n9 c9, c4, c5, c6] 35 (0, 0))) #[.string ⟨#[]⟩, .string ⟨#[116, 121, 112, 101, 32]⟩, .string ⟨#[105, 110, 116, 101, 114, 102, 97, 99, 101, 32]⟩, .string ⟨#[117, 110, 105, 111, 110, 32]⟩, .string ⟨#[101, 110, 117, 109, 32]⟩, .string ⟨#[105, 110, 112, 117, 116, 32]⟩] 9).cell 5 _ rfl
  go_enter Tryz.func18, Tryz.ntmps18
  go_wp2_with fail
  refine (CALT.out _ HB2.out).mono ?_
  rintro e w5 ⟨rfl, hb5⟩
  have HB5 := Lib.hid (HB2.out.trans (hb5.mono HB2.out.size))
  have HK5 := Lib.hid (HK2.out.stay hb5)
  clear y0 y1 y2 y3 z1 hb5
  have y0 := HK5.out.cell 0 _ rfl
  have y1 := HK5.out.cell 1 _ rfl
  have y2 := HK5.out.cell 2 _ rfl
  have y3 := HK5.out.cell 3 _ rfl
  have y4 := HK5.out.cell 4 _ rfl
  have y5 := HK5.out.cell 5 _ rfl
  have y6 := HK5.out.cell 6 _ rfl
  go_wp2_with fail
  clear y0 y1 y2 y3 y4 y5 y6
  refine (HCL.out _ HB5.out).mono ?_
  rintro e w6 ⟨rfl, hb6⟩
  have HB6 := Lib.hid (HB5.out.trans (hb6.mono HB5.out.size))
  clear hb6
  go_wp2_with fail
  go_ret
  exact ⟨⟨u5, rfl, HU5.out⟩, HB6.out⟩
set_option maxRecDepth 100000 in
set_option maxHeartbeats 8000000 in
theorem rblock1n (nm : ByteArray) (ds : List DirT) (hfd : dirsFit ds) (L : List UInt8) (w : World) (B : Nat) (c4 c5 c6 u : Value) (A2 : Option Addr) (c2 : Nat) (hd : DirsR w B u ds) (hB : B ≤ w.heap.size) (oL : ByteArray) (hoL : bL oL = L) (CL : ∀ W, Below w.heap.size w W → Calls Tryz.prog 39 #[.agg #[.int .i64 1, .string nm, .slice A2 0 c2, u, c4, c5, c6]] W fun e w' => e = .returned (.string oL) ∧ Below W.heap.size W w')
    (hl : (wType ++ (bL nm ++ (tailTxt ds ++ ([32, 123, 10] ++ (L ++ [125, 10]))))).length ≤ 140737488355328) : Calls Tryz.prog 18 #[.agg #[.int .i64 1, .string nm, .slice A2 0 c2, u, c4, c5, c6]] w (SP (wType ++ (bL nm ++ (tailTxt ds ++ ([32, 123, 10] ++ (L ++ [125, 10]))))) w) := by
  obtain ⟨A9, c9, rfl, _, _⟩ := hd.form
  have HDD0 := Lib.hid hd
  have HFD := Lib.hid hfd
  have HBB := Lib.hid hB
  have HCL := Lib.hid CL
  have HOL := Lib.hid hoL
  have HLZ : Hid (oL.size = L.length) := Lib.hid (by rw [← bL_len, hoL])
  have hwl : (wType).length = 5 := rfl
  have hll : 5 + nm.size + (tailTxt ds).length + 3 + L.length + 2 ≤ 140737488355328 := by
    have h1 := hl
    simp only [List.length_append, List.length_cons, List.length_nil, bL_len] at h1
    omega
  obtain ⟨u1, hu1, hadd1⟩ := cat_ex ⟨#[116, 121, 112, 101, 32]⟩ nm (by show 5 + nm.size ≤ _; omega)
  have hu1z : u1.size = 5 + nm.size := by rw [← bL_len, hu1, List.length_append, bL_len nm]; rfl
  obtain ⟨o9, ho9⟩ : ∃ o : ByteArray, bL o = tailTxt ds := ⟨⟨(tailTxt ds).toArray⟩, bL_mk _⟩
  have ho9z : o9.size = (tailTxt ds).length := by rw [← bL_len, ho9]
  obtain ⟨u2, hu2, hadd2⟩ := cat_ex u1 o9 (by omega)
  have hu2z : u2.size = u1.size + o9.size := by rw [← bL_len, hu2, List.length_append, bL_len, bL_len]
  obtain ⟨u3, hu3, hadd3⟩ := cat_ex u2 ⟨#[32, 123, 10]⟩ (by show u2.size + 3 ≤ _; omega)
  have hu3z : u3.size = u2.size + 3 := by rw [← bL_len, hu3, List.length_append, bL_len]; rfl
  obtain ⟨u4, hu4, hadd4⟩ := cat_ex u3 oL (by have := HLZ.out; omega)
  have hu4z : u4.size = u3.size + oL.size := by rw [← bL_len, hu4, List.length_append, bL_len, bL_len]
  obtain ⟨u5, hu5, hadd5⟩ := cat_ex u4 ⟨#[125, 10]⟩ (by have := HLZ.out; show u4.size + 2 ≤ _; omega)
  have HU5 : Hid (bL u5 = wType ++ (bL nm ++ (tailTxt ds ++ ([32, 123, 10] ++ (L ++ [125, 10]))))) := Lib.hid (by rw [hu5, hu4, hu3, hu2, hu1, ho9, hoL]; simp only [List.append_assoc]; rfl)
  have CALT : Hid (∀ W, Below w.heap.size w W → Calls Tryz.prog 38 #[.slice A9 ds.length c9] W fun e w' => e = .returned (.string o9) ∧ Below W.heap.size W w') := Lib.hid fun W hW => by
    refine (rtail_any ds HFD.out _ W B (HDD0.out.kept (hW.mono HBB.out)) (Nat.le_trans HBB.out hW.size) (by omega)).mono ?_
    rintro e w' ⟨⟨o', rfl, ho'⟩, hb⟩
    exact ⟨by rw [bL_inj (ho'.trans ho9.symm)], hb⟩
  clear hu1 hu1z ho9 ho9z hu2 hu2z hu3 hu3z hu4 hu4z hu5 hll hwl hl hd hfd hB CL hoL HDD0
  generalize ds.length = n9 at *
  have HB2 : Hid (Below w.heap.size w ((w.alloc (.cells #[.int .i64 1, .string nm, .slice A2 0 c2, .slice A9 n9 c9, c4, c5, c6] 35 (0, 0))).alloc (.cells #[.string ⟨#[]⟩, .string ⟨#[116, 121, 112, 101, 32]⟩, .string ⟨#[105, 110, 116, 101, 114, 102, 97, 99, 101, 32]⟩, .string ⟨#[117, 110, 105, 111, 110, 32]⟩, .string ⟨#[101, 110, 117, 109, 32]⟩, .string ⟨#[105, 110, 112, 117, 116, 32]⟩] 9 (0, 0)))) := Lib.hid ((below_new _ _).trans ((below_new _ _).mono (by simp)))
  have HK2 : Hid (Bk ((w.alloc (.cells #[.int .i64 1, .string nm, .slice A2 0 c2, .slice A9 n9 c9, c4, c5, c6] 35 (0, 0))).alloc (.cells #[.string ⟨#[]⟩, .string ⟨#[116, 121, 112, 101, 32]⟩, .string ⟨#[105, 110, 116, 101, 114, 102, 97, 99, 101, 32]⟩, .string ⟨#[117, 110, 105, 111, 110, 32]⟩, .string ⟨#[101, 110, 117, 109, 32]⟩, .string ⟨#[105, 110, 112, 117, 116, 32]⟩] 9 (0, 0))) w.heap.size #[.int .i64 1, .string nm, .slice A2 0 c2, .slice A9 n9 c9, c4, c5, c6] 35) := Lib.hid ((Bk.new w #[.int .i64 1, .string nm, .slice A2 0 c2, .slice A9 n9 c9, c4, c5, c6] 35).stay (below_new _ _))
  have y0 := HK2.out.cell 0 _ rfl
  have y1 := HK2.out.cell 1 _ rfl
  have y2 := HK2.out.cell 2 _ rfl
  have y3 := HK2.out.cell 3 _ rfl
  have z1 := (Bk.new (w.alloc (.cells #[.int .i64 1, .string nm, .slice A2 0 c2, .slice A9 n9 c9, c4, c5, c6] 35 (0, 0))) #[.string ⟨#[]⟩, .string ⟨#[116, 121, 112, 101, 32]⟩, .string ⟨#[105, 110, 116, 101, 114, 102, 97, 99, 101, 32]⟩, .string ⟨#[117, 110, 105, 111, 110, 32]⟩, .string ⟨#[101, 110, 117, 109, 32]⟩, .string ⟨#[105, 110, 112, 117, 116, 32]⟩] 9).cell 1 _ rfl
  go_enter Tryz.func18, Tryz.ntmps18
  go_wp2_with fail
  refine (CALT.out _ HB2.out).mono ?_
  rintro e w5 ⟨rfl, hb5⟩
  have HB5 := Lib.hid (HB2.out.trans (hb5.mono HB2.out.size))
  have HK5 := Lib.hid (HK2.out.stay hb5)
  clear y0 y1 y2 y3 z1 hb5
  have y0 := HK5.out.cell 0 _ rfl
  have y1 := HK5.out.cell 1 _ rfl
  have y2 := HK5.out.cell 2 _ rfl
  have y3 := HK5.out.cell 3 _ rfl
  have y4 := HK5.out.cell 4 _ rfl
  have y5 := HK5.out.cell 5 _ rfl
  have y6 := HK5.out.cell 6 _ rfl
  go_wp2_with fail
  clear y0 y1 y2 y3 y4 y5 y6
  refine (HCL.out _ HB5.out).mono ?_
  rintro e w6 ⟨rfl, hb6⟩
  have HB6 := Lib.hid (HB5.out.trans (hb6.mono HB5.out.size))
  clear hb6
  go_wp2_with fail
  go_ret
  exact ⟨⟨u5, rfl, HU5.out⟩, HB6.out⟩
set_option maxRecDepth 100000 in
set_option maxHeartbeats 8000000 in
theorem rblock1y (nm : ByteArray) (ds : List DirT) (hfd : dirsFit ds) (L : List UInt8) (w : World) (B : Nat) (c4 c5 c6 u : Value) (A2 : Option Addr) (m c2 : Nat) (hd : DirsR w B u ds) (hB : B ≤ w.heap.size) (is : List ByteArray) (him : is.length = m) (hm0 : 0 < m) (hm1 : m ≤ 64) (hst : ∀ W, Below w.heap.size w W → StrsV W A2 is) (oL : ByteArray) (hoL : bL oL = L) (CL : ∀ W, Below w.heap.size w W → Calls Tryz.prog 39 #[.agg #[.int .i64 1, .string nm, .slice A2 m c2, u, c4, c5, c6]] W fun e w' => e = .returned (.string oL) ∧ Below W.heap.size W w')
    (hl : (wType ++ (bL nm ++ (implTxt is ++ (tailTxt ds ++ ([32, 123, 10] ++ (L ++ [125, 10])))))).length ≤ 140737488355328) : Calls Tryz.prog 18 #[.agg #[.int .i64 1, .string nm, .slice A2 m c2, u, c4, c5, c6]] w (SP (wType ++ (bL nm ++ (implTxt is ++ (tailTxt ds ++ ([32, 123, 10] ++ (L ++ [125, 10])))))) w) := by
  obtain ⟨A9, c9, rfl, _, _⟩ := hd.form
  have HDD0 := Lib.hid hd
  have HFD := Lib.hid hfd
  have HBB := Lib.hid hB
  have HCL := Lib.hid CL
  have HOL := Lib.hid hoL
  have HLZ : Hid (oL.size = L.length) := Lib.hid (by rw [← bL_len, hoL])
  have hwl : (wType).length = 5 := rfl
  have him2 : implTxt is = [32, 105, 109, 112, 108, 101, 109, 101, 110, 116, 115, 32] ++ jn [32, 38, 32] (is.map bL) := by unfold implTxt; rw [if_neg (by omega)]
  have himl : (implTxt is).length = 12 + (jn [32, 38, 32] (is.map bL)).length := by rw [him2, List.length_append]; rfl
  have hll : 5 + nm.size + (implTxt is).length + (tailTxt ds).length + 3 + L.length + 2 ≤ 140737488355328 := by
    have h1 := hl
    simp only [List.length_append, List.length_cons, List.length_nil, bL_len] at h1
    omega
  obtain ⟨u1, hu1, hadd1⟩ := cat_ex ⟨#[116, 121, 112, 101, 32]⟩ nm (by show 5 + nm.size ≤ _; omega)
  have hu1z : u1.size = 5 + nm.size := by rw [← bL_len, hu1, List.length_append, bL_len nm]; rfl
  obtain ⟨oj, hoj⟩ : ∃ o : ByteArray, bL o = jn [32, 38, 32] (is.map bL) := ⟨⟨(jn [32, 38, 32] (is.map bL)).toArray⟩, bL_mk _⟩
  have hojz : oj.size = (jn [32, 38, 32] (is.map bL)).length := by rw [← bL_len, hoj]
  obtain ⟨v1, hv1, hadd6⟩ := cat_ex u1 ⟨#[32, 105, 109, 112, 108, 101, 109, 101, 110, 116, 115, 32]⟩ (by show u1.size + 12 ≤ _; omega)
  have hv1z : v1.size = u1.size + 12 := by rw [← bL_len, hv1, List.length_append, bL_len]; rfl
  obtain ⟨v2, hv2, hadd7⟩ := cat_ex v1 oj (by omega)
  have hv2z : v2.size = v1.size + oj.size := by rw [← bL_len, hv2, List.length_append, bL_len, bL_len]
  have CJ : Hid (∀ W, Below w.heap.size w W → Calls Tryz.prog 19 #[.slice A2 m c2, .string ⟨#[32, 38, 32]⟩] W fun e w' => e = .returned (.string oj) ∧ W = w') := Lib.hid fun W hW => by
    refine (rjoin_any is A2 m c2 ⟨#[32, 38, 32]⟩ W (hst W hW) him (by omega) (by show (jn [32, 38, 32] _).length ≤ _; omega)).mono ?_
    rintro e w' ⟨⟨o', rfl, ho'⟩, rfl⟩
    exact ⟨by rw [bL_inj (ho'.trans hoj.symm)], rfl⟩
  obtain ⟨o9, ho9⟩ : ∃ o : ByteArray, bL o = tailTxt ds := ⟨⟨(tailTxt ds).toArray⟩, bL_mk _⟩
  have ho9z : o9.size = (tailTxt ds).length := by rw [← bL_len, ho9]
  obtain ⟨u2, hu2, hadd2⟩ := cat_ex v2 o9 (by omega)
  have hu2z : u2.size = v2.size + o9.size := by rw [← bL_len, hu2, List.length_append, bL_len, bL_len]
  obtain ⟨u3, hu3, hadd3⟩ := cat_ex u2 ⟨#[32, 123, 10]⟩ (by show u2.size + 3 ≤ _; omega)
  have hu3z : u3.size = u2.size + 3 := by rw [← bL_len, hu3, List.length_append, bL_len]; rfl
  obtain ⟨u4, hu4, hadd4⟩ := cat_ex u3 oL (by have := HLZ.out; omega)
  have hu4z : u4.size = u3.size + oL.size := by rw [← bL_len, hu4, List.length_append, bL_len, bL_len]
  obtain ⟨u5, hu5, hadd5⟩ := cat_ex u4 ⟨#[125, 10]⟩ (by have := HLZ.out; show u4.size + 2 ≤ _; omega)
  have HU5 : Hid (bL u5 = wType ++ (bL nm ++ (implTxt is ++ (tailTxt ds ++ ([32, 123, 10] ++ (L ++ [125, 10])))))) := Lib.hid (by rw [hu5, hu4, hu3, hu2, hv2, hv1, hoj, hu1, ho9, hoL, him2]; simp only [List.append_assoc]; rfl)
  have CALT : Hid (∀ W, Below w.heap.size w W → Calls Tryz.prog 38 #[.slice A9 ds.length c9] W fun e w' => e = .returned (.string o9) ∧ Below W.heap.size W w') := Lib.hid fun W hW => by
    refine (rtail_any ds HFD.out _ W B (HDD0.out.kept (hW.mono HBB.out)) (Nat.le_trans HBB.out hW.size) (by omega)).mono ?_
    rintro e w' ⟨⟨o', rfl, ho'⟩, hb⟩
    exact ⟨by rw [bL_inj (ho'.trans ho9.symm)], hb⟩
  clear hu1 hu1z ho9 ho9z hu2 hu2z hu3 hu3z hu4 hu4z hu5 hll hwl hl hd hfd hB CL hoL HDD0 hv1 hv1z hv2 hv2z hoj hojz him2 himl hst him
  generalize ds.length = n9 at *
  have HB2 : Hid (Below w.heap.size w ((w.alloc (.cells #[.int .i64 1, .string nm, .slice A2 m c2, .slice A9 n9 c9, c4, c5, c6] 35 (0, 0))).alloc (.cells #[.string ⟨#[]⟩, .string ⟨#[116, 121, 112, 101, 32]⟩, .string ⟨#[105, 110, 116, 101, 114, 102, 97, 99, 101, 32]⟩, .string ⟨#[117, 110, 105, 111, 110, 32]⟩, .string ⟨#[101, 110, 117, 109, 32]⟩, .string ⟨#[105, 110, 112, 117, 116, 32]⟩] 9 (0, 0)))) := Lib.hid ((below_new _ _).trans ((below_new _ _).mono (by simp)))
  have HK2 : Hid (Bk ((w.alloc (.cells #[.int .i64 1, .string nm, .slice A2 m c2, .slice A9 n9 c9, c4, c5, c6] 35 (0, 0))).alloc (.cells #[.string ⟨#[]⟩, .string ⟨#[116, 121, 112, 101, 32]⟩, .string ⟨#[105, 110, 116, 101, 114, 102, 97, 99, 101, 32]⟩, .string ⟨#[117, 110, 105, 111, 110, 32]⟩, .string ⟨#[101, 110, 117, 109, 32]⟩, .string ⟨#[105, 110, 112, 117, 116, 32]⟩] 9 (0, 0))) w.heap.size #[.int .i64 1, .string nm, .slice A2 m c2, .slice A9 n9 c9, c4, c5, c6] 35) := Lib.hid ((Bk.new w #[.int .i64 1, .string nm, .slice A2 m c2, .slice A9 n9 c9, c4, c5, c6] 35).stay (below_new _ _))
  have y0 := HK2.out.cell 0 _ rfl
  have y1 := HK2.out.cell 1 _ rfl
  have y2 := HK2.out.cell 2 _ rfl
  have y3 := HK2.out.cell 3 _ rfl
  have z1 := (Bk.new (w.alloc (.cells #[.int .i64 1, .string nm, .slice A2 m c2, .slice A9 n9 c9, c4, c5, c6] 35 (0, 0))) #[.string ⟨#[]⟩, .string ⟨#[116, 121, 112, 101, 32]⟩, .string ⟨#[105, 110, 116, 101, 114, 102, 97, 99, 101, 32]⟩, .string ⟨#[117, 110, 105, 111, 110, 32]⟩, .string ⟨#[101, 110, 117, 109, 32]⟩, .string ⟨#[105, 110, 112, 117, 116, 32]⟩] 9).cell 1 _ rfl
  go_enter Tryz.func18, Tryz.ntmps18
  go_wp2_with fail
  refine (CJ.out _ HB2.out).mono ?_
  rintro e w8 ⟨rfl, rfl⟩
  go_wp2_with fail
  refine (CALT.out _ HB2.out).mono ?_
  rintro e w5 ⟨rfl, hb5⟩
  have HB5 := Lib.hid (HB2.out.trans (hb5.mono HB2.out.size))
  have HK5 := Lib.hid (HK2.out.stay hb5)
  clear y0 y1 y2 y3 z1 hb5
  have y0 := HK5.out.cell 0 _ rfl
  have y1 := HK5.out.cell 1 _ rfl
  have y2 := HK5.out.cell 2 _ rfl
  have y3 := HK5.out.cell 3 _ rfl
  have y4 := HK5.out.cell 4 _ rfl
  have y5 := HK5.out.cell 5 _ rfl
  have y6 := HK5.out.cell 6 _ rfl
  go_wp2_with fail
  clear y0 y1 y2 y3 y4 y5 y6
  refine (HCL.out _ HB5.out).mono ?_
  rintro e w6 ⟨rfl, hb6⟩
  have HB6 := Lib.hid (HB5.out.trans (hb6.mono HB5.out.size))
  clear hb6
  go_wp2_with fail
  go_ret
  exact ⟨⟨u5, rfl, HU5.out⟩, HB6.out⟩
end Go.Proofs.YtieklhplalgmmaaGreatDoor
