
/-
  The law of the order of references.
-/
import Derived.Test.YtgicbmibhnnflaaGreatDoorZC
namespace Go.Proofs.YtgicbmibhnnflaaGreatDoor
open Go.RowKit
theorem BxR.third (w : World) (c0 c1 d0 d1 e0 e1 : Value) : let W := ((w.alloc (.cells #[c0, c1] 24 (0, 0))).alloc (.cells #[d0, d1] 24 (0, 0))).alloc (.cells #[e0, e1] 24 (0, 0))
    BxR W w.heap.size c0 c1 ∧ BxR W (w.heap.size + 1) d0 d1 ∧ BxR W (w.heap.size + 1 + 1) e0 e1 ∧ Below w.heap.size w W := by
  obtain ⟨h1, h2, h3, h4⟩ := BxR.both w c0 c1 d0 d1
  refine ⟨h1.alloc _, h2.alloc _, ?_, h3.alloc (by omega) _⟩
  have := BxR.new ((w.alloc (.cells #[c0, c1] 24 (0, 0))).alloc (.cells #[d0, d1] 24 (0, 0))) e0 e1
  rw [h4] at this
  exact this
theorem ok_we {n m : ByteArray} {xs ys : Ws} (ha : okB n xs = true) (hs : decide (n = m ∧ strL xs = strL ys) = true) : okB n (weL xs ys) = true := by
  have h1 := ok_len ha
  have h2 := we_len h1.2.2 (of_decide_eq_true hs).2
  have h3 : rtF false (weL xs ys) = true := rt_wl _
  unfold okB
  rw [h1.1, h3, decide_eq_true (show (weL xs ys).length ≤ 24 by omega)]
  rfl
theorem fo_refl (n : ByteArray) (xs : Ws) : (decide (n = n) && fiL xs xs) = true := by rw [fi_refl]; simp
theorem fo_trans {n m k : ByteArray} {xs ys zs : Ws} (h1 : (decide (n = m) && fiL xs ys) = true) (h2 : (decide (m = k) && fiL ys zs) = true) : (decide (n = k) && fiL xs zs) = true := by
  simp only [Bool.and_eq_true, decide_eq_true_eq] at h1 h2 ⊢
  exact ⟨h1.1.trans h2.1, fi_trans h1.2 h2.2⟩
theorem fo_left {n m : ByteArray} {xs ys : Ws} (ha : okB n xs = true) (hs : decide (n = m ∧ strL xs = strL ys) = true) : (decide (n = n) && fiL xs (weL xs ys)) = true := by
  rw [(fi_we (ok_len ha).2.2 (of_decide_eq_true hs).2).1]; simp
theorem fo_right {n m : ByteArray} {xs ys : Ws} (ha : okB n xs = true) (hs : decide (n = m ∧ strL xs = strL ys) = true) : (decide (m = n) && fiL ys (weL xs ys)) = true := by
  rw [(fi_we (ok_len ha).2.2 (of_decide_eq_true hs).2).2, decide_eq_true (of_decide_eq_true hs).1.symm]; rfl
theorem fo_least {n m k : ByteArray} {xs ys zs : Ws} (ha : okB n xs = true) (hs : decide (n = m ∧ strL xs = strL ys) = true) (h1 : (decide (n = k) && fiL xs zs) = true) (h2 : (decide (m = k) && fiL ys zs) = true) : (decide (n = k) && fiL (weL xs ys) zs) = true := by
  simp only [Bool.and_eq_true, decide_eq_true_eq] at h1 h2 ⊢
  exact ⟨h1.1, fi_least (ok_len ha).2.2 (of_decide_eq_true hs).2 h1.2 h2.2⟩
set_option maxRecDepth 100000 in
set_option maxHeartbeats 2000000 in
theorem order_w1 (n m k : ByteArray) (xs ys zs : Ws) (v u t : Value) (w : World) (hx : RefV w w.heap.size v n xs) (hy : RefV w w.heap.size u m ys) (hz : RefV w w.heap.size t k zs) (hL : LK w) (hn : n.size ≤ maxLen) (hm : m.size ≤ maxLen) (hk : k.size ≤ maxLen) (hoa : okB n xs = false)  : Calls Tryz.prog 5 #[v, u, t] w (BoolPost true w) := by
  have HOA := Lib.hid hoa
  clear hoa
  have HLK := Lib.hid hL
  have HN := Lib.hid hn
  have HM := Lib.hid hm
  have HK := Lib.hid hk
  obtain ⟨A, c, rfl, hc, hi⟩ := hx
  obtain ⟨B0, d, rfl, hd, hj⟩ := hy
  obtain ⟨C0, e0, rfl, he, hg⟩ := hz
  obtain ⟨x1, x2, x4, x3⟩ := BxR.third w (.string n) (.slice A xs.length c) (.string m) (.slice B0 ys.length d) (.string k) (.slice C0 zs.length e0)
  have X : Hid (RefB (((w.alloc (.cells #[.string n, .slice A xs.length c] 24 (0, 0))).alloc (.cells #[.string m, .slice B0 ys.length d] 24 (0, 0))).alloc (.cells #[.string k, .slice C0 zs.length e0] 24 (0, 0))) w.heap.size n xs) := Lib.hid ⟨A, c, x1, hc, hi.stay x3⟩
  have Y : Hid (RefB (((w.alloc (.cells #[.string n, .slice A xs.length c] 24 (0, 0))).alloc (.cells #[.string m, .slice B0 ys.length d] 24 (0, 0))).alloc (.cells #[.string k, .slice C0 zs.length e0] 24 (0, 0))) (w.heap.size + 1) m ys) := Lib.hid ⟨B0, d, x2, hd, hj.stay x3⟩
  have Z3 : Hid (RefB (((w.alloc (.cells #[.string n, .slice A xs.length c] 24 (0, 0))).alloc (.cells #[.string m, .slice B0 ys.length d] 24 (0, 0))).alloc (.cells #[.string k, .slice C0 zs.length e0] 24 (0, 0))) (w.heap.size + 1 + 1) k zs) := Lib.hid ⟨C0, e0, x4, he, hg.stay x3⟩
  have B := Lib.hid x3
  have V0 : Hid (RefV (((w.alloc (.cells #[.string n, .slice A xs.length c] 24 (0, 0))).alloc (.cells #[.string m, .slice B0 ys.length d] 24 (0, 0))).alloc (.cells #[.string k, .slice C0 zs.length e0] 24 (0, 0))) (((w.alloc (.cells #[.string n, .slice A xs.length c] 24 (0, 0))).alloc (.cells #[.string m, .slice B0 ys.length d] 24 (0, 0))).alloc (.cells #[.string k, .slice C0 zs.length e0] 24 (0, 0))).heap.size (.agg #[.string n, .slice A xs.length c]) n xs) := Lib.hid ⟨A, c, rfl, hc, hi.stay x3⟩
  clear hc hd he hi hj hg x1 x2 x3 x4 hL hn hm hk
  go_enter Tryz.func5, Tryz.ntmps5
  go_wp2_with fail
  generalize (((w.alloc (.cells #[.string n, .slice A xs.length c] 24 (0, 0))).alloc (.cells #[.string m, .slice B0 ys.length d] 24 (0, 0))).alloc (.cells #[.string k, .slice C0 zs.length e0] 24 (0, 0))) = W0 at *
  have hcall := rright_any n xs _ _ V0.out HN.out
  rw [HOA.out] at hcall
  refine hcall.mono ?_
  clear hcall
  rintro e wc1 ⟨rfl, hb1⟩
  clear V0
  replace X := Lib.hid (X.out.stay hb1)
  replace Y := Lib.hid (Y.out.stay hb1)
  replace Z3 := Lib.hid (Z3.out.stay hb1)
  replace B := Lib.hid (B.out.trans (hb1.mono B.out.size))
  clear hb1
  go_wp2_with fail
  refine (knows_any _ (HLK.out.below B.out)).mono ?_
  rintro e wk9 ⟨rfl, hb1⟩
  have HBK := Lib.hid (B.out.trans (hb1.mono B.out.size))
  clear hb1
  go_wp2_with fail
  exact bodyPost_ret (v := .bool true) (by simp [results, Tryz.results5, go_sem]) rfl ⟨rfl, HBK.out⟩
set_option maxRecDepth 100000 in
set_option maxHeartbeats 2000000 in
theorem order_w2 (n m k : ByteArray) (xs ys zs : Ws) (v u t : Value) (w : World) (hx : RefV w w.heap.size v n xs) (hy : RefV w w.heap.size u m ys) (hz : RefV w w.heap.size t k zs) (hL : LK w) (hn : n.size ≤ maxLen) (hm : m.size ≤ maxLen) (hk : k.size ≤ maxLen) (hoa : okB n xs = true) (hob : okB m ys = false)  : Calls Tryz.prog 5 #[v, u, t] w (BoolPost true w) := by
  have HOA := Lib.hid hoa
  have HOB := Lib.hid hob
  clear hoa hob
  have HLK := Lib.hid hL
  have HN := Lib.hid hn
  have HM := Lib.hid hm
  have HK := Lib.hid hk
  obtain ⟨A, c, rfl, hc, hi⟩ := hx
  obtain ⟨B0, d, rfl, hd, hj⟩ := hy
  obtain ⟨C0, e0, rfl, he, hg⟩ := hz
  obtain ⟨x1, x2, x4, x3⟩ := BxR.third w (.string n) (.slice A xs.length c) (.string m) (.slice B0 ys.length d) (.string k) (.slice C0 zs.length e0)
  have X : Hid (RefB (((w.alloc (.cells #[.string n, .slice A xs.length c] 24 (0, 0))).alloc (.cells #[.string m, .slice B0 ys.length d] 24 (0, 0))).alloc (.cells #[.string k, .slice C0 zs.length e0] 24 (0, 0))) w.heap.size n xs) := Lib.hid ⟨A, c, x1, hc, hi.stay x3⟩
  have Y : Hid (RefB (((w.alloc (.cells #[.string n, .slice A xs.length c] 24 (0, 0))).alloc (.cells #[.string m, .slice B0 ys.length d] 24 (0, 0))).alloc (.cells #[.string k, .slice C0 zs.length e0] 24 (0, 0))) (w.heap.size + 1) m ys) := Lib.hid ⟨B0, d, x2, hd, hj.stay x3⟩
  have Z3 : Hid (RefB (((w.alloc (.cells #[.string n, .slice A xs.length c] 24 (0, 0))).alloc (.cells #[.string m, .slice B0 ys.length d] 24 (0, 0))).alloc (.cells #[.string k, .slice C0 zs.length e0] 24 (0, 0))) (w.heap.size + 1 + 1) k zs) := Lib.hid ⟨C0, e0, x4, he, hg.stay x3⟩
  have B := Lib.hid x3
  have V0 : Hid (RefV (((w.alloc (.cells #[.string n, .slice A xs.length c] 24 (0, 0))).alloc (.cells #[.string m, .slice B0 ys.length d] 24 (0, 0))).alloc (.cells #[.string k, .slice C0 zs.length e0] 24 (0, 0))) (((w.alloc (.cells #[.string n, .slice A xs.length c] 24 (0, 0))).alloc (.cells #[.string m, .slice B0 ys.length d] 24 (0, 0))).alloc (.cells #[.string k, .slice C0 zs.length e0] 24 (0, 0))).heap.size (.agg #[.string n, .slice A xs.length c]) n xs) := Lib.hid ⟨A, c, rfl, hc, hi.stay x3⟩
  clear hc hd he hi hj hg x1 x2 x3 x4 hL hn hm hk
  go_enter Tryz.func5, Tryz.ntmps5
  go_wp2_with fail
  generalize (((w.alloc (.cells #[.string n, .slice A xs.length c] 24 (0, 0))).alloc (.cells #[.string m, .slice B0 ys.length d] 24 (0, 0))).alloc (.cells #[.string k, .slice C0 zs.length e0] 24 (0, 0))) = W0 at *
  have hcall := rright_any n xs _ _ V0.out HN.out
  rw [HOA.out] at hcall
  refine hcall.mono ?_
  clear hcall
  rintro e wc1 ⟨rfl, hb1⟩
  clear V0
  replace X := Lib.hid (X.out.stay hb1)
  replace Y := Lib.hid (Y.out.stay hb1)
  replace Z3 := Lib.hid (Z3.out.stay hb1)
  replace B := Lib.hid (B.out.trans (hb1.mono B.out.size))
  clear hb1
  obtain ⟨AY, cY, hY, hcY, hiY⟩ := Y.out
  have qY0 := hY.cells.1
  have qY1 := hY.cells.2
  have HHY := Lib.hid hY
  have HCY := Lib.hid hcY
  have HIY := Lib.hid hiY
  clear hY hcY hiY
  go_wp2_with fail
  have hcall := rright_any m ys _ _ ⟨AY, cY, rfl, HCY.out, HIY.out⟩ HM.out
  rw [HOB.out] at hcall
  refine hcall.mono ?_
  clear hcall
  clear qY0 qY1
  rintro e wc2 ⟨rfl, hb1⟩
  replace X := Lib.hid (X.out.stay hb1)
  replace Y := Lib.hid (Y.out.stay hb1)
  replace Z3 := Lib.hid (Z3.out.stay hb1)
  replace B := Lib.hid (B.out.trans (hb1.mono B.out.size))
  clear hb1
  go_wp2_with fail
  refine (knows_any _ (HLK.out.below B.out)).mono ?_
  rintro e wk9 ⟨rfl, hb1⟩
  have HBK := Lib.hid (B.out.trans (hb1.mono B.out.size))
  clear hb1
  go_wp2_with fail
  exact bodyPost_ret (v := .bool true) (by simp [results, Tryz.results5, go_sem]) rfl ⟨rfl, HBK.out⟩
set_option maxRecDepth 100000 in
set_option maxHeartbeats 2000000 in
theorem order_w3 (n m k : ByteArray) (xs ys zs : Ws) (v u t : Value) (w : World) (hx : RefV w w.heap.size v n xs) (hy : RefV w w.heap.size u m ys) (hz : RefV w w.heap.size t k zs) (hL : LK w) (hn : n.size ≤ maxLen) (hm : m.size ≤ maxLen) (hk : k.size ≤ maxLen) (hoa : okB n xs = true) (hob : okB m ys = true) (hoc : okB k zs = false)  : Calls Tryz.prog 5 #[v, u, t] w (BoolPost true w) := by
  have HOA := Lib.hid hoa
  have HOB := Lib.hid hob
  have HOC := Lib.hid hoc
  clear hoa hob hoc
  have HLK := Lib.hid hL
  have HN := Lib.hid hn
  have HM := Lib.hid hm
  have HK := Lib.hid hk
  obtain ⟨A, c, rfl, hc, hi⟩ := hx
  obtain ⟨B0, d, rfl, hd, hj⟩ := hy
  obtain ⟨C0, e0, rfl, he, hg⟩ := hz
  obtain ⟨x1, x2, x4, x3⟩ := BxR.third w (.string n) (.slice A xs.length c) (.string m) (.slice B0 ys.length d) (.string k) (.slice C0 zs.length e0)
  have X : Hid (RefB (((w.alloc (.cells #[.string n, .slice A xs.length c] 24 (0, 0))).alloc (.cells #[.string m, .slice B0 ys.length d] 24 (0, 0))).alloc (.cells #[.string k, .slice C0 zs.length e0] 24 (0, 0))) w.heap.size n xs) := Lib.hid ⟨A, c, x1, hc, hi.stay x3⟩
  have Y : Hid (RefB (((w.alloc (.cells #[.string n, .slice A xs.length c] 24 (0, 0))).alloc (.cells #[.string m, .slice B0 ys.length d] 24 (0, 0))).alloc (.cells #[.string k, .slice C0 zs.length e0] 24 (0, 0))) (w.heap.size + 1) m ys) := Lib.hid ⟨B0, d, x2, hd, hj.stay x3⟩
  have Z3 : Hid (RefB (((w.alloc (.cells #[.string n, .slice A xs.length c] 24 (0, 0))).alloc (.cells #[.string m, .slice B0 ys.length d] 24 (0, 0))).alloc (.cells #[.string k, .slice C0 zs.length e0] 24 (0, 0))) (w.heap.size + 1 + 1) k zs) := Lib.hid ⟨C0, e0, x4, he, hg.stay x3⟩
  have B := Lib.hid x3
  have V0 : Hid (RefV (((w.alloc (.cells #[.string n, .slice A xs.length c] 24 (0, 0))).alloc (.cells #[.string m, .slice B0 ys.length d] 24 (0, 0))).alloc (.cells #[.string k, .slice C0 zs.length e0] 24 (0, 0))) (((w.alloc (.cells #[.string n, .slice A xs.length c] 24 (0, 0))).alloc (.cells #[.string m, .slice B0 ys.length d] 24 (0, 0))).alloc (.cells #[.string k, .slice C0 zs.length e0] 24 (0, 0))).heap.size (.agg #[.string n, .slice A xs.length c]) n xs) := Lib.hid ⟨A, c, rfl, hc, hi.stay x3⟩
  clear hc hd he hi hj hg x1 x2 x3 x4 hL hn hm hk
  go_enter Tryz.func5, Tryz.ntmps5
  go_wp2_with fail
  generalize (((w.alloc (.cells #[.string n, .slice A xs.length c] 24 (0, 0))).alloc (.cells #[.string m, .slice B0 ys.length d] 24 (0, 0))).alloc (.cells #[.string k, .slice C0 zs.length e0] 24 (0, 0))) = W0 at *
  have hcall := rright_any n xs _ _ V0.out HN.out
  rw [HOA.out] at hcall
  refine hcall.mono ?_
  clear hcall
  rintro e wc1 ⟨rfl, hb1⟩
  clear V0
  replace X := Lib.hid (X.out.stay hb1)
  replace Y := Lib.hid (Y.out.stay hb1)
  replace Z3 := Lib.hid (Z3.out.stay hb1)
  replace B := Lib.hid (B.out.trans (hb1.mono B.out.size))
  clear hb1
  obtain ⟨AY, cY, hY, hcY, hiY⟩ := Y.out
  have qY0 := hY.cells.1
  have qY1 := hY.cells.2
  have HHY := Lib.hid hY
  have HCY := Lib.hid hcY
  have HIY := Lib.hid hiY
  clear hY hcY hiY
  go_wp2_with fail
  have hcall := rright_any m ys _ _ ⟨AY, cY, rfl, HCY.out, HIY.out⟩ HM.out
  rw [HOB.out] at hcall
  refine hcall.mono ?_
  clear hcall
  clear qY0 qY1
  rintro e wc2 ⟨rfl, hb1⟩
  replace X := Lib.hid (X.out.stay hb1)
  replace Y := Lib.hid (Y.out.stay hb1)
  replace Z3 := Lib.hid (Z3.out.stay hb1)
  replace B := Lib.hid (B.out.trans (hb1.mono B.out.size))
  clear hb1
  obtain ⟨AZ3, cZ3, hZ3, hcZ3, hiZ3⟩ := Z3.out
  have qZ30 := hZ3.cells.1
  have qZ31 := hZ3.cells.2
  have HHZ3 := Lib.hid hZ3
  have HCZ3 := Lib.hid hcZ3
  have HIZ3 := Lib.hid hiZ3
  clear hZ3 hcZ3 hiZ3
  go_wp2_with fail
  have hcall := rright_any k zs _ _ ⟨AZ3, cZ3, rfl, HCZ3.out, HIZ3.out⟩ HK.out
  rw [HOC.out] at hcall
  refine hcall.mono ?_
  clear hcall
  clear qZ30 qZ31
  rintro e wc3 ⟨rfl, hb1⟩
  replace X := Lib.hid (X.out.stay hb1)
  replace Y := Lib.hid (Y.out.stay hb1)
  replace Z3 := Lib.hid (Z3.out.stay hb1)
  replace B := Lib.hid (B.out.trans (hb1.mono B.out.size))
  clear hb1
  go_wp2_with fail
  refine (knows_any _ (HLK.out.below B.out)).mono ?_
  rintro e wk9 ⟨rfl, hb1⟩
  have HBK := Lib.hid (B.out.trans (hb1.mono B.out.size))
  clear hb1
  go_wp2_with fail
  exact bodyPost_ret (v := .bool true) (by simp [results, Tryz.results5, go_sem]) rfl ⟨rfl, HBK.out⟩
set_option maxRecDepth 100000 in
set_option maxHeartbeats 2000000 in
theorem order_00000 (n m k : ByteArray) (xs ys zs : Ws) (v u t : Value) (w : World) (hx : RefV w w.heap.size v n xs) (hy : RefV w w.heap.size u m ys) (hz : RefV w w.heap.size t k zs) (hL : LK w) (hn : n.size ≤ maxLen) (hm : m.size ≤ maxLen) (hk : k.size ≤ maxLen) (hoa : okB n xs = true) (hob : okB m ys = true) (hoc : okB k zs = true) (h1 : (decide (n = m) && fiL xs ys) = false) (hs : decide (n = m ∧ strL xs = strL ys) = false)  : Calls Tryz.prog 5 #[v, u, t] w (BoolPost true w) := by
  have HOA := Lib.hid hoa
  have HOB := Lib.hid hob
  have HOC := Lib.hid hoc
  have H1 := Lib.hid h1
  have HS := Lib.hid hs
  clear hoa hob hoc h1 hs
  have HLX : Hid (xs.length ≤ 24) := Lib.hid (ok_len HOA.out).2.1
  have HLY : Hid (ys.length ≤ 24) := Lib.hid (ok_len HOB.out).2.1
  have HLZ : Hid (zs.length ≤ 24) := Lib.hid (ok_len HOC.out).2.1
  have HLK := Lib.hid hL
  have HN := Lib.hid hn
  have HM := Lib.hid hm
  have HK := Lib.hid hk
  obtain ⟨A, c, rfl, hc, hi⟩ := hx
  obtain ⟨B0, d, rfl, hd, hj⟩ := hy
  obtain ⟨C0, e0, rfl, he, hg⟩ := hz
  obtain ⟨x1, x2, x4, x3⟩ := BxR.third w (.string n) (.slice A xs.length c) (.string m) (.slice B0 ys.length d) (.string k) (.slice C0 zs.length e0)
  have X : Hid (RefB (((w.alloc (.cells #[.string n, .slice A xs.length c] 24 (0, 0))).alloc (.cells #[.string m, .slice B0 ys.length d] 24 (0, 0))).alloc (.cells #[.string k, .slice C0 zs.length e0] 24 (0, 0))) w.heap.size n xs) := Lib.hid ⟨A, c, x1, hc, hi.stay x3⟩
  have Y : Hid (RefB (((w.alloc (.cells #[.string n, .slice A xs.length c] 24 (0, 0))).alloc (.cells #[.string m, .slice B0 ys.length d] 24 (0, 0))).alloc (.cells #[.string k, .slice C0 zs.length e0] 24 (0, 0))) (w.heap.size + 1) m ys) := Lib.hid ⟨B0, d, x2, hd, hj.stay x3⟩
  have Z3 : Hid (RefB (((w.alloc (.cells #[.string n, .slice A xs.length c] 24 (0, 0))).alloc (.cells #[.string m, .slice B0 ys.length d] 24 (0, 0))).alloc (.cells #[.string k, .slice C0 zs.length e0] 24 (0, 0))) (w.heap.size + 1 + 1) k zs) := Lib.hid ⟨C0, e0, x4, he, hg.stay x3⟩
  have B := Lib.hid x3
  have V0 : Hid (RefV (((w.alloc (.cells #[.string n, .slice A xs.length c] 24 (0, 0))).alloc (.cells #[.string m, .slice B0 ys.length d] 24 (0, 0))).alloc (.cells #[.string k, .slice C0 zs.length e0] 24 (0, 0))) (((w.alloc (.cells #[.string n, .slice A xs.length c] 24 (0, 0))).alloc (.cells #[.string m, .slice B0 ys.length d] 24 (0, 0))).alloc (.cells #[.string k, .slice C0 zs.length e0] 24 (0, 0))).heap.size (.agg #[.string n, .slice A xs.length c]) n xs) := Lib.hid ⟨A, c, rfl, hc, hi.stay x3⟩
  clear hc hd he hi hj hg x1 x2 x3 x4 hL hn hm hk
  go_enter Tryz.func5, Tryz.ntmps5
  go_wp2_with fail
  generalize (((w.alloc (.cells #[.string n, .slice A xs.length c] 24 (0, 0))).alloc (.cells #[.string m, .slice B0 ys.length d] 24 (0, 0))).alloc (.cells #[.string k, .slice C0 zs.length e0] 24 (0, 0))) = W0 at *
  have hcall := rright_any n xs _ _ V0.out HN.out
  rw [HOA.out] at hcall
  refine hcall.mono ?_
  clear hcall
  rintro e wc1 ⟨rfl, hb1⟩
  clear V0
  replace X := Lib.hid (X.out.stay hb1)
  replace Y := Lib.hid (Y.out.stay hb1)
  replace Z3 := Lib.hid (Z3.out.stay hb1)
  replace B := Lib.hid (B.out.trans (hb1.mono B.out.size))
  clear hb1
  obtain ⟨AY, cY, hY, hcY, hiY⟩ := Y.out
  have qY0 := hY.cells.1
  have qY1 := hY.cells.2
  have HHY := Lib.hid hY
  have HCY := Lib.hid hcY
  have HIY := Lib.hid hiY
  clear hY hcY hiY
  go_wp2_with fail
  have hcall := rright_any m ys _ _ ⟨AY, cY, rfl, HCY.out, HIY.out⟩ HM.out
  rw [HOB.out] at hcall
  refine hcall.mono ?_
  clear hcall
  clear qY0 qY1
  rintro e wc2 ⟨rfl, hb1⟩
  replace X := Lib.hid (X.out.stay hb1)
  replace Y := Lib.hid (Y.out.stay hb1)
  replace Z3 := Lib.hid (Z3.out.stay hb1)
  replace B := Lib.hid (B.out.trans (hb1.mono B.out.size))
  clear hb1
  obtain ⟨AZ3, cZ3, hZ3, hcZ3, hiZ3⟩ := Z3.out
  have qZ30 := hZ3.cells.1
  have qZ31 := hZ3.cells.2
  have HHZ3 := Lib.hid hZ3
  have HCZ3 := Lib.hid hcZ3
  have HIZ3 := Lib.hid hiZ3
  clear hZ3 hcZ3 hiZ3
  go_wp2_with fail
  have hcall := rright_any k zs _ _ ⟨AZ3, cZ3, rfl, HCZ3.out, HIZ3.out⟩ HK.out
  rw [HOC.out] at hcall
  refine hcall.mono ?_
  clear hcall
  clear qZ30 qZ31
  rintro e wc3 ⟨rfl, hb1⟩
  replace X := Lib.hid (X.out.stay hb1)
  replace Y := Lib.hid (Y.out.stay hb1)
  replace Z3 := Lib.hid (Z3.out.stay hb1)
  replace B := Lib.hid (B.out.trans (hb1.mono B.out.size))
  clear hb1
  obtain ⟨AX, cX, hX, hcX, hiX⟩ := X.out
  have qX0 := hX.cells.1
  have qX1 := hX.cells.2
  have HHX := Lib.hid hX
  have HCX := Lib.hid hcX
  have HIX := Lib.hid hiX
  clear hX hcX hiX
  go_wp2_with fail
  have hcall := tfits_any n n xs xs _ _ _ ⟨AX, cX, rfl, HCX.out, HIX.out⟩ ⟨AX, cX, rfl, HCX.out, HIX.out⟩ (by have := HLX.out; omega) (by have := HLX.out; omega)
  rw [fo_refl n xs] at hcall
  refine hcall.mono ?_
  clear hcall
  clear qX0 qX1
  rintro e wc4 ⟨rfl, hb1⟩
  replace X := Lib.hid (X.out.stay hb1)
  replace Y := Lib.hid (Y.out.stay hb1)
  replace Z3 := Lib.hid (Z3.out.stay hb1)
  replace B := Lib.hid (B.out.trans (hb1.mono B.out.size))
  clear hb1
  obtain ⟨AX, cX, hX, hcX, hiX⟩ := X.out
  have qX0 := hX.cells.1
  have qX1 := hX.cells.2
  have HHX := Lib.hid hX
  have HCX := Lib.hid hcX
  have HIX := Lib.hid hiX
  clear hX hcX hiX
  obtain ⟨AY, cY, hY, hcY, hiY⟩ := Y.out
  have qY0 := hY.cells.1
  have qY1 := hY.cells.2
  have HHY := Lib.hid hY
  have HCY := Lib.hid hcY
  have HIY := Lib.hid hiY
  clear hY hcY hiY
  go_wp2_with fail
  have hcall := tfits_any n m xs ys _ _ _ ⟨AX, cX, rfl, HCX.out, HIX.out⟩ ⟨AY, cY, rfl, HCY.out, HIY.out⟩ (by have := HLX.out; omega) (by have := HLY.out; omega)
  rw [H1.out] at hcall
  refine hcall.mono ?_
  clear hcall
  clear qX0 qX1 qY0 qY1
  rintro e wc5 ⟨rfl, hb1⟩
  replace X := Lib.hid (X.out.stay hb1)
  replace Y := Lib.hid (Y.out.stay hb1)
  replace Z3 := Lib.hid (Z3.out.stay hb1)
  replace B := Lib.hid (B.out.trans (hb1.mono B.out.size))
  clear hb1
  obtain ⟨AX, cX, hX, hcX, hiX⟩ := X.out
  have qX0 := hX.cells.1
  have qX1 := hX.cells.2
  have HHX := Lib.hid hX
  have HCX := Lib.hid hcX
  have HIX := Lib.hid hiX
  clear hX hcX hiX
  obtain ⟨AY, cY, hY, hcY, hiY⟩ := Y.out
  have qY0 := hY.cells.1
  have qY1 := hY.cells.2
  have HHY := Lib.hid hY
  have HCY := Lib.hid hcY
  have HIY := Lib.hid hiY
  clear hY hcY hiY
  go_wp2_with fail
  have hcall : Calls Tryz.prog 30 #[.agg #[.string n, .slice AX xs.length cX], .agg #[.string m, .slice AY ys.length cY]] wc5 (OptPost n none wc5) := by
    have h := tweaken_any n m xs ys _ _ wc5 ⟨AX, cX, rfl, HCX.out, HIX.out⟩ ⟨AY, cY, rfl, HCY.out, HIY.out⟩ (by have := HLX.out; omega) (by have := HLY.out; omega)
    rw [if_neg (by rw [HS.out]; decide)] at h; exact h
  refine hcall.mono ?_
  clear hcall
  clear qX0 qX1 qY0 qY1
  rintro e wc6 hpost
  obtain ⟨rfl, hb1⟩ := hpost.none
  clear hpost
  have HCBXv : Hid (([] : Ws).length ≤ 0) := Lib.hid (Nat.le_refl _)
  have HIBXv := Lib.hid (IntsAt.nil wc6 wc6.heap.size none)
  replace X := Lib.hid (X.out.stay hb1)
  replace Y := Lib.hid (Y.out.stay hb1)
  replace Z3 := Lib.hid (Z3.out.stay hb1)
  replace B := Lib.hid (B.out.trans (hb1.mono B.out.size))
  clear hb1
  have hbA := (Below.refl wc6.heap.size wc6).alloc (Nat.le_refl _) (.cells #[.string ⟨#[]⟩, .slice none 0 0] 24 (0, 0))
  have BX : Hid (RefB (wc6.alloc (.cells #[.string ⟨#[]⟩, .slice none 0 0] 24 (0, 0))) wc6.heap.size ⟨#[]⟩ []) := Lib.hid ⟨_, _, BxR.new wc6 _ _, HCBXv.out, HIBXv.out.stay hbA⟩
  have VBX : Hid (RefV (wc6.alloc (.cells #[.string ⟨#[]⟩, .slice none 0 0] 24 (0, 0))) (wc6.alloc (.cells #[.string ⟨#[]⟩, .slice none 0 0] 24 (0, 0))).heap.size (.agg #[.string ⟨#[]⟩, .slice none 0 0]) ⟨#[]⟩ []) := Lib.hid ⟨_, _, rfl, HCBXv.out, HIBXv.out.stay hbA⟩
  replace X := Lib.hid (X.out.stay hbA)
  replace Y := Lib.hid (Y.out.stay hbA)
  replace Z3 := Lib.hid (Z3.out.stay hbA)
  replace B := Lib.hid (B.out.trans (hbA.mono B.out.size))
  clear hbA
  have hltBX : Hid (wc6.heap.size < (wc6.alloc (.cells #[.string ⟨#[]⟩, .slice none 0 0] 24 (0, 0))).heap.size) := Lib.hid (by simp)
  obtain ⟨AX, cX, hX, hcX, hiX⟩ := X.out
  have qX0 := hX.cells.1
  have qX1 := hX.cells.2
  have HHX := Lib.hid hX
  have HCX := Lib.hid hcX
  have HIX := Lib.hid hiX
  clear hX hcX hiX
  obtain ⟨AY, cY, hY, hcY, hiY⟩ := Y.out
  have qY0 := hY.cells.1
  have qY1 := hY.cells.2
  have HHY := Lib.hid hY
  have HCY := Lib.hid hcY
  have HIY := Lib.hid hiY
  clear hY hcY hiY
  go_wp2_with fail
  generalize (wc6.alloc (.cells #[.string ⟨#[]⟩, .slice none 0 0] 24 (0, 0))) = wa7 at *
  clear VBX hltBX
  have hcall := tshape_any n m xs ys _ _ _ ⟨AX, cX, rfl, HCX.out, HIX.out⟩ ⟨AY, cY, rfl, HCY.out, HIY.out⟩ (by have := HLX.out; omega) (by have := HLY.out; omega)
  rw [HS.out] at hcall
  refine hcall.mono ?_
  clear hcall
  clear qX0 qX1 qY0 qY1
  rintro e wc8 ⟨rfl, hb1⟩
  replace X := Lib.hid (X.out.stay hb1)
  replace Y := Lib.hid (Y.out.stay hb1)
  replace Z3 := Lib.hid (Z3.out.stay hb1)
  replace BX := Lib.hid (BX.out.stay hb1)
  replace B := Lib.hid (B.out.trans (hb1.mono B.out.size))
  clear hb1
  obtain ⟨AX, cX, hX, hcX, hiX⟩ := X.out
  have qX0 := hX.cells.1
  have qX1 := hX.cells.2
  have HHX := Lib.hid hX
  have HCX := Lib.hid hcX
  have HIX := Lib.hid hiX
  clear hX hcX hiX
  obtain ⟨AY, cY, hY, hcY, hiY⟩ := Y.out
  have qY0 := hY.cells.1
  have qY1 := hY.cells.2
  have HHY := Lib.hid hY
  have HCY := Lib.hid hcY
  have HIY := Lib.hid hiY
  clear hY hcY hiY
  go_wp2_with fail
  have hcall := tfits_any n m xs ys _ _ _ ⟨AX, cX, rfl, HCX.out, HIX.out⟩ ⟨AY, cY, rfl, HCY.out, HIY.out⟩ (by have := HLX.out; omega) (by have := HLY.out; omega)
  rw [H1.out] at hcall
  refine hcall.mono ?_
  clear hcall
  clear qX0 qX1 qY0 qY1
  rintro e wc9 ⟨rfl, hb1⟩
  replace X := Lib.hid (X.out.stay hb1)
  replace Y := Lib.hid (Y.out.stay hb1)
  replace Z3 := Lib.hid (Z3.out.stay hb1)
  replace BX := Lib.hid (BX.out.stay hb1)
  replace B := Lib.hid (B.out.trans (hb1.mono B.out.size))
  clear hb1
  go_wp2_with fail
  refine (knows_any _ (HLK.out.below B.out)).mono ?_
  rintro e wk9 ⟨rfl, hb1⟩
  have HBK := Lib.hid (B.out.trans (hb1.mono B.out.size))
  clear hb1
  go_wp2_with fail
  exact bodyPost_ret (v := .bool true) (by simp [results, Tryz.results5, go_sem]) rfl ⟨rfl, HBK.out⟩
set_option maxRecDepth 100000 in
set_option maxHeartbeats 2000000 in
theorem order_00100 (n m k : ByteArray) (xs ys zs : Ws) (v u t : Value) (w : World) (hx : RefV w w.heap.size v n xs) (hy : RefV w w.heap.size u m ys) (hz : RefV w w.heap.size t k zs) (hL : LK w) (hn : n.size ≤ maxLen) (hm : m.size ≤ maxLen) (hk : k.size ≤ maxLen) (hoa : okB n xs = true) (hob : okB m ys = true) (hoc : okB k zs = true) (h1 : (decide (n = m) && fiL xs ys) = false) (hs : decide (n = m ∧ strL xs = strL ys) = true) (h3 : (decide (n = k) && fiL xs zs) = false)  : Calls Tryz.prog 5 #[v, u, t] w (BoolPost true w) := by
  have HOA := Lib.hid hoa
  have HOB := Lib.hid hob
  have HOC := Lib.hid hoc
  have H1 := Lib.hid h1
  have HS := Lib.hid hs
  have H3 := Lib.hid h3
  clear hoa hob hoc h1 hs h3
  have HLX : Hid (xs.length ≤ 24) := Lib.hid (ok_len HOA.out).2.1
  have HLY : Hid (ys.length ≤ 24) := Lib.hid (ok_len HOB.out).2.1
  have HLZ : Hid (zs.length ≤ 24) := Lib.hid (ok_len HOC.out).2.1
  have HLK := Lib.hid hL
  have HN := Lib.hid hn
  have HM := Lib.hid hm
  have HK := Lib.hid hk
  obtain ⟨A, c, rfl, hc, hi⟩ := hx
  obtain ⟨B0, d, rfl, hd, hj⟩ := hy
  obtain ⟨C0, e0, rfl, he, hg⟩ := hz
  obtain ⟨x1, x2, x4, x3⟩ := BxR.third w (.string n) (.slice A xs.length c) (.string m) (.slice B0 ys.length d) (.string k) (.slice C0 zs.length e0)
  have X : Hid (RefB (((w.alloc (.cells #[.string n, .slice A xs.length c] 24 (0, 0))).alloc (.cells #[.string m, .slice B0 ys.length d] 24 (0, 0))).alloc (.cells #[.string k, .slice C0 zs.length e0] 24 (0, 0))) w.heap.size n xs) := Lib.hid ⟨A, c, x1, hc, hi.stay x3⟩
  have Y : Hid (RefB (((w.alloc (.cells #[.string n, .slice A xs.length c] 24 (0, 0))).alloc (.cells #[.string m, .slice B0 ys.length d] 24 (0, 0))).alloc (.cells #[.string k, .slice C0 zs.length e0] 24 (0, 0))) (w.heap.size + 1) m ys) := Lib.hid ⟨B0, d, x2, hd, hj.stay x3⟩
  have Z3 : Hid (RefB (((w.alloc (.cells #[.string n, .slice A xs.length c] 24 (0, 0))).alloc (.cells #[.string m, .slice B0 ys.length d] 24 (0, 0))).alloc (.cells #[.string k, .slice C0 zs.length e0] 24 (0, 0))) (w.heap.size + 1 + 1) k zs) := Lib.hid ⟨C0, e0, x4, he, hg.stay x3⟩
  have B := Lib.hid x3
  have V0 : Hid (RefV (((w.alloc (.cells #[.string n, .slice A xs.length c] 24 (0, 0))).alloc (.cells #[.string m, .slice B0 ys.length d] 24 (0, 0))).alloc (.cells #[.string k, .slice C0 zs.length e0] 24 (0, 0))) (((w.alloc (.cells #[.string n, .slice A xs.length c] 24 (0, 0))).alloc (.cells #[.string m, .slice B0 ys.length d] 24 (0, 0))).alloc (.cells #[.string k, .slice C0 zs.length e0] 24 (0, 0))).heap.size (.agg #[.string n, .slice A xs.length c]) n xs) := Lib.hid ⟨A, c, rfl, hc, hi.stay x3⟩
  clear hc hd he hi hj hg x1 x2 x3 x4 hL hn hm hk
  go_enter Tryz.func5, Tryz.ntmps5
  go_wp2_with fail
  generalize (((w.alloc (.cells #[.string n, .slice A xs.length c] 24 (0, 0))).alloc (.cells #[.string m, .slice B0 ys.length d] 24 (0, 0))).alloc (.cells #[.string k, .slice C0 zs.length e0] 24 (0, 0))) = W0 at *
  have hcall := rright_any n xs _ _ V0.out HN.out
  rw [HOA.out] at hcall
  refine hcall.mono ?_
  clear hcall
  rintro e wc1 ⟨rfl, hb1⟩
  clear V0
  replace X := Lib.hid (X.out.stay hb1)
  replace Y := Lib.hid (Y.out.stay hb1)
  replace Z3 := Lib.hid (Z3.out.stay hb1)
  replace B := Lib.hid (B.out.trans (hb1.mono B.out.size))
  clear hb1
  obtain ⟨AY, cY, hY, hcY, hiY⟩ := Y.out
  have qY0 := hY.cells.1
  have qY1 := hY.cells.2
  have HHY := Lib.hid hY
  have HCY := Lib.hid hcY
  have HIY := Lib.hid hiY
  clear hY hcY hiY
  go_wp2_with fail
  have hcall := rright_any m ys _ _ ⟨AY, cY, rfl, HCY.out, HIY.out⟩ HM.out
  rw [HOB.out] at hcall
  refine hcall.mono ?_
  clear hcall
  clear qY0 qY1
  rintro e wc2 ⟨rfl, hb1⟩
  replace X := Lib.hid (X.out.stay hb1)
  replace Y := Lib.hid (Y.out.stay hb1)
  replace Z3 := Lib.hid (Z3.out.stay hb1)
  replace B := Lib.hid (B.out.trans (hb1.mono B.out.size))
  clear hb1
  obtain ⟨AZ3, cZ3, hZ3, hcZ3, hiZ3⟩ := Z3.out
  have qZ30 := hZ3.cells.1
  have qZ31 := hZ3.cells.2
  have HHZ3 := Lib.hid hZ3
  have HCZ3 := Lib.hid hcZ3
  have HIZ3 := Lib.hid hiZ3
  clear hZ3 hcZ3 hiZ3
  go_wp2_with fail
  have hcall := rright_any k zs _ _ ⟨AZ3, cZ3, rfl, HCZ3.out, HIZ3.out⟩ HK.out
  rw [HOC.out] at hcall
  refine hcall.mono ?_
  clear hcall
  clear qZ30 qZ31
  rintro e wc3 ⟨rfl, hb1⟩
  replace X := Lib.hid (X.out.stay hb1)
  replace Y := Lib.hid (Y.out.stay hb1)
  replace Z3 := Lib.hid (Z3.out.stay hb1)
  replace B := Lib.hid (B.out.trans (hb1.mono B.out.size))
  clear hb1
  obtain ⟨AX, cX, hX, hcX, hiX⟩ := X.out
  have qX0 := hX.cells.1
  have qX1 := hX.cells.2
  have HHX := Lib.hid hX
  have HCX := Lib.hid hcX
  have HIX := Lib.hid hiX
  clear hX hcX hiX
  go_wp2_with fail
  have hcall := tfits_any n n xs xs _ _ _ ⟨AX, cX, rfl, HCX.out, HIX.out⟩ ⟨AX, cX, rfl, HCX.out, HIX.out⟩ (by have := HLX.out; omega) (by have := HLX.out; omega)
  rw [fo_refl n xs] at hcall
  refine hcall.mono ?_
  clear hcall
  clear qX0 qX1
  rintro e wc4 ⟨rfl, hb1⟩
  replace X := Lib.hid (X.out.stay hb1)
  replace Y := Lib.hid (Y.out.stay hb1)
  replace Z3 := Lib.hid (Z3.out.stay hb1)
  replace B := Lib.hid (B.out.trans (hb1.mono B.out.size))
  clear hb1
  obtain ⟨AX, cX, hX, hcX, hiX⟩ := X.out
  have qX0 := hX.cells.1
  have qX1 := hX.cells.2
  have HHX := Lib.hid hX
  have HCX := Lib.hid hcX
  have HIX := Lib.hid hiX
  clear hX hcX hiX
  obtain ⟨AY, cY, hY, hcY, hiY⟩ := Y.out
  have qY0 := hY.cells.1
  have qY1 := hY.cells.2
  have HHY := Lib.hid hY
  have HCY := Lib.hid hcY
  have HIY := Lib.hid hiY
  clear hY hcY hiY
  go_wp2_with fail
  have hcall := tfits_any n m xs ys _ _ _ ⟨AX, cX, rfl, HCX.out, HIX.out⟩ ⟨AY, cY, rfl, HCY.out, HIY.out⟩ (by have := HLX.out; omega) (by have := HLY.out; omega)
  rw [H1.out] at hcall
  refine hcall.mono ?_
  clear hcall
  clear qX0 qX1 qY0 qY1
  rintro e wc5 ⟨rfl, hb1⟩
  replace X := Lib.hid (X.out.stay hb1)
  replace Y := Lib.hid (Y.out.stay hb1)
  replace Z3 := Lib.hid (Z3.out.stay hb1)
  replace B := Lib.hid (B.out.trans (hb1.mono B.out.size))
  clear hb1
  obtain ⟨AX, cX, hX, hcX, hiX⟩ := X.out
  have qX0 := hX.cells.1
  have qX1 := hX.cells.2
  have HHX := Lib.hid hX
  have HCX := Lib.hid hcX
  have HIX := Lib.hid hiX
  clear hX hcX hiX
  obtain ⟨AY, cY, hY, hcY, hiY⟩ := Y.out
  have qY0 := hY.cells.1
  have qY1 := hY.cells.2
  have HHY := Lib.hid hY
  have HCY := Lib.hid hcY
  have HIY := Lib.hid hiY
  clear hY hcY hiY
  go_wp2_with fail
  have hcall : Calls Tryz.prog 30 #[.agg #[.string n, .slice AX xs.length cX], .agg #[.string m, .slice AY ys.length cY]] wc5 (OptPost n (some (weL xs ys)) wc5) := by
    have h := tweaken_any n m xs ys _ _ wc5 ⟨AX, cX, rfl, HCX.out, HIX.out⟩ ⟨AY, cY, rfl, HCY.out, HIY.out⟩ (by have := HLX.out; omega) (by have := HLY.out; omega)
    rw [if_pos HS.out] at h; exact h
  have HOW := Lib.hid (ok_we HOA.out HS.out)
  have HFL := Lib.hid (fi_we (ok_len HOA.out).2.2 (of_decide_eq_true HS.out).2).1
  have HFR := Lib.hid (fo_right HOA.out HS.out)
  have HLW : Hid ((weL xs ys).length ≤ 24) := Lib.hid (ok_len HOW.out).2.1
  generalize weL xs ys = ws at *
  refine hcall.mono ?_
  clear hcall
  clear qX0 qX1 qY0 qY1
  rintro e wc6 hpost
  obtain ⟨⟨u, rfl, ABX, cBX, rfl, hcx, hix⟩, hb1⟩ := hpost.some
  clear hpost
  have HCBXv := Lib.hid hcx
  have HIBXv := Lib.hid hix
  clear hcx hix
  replace X := Lib.hid (X.out.stay hb1)
  replace Y := Lib.hid (Y.out.stay hb1)
  replace Z3 := Lib.hid (Z3.out.stay hb1)
  replace B := Lib.hid (B.out.trans (hb1.mono B.out.size))
  clear hb1
  have hbA := (Below.refl wc6.heap.size wc6).alloc (Nat.le_refl _) (.cells #[.string n, .slice ABX ws.length cBX] 24 (0, 0))
  have BX : Hid (RefB (wc6.alloc (.cells #[.string n, .slice ABX ws.length cBX] 24 (0, 0))) wc6.heap.size n ws) := Lib.hid ⟨_, _, BxR.new wc6 _ _, HCBXv.out, HIBXv.out.stay hbA⟩
  have VBX : Hid (RefV (wc6.alloc (.cells #[.string n, .slice ABX ws.length cBX] 24 (0, 0))) (wc6.alloc (.cells #[.string n, .slice ABX ws.length cBX] 24 (0, 0))).heap.size (.agg #[.string n, .slice ABX ws.length cBX]) n ws) := Lib.hid ⟨_, _, rfl, HCBXv.out, HIBXv.out.stay hbA⟩
  replace X := Lib.hid (X.out.stay hbA)
  replace Y := Lib.hid (Y.out.stay hbA)
  replace Z3 := Lib.hid (Z3.out.stay hbA)
  replace B := Lib.hid (B.out.trans (hbA.mono B.out.size))
  clear hbA
  have hltBX : Hid (wc6.heap.size < (wc6.alloc (.cells #[.string n, .slice ABX ws.length cBX] 24 (0, 0))).heap.size) := Lib.hid (by simp)
  obtain ⟨AX, cX, hX, hcX, hiX⟩ := X.out
  have qX0 := hX.cells.1
  have qX1 := hX.cells.2
  have HHX := Lib.hid hX
  have HCX := Lib.hid hcX
  have HIX := Lib.hid hiX
  clear hX hcX hiX
  obtain ⟨AY, cY, hY, hcY, hiY⟩ := Y.out
  have qY0 := hY.cells.1
  have qY1 := hY.cells.2
  have HHY := Lib.hid hY
  have HCY := Lib.hid hcY
  have HIY := Lib.hid hiY
  clear hY hcY hiY
  go_wp2_with fail
  generalize (wc6.alloc (.cells #[.string n, .slice ABX ws.length cBX] 24 (0, 0))) = wa7 at *
  clear VBX hltBX
  have hcall := tshape_any n m xs ys _ _ _ ⟨AX, cX, rfl, HCX.out, HIX.out⟩ ⟨AY, cY, rfl, HCY.out, HIY.out⟩ (by have := HLX.out; omega) (by have := HLY.out; omega)
  rw [HS.out] at hcall
  refine hcall.mono ?_
  clear hcall
  clear qX0 qX1 qY0 qY1
  rintro e wc8 ⟨rfl, hb1⟩
  replace X := Lib.hid (X.out.stay hb1)
  replace Y := Lib.hid (Y.out.stay hb1)
  replace Z3 := Lib.hid (Z3.out.stay hb1)
  replace BX := Lib.hid (BX.out.stay hb1)
  replace B := Lib.hid (B.out.trans (hb1.mono B.out.size))
  clear hb1
  obtain ⟨ABX, cBX, hBX, hcBX, hiBX⟩ := BX.out
  have qBX0 := hBX.cells.1
  have qBX1 := hBX.cells.2
  have HHBX := Lib.hid hBX
  have HCBX := Lib.hid hcBX
  have HIBX := Lib.hid hiBX
  clear hBX hcBX hiBX
  go_wp2_with fail
  have hcall := tright_any n ws _ _ ⟨ABX, cBX, rfl, HCBX.out, HIBX.out⟩ HN.out
  rw [HOW.out] at hcall
  refine hcall.mono ?_
  clear hcall
  clear qBX0 qBX1
  rintro e wc9 ⟨rfl, hb1⟩
  replace X := Lib.hid (X.out.stay hb1)
  replace Y := Lib.hid (Y.out.stay hb1)
  replace Z3 := Lib.hid (Z3.out.stay hb1)
  replace BX := Lib.hid (BX.out.stay hb1)
  replace B := Lib.hid (B.out.trans (hb1.mono B.out.size))
  clear hb1
  obtain ⟨AX, cX, hX, hcX, hiX⟩ := X.out
  have qX0 := hX.cells.1
  have qX1 := hX.cells.2
  have HHX := Lib.hid hX
  have HCX := Lib.hid hcX
  have HIX := Lib.hid hiX
  clear hX hcX hiX
  obtain ⟨ABX, cBX, hBX, hcBX, hiBX⟩ := BX.out
  have qBX0 := hBX.cells.1
  have qBX1 := hBX.cells.2
  have HHBX := Lib.hid hBX
  have HCBX := Lib.hid hcBX
  have HIBX := Lib.hid hiBX
  clear hBX hcBX hiBX
  go_wp2_with fail
  have hcall := tfits_any n n xs ws _ _ _ ⟨AX, cX, rfl, HCX.out, HIX.out⟩ ⟨ABX, cBX, rfl, HCBX.out, HIBX.out⟩ (by have := HLX.out; omega) (by have := HLW.out; omega)
  rw [show (decide (n = n) && fiL xs ws) = true by rw [HFL.out]; simp] at hcall
  refine hcall.mono ?_
  clear hcall
  clear qX0 qX1 qBX0 qBX1
  rintro e wc10 ⟨rfl, hb1⟩
  replace X := Lib.hid (X.out.stay hb1)
  replace Y := Lib.hid (Y.out.stay hb1)
  replace Z3 := Lib.hid (Z3.out.stay hb1)
  replace BX := Lib.hid (BX.out.stay hb1)
  replace B := Lib.hid (B.out.trans (hb1.mono B.out.size))
  clear hb1
  obtain ⟨AY, cY, hY, hcY, hiY⟩ := Y.out
  have qY0 := hY.cells.1
  have qY1 := hY.cells.2
  have HHY := Lib.hid hY
  have HCY := Lib.hid hcY
  have HIY := Lib.hid hiY
  clear hY hcY hiY
  obtain ⟨ABX, cBX, hBX, hcBX, hiBX⟩ := BX.out
  have qBX0 := hBX.cells.1
  have qBX1 := hBX.cells.2
  have HHBX := Lib.hid hBX
  have HCBX := Lib.hid hcBX
  have HIBX := Lib.hid hiBX
  clear hBX hcBX hiBX
  go_wp2_with fail
  have hcall := tfits_any m n ys ws _ _ _ ⟨AY, cY, rfl, HCY.out, HIY.out⟩ ⟨ABX, cBX, rfl, HCBX.out, HIBX.out⟩ (by have := HLY.out; omega) (by have := HLW.out; omega)
  rw [HFR.out] at hcall
  refine hcall.mono ?_
  clear hcall
  clear qY0 qY1 qBX0 qBX1
  rintro e wc11 ⟨rfl, hb1⟩
  replace X := Lib.hid (X.out.stay hb1)
  replace Y := Lib.hid (Y.out.stay hb1)
  replace Z3 := Lib.hid (Z3.out.stay hb1)
  replace BX := Lib.hid (BX.out.stay hb1)
  replace B := Lib.hid (B.out.trans (hb1.mono B.out.size))
  clear hb1
  obtain ⟨AX, cX, hX, hcX, hiX⟩ := X.out
  have qX0 := hX.cells.1
  have qX1 := hX.cells.2
  have HHX := Lib.hid hX
  have HCX := Lib.hid hcX
  have HIX := Lib.hid hiX
  clear hX hcX hiX
  obtain ⟨AZ3, cZ3, hZ3, hcZ3, hiZ3⟩ := Z3.out
  have qZ30 := hZ3.cells.1
  have qZ31 := hZ3.cells.2
  have HHZ3 := Lib.hid hZ3
  have HCZ3 := Lib.hid hcZ3
  have HIZ3 := Lib.hid hiZ3
  clear hZ3 hcZ3 hiZ3
  go_wp2_with fail
  have hcall := tfits_any n k xs zs _ _ _ ⟨AX, cX, rfl, HCX.out, HIX.out⟩ ⟨AZ3, cZ3, rfl, HCZ3.out, HIZ3.out⟩ (by have := HLX.out; omega) (by have := HLZ.out; omega)
  rw [H3.out] at hcall
  refine hcall.mono ?_
  clear hcall
  clear qX0 qX1 qZ30 qZ31
  rintro e wc12 ⟨rfl, hb1⟩
  replace X := Lib.hid (X.out.stay hb1)
  replace Y := Lib.hid (Y.out.stay hb1)
  replace Z3 := Lib.hid (Z3.out.stay hb1)
  replace BX := Lib.hid (BX.out.stay hb1)
  replace B := Lib.hid (B.out.trans (hb1.mono B.out.size))
  clear hb1
  go_wp2_with fail
  refine (knows_any _ (HLK.out.below B.out)).mono ?_
  rintro e wk9 ⟨rfl, hb1⟩
  have HBK := Lib.hid (B.out.trans (hb1.mono B.out.size))
  clear hb1
  go_wp2_with fail
  exact bodyPost_ret (v := .bool true) (by simp [results, Tryz.results5, go_sem]) rfl ⟨rfl, HBK.out⟩
set_option maxRecDepth 100000 in
set_option maxHeartbeats 2000000 in
theorem order_00110 (n m k : ByteArray) (xs ys zs : Ws) (v u t : Value) (w : World) (hx : RefV w w.heap.size v n xs) (hy : RefV w w.heap.size u m ys) (hz : RefV w w.heap.size t k zs) (hL : LK w) (hn : n.size ≤ maxLen) (hm : m.size ≤ maxLen) (hk : k.size ≤ maxLen) (hoa : okB n xs = true) (hob : okB m ys = true) (hoc : okB k zs = true) (h1 : (decide (n = m) && fiL xs ys) = false) (hs : decide (n = m ∧ strL xs = strL ys) = true) (h3 : (decide (n = k) && fiL xs zs) = true) (h4 : (decide (m = k) && fiL ys zs) = false)  : Calls Tryz.prog 5 #[v, u, t] w (BoolPost true w) := by
  have HOA := Lib.hid hoa
  have HOB := Lib.hid hob
  have HOC := Lib.hid hoc
  have H1 := Lib.hid h1
  have HS := Lib.hid hs
  have H3 := Lib.hid h3
  have H4 := Lib.hid h4
  clear hoa hob hoc h1 hs h3 h4
  have HLX : Hid (xs.length ≤ 24) := Lib.hid (ok_len HOA.out).2.1
  have HLY : Hid (ys.length ≤ 24) := Lib.hid (ok_len HOB.out).2.1
  have HLZ : Hid (zs.length ≤ 24) := Lib.hid (ok_len HOC.out).2.1
  have HLK := Lib.hid hL
  have HN := Lib.hid hn
  have HM := Lib.hid hm
  have HK := Lib.hid hk
  obtain ⟨A, c, rfl, hc, hi⟩ := hx
  obtain ⟨B0, d, rfl, hd, hj⟩ := hy
  obtain ⟨C0, e0, rfl, he, hg⟩ := hz
  obtain ⟨x1, x2, x4, x3⟩ := BxR.third w (.string n) (.slice A xs.length c) (.string m) (.slice B0 ys.length d) (.string k) (.slice C0 zs.length e0)
  have X : Hid (RefB (((w.alloc (.cells #[.string n, .slice A xs.length c] 24 (0, 0))).alloc (.cells #[.string m, .slice B0 ys.length d] 24 (0, 0))).alloc (.cells #[.string k, .slice C0 zs.length e0] 24 (0, 0))) w.heap.size n xs) := Lib.hid ⟨A, c, x1, hc, hi.stay x3⟩
  have Y : Hid (RefB (((w.alloc (.cells #[.string n, .slice A xs.length c] 24 (0, 0))).alloc (.cells #[.string m, .slice B0 ys.length d] 24 (0, 0))).alloc (.cells #[.string k, .slice C0 zs.length e0] 24 (0, 0))) (w.heap.size + 1) m ys) := Lib.hid ⟨B0, d, x2, hd, hj.stay x3⟩
  have Z3 : Hid (RefB (((w.alloc (.cells #[.string n, .slice A xs.length c] 24 (0, 0))).alloc (.cells #[.string m, .slice B0 ys.length d] 24 (0, 0))).alloc (.cells #[.string k, .slice C0 zs.length e0] 24 (0, 0))) (w.heap.size + 1 + 1) k zs) := Lib.hid ⟨C0, e0, x4, he, hg.stay x3⟩
  have B := Lib.hid x3
  have V0 : Hid (RefV (((w.alloc (.cells #[.string n, .slice A xs.length c] 24 (0, 0))).alloc (.cells #[.string m, .slice B0 ys.length d] 24 (0, 0))).alloc (.cells #[.string k, .slice C0 zs.length e0] 24 (0, 0))) (((w.alloc (.cells #[.string n, .slice A xs.length c] 24 (0, 0))).alloc (.cells #[.string m, .slice B0 ys.length d] 24 (0, 0))).alloc (.cells #[.string k, .slice C0 zs.length e0] 24 (0, 0))).heap.size (.agg #[.string n, .slice A xs.length c]) n xs) := Lib.hid ⟨A, c, rfl, hc, hi.stay x3⟩
  clear hc hd he hi hj hg x1 x2 x3 x4 hL hn hm hk
  go_enter Tryz.func5, Tryz.ntmps5
  go_wp2_with fail
  generalize (((w.alloc (.cells #[.string n, .slice A xs.length c] 24 (0, 0))).alloc (.cells #[.string m, .slice B0 ys.length d] 24 (0, 0))).alloc (.cells #[.string k, .slice C0 zs.length e0] 24 (0, 0))) = W0 at *
  have hcall := rright_any n xs _ _ V0.out HN.out
  rw [HOA.out] at hcall
  refine hcall.mono ?_
  clear hcall
  rintro e wc1 ⟨rfl, hb1⟩
  clear V0
  replace X := Lib.hid (X.out.stay hb1)
  replace Y := Lib.hid (Y.out.stay hb1)
  replace Z3 := Lib.hid (Z3.out.stay hb1)
  replace B := Lib.hid (B.out.trans (hb1.mono B.out.size))
  clear hb1
  obtain ⟨AY, cY, hY, hcY, hiY⟩ := Y.out
  have qY0 := hY.cells.1
  have qY1 := hY.cells.2
  have HHY := Lib.hid hY
  have HCY := Lib.hid hcY
  have HIY := Lib.hid hiY
  clear hY hcY hiY
  go_wp2_with fail
  have hcall := rright_any m ys _ _ ⟨AY, cY, rfl, HCY.out, HIY.out⟩ HM.out
  rw [HOB.out] at hcall
  refine hcall.mono ?_
  clear hcall
  clear qY0 qY1
  rintro e wc2 ⟨rfl, hb1⟩
  replace X := Lib.hid (X.out.stay hb1)
  replace Y := Lib.hid (Y.out.stay hb1)
  replace Z3 := Lib.hid (Z3.out.stay hb1)
  replace B := Lib.hid (B.out.trans (hb1.mono B.out.size))
  clear hb1
  obtain ⟨AZ3, cZ3, hZ3, hcZ3, hiZ3⟩ := Z3.out
  have qZ30 := hZ3.cells.1
  have qZ31 := hZ3.cells.2
  have HHZ3 := Lib.hid hZ3
  have HCZ3 := Lib.hid hcZ3
  have HIZ3 := Lib.hid hiZ3
  clear hZ3 hcZ3 hiZ3
  go_wp2_with fail
  have hcall := rright_any k zs _ _ ⟨AZ3, cZ3, rfl, HCZ3.out, HIZ3.out⟩ HK.out
  rw [HOC.out] at hcall
  refine hcall.mono ?_
  clear hcall
  clear qZ30 qZ31
  rintro e wc3 ⟨rfl, hb1⟩
  replace X := Lib.hid (X.out.stay hb1)
  replace Y := Lib.hid (Y.out.stay hb1)
  replace Z3 := Lib.hid (Z3.out.stay hb1)
  replace B := Lib.hid (B.out.trans (hb1.mono B.out.size))
  clear hb1
  obtain ⟨AX, cX, hX, hcX, hiX⟩ := X.out
  have qX0 := hX.cells.1
  have qX1 := hX.cells.2
  have HHX := Lib.hid hX
  have HCX := Lib.hid hcX
  have HIX := Lib.hid hiX
  clear hX hcX hiX
  go_wp2_with fail
  have hcall := tfits_any n n xs xs _ _ _ ⟨AX, cX, rfl, HCX.out, HIX.out⟩ ⟨AX, cX, rfl, HCX.out, HIX.out⟩ (by have := HLX.out; omega) (by have := HLX.out; omega)
  rw [fo_refl n xs] at hcall
  refine hcall.mono ?_
  clear hcall
  clear qX0 qX1
  rintro e wc4 ⟨rfl, hb1⟩
  replace X := Lib.hid (X.out.stay hb1)
  replace Y := Lib.hid (Y.out.stay hb1)
  replace Z3 := Lib.hid (Z3.out.stay hb1)
  replace B := Lib.hid (B.out.trans (hb1.mono B.out.size))
  clear hb1
  obtain ⟨AX, cX, hX, hcX, hiX⟩ := X.out
  have qX0 := hX.cells.1
  have qX1 := hX.cells.2
  have HHX := Lib.hid hX
  have HCX := Lib.hid hcX
  have HIX := Lib.hid hiX
  clear hX hcX hiX
  obtain ⟨AY, cY, hY, hcY, hiY⟩ := Y.out
  have qY0 := hY.cells.1
  have qY1 := hY.cells.2
  have HHY := Lib.hid hY
  have HCY := Lib.hid hcY
  have HIY := Lib.hid hiY
  clear hY hcY hiY
  go_wp2_with fail
  have hcall := tfits_any n m xs ys _ _ _ ⟨AX, cX, rfl, HCX.out, HIX.out⟩ ⟨AY, cY, rfl, HCY.out, HIY.out⟩ (by have := HLX.out; omega) (by have := HLY.out; omega)
  rw [H1.out] at hcall
  refine hcall.mono ?_
  clear hcall
  clear qX0 qX1 qY0 qY1
  rintro e wc5 ⟨rfl, hb1⟩
  replace X := Lib.hid (X.out.stay hb1)
  replace Y := Lib.hid (Y.out.stay hb1)
  replace Z3 := Lib.hid (Z3.out.stay hb1)
  replace B := Lib.hid (B.out.trans (hb1.mono B.out.size))
  clear hb1
  obtain ⟨AX, cX, hX, hcX, hiX⟩ := X.out
  have qX0 := hX.cells.1
  have qX1 := hX.cells.2
  have HHX := Lib.hid hX
  have HCX := Lib.hid hcX
  have HIX := Lib.hid hiX
  clear hX hcX hiX
  obtain ⟨AY, cY, hY, hcY, hiY⟩ := Y.out
  have qY0 := hY.cells.1
  have qY1 := hY.cells.2
  have HHY := Lib.hid hY
  have HCY := Lib.hid hcY
  have HIY := Lib.hid hiY
  clear hY hcY hiY
  go_wp2_with fail
  have hcall : Calls Tryz.prog 30 #[.agg #[.string n, .slice AX xs.length cX], .agg #[.string m, .slice AY ys.length cY]] wc5 (OptPost n (some (weL xs ys)) wc5) := by
    have h := tweaken_any n m xs ys _ _ wc5 ⟨AX, cX, rfl, HCX.out, HIX.out⟩ ⟨AY, cY, rfl, HCY.out, HIY.out⟩ (by have := HLX.out; omega) (by have := HLY.out; omega)
    rw [if_pos HS.out] at h; exact h
  have HOW := Lib.hid (ok_we HOA.out HS.out)
  have HFL := Lib.hid (fi_we (ok_len HOA.out).2.2 (of_decide_eq_true HS.out).2).1
  have HFR := Lib.hid (fo_right HOA.out HS.out)
  have HLW : Hid ((weL xs ys).length ≤ 24) := Lib.hid (ok_len HOW.out).2.1
  generalize weL xs ys = ws at *
  refine hcall.mono ?_
  clear hcall
  clear qX0 qX1 qY0 qY1
  rintro e wc6 hpost
  obtain ⟨⟨u, rfl, ABX, cBX, rfl, hcx, hix⟩, hb1⟩ := hpost.some
  clear hpost
  have HCBXv := Lib.hid hcx
  have HIBXv := Lib.hid hix
  clear hcx hix
  replace X := Lib.hid (X.out.stay hb1)
  replace Y := Lib.hid (Y.out.stay hb1)
  replace Z3 := Lib.hid (Z3.out.stay hb1)
  replace B := Lib.hid (B.out.trans (hb1.mono B.out.size))
  clear hb1
  have hbA := (Below.refl wc6.heap.size wc6).alloc (Nat.le_refl _) (.cells #[.string n, .slice ABX ws.length cBX] 24 (0, 0))
  have BX : Hid (RefB (wc6.alloc (.cells #[.string n, .slice ABX ws.length cBX] 24 (0, 0))) wc6.heap.size n ws) := Lib.hid ⟨_, _, BxR.new wc6 _ _, HCBXv.out, HIBXv.out.stay hbA⟩
  have VBX : Hid (RefV (wc6.alloc (.cells #[.string n, .slice ABX ws.length cBX] 24 (0, 0))) (wc6.alloc (.cells #[.string n, .slice ABX ws.length cBX] 24 (0, 0))).heap.size (.agg #[.string n, .slice ABX ws.length cBX]) n ws) := Lib.hid ⟨_, _, rfl, HCBXv.out, HIBXv.out.stay hbA⟩
  replace X := Lib.hid (X.out.stay hbA)
  replace Y := Lib.hid (Y.out.stay hbA)
  replace Z3 := Lib.hid (Z3.out.stay hbA)
  replace B := Lib.hid (B.out.trans (hbA.mono B.out.size))
  clear hbA
  have hltBX : Hid (wc6.heap.size < (wc6.alloc (.cells #[.string n, .slice ABX ws.length cBX] 24 (0, 0))).heap.size) := Lib.hid (by simp)
  obtain ⟨AX, cX, hX, hcX, hiX⟩ := X.out
  have qX0 := hX.cells.1
  have qX1 := hX.cells.2
  have HHX := Lib.hid hX
  have HCX := Lib.hid hcX
  have HIX := Lib.hid hiX
  clear hX hcX hiX
  obtain ⟨AY, cY, hY, hcY, hiY⟩ := Y.out
  have qY0 := hY.cells.1
  have qY1 := hY.cells.2
  have HHY := Lib.hid hY
  have HCY := Lib.hid hcY
  have HIY := Lib.hid hiY
  clear hY hcY hiY
  go_wp2_with fail
  generalize (wc6.alloc (.cells #[.string n, .slice ABX ws.length cBX] 24 (0, 0))) = wa7 at *
  clear VBX hltBX
  have hcall := tshape_any n m xs ys _ _ _ ⟨AX, cX, rfl, HCX.out, HIX.out⟩ ⟨AY, cY, rfl, HCY.out, HIY.out⟩ (by have := HLX.out; omega) (by have := HLY.out; omega)
  rw [HS.out] at hcall
  refine hcall.mono ?_
  clear hcall
  clear qX0 qX1 qY0 qY1
  rintro e wc8 ⟨rfl, hb1⟩
  replace X := Lib.hid (X.out.stay hb1)
  replace Y := Lib.hid (Y.out.stay hb1)
  replace Z3 := Lib.hid (Z3.out.stay hb1)
  replace BX := Lib.hid (BX.out.stay hb1)
  replace B := Lib.hid (B.out.trans (hb1.mono B.out.size))
  clear hb1
  obtain ⟨ABX, cBX, hBX, hcBX, hiBX⟩ := BX.out
  have qBX0 := hBX.cells.1
  have qBX1 := hBX.cells.2
  have HHBX := Lib.hid hBX
  have HCBX := Lib.hid hcBX
  have HIBX := Lib.hid hiBX
  clear hBX hcBX hiBX
  go_wp2_with fail
  have hcall := tright_any n ws _ _ ⟨ABX, cBX, rfl, HCBX.out, HIBX.out⟩ HN.out
  rw [HOW.out] at hcall
  refine hcall.mono ?_
  clear hcall
  clear qBX0 qBX1
  rintro e wc9 ⟨rfl, hb1⟩
  replace X := Lib.hid (X.out.stay hb1)
  replace Y := Lib.hid (Y.out.stay hb1)
  replace Z3 := Lib.hid (Z3.out.stay hb1)
  replace BX := Lib.hid (BX.out.stay hb1)
  replace B := Lib.hid (B.out.trans (hb1.mono B.out.size))
  clear hb1
  obtain ⟨AX, cX, hX, hcX, hiX⟩ := X.out
  have qX0 := hX.cells.1
  have qX1 := hX.cells.2
  have HHX := Lib.hid hX
  have HCX := Lib.hid hcX
  have HIX := Lib.hid hiX
  clear hX hcX hiX
  obtain ⟨ABX, cBX, hBX, hcBX, hiBX⟩ := BX.out
  have qBX0 := hBX.cells.1
  have qBX1 := hBX.cells.2
  have HHBX := Lib.hid hBX
  have HCBX := Lib.hid hcBX
  have HIBX := Lib.hid hiBX
  clear hBX hcBX hiBX
  go_wp2_with fail
  have hcall := tfits_any n n xs ws _ _ _ ⟨AX, cX, rfl, HCX.out, HIX.out⟩ ⟨ABX, cBX, rfl, HCBX.out, HIBX.out⟩ (by have := HLX.out; omega) (by have := HLW.out; omega)
  rw [show (decide (n = n) && fiL xs ws) = true by rw [HFL.out]; simp] at hcall
  refine hcall.mono ?_
  clear hcall
  clear qX0 qX1 qBX0 qBX1
  rintro e wc10 ⟨rfl, hb1⟩
  replace X := Lib.hid (X.out.stay hb1)
  replace Y := Lib.hid (Y.out.stay hb1)
  replace Z3 := Lib.hid (Z3.out.stay hb1)
  replace BX := Lib.hid (BX.out.stay hb1)
  replace B := Lib.hid (B.out.trans (hb1.mono B.out.size))
  clear hb1
  obtain ⟨AY, cY, hY, hcY, hiY⟩ := Y.out
  have qY0 := hY.cells.1
  have qY1 := hY.cells.2
  have HHY := Lib.hid hY
  have HCY := Lib.hid hcY
  have HIY := Lib.hid hiY
  clear hY hcY hiY
  obtain ⟨ABX, cBX, hBX, hcBX, hiBX⟩ := BX.out
  have qBX0 := hBX.cells.1
  have qBX1 := hBX.cells.2
  have HHBX := Lib.hid hBX
  have HCBX := Lib.hid hcBX
  have HIBX := Lib.hid hiBX
  clear hBX hcBX hiBX
  go_wp2_with fail
  have hcall := tfits_any m n ys ws _ _ _ ⟨AY, cY, rfl, HCY.out, HIY.out⟩ ⟨ABX, cBX, rfl, HCBX.out, HIBX.out⟩ (by have := HLY.out; omega) (by have := HLW.out; omega)
  rw [HFR.out] at hcall
  refine hcall.mono ?_
  clear hcall
  clear qY0 qY1 qBX0 qBX1
  rintro e wc11 ⟨rfl, hb1⟩
  replace X := Lib.hid (X.out.stay hb1)
  replace Y := Lib.hid (Y.out.stay hb1)
  replace Z3 := Lib.hid (Z3.out.stay hb1)
  replace BX := Lib.hid (BX.out.stay hb1)
  replace B := Lib.hid (B.out.trans (hb1.mono B.out.size))
  clear hb1
  obtain ⟨AX, cX, hX, hcX, hiX⟩ := X.out
  have qX0 := hX.cells.1
  have qX1 := hX.cells.2
  have HHX := Lib.hid hX
  have HCX := Lib.hid hcX
  have HIX := Lib.hid hiX
  clear hX hcX hiX
  obtain ⟨AZ3, cZ3, hZ3, hcZ3, hiZ3⟩ := Z3.out
  have qZ30 := hZ3.cells.1
  have qZ31 := hZ3.cells.2
  have HHZ3 := Lib.hid hZ3
  have HCZ3 := Lib.hid hcZ3
  have HIZ3 := Lib.hid hiZ3
  clear hZ3 hcZ3 hiZ3
  go_wp2_with fail
  have hcall := tfits_any n k xs zs _ _ _ ⟨AX, cX, rfl, HCX.out, HIX.out⟩ ⟨AZ3, cZ3, rfl, HCZ3.out, HIZ3.out⟩ (by have := HLX.out; omega) (by have := HLZ.out; omega)
  rw [H3.out] at hcall
  refine hcall.mono ?_
  clear hcall
  clear qX0 qX1 qZ30 qZ31
  rintro e wc12 ⟨rfl, hb1⟩
  replace X := Lib.hid (X.out.stay hb1)
  replace Y := Lib.hid (Y.out.stay hb1)
  replace Z3 := Lib.hid (Z3.out.stay hb1)
  replace BX := Lib.hid (BX.out.stay hb1)
  replace B := Lib.hid (B.out.trans (hb1.mono B.out.size))
  clear hb1
  obtain ⟨AY, cY, hY, hcY, hiY⟩ := Y.out
  have qY0 := hY.cells.1
  have qY1 := hY.cells.2
  have HHY := Lib.hid hY
  have HCY := Lib.hid hcY
  have HIY := Lib.hid hiY
  clear hY hcY hiY
  obtain ⟨AZ3, cZ3, hZ3, hcZ3, hiZ3⟩ := Z3.out
  have qZ30 := hZ3.cells.1
  have qZ31 := hZ3.cells.2
  have HHZ3 := Lib.hid hZ3
  have HCZ3 := Lib.hid hcZ3
  have HIZ3 := Lib.hid hiZ3
  clear hZ3 hcZ3 hiZ3
  go_wp2_with fail
  have hcall := tfits_any m k ys zs _ _ _ ⟨AY, cY, rfl, HCY.out, HIY.out⟩ ⟨AZ3, cZ3, rfl, HCZ3.out, HIZ3.out⟩ (by have := HLY.out; omega) (by have := HLZ.out; omega)
  rw [H4.out] at hcall
  refine hcall.mono ?_
  clear hcall
  clear qY0 qY1 qZ30 qZ31
  rintro e wc13 ⟨rfl, hb1⟩
  replace X := Lib.hid (X.out.stay hb1)
  replace Y := Lib.hid (Y.out.stay hb1)
  replace Z3 := Lib.hid (Z3.out.stay hb1)
  replace BX := Lib.hid (BX.out.stay hb1)
  replace B := Lib.hid (B.out.trans (hb1.mono B.out.size))
  clear hb1
  go_wp2_with fail
  refine (knows_any _ (HLK.out.below B.out)).mono ?_
  rintro e wk9 ⟨rfl, hb1⟩
  have HBK := Lib.hid (B.out.trans (hb1.mono B.out.size))
  clear hb1
  go_wp2_with fail
  exact bodyPost_ret (v := .bool true) (by simp [results, Tryz.results5, go_sem]) rfl ⟨rfl, HBK.out⟩
set_option maxRecDepth 100000 in
set_option maxHeartbeats 2000000 in
theorem order_00111 (n m k : ByteArray) (xs ys zs : Ws) (v u t : Value) (w : World) (hx : RefV w w.heap.size v n xs) (hy : RefV w w.heap.size u m ys) (hz : RefV w w.heap.size t k zs) (hL : LK w) (hn : n.size ≤ maxLen) (hm : m.size ≤ maxLen) (hk : k.size ≤ maxLen) (hoa : okB n xs = true) (hob : okB m ys = true) (hoc : okB k zs = true) (h1 : (decide (n = m) && fiL xs ys) = false) (hs : decide (n = m ∧ strL xs = strL ys) = true) (h3 : (decide (n = k) && fiL xs zs) = true) (h4 : (decide (m = k) && fiL ys zs) = true)  : Calls Tryz.prog 5 #[v, u, t] w (BoolPost true w) := by
  have HOA := Lib.hid hoa
  have HOB := Lib.hid hob
  have HOC := Lib.hid hoc
  have H1 := Lib.hid h1
  have HS := Lib.hid hs
  have H3 := Lib.hid h3
  have H4 := Lib.hid h4
  clear hoa hob hoc h1 hs h3 h4
  have HLX : Hid (xs.length ≤ 24) := Lib.hid (ok_len HOA.out).2.1
  have HLY : Hid (ys.length ≤ 24) := Lib.hid (ok_len HOB.out).2.1
  have HLZ : Hid (zs.length ≤ 24) := Lib.hid (ok_len HOC.out).2.1
  have HLK := Lib.hid hL
  have HN := Lib.hid hn
  have HM := Lib.hid hm
  have HK := Lib.hid hk
  obtain ⟨A, c, rfl, hc, hi⟩ := hx
  obtain ⟨B0, d, rfl, hd, hj⟩ := hy
  obtain ⟨C0, e0, rfl, he, hg⟩ := hz
  obtain ⟨x1, x2, x4, x3⟩ := BxR.third w (.string n) (.slice A xs.length c) (.string m) (.slice B0 ys.length d) (.string k) (.slice C0 zs.length e0)
  have X : Hid (RefB (((w.alloc (.cells #[.string n, .slice A xs.length c] 24 (0, 0))).alloc (.cells #[.string m, .slice B0 ys.length d] 24 (0, 0))).alloc (.cells #[.string k, .slice C0 zs.length e0] 24 (0, 0))) w.heap.size n xs) := Lib.hid ⟨A, c, x1, hc, hi.stay x3⟩
  have Y : Hid (RefB (((w.alloc (.cells #[.string n, .slice A xs.length c] 24 (0, 0))).alloc (.cells #[.string m, .slice B0 ys.length d] 24 (0, 0))).alloc (.cells #[.string k, .slice C0 zs.length e0] 24 (0, 0))) (w.heap.size + 1) m ys) := Lib.hid ⟨B0, d, x2, hd, hj.stay x3⟩
  have Z3 : Hid (RefB (((w.alloc (.cells #[.string n, .slice A xs.length c] 24 (0, 0))).alloc (.cells #[.string m, .slice B0 ys.length d] 24 (0, 0))).alloc (.cells #[.string k, .slice C0 zs.length e0] 24 (0, 0))) (w.heap.size + 1 + 1) k zs) := Lib.hid ⟨C0, e0, x4, he, hg.stay x3⟩
  have B := Lib.hid x3
  have V0 : Hid (RefV (((w.alloc (.cells #[.string n, .slice A xs.length c] 24 (0, 0))).alloc (.cells #[.string m, .slice B0 ys.length d] 24 (0, 0))).alloc (.cells #[.string k, .slice C0 zs.length e0] 24 (0, 0))) (((w.alloc (.cells #[.string n, .slice A xs.length c] 24 (0, 0))).alloc (.cells #[.string m, .slice B0 ys.length d] 24 (0, 0))).alloc (.cells #[.string k, .slice C0 zs.length e0] 24 (0, 0))).heap.size (.agg #[.string n, .slice A xs.length c]) n xs) := Lib.hid ⟨A, c, rfl, hc, hi.stay x3⟩
  clear hc hd he hi hj hg x1 x2 x3 x4 hL hn hm hk
  go_enter Tryz.func5, Tryz.ntmps5
  go_wp2_with fail
  generalize (((w.alloc (.cells #[.string n, .slice A xs.length c] 24 (0, 0))).alloc (.cells #[.string m, .slice B0 ys.length d] 24 (0, 0))).alloc (.cells #[.string k, .slice C0 zs.length e0] 24 (0, 0))) = W0 at *
  have hcall := rright_any n xs _ _ V0.out HN.out
  rw [HOA.out] at hcall
  refine hcall.mono ?_
  clear hcall
  rintro e wc1 ⟨rfl, hb1⟩
  clear V0
  replace X := Lib.hid (X.out.stay hb1)
  replace Y := Lib.hid (Y.out.stay hb1)
  replace Z3 := Lib.hid (Z3.out.stay hb1)
  replace B := Lib.hid (B.out.trans (hb1.mono B.out.size))
  clear hb1
  obtain ⟨AY, cY, hY, hcY, hiY⟩ := Y.out
  have qY0 := hY.cells.1
  have qY1 := hY.cells.2
  have HHY := Lib.hid hY
  have HCY := Lib.hid hcY
  have HIY := Lib.hid hiY
  clear hY hcY hiY
  go_wp2_with fail
  have hcall := rright_any m ys _ _ ⟨AY, cY, rfl, HCY.out, HIY.out⟩ HM.out
  rw [HOB.out] at hcall
  refine hcall.mono ?_
  clear hcall
  clear qY0 qY1
  rintro e wc2 ⟨rfl, hb1⟩
  replace X := Lib.hid (X.out.stay hb1)
  replace Y := Lib.hid (Y.out.stay hb1)
  replace Z3 := Lib.hid (Z3.out.stay hb1)
  replace B := Lib.hid (B.out.trans (hb1.mono B.out.size))
  clear hb1
  obtain ⟨AZ3, cZ3, hZ3, hcZ3, hiZ3⟩ := Z3.out
  have qZ30 := hZ3.cells.1
  have qZ31 := hZ3.cells.2
  have HHZ3 := Lib.hid hZ3
  have HCZ3 := Lib.hid hcZ3
  have HIZ3 := Lib.hid hiZ3
  clear hZ3 hcZ3 hiZ3
  go_wp2_with fail
  have hcall := rright_any k zs _ _ ⟨AZ3, cZ3, rfl, HCZ3.out, HIZ3.out⟩ HK.out
  rw [HOC.out] at hcall
  refine hcall.mono ?_
  clear hcall
  clear qZ30 qZ31
  rintro e wc3 ⟨rfl, hb1⟩
  replace X := Lib.hid (X.out.stay hb1)
  replace Y := Lib.hid (Y.out.stay hb1)
  replace Z3 := Lib.hid (Z3.out.stay hb1)
  replace B := Lib.hid (B.out.trans (hb1.mono B.out.size))
  clear hb1
  obtain ⟨AX, cX, hX, hcX, hiX⟩ := X.out
  have qX0 := hX.cells.1
  have qX1 := hX.cells.2
  have HHX := Lib.hid hX
  have HCX := Lib.hid hcX
  have HIX := Lib.hid hiX
  clear hX hcX hiX
  go_wp2_with fail
  have hcall := tfits_any n n xs xs _ _ _ ⟨AX, cX, rfl, HCX.out, HIX.out⟩ ⟨AX, cX, rfl, HCX.out, HIX.out⟩ (by have := HLX.out; omega) (by have := HLX.out; omega)
  rw [fo_refl n xs] at hcall
  refine hcall.mono ?_
  clear hcall
  clear qX0 qX1
  rintro e wc4 ⟨rfl, hb1⟩
  replace X := Lib.hid (X.out.stay hb1)
  replace Y := Lib.hid (Y.out.stay hb1)
  replace Z3 := Lib.hid (Z3.out.stay hb1)
  replace B := Lib.hid (B.out.trans (hb1.mono B.out.size))
  clear hb1
  obtain ⟨AX, cX, hX, hcX, hiX⟩ := X.out
  have qX0 := hX.cells.1
  have qX1 := hX.cells.2
  have HHX := Lib.hid hX
  have HCX := Lib.hid hcX
  have HIX := Lib.hid hiX
  clear hX hcX hiX
  obtain ⟨AY, cY, hY, hcY, hiY⟩ := Y.out
  have qY0 := hY.cells.1
  have qY1 := hY.cells.2
  have HHY := Lib.hid hY
  have HCY := Lib.hid hcY
  have HIY := Lib.hid hiY
  clear hY hcY hiY
  go_wp2_with fail
  have hcall := tfits_any n m xs ys _ _ _ ⟨AX, cX, rfl, HCX.out, HIX.out⟩ ⟨AY, cY, rfl, HCY.out, HIY.out⟩ (by have := HLX.out; omega) (by have := HLY.out; omega)
  rw [H1.out] at hcall
  refine hcall.mono ?_
  clear hcall
  clear qX0 qX1 qY0 qY1
  rintro e wc5 ⟨rfl, hb1⟩
  replace X := Lib.hid (X.out.stay hb1)
  replace Y := Lib.hid (Y.out.stay hb1)
  replace Z3 := Lib.hid (Z3.out.stay hb1)
  replace B := Lib.hid (B.out.trans (hb1.mono B.out.size))
  clear hb1
  obtain ⟨AX, cX, hX, hcX, hiX⟩ := X.out
  have qX0 := hX.cells.1
  have qX1 := hX.cells.2
  have HHX := Lib.hid hX
  have HCX := Lib.hid hcX
  have HIX := Lib.hid hiX
  clear hX hcX hiX
  obtain ⟨AY, cY, hY, hcY, hiY⟩ := Y.out
  have qY0 := hY.cells.1
  have qY1 := hY.cells.2
  have HHY := Lib.hid hY
  have HCY := Lib.hid hcY
  have HIY := Lib.hid hiY
  clear hY hcY hiY
  go_wp2_with fail
  have hcall : Calls Tryz.prog 30 #[.agg #[.string n, .slice AX xs.length cX], .agg #[.string m, .slice AY ys.length cY]] wc5 (OptPost n (some (weL xs ys)) wc5) := by
    have h := tweaken_any n m xs ys _ _ wc5 ⟨AX, cX, rfl, HCX.out, HIX.out⟩ ⟨AY, cY, rfl, HCY.out, HIY.out⟩ (by have := HLX.out; omega) (by have := HLY.out; omega)
    rw [if_pos HS.out] at h; exact h
  have HOW := Lib.hid (ok_we HOA.out HS.out)
  have HFL := Lib.hid (fi_we (ok_len HOA.out).2.2 (of_decide_eq_true HS.out).2).1
  have HFR := Lib.hid (fo_right HOA.out HS.out)
  have HLW : Hid ((weL xs ys).length ≤ 24) := Lib.hid (ok_len HOW.out).2.1
  have HFM := Lib.hid (fo_least HOA.out HS.out H3.out H4.out)
  generalize weL xs ys = ws at *
  refine hcall.mono ?_
  clear hcall
  clear qX0 qX1 qY0 qY1
  rintro e wc6 hpost
  obtain ⟨⟨u, rfl, ABX, cBX, rfl, hcx, hix⟩, hb1⟩ := hpost.some
  clear hpost
  have HCBXv := Lib.hid hcx
  have HIBXv := Lib.hid hix
  clear hcx hix
  replace X := Lib.hid (X.out.stay hb1)
  replace Y := Lib.hid (Y.out.stay hb1)
  replace Z3 := Lib.hid (Z3.out.stay hb1)
  replace B := Lib.hid (B.out.trans (hb1.mono B.out.size))
  clear hb1
  have hbA := (Below.refl wc6.heap.size wc6).alloc (Nat.le_refl _) (.cells #[.string n, .slice ABX ws.length cBX] 24 (0, 0))
  have BX : Hid (RefB (wc6.alloc (.cells #[.string n, .slice ABX ws.length cBX] 24 (0, 0))) wc6.heap.size n ws) := Lib.hid ⟨_, _, BxR.new wc6 _ _, HCBXv.out, HIBXv.out.stay hbA⟩
  have VBX : Hid (RefV (wc6.alloc (.cells #[.string n, .slice ABX ws.length cBX] 24 (0, 0))) (wc6.alloc (.cells #[.string n, .slice ABX ws.length cBX] 24 (0, 0))).heap.size (.agg #[.string n, .slice ABX ws.length cBX]) n ws) := Lib.hid ⟨_, _, rfl, HCBXv.out, HIBXv.out.stay hbA⟩
  replace X := Lib.hid (X.out.stay hbA)
  replace Y := Lib.hid (Y.out.stay hbA)
  replace Z3 := Lib.hid (Z3.out.stay hbA)
  replace B := Lib.hid (B.out.trans (hbA.mono B.out.size))
  clear hbA
  have hltBX : Hid (wc6.heap.size < (wc6.alloc (.cells #[.string n, .slice ABX ws.length cBX] 24 (0, 0))).heap.size) := Lib.hid (by simp)
  obtain ⟨AX, cX, hX, hcX, hiX⟩ := X.out
  have qX0 := hX.cells.1
  have qX1 := hX.cells.2
  have HHX := Lib.hid hX
  have HCX := Lib.hid hcX
  have HIX := Lib.hid hiX
  clear hX hcX hiX
  obtain ⟨AY, cY, hY, hcY, hiY⟩ := Y.out
  have qY0 := hY.cells.1
  have qY1 := hY.cells.2
  have HHY := Lib.hid hY
  have HCY := Lib.hid hcY
  have HIY := Lib.hid hiY
  clear hY hcY hiY
  go_wp2_with fail
  generalize (wc6.alloc (.cells #[.string n, .slice ABX ws.length cBX] 24 (0, 0))) = wa7 at *
  clear VBX hltBX
  have hcall := tshape_any n m xs ys _ _ _ ⟨AX, cX, rfl, HCX.out, HIX.out⟩ ⟨AY, cY, rfl, HCY.out, HIY.out⟩ (by have := HLX.out; omega) (by have := HLY.out; omega)
  rw [HS.out] at hcall
  refine hcall.mono ?_
  clear hcall
  clear qX0 qX1 qY0 qY1
  rintro e wc8 ⟨rfl, hb1⟩
  replace X := Lib.hid (X.out.stay hb1)
  replace Y := Lib.hid (Y.out.stay hb1)
  replace Z3 := Lib.hid (Z3.out.stay hb1)
  replace BX := Lib.hid (BX.out.stay hb1)
  replace B := Lib.hid (B.out.trans (hb1.mono B.out.size))
  clear hb1
  obtain ⟨ABX, cBX, hBX, hcBX, hiBX⟩ := BX.out
  have qBX0 := hBX.cells.1
  have qBX1 := hBX.cells.2
  have HHBX := Lib.hid hBX
  have HCBX := Lib.hid hcBX
  have HIBX := Lib.hid hiBX
  clear hBX hcBX hiBX
  go_wp2_with fail
  have hcall := tright_any n ws _ _ ⟨ABX, cBX, rfl, HCBX.out, HIBX.out⟩ HN.out
  rw [HOW.out] at hcall
  refine hcall.mono ?_
  clear hcall
  clear qBX0 qBX1
  rintro e wc9 ⟨rfl, hb1⟩
  replace X := Lib.hid (X.out.stay hb1)
  replace Y := Lib.hid (Y.out.stay hb1)
  replace Z3 := Lib.hid (Z3.out.stay hb1)
  replace BX := Lib.hid (BX.out.stay hb1)
  replace B := Lib.hid (B.out.trans (hb1.mono B.out.size))
  clear hb1
  obtain ⟨AX, cX, hX, hcX, hiX⟩ := X.out
  have qX0 := hX.cells.1
  have qX1 := hX.cells.2
  have HHX := Lib.hid hX
  have HCX := Lib.hid hcX
  have HIX := Lib.hid hiX
  clear hX hcX hiX
  obtain ⟨ABX, cBX, hBX, hcBX, hiBX⟩ := BX.out
  have qBX0 := hBX.cells.1
  have qBX1 := hBX.cells.2
  have HHBX := Lib.hid hBX
  have HCBX := Lib.hid hcBX
  have HIBX := Lib.hid hiBX
  clear hBX hcBX hiBX
  go_wp2_with fail
  have hcall := tfits_any n n xs ws _ _ _ ⟨AX, cX, rfl, HCX.out, HIX.out⟩ ⟨ABX, cBX, rfl, HCBX.out, HIBX.out⟩ (by have := HLX.out; omega) (by have := HLW.out; omega)
  rw [show (decide (n = n) && fiL xs ws) = true by rw [HFL.out]; simp] at hcall
  refine hcall.mono ?_
  clear hcall
  clear qX0 qX1 qBX0 qBX1
  rintro e wc10 ⟨rfl, hb1⟩
  replace X := Lib.hid (X.out.stay hb1)
  replace Y := Lib.hid (Y.out.stay hb1)
  replace Z3 := Lib.hid (Z3.out.stay hb1)
  replace BX := Lib.hid (BX.out.stay hb1)
  replace B := Lib.hid (B.out.trans (hb1.mono B.out.size))
  clear hb1
  obtain ⟨AY, cY, hY, hcY, hiY⟩ := Y.out
  have qY0 := hY.cells.1
  have qY1 := hY.cells.2
  have HHY := Lib.hid hY
  have HCY := Lib.hid hcY
  have HIY := Lib.hid hiY
  clear hY hcY hiY
  obtain ⟨ABX, cBX, hBX, hcBX, hiBX⟩ := BX.out
  have qBX0 := hBX.cells.1
  have qBX1 := hBX.cells.2
  have HHBX := Lib.hid hBX
  have HCBX := Lib.hid hcBX
  have HIBX := Lib.hid hiBX
  clear hBX hcBX hiBX
  go_wp2_with fail
  have hcall := tfits_any m n ys ws _ _ _ ⟨AY, cY, rfl, HCY.out, HIY.out⟩ ⟨ABX, cBX, rfl, HCBX.out, HIBX.out⟩ (by have := HLY.out; omega) (by have := HLW.out; omega)
  rw [HFR.out] at hcall
  refine hcall.mono ?_
  clear hcall
  clear qY0 qY1 qBX0 qBX1
  rintro e wc11 ⟨rfl, hb1⟩
  replace X := Lib.hid (X.out.stay hb1)
  replace Y := Lib.hid (Y.out.stay hb1)
  replace Z3 := Lib.hid (Z3.out.stay hb1)
  replace BX := Lib.hid (BX.out.stay hb1)
  replace B := Lib.hid (B.out.trans (hb1.mono B.out.size))
  clear hb1
  obtain ⟨AX, cX, hX, hcX, hiX⟩ := X.out
  have qX0 := hX.cells.1
  have qX1 := hX.cells.2
  have HHX := Lib.hid hX
  have HCX := Lib.hid hcX
  have HIX := Lib.hid hiX
  clear hX hcX hiX
  obtain ⟨AZ3, cZ3, hZ3, hcZ3, hiZ3⟩ := Z3.out
  have qZ30 := hZ3.cells.1
  have qZ31 := hZ3.cells.2
  have HHZ3 := Lib.hid hZ3
  have HCZ3 := Lib.hid hcZ3
  have HIZ3 := Lib.hid hiZ3
  clear hZ3 hcZ3 hiZ3
  go_wp2_with fail
  have hcall := tfits_any n k xs zs _ _ _ ⟨AX, cX, rfl, HCX.out, HIX.out⟩ ⟨AZ3, cZ3, rfl, HCZ3.out, HIZ3.out⟩ (by have := HLX.out; omega) (by have := HLZ.out; omega)
  rw [H3.out] at hcall
  refine hcall.mono ?_
  clear hcall
  clear qX0 qX1 qZ30 qZ31
  rintro e wc12 ⟨rfl, hb1⟩
  replace X := Lib.hid (X.out.stay hb1)
  replace Y := Lib.hid (Y.out.stay hb1)
  replace Z3 := Lib.hid (Z3.out.stay hb1)
  replace BX := Lib.hid (BX.out.stay hb1)
  replace B := Lib.hid (B.out.trans (hb1.mono B.out.size))
  clear hb1
  obtain ⟨AY, cY, hY, hcY, hiY⟩ := Y.out
  have qY0 := hY.cells.1
  have qY1 := hY.cells.2
  have HHY := Lib.hid hY
  have HCY := Lib.hid hcY
  have HIY := Lib.hid hiY
  clear hY hcY hiY
  obtain ⟨AZ3, cZ3, hZ3, hcZ3, hiZ3⟩ := Z3.out
  have qZ30 := hZ3.cells.1
  have qZ31 := hZ3.cells.2
  have HHZ3 := Lib.hid hZ3
  have HCZ3 := Lib.hid hcZ3
  have HIZ3 := Lib.hid hiZ3
  clear hZ3 hcZ3 hiZ3
  go_wp2_with fail
  have hcall := tfits_any m k ys zs _ _ _ ⟨AY, cY, rfl, HCY.out, HIY.out⟩ ⟨AZ3, cZ3, rfl, HCZ3.out, HIZ3.out⟩ (by have := HLY.out; omega) (by have := HLZ.out; omega)
  rw [H4.out] at hcall
  refine hcall.mono ?_
  clear hcall
  clear qY0 qY1 qZ30 qZ31
  rintro e wc13 ⟨rfl, hb1⟩
  replace X := Lib.hid (X.out.stay hb1)
  replace Y := Lib.hid (Y.out.stay hb1)
  replace Z3 := Lib.hid (Z3.out.stay hb1)
  replace BX := Lib.hid (BX.out.stay hb1)
  replace B := Lib.hid (B.out.trans (hb1.mono B.out.size))
  clear hb1
  obtain ⟨ABX, cBX, hBX, hcBX, hiBX⟩ := BX.out
  have qBX0 := hBX.cells.1
  have qBX1 := hBX.cells.2
  have HHBX := Lib.hid hBX
  have HCBX := Lib.hid hcBX
  have HIBX := Lib.hid hiBX
  clear hBX hcBX hiBX
  obtain ⟨AZ3, cZ3, hZ3, hcZ3, hiZ3⟩ := Z3.out
  have qZ30 := hZ3.cells.1
  have qZ31 := hZ3.cells.2
  have HHZ3 := Lib.hid hZ3
  have HCZ3 := Lib.hid hcZ3
  have HIZ3 := Lib.hid hiZ3
  clear hZ3 hcZ3 hiZ3
  go_wp2_with fail
  have hcall := tfits_any n k ws zs _ _ _ ⟨ABX, cBX, rfl, HCBX.out, HIBX.out⟩ ⟨AZ3, cZ3, rfl, HCZ3.out, HIZ3.out⟩ (by have := HLW.out; omega) (by have := HLZ.out; omega)
  rw [HFM.out] at hcall
  refine hcall.mono ?_
  clear hcall
  clear qBX0 qBX1 qZ30 qZ31
  rintro e wc14 ⟨rfl, hb1⟩
  replace X := Lib.hid (X.out.stay hb1)
  replace Y := Lib.hid (Y.out.stay hb1)
  replace Z3 := Lib.hid (Z3.out.stay hb1)
  replace BX := Lib.hid (BX.out.stay hb1)
  replace B := Lib.hid (B.out.trans (hb1.mono B.out.size))
  clear hb1
  go_wp2_with fail
  refine (knows_any _ (HLK.out.below B.out)).mono ?_
  rintro e wk9 ⟨rfl, hb1⟩
  have HBK := Lib.hid (B.out.trans (hb1.mono B.out.size))
  clear hb1
  go_wp2_with fail
  exact bodyPost_ret (v := .bool true) (by simp [results, Tryz.results5, go_sem]) rfl ⟨rfl, HBK.out⟩
set_option maxRecDepth 100000 in
set_option maxHeartbeats 2000000 in
theorem order_10100 (n m k : ByteArray) (xs ys zs : Ws) (v u t : Value) (w : World) (hx : RefV w w.heap.size v n xs) (hy : RefV w w.heap.size u m ys) (hz : RefV w w.heap.size t k zs) (hL : LK w) (hn : n.size ≤ maxLen) (hm : m.size ≤ maxLen) (hk : k.size ≤ maxLen) (hoa : okB n xs = true) (hob : okB m ys = true) (hoc : okB k zs = true) (h1 : (decide (n = m) && fiL xs ys) = true) (h2 : (decide (m = k) && fiL ys zs) = false) (hs : decide (n = m ∧ strL xs = strL ys) = true) (h3 : (decide (n = k) && fiL xs zs) = false)  : Calls Tryz.prog 5 #[v, u, t] w (BoolPost true w) := by
  have HOA := Lib.hid hoa
  have HOB := Lib.hid hob
  have HOC := Lib.hid hoc
  have H1 := Lib.hid h1
  have H2 := Lib.hid h2
  have HS := Lib.hid hs
  have H3 := Lib.hid h3
  clear hoa hob hoc h1 h2 hs h3
  have HLX : Hid (xs.length ≤ 24) := Lib.hid (ok_len HOA.out).2.1
  have HLY : Hid (ys.length ≤ 24) := Lib.hid (ok_len HOB.out).2.1
  have HLZ : Hid (zs.length ≤ 24) := Lib.hid (ok_len HOC.out).2.1
  have HLK := Lib.hid hL
  have HN := Lib.hid hn
  have HM := Lib.hid hm
  have HK := Lib.hid hk
  obtain ⟨A, c, rfl, hc, hi⟩ := hx
  obtain ⟨B0, d, rfl, hd, hj⟩ := hy
  obtain ⟨C0, e0, rfl, he, hg⟩ := hz
  obtain ⟨x1, x2, x4, x3⟩ := BxR.third w (.string n) (.slice A xs.length c) (.string m) (.slice B0 ys.length d) (.string k) (.slice C0 zs.length e0)
  have X : Hid (RefB (((w.alloc (.cells #[.string n, .slice A xs.length c] 24 (0, 0))).alloc (.cells #[.string m, .slice B0 ys.length d] 24 (0, 0))).alloc (.cells #[.string k, .slice C0 zs.length e0] 24 (0, 0))) w.heap.size n xs) := Lib.hid ⟨A, c, x1, hc, hi.stay x3⟩
  have Y : Hid (RefB (((w.alloc (.cells #[.string n, .slice A xs.length c] 24 (0, 0))).alloc (.cells #[.string m, .slice B0 ys.length d] 24 (0, 0))).alloc (.cells #[.string k, .slice C0 zs.length e0] 24 (0, 0))) (w.heap.size + 1) m ys) := Lib.hid ⟨B0, d, x2, hd, hj.stay x3⟩
  have Z3 : Hid (RefB (((w.alloc (.cells #[.string n, .slice A xs.length c] 24 (0, 0))).alloc (.cells #[.string m, .slice B0 ys.length d] 24 (0, 0))).alloc (.cells #[.string k, .slice C0 zs.length e0] 24 (0, 0))) (w.heap.size + 1 + 1) k zs) := Lib.hid ⟨C0, e0, x4, he, hg.stay x3⟩
  have B := Lib.hid x3
  have V0 : Hid (RefV (((w.alloc (.cells #[.string n, .slice A xs.length c] 24 (0, 0))).alloc (.cells #[.string m, .slice B0 ys.length d] 24 (0, 0))).alloc (.cells #[.string k, .slice C0 zs.length e0] 24 (0, 0))) (((w.alloc (.cells #[.string n, .slice A xs.length c] 24 (0, 0))).alloc (.cells #[.string m, .slice B0 ys.length d] 24 (0, 0))).alloc (.cells #[.string k, .slice C0 zs.length e0] 24 (0, 0))).heap.size (.agg #[.string n, .slice A xs.length c]) n xs) := Lib.hid ⟨A, c, rfl, hc, hi.stay x3⟩
  clear hc hd he hi hj hg x1 x2 x3 x4 hL hn hm hk
  go_enter Tryz.func5, Tryz.ntmps5
  go_wp2_with fail
  generalize (((w.alloc (.cells #[.string n, .slice A xs.length c] 24 (0, 0))).alloc (.cells #[.string m, .slice B0 ys.length d] 24 (0, 0))).alloc (.cells #[.string k, .slice C0 zs.length e0] 24 (0, 0))) = W0 at *
  have hcall := rright_any n xs _ _ V0.out HN.out
  rw [HOA.out] at hcall
  refine hcall.mono ?_
  clear hcall
  rintro e wc1 ⟨rfl, hb1⟩
  clear V0
  replace X := Lib.hid (X.out.stay hb1)
  replace Y := Lib.hid (Y.out.stay hb1)
  replace Z3 := Lib.hid (Z3.out.stay hb1)
  replace B := Lib.hid (B.out.trans (hb1.mono B.out.size))
  clear hb1
  obtain ⟨AY, cY, hY, hcY, hiY⟩ := Y.out
  have qY0 := hY.cells.1
  have qY1 := hY.cells.2
  have HHY := Lib.hid hY
  have HCY := Lib.hid hcY
  have HIY := Lib.hid hiY
  clear hY hcY hiY
  go_wp2_with fail
  have hcall := rright_any m ys _ _ ⟨AY, cY, rfl, HCY.out, HIY.out⟩ HM.out
  rw [HOB.out] at hcall
  refine hcall.mono ?_
  clear hcall
  clear qY0 qY1
  rintro e wc2 ⟨rfl, hb1⟩
  replace X := Lib.hid (X.out.stay hb1)
  replace Y := Lib.hid (Y.out.stay hb1)
  replace Z3 := Lib.hid (Z3.out.stay hb1)
  replace B := Lib.hid (B.out.trans (hb1.mono B.out.size))
  clear hb1
  obtain ⟨AZ3, cZ3, hZ3, hcZ3, hiZ3⟩ := Z3.out
  have qZ30 := hZ3.cells.1
  have qZ31 := hZ3.cells.2
  have HHZ3 := Lib.hid hZ3
  have HCZ3 := Lib.hid hcZ3
  have HIZ3 := Lib.hid hiZ3
  clear hZ3 hcZ3 hiZ3
  go_wp2_with fail
  have hcall := rright_any k zs _ _ ⟨AZ3, cZ3, rfl, HCZ3.out, HIZ3.out⟩ HK.out
  rw [HOC.out] at hcall
  refine hcall.mono ?_
  clear hcall
  clear qZ30 qZ31
  rintro e wc3 ⟨rfl, hb1⟩
  replace X := Lib.hid (X.out.stay hb1)
  replace Y := Lib.hid (Y.out.stay hb1)
  replace Z3 := Lib.hid (Z3.out.stay hb1)
  replace B := Lib.hid (B.out.trans (hb1.mono B.out.size))
  clear hb1
  obtain ⟨AX, cX, hX, hcX, hiX⟩ := X.out
  have qX0 := hX.cells.1
  have qX1 := hX.cells.2
  have HHX := Lib.hid hX
  have HCX := Lib.hid hcX
  have HIX := Lib.hid hiX
  clear hX hcX hiX
  go_wp2_with fail
  have hcall := tfits_any n n xs xs _ _ _ ⟨AX, cX, rfl, HCX.out, HIX.out⟩ ⟨AX, cX, rfl, HCX.out, HIX.out⟩ (by have := HLX.out; omega) (by have := HLX.out; omega)
  rw [fo_refl n xs] at hcall
  refine hcall.mono ?_
  clear hcall
  clear qX0 qX1
  rintro e wc4 ⟨rfl, hb1⟩
  replace X := Lib.hid (X.out.stay hb1)
  replace Y := Lib.hid (Y.out.stay hb1)
  replace Z3 := Lib.hid (Z3.out.stay hb1)
  replace B := Lib.hid (B.out.trans (hb1.mono B.out.size))
  clear hb1
  obtain ⟨AX, cX, hX, hcX, hiX⟩ := X.out
  have qX0 := hX.cells.1
  have qX1 := hX.cells.2
  have HHX := Lib.hid hX
  have HCX := Lib.hid hcX
  have HIX := Lib.hid hiX
  clear hX hcX hiX
  obtain ⟨AY, cY, hY, hcY, hiY⟩ := Y.out
  have qY0 := hY.cells.1
  have qY1 := hY.cells.2
  have HHY := Lib.hid hY
  have HCY := Lib.hid hcY
  have HIY := Lib.hid hiY
  clear hY hcY hiY
  go_wp2_with fail
  have hcall := tfits_any n m xs ys _ _ _ ⟨AX, cX, rfl, HCX.out, HIX.out⟩ ⟨AY, cY, rfl, HCY.out, HIY.out⟩ (by have := HLX.out; omega) (by have := HLY.out; omega)
  rw [H1.out] at hcall
  refine hcall.mono ?_
  clear hcall
  clear qX0 qX1 qY0 qY1
  rintro e wc5 ⟨rfl, hb1⟩
  replace X := Lib.hid (X.out.stay hb1)
  replace Y := Lib.hid (Y.out.stay hb1)
  replace Z3 := Lib.hid (Z3.out.stay hb1)
  replace B := Lib.hid (B.out.trans (hb1.mono B.out.size))
  clear hb1
  obtain ⟨AY, cY, hY, hcY, hiY⟩ := Y.out
  have qY0 := hY.cells.1
  have qY1 := hY.cells.2
  have HHY := Lib.hid hY
  have HCY := Lib.hid hcY
  have HIY := Lib.hid hiY
  clear hY hcY hiY
  obtain ⟨AZ3, cZ3, hZ3, hcZ3, hiZ3⟩ := Z3.out
  have qZ30 := hZ3.cells.1
  have qZ31 := hZ3.cells.2
  have HHZ3 := Lib.hid hZ3
  have HCZ3 := Lib.hid hcZ3
  have HIZ3 := Lib.hid hiZ3
  clear hZ3 hcZ3 hiZ3
  go_wp2_with fail
  have hcall := tfits_any m k ys zs _ _ _ ⟨AY, cY, rfl, HCY.out, HIY.out⟩ ⟨AZ3, cZ3, rfl, HCZ3.out, HIZ3.out⟩ (by have := HLY.out; omega) (by have := HLZ.out; omega)
  rw [H2.out] at hcall
  refine hcall.mono ?_
  clear hcall
  clear qY0 qY1 qZ30 qZ31
  rintro e wc6 ⟨rfl, hb1⟩
  replace X := Lib.hid (X.out.stay hb1)
  replace Y := Lib.hid (Y.out.stay hb1)
  replace Z3 := Lib.hid (Z3.out.stay hb1)
  replace B := Lib.hid (B.out.trans (hb1.mono B.out.size))
  clear hb1
  obtain ⟨AX, cX, hX, hcX, hiX⟩ := X.out
  have qX0 := hX.cells.1
  have qX1 := hX.cells.2
  have HHX := Lib.hid hX
  have HCX := Lib.hid hcX
  have HIX := Lib.hid hiX
  clear hX hcX hiX
  obtain ⟨AY, cY, hY, hcY, hiY⟩ := Y.out
  have qY0 := hY.cells.1
  have qY1 := hY.cells.2
  have HHY := Lib.hid hY
  have HCY := Lib.hid hcY
  have HIY := Lib.hid hiY
  clear hY hcY hiY
  go_wp2_with fail
  have hcall : Calls Tryz.prog 30 #[.agg #[.string n, .slice AX xs.length cX], .agg #[.string m, .slice AY ys.length cY]] wc6 (OptPost n (some (weL xs ys)) wc6) := by
    have h := tweaken_any n m xs ys _ _ wc6 ⟨AX, cX, rfl, HCX.out, HIX.out⟩ ⟨AY, cY, rfl, HCY.out, HIY.out⟩ (by have := HLX.out; omega) (by have := HLY.out; omega)
    rw [if_pos HS.out] at h; exact h
  have HOW := Lib.hid (ok_we HOA.out HS.out)
  have HFL := Lib.hid (fi_we (ok_len HOA.out).2.2 (of_decide_eq_true HS.out).2).1
  have HFR := Lib.hid (fo_right HOA.out HS.out)
  have HLW : Hid ((weL xs ys).length ≤ 24) := Lib.hid (ok_len HOW.out).2.1
  generalize weL xs ys = ws at *
  refine hcall.mono ?_
  clear hcall
  clear qX0 qX1 qY0 qY1
  rintro e wc7 hpost
  obtain ⟨⟨u, rfl, ABX, cBX, rfl, hcx, hix⟩, hb1⟩ := hpost.some
  clear hpost
  have HCBXv := Lib.hid hcx
  have HIBXv := Lib.hid hix
  clear hcx hix
  replace X := Lib.hid (X.out.stay hb1)
  replace Y := Lib.hid (Y.out.stay hb1)
  replace Z3 := Lib.hid (Z3.out.stay hb1)
  replace B := Lib.hid (B.out.trans (hb1.mono B.out.size))
  clear hb1
  have hbA := (Below.refl wc7.heap.size wc7).alloc (Nat.le_refl _) (.cells #[.string n, .slice ABX ws.length cBX] 24 (0, 0))
  have BX : Hid (RefB (wc7.alloc (.cells #[.string n, .slice ABX ws.length cBX] 24 (0, 0))) wc7.heap.size n ws) := Lib.hid ⟨_, _, BxR.new wc7 _ _, HCBXv.out, HIBXv.out.stay hbA⟩
  have VBX : Hid (RefV (wc7.alloc (.cells #[.string n, .slice ABX ws.length cBX] 24 (0, 0))) (wc7.alloc (.cells #[.string n, .slice ABX ws.length cBX] 24 (0, 0))).heap.size (.agg #[.string n, .slice ABX ws.length cBX]) n ws) := Lib.hid ⟨_, _, rfl, HCBXv.out, HIBXv.out.stay hbA⟩
  replace X := Lib.hid (X.out.stay hbA)
  replace Y := Lib.hid (Y.out.stay hbA)
  replace Z3 := Lib.hid (Z3.out.stay hbA)
  replace B := Lib.hid (B.out.trans (hbA.mono B.out.size))
  clear hbA
  have hltBX : Hid (wc7.heap.size < (wc7.alloc (.cells #[.string n, .slice ABX ws.length cBX] 24 (0, 0))).heap.size) := Lib.hid (by simp)
  obtain ⟨AX, cX, hX, hcX, hiX⟩ := X.out
  have qX0 := hX.cells.1
  have qX1 := hX.cells.2
  have HHX := Lib.hid hX
  have HCX := Lib.hid hcX
  have HIX := Lib.hid hiX
  clear hX hcX hiX
  obtain ⟨AY, cY, hY, hcY, hiY⟩ := Y.out
  have qY0 := hY.cells.1
  have qY1 := hY.cells.2
  have HHY := Lib.hid hY
  have HCY := Lib.hid hcY
  have HIY := Lib.hid hiY
  clear hY hcY hiY
  go_wp2_with fail
  generalize (wc7.alloc (.cells #[.string n, .slice ABX ws.length cBX] 24 (0, 0))) = wa8 at *
  clear VBX hltBX
  have hcall := tshape_any n m xs ys _ _ _ ⟨AX, cX, rfl, HCX.out, HIX.out⟩ ⟨AY, cY, rfl, HCY.out, HIY.out⟩ (by have := HLX.out; omega) (by have := HLY.out; omega)
  rw [HS.out] at hcall
  refine hcall.mono ?_
  clear hcall
  clear qX0 qX1 qY0 qY1
  rintro e wc9 ⟨rfl, hb1⟩
  replace X := Lib.hid (X.out.stay hb1)
  replace Y := Lib.hid (Y.out.stay hb1)
  replace Z3 := Lib.hid (Z3.out.stay hb1)
  replace BX := Lib.hid (BX.out.stay hb1)
  replace B := Lib.hid (B.out.trans (hb1.mono B.out.size))
  clear hb1
  obtain ⟨ABX, cBX, hBX, hcBX, hiBX⟩ := BX.out
  have qBX0 := hBX.cells.1
  have qBX1 := hBX.cells.2
  have HHBX := Lib.hid hBX
  have HCBX := Lib.hid hcBX
  have HIBX := Lib.hid hiBX
  clear hBX hcBX hiBX
  go_wp2_with fail
  have hcall := tright_any n ws _ _ ⟨ABX, cBX, rfl, HCBX.out, HIBX.out⟩ HN.out
  rw [HOW.out] at hcall
  refine hcall.mono ?_
  clear hcall
  clear qBX0 qBX1
  rintro e wc10 ⟨rfl, hb1⟩
  replace X := Lib.hid (X.out.stay hb1)
  replace Y := Lib.hid (Y.out.stay hb1)
  replace Z3 := Lib.hid (Z3.out.stay hb1)
  replace BX := Lib.hid (BX.out.stay hb1)
  replace B := Lib.hid (B.out.trans (hb1.mono B.out.size))
  clear hb1
  obtain ⟨AX, cX, hX, hcX, hiX⟩ := X.out
  have qX0 := hX.cells.1
  have qX1 := hX.cells.2
  have HHX := Lib.hid hX
  have HCX := Lib.hid hcX
  have HIX := Lib.hid hiX
  clear hX hcX hiX
  obtain ⟨ABX, cBX, hBX, hcBX, hiBX⟩ := BX.out
  have qBX0 := hBX.cells.1
  have qBX1 := hBX.cells.2
  have HHBX := Lib.hid hBX
  have HCBX := Lib.hid hcBX
  have HIBX := Lib.hid hiBX
  clear hBX hcBX hiBX
  go_wp2_with fail
  have hcall := tfits_any n n xs ws _ _ _ ⟨AX, cX, rfl, HCX.out, HIX.out⟩ ⟨ABX, cBX, rfl, HCBX.out, HIBX.out⟩ (by have := HLX.out; omega) (by have := HLW.out; omega)
  rw [show (decide (n = n) && fiL xs ws) = true by rw [HFL.out]; simp] at hcall
  refine hcall.mono ?_
  clear hcall
  clear qX0 qX1 qBX0 qBX1
  rintro e wc11 ⟨rfl, hb1⟩
  replace X := Lib.hid (X.out.stay hb1)
  replace Y := Lib.hid (Y.out.stay hb1)
  replace Z3 := Lib.hid (Z3.out.stay hb1)
  replace BX := Lib.hid (BX.out.stay hb1)
  replace B := Lib.hid (B.out.trans (hb1.mono B.out.size))
  clear hb1
  obtain ⟨AY, cY, hY, hcY, hiY⟩ := Y.out
  have qY0 := hY.cells.1
  have qY1 := hY.cells.2
  have HHY := Lib.hid hY
  have HCY := Lib.hid hcY
  have HIY := Lib.hid hiY
  clear hY hcY hiY
  obtain ⟨ABX, cBX, hBX, hcBX, hiBX⟩ := BX.out
  have qBX0 := hBX.cells.1
  have qBX1 := hBX.cells.2
  have HHBX := Lib.hid hBX
  have HCBX := Lib.hid hcBX
  have HIBX := Lib.hid hiBX
  clear hBX hcBX hiBX
  go_wp2_with fail
  have hcall := tfits_any m n ys ws _ _ _ ⟨AY, cY, rfl, HCY.out, HIY.out⟩ ⟨ABX, cBX, rfl, HCBX.out, HIBX.out⟩ (by have := HLY.out; omega) (by have := HLW.out; omega)
  rw [HFR.out] at hcall
  refine hcall.mono ?_
  clear hcall
  clear qY0 qY1 qBX0 qBX1
  rintro e wc12 ⟨rfl, hb1⟩
  replace X := Lib.hid (X.out.stay hb1)
  replace Y := Lib.hid (Y.out.stay hb1)
  replace Z3 := Lib.hid (Z3.out.stay hb1)
  replace BX := Lib.hid (BX.out.stay hb1)
  replace B := Lib.hid (B.out.trans (hb1.mono B.out.size))
  clear hb1
  obtain ⟨AX, cX, hX, hcX, hiX⟩ := X.out
  have qX0 := hX.cells.1
  have qX1 := hX.cells.2
  have HHX := Lib.hid hX
  have HCX := Lib.hid hcX
  have HIX := Lib.hid hiX
  clear hX hcX hiX
  obtain ⟨AZ3, cZ3, hZ3, hcZ3, hiZ3⟩ := Z3.out
  have qZ30 := hZ3.cells.1
  have qZ31 := hZ3.cells.2
  have HHZ3 := Lib.hid hZ3
  have HCZ3 := Lib.hid hcZ3
  have HIZ3 := Lib.hid hiZ3
  clear hZ3 hcZ3 hiZ3
  go_wp2_with fail
  have hcall := tfits_any n k xs zs _ _ _ ⟨AX, cX, rfl, HCX.out, HIX.out⟩ ⟨AZ3, cZ3, rfl, HCZ3.out, HIZ3.out⟩ (by have := HLX.out; omega) (by have := HLZ.out; omega)
  rw [H3.out] at hcall
  refine hcall.mono ?_
  clear hcall
  clear qX0 qX1 qZ30 qZ31
  rintro e wc13 ⟨rfl, hb1⟩
  replace X := Lib.hid (X.out.stay hb1)
  replace Y := Lib.hid (Y.out.stay hb1)
  replace Z3 := Lib.hid (Z3.out.stay hb1)
  replace BX := Lib.hid (BX.out.stay hb1)
  replace B := Lib.hid (B.out.trans (hb1.mono B.out.size))
  clear hb1
  go_wp2_with fail
  refine (knows_any _ (HLK.out.below B.out)).mono ?_
  rintro e wk9 ⟨rfl, hb1⟩
  have HBK := Lib.hid (B.out.trans (hb1.mono B.out.size))
  clear hb1
  go_wp2_with fail
  exact bodyPost_ret (v := .bool true) (by simp [results, Tryz.results5, go_sem]) rfl ⟨rfl, HBK.out⟩
set_option maxRecDepth 100000 in
set_option maxHeartbeats 2000000 in
theorem order_10110 (n m k : ByteArray) (xs ys zs : Ws) (v u t : Value) (w : World) (hx : RefV w w.heap.size v n xs) (hy : RefV w w.heap.size u m ys) (hz : RefV w w.heap.size t k zs) (hL : LK w) (hn : n.size ≤ maxLen) (hm : m.size ≤ maxLen) (hk : k.size ≤ maxLen) (hoa : okB n xs = true) (hob : okB m ys = true) (hoc : okB k zs = true) (h1 : (decide (n = m) && fiL xs ys) = true) (h2 : (decide (m = k) && fiL ys zs) = false) (hs : decide (n = m ∧ strL xs = strL ys) = true) (h3 : (decide (n = k) && fiL xs zs) = true)  : Calls Tryz.prog 5 #[v, u, t] w (BoolPost true w) := by
  have HOA := Lib.hid hoa
  have HOB := Lib.hid hob
  have HOC := Lib.hid hoc
  have H1 := Lib.hid h1
  have H2 := Lib.hid h2
  have HS := Lib.hid hs
  have H3 := Lib.hid h3
  clear hoa hob hoc h1 h2 hs h3
  have HLX : Hid (xs.length ≤ 24) := Lib.hid (ok_len HOA.out).2.1
  have HLY : Hid (ys.length ≤ 24) := Lib.hid (ok_len HOB.out).2.1
  have HLZ : Hid (zs.length ≤ 24) := Lib.hid (ok_len HOC.out).2.1
  have HLK := Lib.hid hL
  have HN := Lib.hid hn
  have HM := Lib.hid hm
  have HK := Lib.hid hk
  obtain ⟨A, c, rfl, hc, hi⟩ := hx
  obtain ⟨B0, d, rfl, hd, hj⟩ := hy
  obtain ⟨C0, e0, rfl, he, hg⟩ := hz
  obtain ⟨x1, x2, x4, x3⟩ := BxR.third w (.string n) (.slice A xs.length c) (.string m) (.slice B0 ys.length d) (.string k) (.slice C0 zs.length e0)
  have X : Hid (RefB (((w.alloc (.cells #[.string n, .slice A xs.length c] 24 (0, 0))).alloc (.cells #[.string m, .slice B0 ys.length d] 24 (0, 0))).alloc (.cells #[.string k, .slice C0 zs.length e0] 24 (0, 0))) w.heap.size n xs) := Lib.hid ⟨A, c, x1, hc, hi.stay x3⟩
  have Y : Hid (RefB (((w.alloc (.cells #[.string n, .slice A xs.length c] 24 (0, 0))).alloc (.cells #[.string m, .slice B0 ys.length d] 24 (0, 0))).alloc (.cells #[.string k, .slice C0 zs.length e0] 24 (0, 0))) (w.heap.size + 1) m ys) := Lib.hid ⟨B0, d, x2, hd, hj.stay x3⟩
  have Z3 : Hid (RefB (((w.alloc (.cells #[.string n, .slice A xs.length c] 24 (0, 0))).alloc (.cells #[.string m, .slice B0 ys.length d] 24 (0, 0))).alloc (.cells #[.string k, .slice C0 zs.length e0] 24 (0, 0))) (w.heap.size + 1 + 1) k zs) := Lib.hid ⟨C0, e0, x4, he, hg.stay x3⟩
  have B := Lib.hid x3
  have V0 : Hid (RefV (((w.alloc (.cells #[.string n, .slice A xs.length c] 24 (0, 0))).alloc (.cells #[.string m, .slice B0 ys.length d] 24 (0, 0))).alloc (.cells #[.string k, .slice C0 zs.length e0] 24 (0, 0))) (((w.alloc (.cells #[.string n, .slice A xs.length c] 24 (0, 0))).alloc (.cells #[.string m, .slice B0 ys.length d] 24 (0, 0))).alloc (.cells #[.string k, .slice C0 zs.length e0] 24 (0, 0))).heap.size (.agg #[.string n, .slice A xs.length c]) n xs) := Lib.hid ⟨A, c, rfl, hc, hi.stay x3⟩
  clear hc hd he hi hj hg x1 x2 x3 x4 hL hn hm hk
  go_enter Tryz.func5, Tryz.ntmps5
  go_wp2_with fail
  generalize (((w.alloc (.cells #[.string n, .slice A xs.length c] 24 (0, 0))).alloc (.cells #[.string m, .slice B0 ys.length d] 24 (0, 0))).alloc (.cells #[.string k, .slice C0 zs.length e0] 24 (0, 0))) = W0 at *
  have hcall := rright_any n xs _ _ V0.out HN.out
  rw [HOA.out] at hcall
  refine hcall.mono ?_
  clear hcall
  rintro e wc1 ⟨rfl, hb1⟩
  clear V0
  replace X := Lib.hid (X.out.stay hb1)
  replace Y := Lib.hid (Y.out.stay hb1)
  replace Z3 := Lib.hid (Z3.out.stay hb1)
  replace B := Lib.hid (B.out.trans (hb1.mono B.out.size))
  clear hb1
  obtain ⟨AY, cY, hY, hcY, hiY⟩ := Y.out
  have qY0 := hY.cells.1
  have qY1 := hY.cells.2
  have HHY := Lib.hid hY
  have HCY := Lib.hid hcY
  have HIY := Lib.hid hiY
  clear hY hcY hiY
  go_wp2_with fail
  have hcall := rright_any m ys _ _ ⟨AY, cY, rfl, HCY.out, HIY.out⟩ HM.out
  rw [HOB.out] at hcall
  refine hcall.mono ?_
  clear hcall
  clear qY0 qY1
  rintro e wc2 ⟨rfl, hb1⟩
  replace X := Lib.hid (X.out.stay hb1)
  replace Y := Lib.hid (Y.out.stay hb1)
  replace Z3 := Lib.hid (Z3.out.stay hb1)
  replace B := Lib.hid (B.out.trans (hb1.mono B.out.size))
  clear hb1
  obtain ⟨AZ3, cZ3, hZ3, hcZ3, hiZ3⟩ := Z3.out
  have qZ30 := hZ3.cells.1
  have qZ31 := hZ3.cells.2
  have HHZ3 := Lib.hid hZ3
  have HCZ3 := Lib.hid hcZ3
  have HIZ3 := Lib.hid hiZ3
  clear hZ3 hcZ3 hiZ3
  go_wp2_with fail
  have hcall := rright_any k zs _ _ ⟨AZ3, cZ3, rfl, HCZ3.out, HIZ3.out⟩ HK.out
  rw [HOC.out] at hcall
  refine hcall.mono ?_
  clear hcall
  clear qZ30 qZ31
  rintro e wc3 ⟨rfl, hb1⟩
  replace X := Lib.hid (X.out.stay hb1)
  replace Y := Lib.hid (Y.out.stay hb1)
  replace Z3 := Lib.hid (Z3.out.stay hb1)
  replace B := Lib.hid (B.out.trans (hb1.mono B.out.size))
  clear hb1
  obtain ⟨AX, cX, hX, hcX, hiX⟩ := X.out
  have qX0 := hX.cells.1
  have qX1 := hX.cells.2
  have HHX := Lib.hid hX
  have HCX := Lib.hid hcX
  have HIX := Lib.hid hiX
  clear hX hcX hiX
  go_wp2_with fail
  have hcall := tfits_any n n xs xs _ _ _ ⟨AX, cX, rfl, HCX.out, HIX.out⟩ ⟨AX, cX, rfl, HCX.out, HIX.out⟩ (by have := HLX.out; omega) (by have := HLX.out; omega)
  rw [fo_refl n xs] at hcall
  refine hcall.mono ?_
  clear hcall
  clear qX0 qX1
  rintro e wc4 ⟨rfl, hb1⟩
  replace X := Lib.hid (X.out.stay hb1)
  replace Y := Lib.hid (Y.out.stay hb1)
  replace Z3 := Lib.hid (Z3.out.stay hb1)
  replace B := Lib.hid (B.out.trans (hb1.mono B.out.size))
  clear hb1
  obtain ⟨AX, cX, hX, hcX, hiX⟩ := X.out
  have qX0 := hX.cells.1
  have qX1 := hX.cells.2
  have HHX := Lib.hid hX
  have HCX := Lib.hid hcX
  have HIX := Lib.hid hiX
  clear hX hcX hiX
  obtain ⟨AY, cY, hY, hcY, hiY⟩ := Y.out
  have qY0 := hY.cells.1
  have qY1 := hY.cells.2
  have HHY := Lib.hid hY
  have HCY := Lib.hid hcY
  have HIY := Lib.hid hiY
  clear hY hcY hiY
  go_wp2_with fail
  have hcall := tfits_any n m xs ys _ _ _ ⟨AX, cX, rfl, HCX.out, HIX.out⟩ ⟨AY, cY, rfl, HCY.out, HIY.out⟩ (by have := HLX.out; omega) (by have := HLY.out; omega)
  rw [H1.out] at hcall
  refine hcall.mono ?_
  clear hcall
  clear qX0 qX1 qY0 qY1
  rintro e wc5 ⟨rfl, hb1⟩
  replace X := Lib.hid (X.out.stay hb1)
  replace Y := Lib.hid (Y.out.stay hb1)
  replace Z3 := Lib.hid (Z3.out.stay hb1)
  replace B := Lib.hid (B.out.trans (hb1.mono B.out.size))
  clear hb1
  obtain ⟨AY, cY, hY, hcY, hiY⟩ := Y.out
  have qY0 := hY.cells.1
  have qY1 := hY.cells.2
  have HHY := Lib.hid hY
  have HCY := Lib.hid hcY
  have HIY := Lib.hid hiY
  clear hY hcY hiY
  obtain ⟨AZ3, cZ3, hZ3, hcZ3, hiZ3⟩ := Z3.out
  have qZ30 := hZ3.cells.1
  have qZ31 := hZ3.cells.2
  have HHZ3 := Lib.hid hZ3
  have HCZ3 := Lib.hid hcZ3
  have HIZ3 := Lib.hid hiZ3
  clear hZ3 hcZ3 hiZ3
  go_wp2_with fail
  have hcall := tfits_any m k ys zs _ _ _ ⟨AY, cY, rfl, HCY.out, HIY.out⟩ ⟨AZ3, cZ3, rfl, HCZ3.out, HIZ3.out⟩ (by have := HLY.out; omega) (by have := HLZ.out; omega)
  rw [H2.out] at hcall
  refine hcall.mono ?_
  clear hcall
  clear qY0 qY1 qZ30 qZ31
  rintro e wc6 ⟨rfl, hb1⟩
  replace X := Lib.hid (X.out.stay hb1)
  replace Y := Lib.hid (Y.out.stay hb1)
  replace Z3 := Lib.hid (Z3.out.stay hb1)
  replace B := Lib.hid (B.out.trans (hb1.mono B.out.size))
  clear hb1
  obtain ⟨AX, cX, hX, hcX, hiX⟩ := X.out
  have qX0 := hX.cells.1
  have qX1 := hX.cells.2
  have HHX := Lib.hid hX
  have HCX := Lib.hid hcX
  have HIX := Lib.hid hiX
  clear hX hcX hiX
  obtain ⟨AY, cY, hY, hcY, hiY⟩ := Y.out
  have qY0 := hY.cells.1
  have qY1 := hY.cells.2
  have HHY := Lib.hid hY
  have HCY := Lib.hid hcY
  have HIY := Lib.hid hiY
  clear hY hcY hiY
  go_wp2_with fail
  have hcall : Calls Tryz.prog 30 #[.agg #[.string n, .slice AX xs.length cX], .agg #[.string m, .slice AY ys.length cY]] wc6 (OptPost n (some (weL xs ys)) wc6) := by
    have h := tweaken_any n m xs ys _ _ wc6 ⟨AX, cX, rfl, HCX.out, HIX.out⟩ ⟨AY, cY, rfl, HCY.out, HIY.out⟩ (by have := HLX.out; omega) (by have := HLY.out; omega)
    rw [if_pos HS.out] at h; exact h
  have HOW := Lib.hid (ok_we HOA.out HS.out)
  have HFL := Lib.hid (fi_we (ok_len HOA.out).2.2 (of_decide_eq_true HS.out).2).1
  have HFR := Lib.hid (fo_right HOA.out HS.out)
  have HLW : Hid ((weL xs ys).length ≤ 24) := Lib.hid (ok_len HOW.out).2.1
  generalize weL xs ys = ws at *
  refine hcall.mono ?_
  clear hcall
  clear qX0 qX1 qY0 qY1
  rintro e wc7 hpost
  obtain ⟨⟨u, rfl, ABX, cBX, rfl, hcx, hix⟩, hb1⟩ := hpost.some
  clear hpost
  have HCBXv := Lib.hid hcx
  have HIBXv := Lib.hid hix
  clear hcx hix
  replace X := Lib.hid (X.out.stay hb1)
  replace Y := Lib.hid (Y.out.stay hb1)
  replace Z3 := Lib.hid (Z3.out.stay hb1)
  replace B := Lib.hid (B.out.trans (hb1.mono B.out.size))
  clear hb1
  have hbA := (Below.refl wc7.heap.size wc7).alloc (Nat.le_refl _) (.cells #[.string n, .slice ABX ws.length cBX] 24 (0, 0))
  have BX : Hid (RefB (wc7.alloc (.cells #[.string n, .slice ABX ws.length cBX] 24 (0, 0))) wc7.heap.size n ws) := Lib.hid ⟨_, _, BxR.new wc7 _ _, HCBXv.out, HIBXv.out.stay hbA⟩
  have VBX : Hid (RefV (wc7.alloc (.cells #[.string n, .slice ABX ws.length cBX] 24 (0, 0))) (wc7.alloc (.cells #[.string n, .slice ABX ws.length cBX] 24 (0, 0))).heap.size (.agg #[.string n, .slice ABX ws.length cBX]) n ws) := Lib.hid ⟨_, _, rfl, HCBXv.out, HIBXv.out.stay hbA⟩
  replace X := Lib.hid (X.out.stay hbA)
  replace Y := Lib.hid (Y.out.stay hbA)
  replace Z3 := Lib.hid (Z3.out.stay hbA)
  replace B := Lib.hid (B.out.trans (hbA.mono B.out.size))
  clear hbA
  have hltBX : Hid (wc7.heap.size < (wc7.alloc (.cells #[.string n, .slice ABX ws.length cBX] 24 (0, 0))).heap.size) := Lib.hid (by simp)
  obtain ⟨AX, cX, hX, hcX, hiX⟩ := X.out
  have qX0 := hX.cells.1
  have qX1 := hX.cells.2
  have HHX := Lib.hid hX
  have HCX := Lib.hid hcX
  have HIX := Lib.hid hiX
  clear hX hcX hiX
  obtain ⟨AY, cY, hY, hcY, hiY⟩ := Y.out
  have qY0 := hY.cells.1
  have qY1 := hY.cells.2
  have HHY := Lib.hid hY
  have HCY := Lib.hid hcY
  have HIY := Lib.hid hiY
  clear hY hcY hiY
  go_wp2_with fail
  generalize (wc7.alloc (.cells #[.string n, .slice ABX ws.length cBX] 24 (0, 0))) = wa8 at *
  clear VBX hltBX
  have hcall := tshape_any n m xs ys _ _ _ ⟨AX, cX, rfl, HCX.out, HIX.out⟩ ⟨AY, cY, rfl, HCY.out, HIY.out⟩ (by have := HLX.out; omega) (by have := HLY.out; omega)
  rw [HS.out] at hcall
  refine hcall.mono ?_
  clear hcall
  clear qX0 qX1 qY0 qY1
  rintro e wc9 ⟨rfl, hb1⟩
  replace X := Lib.hid (X.out.stay hb1)
  replace Y := Lib.hid (Y.out.stay hb1)
  replace Z3 := Lib.hid (Z3.out.stay hb1)
  replace BX := Lib.hid (BX.out.stay hb1)
  replace B := Lib.hid (B.out.trans (hb1.mono B.out.size))
  clear hb1
  obtain ⟨ABX, cBX, hBX, hcBX, hiBX⟩ := BX.out
  have qBX0 := hBX.cells.1
  have qBX1 := hBX.cells.2
  have HHBX := Lib.hid hBX
  have HCBX := Lib.hid hcBX
  have HIBX := Lib.hid hiBX
  clear hBX hcBX hiBX
  go_wp2_with fail
  have hcall := tright_any n ws _ _ ⟨ABX, cBX, rfl, HCBX.out, HIBX.out⟩ HN.out
  rw [HOW.out] at hcall
  refine hcall.mono ?_
  clear hcall
  clear qBX0 qBX1
  rintro e wc10 ⟨rfl, hb1⟩
  replace X := Lib.hid (X.out.stay hb1)
  replace Y := Lib.hid (Y.out.stay hb1)
  replace Z3 := Lib.hid (Z3.out.stay hb1)
  replace BX := Lib.hid (BX.out.stay hb1)
  replace B := Lib.hid (B.out.trans (hb1.mono B.out.size))
  clear hb1
  obtain ⟨AX, cX, hX, hcX, hiX⟩ := X.out
  have qX0 := hX.cells.1
  have qX1 := hX.cells.2
  have HHX := Lib.hid hX
  have HCX := Lib.hid hcX
  have HIX := Lib.hid hiX
  clear hX hcX hiX
  obtain ⟨ABX, cBX, hBX, hcBX, hiBX⟩ := BX.out
  have qBX0 := hBX.cells.1
  have qBX1 := hBX.cells.2
  have HHBX := Lib.hid hBX
  have HCBX := Lib.hid hcBX
  have HIBX := Lib.hid hiBX
  clear hBX hcBX hiBX
  go_wp2_with fail
  have hcall := tfits_any n n xs ws _ _ _ ⟨AX, cX, rfl, HCX.out, HIX.out⟩ ⟨ABX, cBX, rfl, HCBX.out, HIBX.out⟩ (by have := HLX.out; omega) (by have := HLW.out; omega)
  rw [show (decide (n = n) && fiL xs ws) = true by rw [HFL.out]; simp] at hcall
  refine hcall.mono ?_
  clear hcall
  clear qX0 qX1 qBX0 qBX1
  rintro e wc11 ⟨rfl, hb1⟩
  replace X := Lib.hid (X.out.stay hb1)
  replace Y := Lib.hid (Y.out.stay hb1)
  replace Z3 := Lib.hid (Z3.out.stay hb1)
  replace BX := Lib.hid (BX.out.stay hb1)
  replace B := Lib.hid (B.out.trans (hb1.mono B.out.size))
  clear hb1
  obtain ⟨AY, cY, hY, hcY, hiY⟩ := Y.out
  have qY0 := hY.cells.1
  have qY1 := hY.cells.2
  have HHY := Lib.hid hY
  have HCY := Lib.hid hcY
  have HIY := Lib.hid hiY
  clear hY hcY hiY
  obtain ⟨ABX, cBX, hBX, hcBX, hiBX⟩ := BX.out
  have qBX0 := hBX.cells.1
  have qBX1 := hBX.cells.2
  have HHBX := Lib.hid hBX
  have HCBX := Lib.hid hcBX
  have HIBX := Lib.hid hiBX
  clear hBX hcBX hiBX
  go_wp2_with fail
  have hcall := tfits_any m n ys ws _ _ _ ⟨AY, cY, rfl, HCY.out, HIY.out⟩ ⟨ABX, cBX, rfl, HCBX.out, HIBX.out⟩ (by have := HLY.out; omega) (by have := HLW.out; omega)
  rw [HFR.out] at hcall
  refine hcall.mono ?_
  clear hcall
  clear qY0 qY1 qBX0 qBX1
  rintro e wc12 ⟨rfl, hb1⟩
  replace X := Lib.hid (X.out.stay hb1)
  replace Y := Lib.hid (Y.out.stay hb1)
  replace Z3 := Lib.hid (Z3.out.stay hb1)
  replace BX := Lib.hid (BX.out.stay hb1)
  replace B := Lib.hid (B.out.trans (hb1.mono B.out.size))
  clear hb1
  obtain ⟨AX, cX, hX, hcX, hiX⟩ := X.out
  have qX0 := hX.cells.1
  have qX1 := hX.cells.2
  have HHX := Lib.hid hX
  have HCX := Lib.hid hcX
  have HIX := Lib.hid hiX
  clear hX hcX hiX
  obtain ⟨AZ3, cZ3, hZ3, hcZ3, hiZ3⟩ := Z3.out
  have qZ30 := hZ3.cells.1
  have qZ31 := hZ3.cells.2
  have HHZ3 := Lib.hid hZ3
  have HCZ3 := Lib.hid hcZ3
  have HIZ3 := Lib.hid hiZ3
  clear hZ3 hcZ3 hiZ3
  go_wp2_with fail
  have hcall := tfits_any n k xs zs _ _ _ ⟨AX, cX, rfl, HCX.out, HIX.out⟩ ⟨AZ3, cZ3, rfl, HCZ3.out, HIZ3.out⟩ (by have := HLX.out; omega) (by have := HLZ.out; omega)
  rw [H3.out] at hcall
  refine hcall.mono ?_
  clear hcall
  clear qX0 qX1 qZ30 qZ31
  rintro e wc13 ⟨rfl, hb1⟩
  replace X := Lib.hid (X.out.stay hb1)
  replace Y := Lib.hid (Y.out.stay hb1)
  replace Z3 := Lib.hid (Z3.out.stay hb1)
  replace BX := Lib.hid (BX.out.stay hb1)
  replace B := Lib.hid (B.out.trans (hb1.mono B.out.size))
  clear hb1
  obtain ⟨AY, cY, hY, hcY, hiY⟩ := Y.out
  have qY0 := hY.cells.1
  have qY1 := hY.cells.2
  have HHY := Lib.hid hY
  have HCY := Lib.hid hcY
  have HIY := Lib.hid hiY
  clear hY hcY hiY
  obtain ⟨AZ3, cZ3, hZ3, hcZ3, hiZ3⟩ := Z3.out
  have qZ30 := hZ3.cells.1
  have qZ31 := hZ3.cells.2
  have HHZ3 := Lib.hid hZ3
  have HCZ3 := Lib.hid hcZ3
  have HIZ3 := Lib.hid hiZ3
  clear hZ3 hcZ3 hiZ3
  go_wp2_with fail
  have hcall := tfits_any m k ys zs _ _ _ ⟨AY, cY, rfl, HCY.out, HIY.out⟩ ⟨AZ3, cZ3, rfl, HCZ3.out, HIZ3.out⟩ (by have := HLY.out; omega) (by have := HLZ.out; omega)
  rw [H2.out] at hcall
  refine hcall.mono ?_
  clear hcall
  clear qY0 qY1 qZ30 qZ31
  rintro e wc14 ⟨rfl, hb1⟩
  replace X := Lib.hid (X.out.stay hb1)
  replace Y := Lib.hid (Y.out.stay hb1)
  replace Z3 := Lib.hid (Z3.out.stay hb1)
  replace BX := Lib.hid (BX.out.stay hb1)
  replace B := Lib.hid (B.out.trans (hb1.mono B.out.size))
  clear hb1
  go_wp2_with fail
  refine (knows_any _ (HLK.out.below B.out)).mono ?_
  rintro e wk9 ⟨rfl, hb1⟩
  have HBK := Lib.hid (B.out.trans (hb1.mono B.out.size))
  clear hb1
  go_wp2_with fail
  exact bodyPost_ret (v := .bool true) (by simp [results, Tryz.results5, go_sem]) rfl ⟨rfl, HBK.out⟩
set_option maxRecDepth 100000 in
set_option maxHeartbeats 2000000 in
theorem order_11111 (n m k : ByteArray) (xs ys zs : Ws) (v u t : Value) (w : World) (hx : RefV w w.heap.size v n xs) (hy : RefV w w.heap.size u m ys) (hz : RefV w w.heap.size t k zs) (hL : LK w) (hn : n.size ≤ maxLen) (hm : m.size ≤ maxLen) (hk : k.size ≤ maxLen) (hoa : okB n xs = true) (hob : okB m ys = true) (hoc : okB k zs = true) (h1 : (decide (n = m) && fiL xs ys) = true) (h2 : (decide (m = k) && fiL ys zs) = true) (hs : decide (n = m ∧ strL xs = strL ys) = true) (h3 : (decide (n = k) && fiL xs zs) = true)  : Calls Tryz.prog 5 #[v, u, t] w (BoolPost true w) := by
  have HOA := Lib.hid hoa
  have HOB := Lib.hid hob
  have HOC := Lib.hid hoc
  have H1 := Lib.hid h1
  have H2 := Lib.hid h2
  have HS := Lib.hid hs
  have H3 := Lib.hid h3
  clear hoa hob hoc h1 h2 hs h3
  have HLX : Hid (xs.length ≤ 24) := Lib.hid (ok_len HOA.out).2.1
  have HLY : Hid (ys.length ≤ 24) := Lib.hid (ok_len HOB.out).2.1
  have HLZ : Hid (zs.length ≤ 24) := Lib.hid (ok_len HOC.out).2.1
  have HLK := Lib.hid hL
  have HN := Lib.hid hn
  have HM := Lib.hid hm
  have HK := Lib.hid hk
  obtain ⟨A, c, rfl, hc, hi⟩ := hx
  obtain ⟨B0, d, rfl, hd, hj⟩ := hy
  obtain ⟨C0, e0, rfl, he, hg⟩ := hz
  obtain ⟨x1, x2, x4, x3⟩ := BxR.third w (.string n) (.slice A xs.length c) (.string m) (.slice B0 ys.length d) (.string k) (.slice C0 zs.length e0)
  have X : Hid (RefB (((w.alloc (.cells #[.string n, .slice A xs.length c] 24 (0, 0))).alloc (.cells #[.string m, .slice B0 ys.length d] 24 (0, 0))).alloc (.cells #[.string k, .slice C0 zs.length e0] 24 (0, 0))) w.heap.size n xs) := Lib.hid ⟨A, c, x1, hc, hi.stay x3⟩
  have Y : Hid (RefB (((w.alloc (.cells #[.string n, .slice A xs.length c] 24 (0, 0))).alloc (.cells #[.string m, .slice B0 ys.length d] 24 (0, 0))).alloc (.cells #[.string k, .slice C0 zs.length e0] 24 (0, 0))) (w.heap.size + 1) m ys) := Lib.hid ⟨B0, d, x2, hd, hj.stay x3⟩
  have Z3 : Hid (RefB (((w.alloc (.cells #[.string n, .slice A xs.length c] 24 (0, 0))).alloc (.cells #[.string m, .slice B0 ys.length d] 24 (0, 0))).alloc (.cells #[.string k, .slice C0 zs.length e0] 24 (0, 0))) (w.heap.size + 1 + 1) k zs) := Lib.hid ⟨C0, e0, x4, he, hg.stay x3⟩
  have B := Lib.hid x3
  have V0 : Hid (RefV (((w.alloc (.cells #[.string n, .slice A xs.length c] 24 (0, 0))).alloc (.cells #[.string m, .slice B0 ys.length d] 24 (0, 0))).alloc (.cells #[.string k, .slice C0 zs.length e0] 24 (0, 0))) (((w.alloc (.cells #[.string n, .slice A xs.length c] 24 (0, 0))).alloc (.cells #[.string m, .slice B0 ys.length d] 24 (0, 0))).alloc (.cells #[.string k, .slice C0 zs.length e0] 24 (0, 0))).heap.size (.agg #[.string n, .slice A xs.length c]) n xs) := Lib.hid ⟨A, c, rfl, hc, hi.stay x3⟩
  clear hc hd he hi hj hg x1 x2 x3 x4 hL hn hm hk
  go_enter Tryz.func5, Tryz.ntmps5
  go_wp2_with fail
  generalize (((w.alloc (.cells #[.string n, .slice A xs.length c] 24 (0, 0))).alloc (.cells #[.string m, .slice B0 ys.length d] 24 (0, 0))).alloc (.cells #[.string k, .slice C0 zs.length e0] 24 (0, 0))) = W0 at *
  have hcall := rright_any n xs _ _ V0.out HN.out
  rw [HOA.out] at hcall
  refine hcall.mono ?_
  clear hcall
  rintro e wc1 ⟨rfl, hb1⟩
  clear V0
  replace X := Lib.hid (X.out.stay hb1)
  replace Y := Lib.hid (Y.out.stay hb1)
  replace Z3 := Lib.hid (Z3.out.stay hb1)
  replace B := Lib.hid (B.out.trans (hb1.mono B.out.size))
  clear hb1
  obtain ⟨AY, cY, hY, hcY, hiY⟩ := Y.out
  have qY0 := hY.cells.1
  have qY1 := hY.cells.2
  have HHY := Lib.hid hY
  have HCY := Lib.hid hcY
  have HIY := Lib.hid hiY
  clear hY hcY hiY
  go_wp2_with fail
  have hcall := rright_any m ys _ _ ⟨AY, cY, rfl, HCY.out, HIY.out⟩ HM.out
  rw [HOB.out] at hcall
  refine hcall.mono ?_
  clear hcall
  clear qY0 qY1
  rintro e wc2 ⟨rfl, hb1⟩
  replace X := Lib.hid (X.out.stay hb1)
  replace Y := Lib.hid (Y.out.stay hb1)
  replace Z3 := Lib.hid (Z3.out.stay hb1)
  replace B := Lib.hid (B.out.trans (hb1.mono B.out.size))
  clear hb1
  obtain ⟨AZ3, cZ3, hZ3, hcZ3, hiZ3⟩ := Z3.out
  have qZ30 := hZ3.cells.1
  have qZ31 := hZ3.cells.2
  have HHZ3 := Lib.hid hZ3
  have HCZ3 := Lib.hid hcZ3
  have HIZ3 := Lib.hid hiZ3
  clear hZ3 hcZ3 hiZ3
  go_wp2_with fail
  have hcall := rright_any k zs _ _ ⟨AZ3, cZ3, rfl, HCZ3.out, HIZ3.out⟩ HK.out
  rw [HOC.out] at hcall
  refine hcall.mono ?_
  clear hcall
  clear qZ30 qZ31
  rintro e wc3 ⟨rfl, hb1⟩
  replace X := Lib.hid (X.out.stay hb1)
  replace Y := Lib.hid (Y.out.stay hb1)
  replace Z3 := Lib.hid (Z3.out.stay hb1)
  replace B := Lib.hid (B.out.trans (hb1.mono B.out.size))
  clear hb1
  obtain ⟨AX, cX, hX, hcX, hiX⟩ := X.out
  have qX0 := hX.cells.1
  have qX1 := hX.cells.2
  have HHX := Lib.hid hX
  have HCX := Lib.hid hcX
  have HIX := Lib.hid hiX
  clear hX hcX hiX
  go_wp2_with fail
  have hcall := tfits_any n n xs xs _ _ _ ⟨AX, cX, rfl, HCX.out, HIX.out⟩ ⟨AX, cX, rfl, HCX.out, HIX.out⟩ (by have := HLX.out; omega) (by have := HLX.out; omega)
  rw [fo_refl n xs] at hcall
  refine hcall.mono ?_
  clear hcall
  clear qX0 qX1
  rintro e wc4 ⟨rfl, hb1⟩
  replace X := Lib.hid (X.out.stay hb1)
  replace Y := Lib.hid (Y.out.stay hb1)
  replace Z3 := Lib.hid (Z3.out.stay hb1)
  replace B := Lib.hid (B.out.trans (hb1.mono B.out.size))
  clear hb1
  obtain ⟨AX, cX, hX, hcX, hiX⟩ := X.out
  have qX0 := hX.cells.1
  have qX1 := hX.cells.2
  have HHX := Lib.hid hX
  have HCX := Lib.hid hcX
  have HIX := Lib.hid hiX
  clear hX hcX hiX
  obtain ⟨AY, cY, hY, hcY, hiY⟩ := Y.out
  have qY0 := hY.cells.1
  have qY1 := hY.cells.2
  have HHY := Lib.hid hY
  have HCY := Lib.hid hcY
  have HIY := Lib.hid hiY
  clear hY hcY hiY
  go_wp2_with fail
  have hcall := tfits_any n m xs ys _ _ _ ⟨AX, cX, rfl, HCX.out, HIX.out⟩ ⟨AY, cY, rfl, HCY.out, HIY.out⟩ (by have := HLX.out; omega) (by have := HLY.out; omega)
  rw [H1.out] at hcall
  refine hcall.mono ?_
  clear hcall
  clear qX0 qX1 qY0 qY1
  rintro e wc5 ⟨rfl, hb1⟩
  replace X := Lib.hid (X.out.stay hb1)
  replace Y := Lib.hid (Y.out.stay hb1)
  replace Z3 := Lib.hid (Z3.out.stay hb1)
  replace B := Lib.hid (B.out.trans (hb1.mono B.out.size))
  clear hb1
  obtain ⟨AY, cY, hY, hcY, hiY⟩ := Y.out
  have qY0 := hY.cells.1
  have qY1 := hY.cells.2
  have HHY := Lib.hid hY
  have HCY := Lib.hid hcY
  have HIY := Lib.hid hiY
  clear hY hcY hiY
  obtain ⟨AZ3, cZ3, hZ3, hcZ3, hiZ3⟩ := Z3.out
  have qZ30 := hZ3.cells.1
  have qZ31 := hZ3.cells.2
  have HHZ3 := Lib.hid hZ3
  have HCZ3 := Lib.hid hcZ3
  have HIZ3 := Lib.hid hiZ3
  clear hZ3 hcZ3 hiZ3
  go_wp2_with fail
  have hcall := tfits_any m k ys zs _ _ _ ⟨AY, cY, rfl, HCY.out, HIY.out⟩ ⟨AZ3, cZ3, rfl, HCZ3.out, HIZ3.out⟩ (by have := HLY.out; omega) (by have := HLZ.out; omega)
  rw [H2.out] at hcall
  refine hcall.mono ?_
  clear hcall
  clear qY0 qY1 qZ30 qZ31
  rintro e wc6 ⟨rfl, hb1⟩
  replace X := Lib.hid (X.out.stay hb1)
  replace Y := Lib.hid (Y.out.stay hb1)
  replace Z3 := Lib.hid (Z3.out.stay hb1)
  replace B := Lib.hid (B.out.trans (hb1.mono B.out.size))
  clear hb1
  obtain ⟨AX, cX, hX, hcX, hiX⟩ := X.out
  have qX0 := hX.cells.1
  have qX1 := hX.cells.2
  have HHX := Lib.hid hX
  have HCX := Lib.hid hcX
  have HIX := Lib.hid hiX
  clear hX hcX hiX
  obtain ⟨AZ3, cZ3, hZ3, hcZ3, hiZ3⟩ := Z3.out
  have qZ30 := hZ3.cells.1
  have qZ31 := hZ3.cells.2
  have HHZ3 := Lib.hid hZ3
  have HCZ3 := Lib.hid hcZ3
  have HIZ3 := Lib.hid hiZ3
  clear hZ3 hcZ3 hiZ3
  go_wp2_with fail
  have hcall := tfits_any n k xs zs _ _ _ ⟨AX, cX, rfl, HCX.out, HIX.out⟩ ⟨AZ3, cZ3, rfl, HCZ3.out, HIZ3.out⟩ (by have := HLX.out; omega) (by have := HLZ.out; omega)
  rw [fo_trans H1.out H2.out] at hcall
  refine hcall.mono ?_
  clear hcall
  clear qX0 qX1 qZ30 qZ31
  rintro e wc7 ⟨rfl, hb1⟩
  replace X := Lib.hid (X.out.stay hb1)
  replace Y := Lib.hid (Y.out.stay hb1)
  replace Z3 := Lib.hid (Z3.out.stay hb1)
  replace B := Lib.hid (B.out.trans (hb1.mono B.out.size))
  clear hb1
  obtain ⟨AX, cX, hX, hcX, hiX⟩ := X.out
  have qX0 := hX.cells.1
  have qX1 := hX.cells.2
  have HHX := Lib.hid hX
  have HCX := Lib.hid hcX
  have HIX := Lib.hid hiX
  clear hX hcX hiX
  obtain ⟨AY, cY, hY, hcY, hiY⟩ := Y.out
  have qY0 := hY.cells.1
  have qY1 := hY.cells.2
  have HHY := Lib.hid hY
  have HCY := Lib.hid hcY
  have HIY := Lib.hid hiY
  clear hY hcY hiY
  go_wp2_with fail
  have hcall : Calls Tryz.prog 30 #[.agg #[.string n, .slice AX xs.length cX], .agg #[.string m, .slice AY ys.length cY]] wc7 (OptPost n (some (weL xs ys)) wc7) := by
    have h := tweaken_any n m xs ys _ _ wc7 ⟨AX, cX, rfl, HCX.out, HIX.out⟩ ⟨AY, cY, rfl, HCY.out, HIY.out⟩ (by have := HLX.out; omega) (by have := HLY.out; omega)
    rw [if_pos HS.out] at h; exact h
  have HOW := Lib.hid (ok_we HOA.out HS.out)
  have HFL := Lib.hid (fi_we (ok_len HOA.out).2.2 (of_decide_eq_true HS.out).2).1
  have HFR := Lib.hid (fo_right HOA.out HS.out)
  have HLW : Hid ((weL xs ys).length ≤ 24) := Lib.hid (ok_len HOW.out).2.1
  have HFM := Lib.hid (fo_least HOA.out HS.out H3.out H2.out)
  generalize weL xs ys = ws at *
  refine hcall.mono ?_
  clear hcall
  clear qX0 qX1 qY0 qY1
  rintro e wc8 hpost
  obtain ⟨⟨u, rfl, ABX, cBX, rfl, hcx, hix⟩, hb1⟩ := hpost.some
  clear hpost
  have HCBXv := Lib.hid hcx
  have HIBXv := Lib.hid hix
  clear hcx hix
  replace X := Lib.hid (X.out.stay hb1)
  replace Y := Lib.hid (Y.out.stay hb1)
  replace Z3 := Lib.hid (Z3.out.stay hb1)
  replace B := Lib.hid (B.out.trans (hb1.mono B.out.size))
  clear hb1
  have hbA := (Below.refl wc8.heap.size wc8).alloc (Nat.le_refl _) (.cells #[.string n, .slice ABX ws.length cBX] 24 (0, 0))
  have BX : Hid (RefB (wc8.alloc (.cells #[.string n, .slice ABX ws.length cBX] 24 (0, 0))) wc8.heap.size n ws) := Lib.hid ⟨_, _, BxR.new wc8 _ _, HCBXv.out, HIBXv.out.stay hbA⟩
  have VBX : Hid (RefV (wc8.alloc (.cells #[.string n, .slice ABX ws.length cBX] 24 (0, 0))) (wc8.alloc (.cells #[.string n, .slice ABX ws.length cBX] 24 (0, 0))).heap.size (.agg #[.string n, .slice ABX ws.length cBX]) n ws) := Lib.hid ⟨_, _, rfl, HCBXv.out, HIBXv.out.stay hbA⟩
  replace X := Lib.hid (X.out.stay hbA)
  replace Y := Lib.hid (Y.out.stay hbA)
  replace Z3 := Lib.hid (Z3.out.stay hbA)
  replace B := Lib.hid (B.out.trans (hbA.mono B.out.size))
  clear hbA
  have hltBX : Hid (wc8.heap.size < (wc8.alloc (.cells #[.string n, .slice ABX ws.length cBX] 24 (0, 0))).heap.size) := Lib.hid (by simp)
  obtain ⟨AX, cX, hX, hcX, hiX⟩ := X.out
  have qX0 := hX.cells.1
  have qX1 := hX.cells.2
  have HHX := Lib.hid hX
  have HCX := Lib.hid hcX
  have HIX := Lib.hid hiX
  clear hX hcX hiX
  obtain ⟨AY, cY, hY, hcY, hiY⟩ := Y.out
  have qY0 := hY.cells.1
  have qY1 := hY.cells.2
  have HHY := Lib.hid hY
  have HCY := Lib.hid hcY
  have HIY := Lib.hid hiY
  clear hY hcY hiY
  go_wp2_with fail
  generalize (wc8.alloc (.cells #[.string n, .slice ABX ws.length cBX] 24 (0, 0))) = wa9 at *
  clear VBX hltBX
  have hcall := tshape_any n m xs ys _ _ _ ⟨AX, cX, rfl, HCX.out, HIX.out⟩ ⟨AY, cY, rfl, HCY.out, HIY.out⟩ (by have := HLX.out; omega) (by have := HLY.out; omega)
  rw [HS.out] at hcall
  refine hcall.mono ?_
  clear hcall
  clear qX0 qX1 qY0 qY1
  rintro e wc10 ⟨rfl, hb1⟩
  replace X := Lib.hid (X.out.stay hb1)
  replace Y := Lib.hid (Y.out.stay hb1)
  replace Z3 := Lib.hid (Z3.out.stay hb1)
  replace BX := Lib.hid (BX.out.stay hb1)
  replace B := Lib.hid (B.out.trans (hb1.mono B.out.size))
  clear hb1
  obtain ⟨ABX, cBX, hBX, hcBX, hiBX⟩ := BX.out
  have qBX0 := hBX.cells.1
  have qBX1 := hBX.cells.2
  have HHBX := Lib.hid hBX
  have HCBX := Lib.hid hcBX
  have HIBX := Lib.hid hiBX
  clear hBX hcBX hiBX
  go_wp2_with fail
  have hcall := tright_any n ws _ _ ⟨ABX, cBX, rfl, HCBX.out, HIBX.out⟩ HN.out
  rw [HOW.out] at hcall
  refine hcall.mono ?_
  clear hcall
  clear qBX0 qBX1
  rintro e wc11 ⟨rfl, hb1⟩
  replace X := Lib.hid (X.out.stay hb1)
  replace Y := Lib.hid (Y.out.stay hb1)
  replace Z3 := Lib.hid (Z3.out.stay hb1)
  replace BX := Lib.hid (BX.out.stay hb1)
  replace B := Lib.hid (B.out.trans (hb1.mono B.out.size))
  clear hb1
  obtain ⟨AX, cX, hX, hcX, hiX⟩ := X.out
  have qX0 := hX.cells.1
  have qX1 := hX.cells.2
  have HHX := Lib.hid hX
  have HCX := Lib.hid hcX
  have HIX := Lib.hid hiX
  clear hX hcX hiX
  obtain ⟨ABX, cBX, hBX, hcBX, hiBX⟩ := BX.out
  have qBX0 := hBX.cells.1
  have qBX1 := hBX.cells.2
  have HHBX := Lib.hid hBX
  have HCBX := Lib.hid hcBX
  have HIBX := Lib.hid hiBX
  clear hBX hcBX hiBX
  go_wp2_with fail
  have hcall := tfits_any n n xs ws _ _ _ ⟨AX, cX, rfl, HCX.out, HIX.out⟩ ⟨ABX, cBX, rfl, HCBX.out, HIBX.out⟩ (by have := HLX.out; omega) (by have := HLW.out; omega)
  rw [show (decide (n = n) && fiL xs ws) = true by rw [HFL.out]; simp] at hcall
  refine hcall.mono ?_
  clear hcall
  clear qX0 qX1 qBX0 qBX1
  rintro e wc12 ⟨rfl, hb1⟩
  replace X := Lib.hid (X.out.stay hb1)
  replace Y := Lib.hid (Y.out.stay hb1)
  replace Z3 := Lib.hid (Z3.out.stay hb1)
  replace BX := Lib.hid (BX.out.stay hb1)
  replace B := Lib.hid (B.out.trans (hb1.mono B.out.size))
  clear hb1
  obtain ⟨AY, cY, hY, hcY, hiY⟩ := Y.out
  have qY0 := hY.cells.1
  have qY1 := hY.cells.2
  have HHY := Lib.hid hY
  have HCY := Lib.hid hcY
  have HIY := Lib.hid hiY
  clear hY hcY hiY
  obtain ⟨ABX, cBX, hBX, hcBX, hiBX⟩ := BX.out
  have qBX0 := hBX.cells.1
  have qBX1 := hBX.cells.2
  have HHBX := Lib.hid hBX
  have HCBX := Lib.hid hcBX
  have HIBX := Lib.hid hiBX
  clear hBX hcBX hiBX
  go_wp2_with fail
  have hcall := tfits_any m n ys ws _ _ _ ⟨AY, cY, rfl, HCY.out, HIY.out⟩ ⟨ABX, cBX, rfl, HCBX.out, HIBX.out⟩ (by have := HLY.out; omega) (by have := HLW.out; omega)
  rw [HFR.out] at hcall
  refine hcall.mono ?_
  clear hcall
  clear qY0 qY1 qBX0 qBX1
  rintro e wc13 ⟨rfl, hb1⟩
  replace X := Lib.hid (X.out.stay hb1)
  replace Y := Lib.hid (Y.out.stay hb1)
  replace Z3 := Lib.hid (Z3.out.stay hb1)
  replace BX := Lib.hid (BX.out.stay hb1)
  replace B := Lib.hid (B.out.trans (hb1.mono B.out.size))
  clear hb1
  obtain ⟨AX, cX, hX, hcX, hiX⟩ := X.out
  have qX0 := hX.cells.1
  have qX1 := hX.cells.2
  have HHX := Lib.hid hX
  have HCX := Lib.hid hcX
  have HIX := Lib.hid hiX
  clear hX hcX hiX
  obtain ⟨AZ3, cZ3, hZ3, hcZ3, hiZ3⟩ := Z3.out
  have qZ30 := hZ3.cells.1
  have qZ31 := hZ3.cells.2
  have HHZ3 := Lib.hid hZ3
  have HCZ3 := Lib.hid hcZ3
  have HIZ3 := Lib.hid hiZ3
  clear hZ3 hcZ3 hiZ3
  go_wp2_with fail
  have hcall := tfits_any n k xs zs _ _ _ ⟨AX, cX, rfl, HCX.out, HIX.out⟩ ⟨AZ3, cZ3, rfl, HCZ3.out, HIZ3.out⟩ (by have := HLX.out; omega) (by have := HLZ.out; omega)
  rw [H3.out] at hcall
  refine hcall.mono ?_
  clear hcall
  clear qX0 qX1 qZ30 qZ31
  rintro e wc14 ⟨rfl, hb1⟩
  replace X := Lib.hid (X.out.stay hb1)
  replace Y := Lib.hid (Y.out.stay hb1)
  replace Z3 := Lib.hid (Z3.out.stay hb1)
  replace BX := Lib.hid (BX.out.stay hb1)
  replace B := Lib.hid (B.out.trans (hb1.mono B.out.size))
  clear hb1
  obtain ⟨AY, cY, hY, hcY, hiY⟩ := Y.out
  have qY0 := hY.cells.1
  have qY1 := hY.cells.2
  have HHY := Lib.hid hY
  have HCY := Lib.hid hcY
  have HIY := Lib.hid hiY
  clear hY hcY hiY
  obtain ⟨AZ3, cZ3, hZ3, hcZ3, hiZ3⟩ := Z3.out
  have qZ30 := hZ3.cells.1
  have qZ31 := hZ3.cells.2
  have HHZ3 := Lib.hid hZ3
  have HCZ3 := Lib.hid hcZ3
  have HIZ3 := Lib.hid hiZ3
  clear hZ3 hcZ3 hiZ3
  go_wp2_with fail
  have hcall := tfits_any m k ys zs _ _ _ ⟨AY, cY, rfl, HCY.out, HIY.out⟩ ⟨AZ3, cZ3, rfl, HCZ3.out, HIZ3.out⟩ (by have := HLY.out; omega) (by have := HLZ.out; omega)
  rw [H2.out] at hcall
  refine hcall.mono ?_
  clear hcall
  clear qY0 qY1 qZ30 qZ31
  rintro e wc15 ⟨rfl, hb1⟩
  replace X := Lib.hid (X.out.stay hb1)
  replace Y := Lib.hid (Y.out.stay hb1)
  replace Z3 := Lib.hid (Z3.out.stay hb1)
  replace BX := Lib.hid (BX.out.stay hb1)
  replace B := Lib.hid (B.out.trans (hb1.mono B.out.size))
  clear hb1
  obtain ⟨ABX, cBX, hBX, hcBX, hiBX⟩ := BX.out
  have qBX0 := hBX.cells.1
  have qBX1 := hBX.cells.2
  have HHBX := Lib.hid hBX
  have HCBX := Lib.hid hcBX
  have HIBX := Lib.hid hiBX
  clear hBX hcBX hiBX
  obtain ⟨AZ3, cZ3, hZ3, hcZ3, hiZ3⟩ := Z3.out
  have qZ30 := hZ3.cells.1
  have qZ31 := hZ3.cells.2
  have HHZ3 := Lib.hid hZ3
  have HCZ3 := Lib.hid hcZ3
  have HIZ3 := Lib.hid hiZ3
  clear hZ3 hcZ3 hiZ3
  go_wp2_with fail
  have hcall := tfits_any n k ws zs _ _ _ ⟨ABX, cBX, rfl, HCBX.out, HIBX.out⟩ ⟨AZ3, cZ3, rfl, HCZ3.out, HIZ3.out⟩ (by have := HLW.out; omega) (by have := HLZ.out; omega)
  rw [HFM.out] at hcall
  refine hcall.mono ?_
  clear hcall
  clear qBX0 qBX1 qZ30 qZ31
  rintro e wc16 ⟨rfl, hb1⟩
  replace X := Lib.hid (X.out.stay hb1)
  replace Y := Lib.hid (Y.out.stay hb1)
  replace Z3 := Lib.hid (Z3.out.stay hb1)
  replace BX := Lib.hid (BX.out.stay hb1)
  replace B := Lib.hid (B.out.trans (hb1.mono B.out.size))
  clear hb1
  go_wp2_with fail
  refine (knows_any _ (HLK.out.below B.out)).mono ?_
  rintro e wk9 ⟨rfl, hb1⟩
  have HBK := Lib.hid (B.out.trans (hb1.mono B.out.size))
  clear hb1
  go_wp2_with fail
  exact bodyPost_ret (v := .bool true) (by simp [results, Tryz.results5, go_sem]) rfl ⟨rfl, HBK.out⟩
theorem lawOrder_any (n m k : ByteArray) (xs ys zs : Ws) (v u t : Value) (w : World) (hx : RefV w w.heap.size v n xs) (hy : RefV w w.heap.size u m ys) (hz : RefV w w.heap.size t k zs) (hL : LK w) (hn : n.size ≤ maxLen) (hm : m.size ≤ maxLen) (hk : k.size ≤ maxLen) : Calls Tryz.prog 5 #[v, u, t] w (BoolPost true w) := by
  cases hoa : okB n xs with
  | false => exact order_w1 n m k xs ys zs v u t w hx hy hz hL hn hm hk hoa
  | true =>
  cases hob : okB m ys with
  | false => exact order_w2 n m k xs ys zs v u t w hx hy hz hL hn hm hk hoa hob
  | true =>
  cases hoc : okB k zs with
  | false => exact order_w3 n m k xs ys zs v u t w hx hy hz hL hn hm hk hoa hob hoc
  | true =>
  cases hs : decide (n = m ∧ strL xs = strL ys) with
  | false => exact order_00000 n m k xs ys zs v u t w hx hy hz hL hn hm hk hoa hob hoc (fi_no hs) hs
  | true =>
  cases h1 : (decide (n = m) && fiL xs ys) with
  | false =>
    cases h3 : (decide (n = k) && fiL xs zs) with
    | false => exact order_00100 n m k xs ys zs v u t w hx hy hz hL hn hm hk hoa hob hoc h1 hs h3
    | true =>
      cases h4 : (decide (m = k) && fiL ys zs) with
      | false => exact order_00110 n m k xs ys zs v u t w hx hy hz hL hn hm hk hoa hob hoc h1 hs h3 h4
      | true => exact order_00111 n m k xs ys zs v u t w hx hy hz hL hn hm hk hoa hob hoc h1 hs h3 h4
  | true =>
    cases h2 : (decide (m = k) && fiL ys zs) with
    | false =>
      cases h3 : (decide (n = k) && fiL xs zs) with
      | false => exact order_10100 n m k xs ys zs v u t w hx hy hz hL hn hm hk hoa hob hoc h1 h2 hs h3
      | true => exact order_10110 n m k xs ys zs v u t w hx hy hz hL hn hm hk hoa hob hoc h1 h2 hs h3
    | true => exact order_11111 n m k xs ys zs v u t w hx hy hz hL hn hm hk hoa hob hoc h1 h2 hs (fo_trans h1 h2)
end Go.Proofs.YtgicbmibhnnflaaGreatDoor
