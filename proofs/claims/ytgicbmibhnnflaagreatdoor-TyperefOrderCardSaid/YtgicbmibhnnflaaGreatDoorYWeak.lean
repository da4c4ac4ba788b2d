
/-
  Weaken and Fits of the program.
-/
import Derived.Test.YtgicbmibhnnflaaGreatDoorYLev
namespace Go.Proofs.YtgicbmibhnnflaaGreatDoor
open Go.RowKit
theorem an_state : ∀ (k : Nat) (a b : List Bool) (x y : Bool), a[k]? = some x → b[k]? = some y →
    (anL (a.take k) (b.take k) ++ a.drop k)[k]? = some x ∧ (anL (a.take k) (b.take k) ++ a.drop k).set k (x && y) = anL (a.take (k + 1)) (b.take (k + 1)) ++ a.drop (k + 1)
  | _, [], _, _, _, h, _ => by simp at h
  | _, _ :: _, [], _, _, _, h => by simp at h
  | 0, p :: a, q :: b, x, y, h1, h2 => by
    simp at h1 h2; subst h1 h2
    exact ⟨rfl, rfl⟩
  | k + 1, p :: a, q :: b, x, y, h1, h2 => by
    obtain ⟨i1, i2⟩ := an_state k a b x y (by simpa using h1) (by simpa using h2)
    refine ⟨?_, ?_⟩
    · show ((p && q) :: (anL (a.take k) (b.take k) ++ a.drop k))[k + 1]? = _
      simpa using i1
    · show ((p && q) :: (anL (a.take k) (b.take k) ++ a.drop k)).set (k + 1) (x && y) = (p && q) :: (anL (a.take (k + 1)) (b.take (k + 1)) ++ a.drop (k + 1))
      rw [List.set_cons_succ, i2]
theorem an_all (a b : List Bool) (h : a.length = b.length) : anL (a.take b.length) (b.take b.length) ++ a.drop b.length = anL a b := by
  rw [← h, List.take_length, h, List.take_length, ← h, List.drop_length, List.append_nil]
theorem le_drop {a b : List Bool} {k : Nat} {x y : Bool} (h1 : a[k]? = some x) (h2 : b[k]? = some y) : leB (a.drop k) (b.drop k) = ((x || !y) && leB (a.drop (k + 1)) (b.drop (k + 1))) := by
  obtain ⟨p1, p2⟩ := List.getElem?_eq_some_iff.1 h1
  obtain ⟨q1, q2⟩ := List.getElem?_eq_some_iff.1 h2
  rw [List.drop_eq_getElem_cons p1, List.drop_eq_getElem_cons q1, p2, q2]; rfl
theorem OwnL.cellset {w : World} {base : Nat} {v : Value} {xs : List Bool} (h : OwnL w base v xs) {p : Addr} (hp : p.block < base) (u : Value) : OwnL (w.setCell p u) base v xs :=
  row_kept h fun _ hg _ _ => Below.heap_setCell w _ _ _ (by omega)
theorem BxR.three (w : World) (c0 c1 d0 d1 : Value) : let W := ((w.alloc (.cells #[c0, c1] 24 (0, 0))).alloc (.cells #[d0, d1] 24 (0, 0))).alloc (.cells #[.string ⟨#[]⟩, .slice none 0 0] 24 (0, 0))
    BxR W w.heap.size c0 c1 ∧ BxR W (w.heap.size + 1) d0 d1 ∧ BxR W (w.heap.size + 1 + 1) (.string ⟨#[]⟩) (.slice none 0 0) ∧ Below w.heap.size w W := by
  obtain ⟨h1, h2, h3, h4⟩ := BxR.both w c0 c1 d0 d1
  refine ⟨h1.alloc _, h2.alloc _, ?_, h3.alloc (by omega) _⟩
  have := BxR.new ((w.alloc (.cells #[c0, c1] 24 (0, 0))).alloc (.cells #[d0, d1] 24 (0, 0))) (.string ⟨#[]⟩) (.slice none 0 0)
  rw [h4] at this
  exact this
set_option maxRecDepth 100000 in
set_option maxHeartbeats 2000000 in
theorem tweaken_f (n m : ByteArray) (xs ys : Ws) (v u : Value) (w : World) (hx : RefV w w.heap.size v n xs) (hy : RefV w w.heap.size u m ys) (hl : xs.length ≤ 100000) (hl2 : ys.length ≤ 100000) (hsh : decide (n = m ∧ strL xs = strL ys) = false) : Calls Tryz.prog 30 #[v, u] w (OptPost n none w) := by
  have HSH := Lib.hid hsh
  clear hsh
  obtain ⟨A, c, rfl, hc, hi⟩ := hx
  obtain ⟨B0, d, rfl, hd, hj⟩ := hy
  obtain ⟨x1, x2, x5, x3⟩ := BxR.three w (.string n) (.slice A xs.length c) (.string m) (.slice B0 ys.length d)
  have Z := Lib.hid x5
  have X := Lib.hid x1
  have Y := Lib.hid x2
  have B := Lib.hid x3
  have I := Lib.hid (hi.stay x3)
  have J := Lib.hid (hj.stay x3)
  have HC := Lib.hid hc
  have HD := Lib.hid hd
  have HX := Lib.hid hl
  have HY := Lib.hid hl2
  clear hc hd hi hj x1 x2 x3 x5 hl hl2
  go_enter Tryz.func30, Tryz.ntmps30
  go_wp2_with fail
  generalize (((w.alloc (.cells #[.string n, .slice A xs.length c] 24 (0, 0))).alloc (.cells #[.string m, .slice B0 ys.length d] 24 (0, 0))).alloc (.cells #[.string ⟨#[]⟩, .slice none 0 0] 24 (0, 0))) = W0 at *
  have q0 := X.out.cells.1
  have q1 := X.out.cells.2
  have r0 := Y.out.cells.1
  have r1 := Y.out.cells.2
  have z0 := Z.out.cells.1
  have z1 := Z.out.cells.2
  have f0 := Z.out.frz 0
  have f1 := Z.out.frz 1
  have hcall := tshape_any n m xs ys _ _ _ ⟨A, c, rfl, HC.out, I.out⟩ ⟨B0, d, rfl, HD.out, J.out⟩ (by have := HX.out; omega) (by have := HY.out; omega)
  rw [HSH.out] at hcall
  refine hcall.mono ?_
  clear hcall
  rintro e w1 ⟨rfl, hb1⟩
  replace X := Lib.hid (X.out.stay hb1)
  replace Y := Lib.hid (Y.out.stay hb1)
  replace I := Lib.hid (I.out.stay hb1)
  replace J := Lib.hid (J.out.stay hb1)
  replace Z := Lib.hid (Z.out.stay hb1)
  replace B := Lib.hid (B.out.trans (hb1.mono B.out.size))
  replace q0 := X.out.cells.1
  replace q1 := X.out.cells.2
  replace r0 := Y.out.cells.1
  replace r1 := Y.out.cells.2
  replace z0 := Z.out.cells.1
  replace z1 := Z.out.cells.2
  replace f0 := Z.out.frz 0
  replace f1 := Z.out.frz 1
  clear hb1
  go_wp2_with fail
  obtain ⟨z1, z2, z3⟩ := zero_end Z.out (by omega) B.out
  exact bodyPost_ret (by simp [results, Tryz.results30, go_sem, z2, z3]) rfl (opt_none rfl z1)
set_option maxRecDepth 100000 in
set_option maxHeartbeats 2000000 in
theorem tweaken_t (n m : ByteArray) (xs ys : Ws) (v u : Value) (w : World) (hx : RefV w w.heap.size v n xs) (hy : RefV w w.heap.size u m ys) (hl : xs.length ≤ 100000) (hl2 : ys.length ≤ 100000) (hsh : decide (n = m ∧ strL xs = strL ys) = true) : Calls Tryz.prog 30 #[v, u] w (OptPost n (some (weL xs ys)) w) := by
  have HSH := Lib.hid hsh
  have hlen : (lv ys).length = (lv xs).length := by rw [lv_len, lv_len, (of_decide_eq_true hsh).2]
  clear hsh
  obtain ⟨A, c, rfl, hc, hi⟩ := hx
  obtain ⟨B0, d, rfl, hd, hj⟩ := hy
  obtain ⟨x1, x2, x5, x3⟩ := BxR.three w (.string n) (.slice A xs.length c) (.string m) (.slice B0 ys.length d)
  have Z := Lib.hid x5
  have X := Lib.hid x1
  have Y := Lib.hid x2
  have B := Lib.hid x3
  have I := Lib.hid (hi.stay x3)
  have J := Lib.hid (hj.stay x3)
  have HC := Lib.hid hc
  have HD := Lib.hid hd
  have HX := Lib.hid hl
  have HY := Lib.hid hl2
  clear hc hd hi hj x1 x2 x3 x5 hl hl2
  go_enter Tryz.func30, Tryz.ntmps30
  go_wp2_with fail
  generalize (((w.alloc (.cells #[.string n, .slice A xs.length c] 24 (0, 0))).alloc (.cells #[.string m, .slice B0 ys.length d] 24 (0, 0))).alloc (.cells #[.string ⟨#[]⟩, .slice none 0 0] 24 (0, 0))) = W0 at *
  have q0 := X.out.cells.1
  have q1 := X.out.cells.2
  have r0 := Y.out.cells.1
  have r1 := Y.out.cells.2
  have z0 := Z.out.cells.1
  have z1 := Z.out.cells.2
  have f0 := Z.out.frz 0
  have f1 := Z.out.frz 1
  have hcall := tshape_any n m xs ys _ _ _ ⟨A, c, rfl, HC.out, I.out⟩ ⟨B0, d, rfl, HD.out, J.out⟩ (by have := HX.out; omega) (by have := HY.out; omega)
  rw [HSH.out] at hcall
  refine hcall.mono ?_
  clear hcall
  rintro e w1 ⟨rfl, hb1⟩
  replace X := Lib.hid (X.out.stay hb1)
  replace Y := Lib.hid (Y.out.stay hb1)
  replace I := Lib.hid (I.out.stay hb1)
  replace J := Lib.hid (J.out.stay hb1)
  replace Z := Lib.hid (Z.out.stay hb1)
  replace B := Lib.hid (B.out.trans (hb1.mono B.out.size))
  replace q0 := X.out.cells.1
  replace q1 := X.out.cells.2
  replace r0 := Y.out.cells.1
  replace r1 := Y.out.cells.2
  replace z0 := Z.out.cells.1
  replace z1 := Z.out.cells.2
  replace f0 := Z.out.frz 0
  replace f1 := Z.out.frz 1
  clear hb1
  have HZLT : Hid (w.heap.size + 1 + 1 < w1.heap.size) := Lib.hid Z.out.lt
  go_wp2_with fail
  have hla := lv_le xs
  have hcall := levels_any n xs _ _ ⟨A, c, rfl, HC.out, I.out⟩ (by have := HX.out; omega)
  have hcb : ∀ w9, Below w1.heap.size w1 w9 → Calls Tryz.prog 49 #[.agg #[.string m, .slice B0 ys.length d]] w9 fun e w' => (∃ u, e = .returned u ∧ OwnL w' w9.heap.size u (lv ys)) ∧ Below w9.heap.size w9 w' := fun w9 h9 => levels_any m ys _ _ ⟨B0, d, rfl, HD.out, J.out.stay h9⟩ (by have := HY.out; omega)
  have hna := lv_ne xs
  have hnb := lv_ne ys
  have hwe : weL xs ys = wlL (anL (lv xs) (lv ys)) := rfl
  have HLA : Hid ((lv xs).length ≤ 100001) := Lib.hid (by have := HX.out; omega)
  generalize lv xs = LA at hlen hcall hna hwe HLA
  generalize lv ys = LB at hlen hcb hnb hwe
  have HWE := Lib.hid hwe
  have HLEN := Lib.hid hlen
  have HCB := Lib.hid hcb
  have HNA := Lib.hid hna
  have HNB := Lib.hid hnb
  clear hla hlen hcb hna hnb hwe
  refine hcall.mono ?_
  clear hcall
  rintro e w2 ⟨⟨u, rfl, ho⟩, hb1⟩
  obtain ⟨ad, c1, rfl, hc1, had, _⟩ := ho.cell HNA.out
  have OA := Lib.hid ho
  have HAD := Lib.hid had
  have HB12 := Lib.hid hb1
  clear ho hc1 had
  replace X := Lib.hid (X.out.stay hb1)
  replace Y := Lib.hid (Y.out.stay hb1)
  replace I := Lib.hid (I.out.stay hb1)
  replace J := Lib.hid (J.out.stay hb1)
  replace Z := Lib.hid (Z.out.stay hb1)
  replace B := Lib.hid (B.out.trans (hb1.mono B.out.size))
  replace q0 := X.out.cells.1
  replace q1 := X.out.cells.2
  replace r0 := Y.out.cells.1
  replace r1 := Y.out.cells.2
  replace z0 := Z.out.cells.1
  replace z1 := Z.out.cells.2
  replace f0 := Z.out.frz 0
  replace f1 := Z.out.frz 1
  clear hb1
  go_wp2_with fail
  refine (HCB.out _ HB12.out).mono ?_
  rintro e w3 ⟨⟨u, rfl, ho⟩, hb1⟩
  obtain ⟨bd, d1, rfl, hc1, hbd, _⟩ := ho.cell HNB.out
  have OB := Lib.hid ho
  have HW23 := Lib.hid hb1.size
  replace OA := Lib.hid (OA.out.stay hb1)
  have HZ1 : Hid (w.heap.size + 1 + 1 < w1.heap.size) := Lib.hid HZLT.out
  clear ho hc1 hbd
  replace X := Lib.hid (X.out.stay hb1)
  replace Y := Lib.hid (Y.out.stay hb1)
  replace I := Lib.hid (I.out.stay hb1)
  replace J := Lib.hid (J.out.stay hb1)
  replace Z := Lib.hid (Z.out.stay hb1)
  replace B := Lib.hid (B.out.trans (hb1.mono B.out.size))
  replace q0 := X.out.cells.1
  replace q1 := X.out.cells.2
  replace r0 := Y.out.cells.1
  replace r1 := Y.out.cells.2
  replace z0 := Z.out.cells.1
  replace z1 := Z.out.cells.2
  replace f0 := Z.out.frz 0
  replace f1 := Z.out.frz 1
  clear hb1
  go_wp2_with fail
  go_loopw [7, 8, 19] (fun _ _ i wr => ∃ k : Nat, i = .int .i64 k ∧ k ≤ LB.length ∧ OwnL wr w1.heap.size (.slice (some ad) LA.length c1) (anL (LA.take k) (LB.take k) ++ LA.drop k) ∧ OwnL wr w2.heap.size (.slice (some bd) LB.length d1) LB ∧ Below w1.heap.size w3 wr) (fun _ _ i _ => LB.length - (intOf i).toNat)
  case atStart => exact ⟨0, rfl, Nat.zero_le _, OA.out, OB.out, Below.refl _ _⟩
  case round =>
    obtain ⟨k, rfl, hk, hoa, hob, hb⟩ := hrel
    have HOA := Lib.hid hoa
    have HOB := Lib.hid hob
    have HB := Lib.hid hb
    have hlm : ((LB.length : Int) ≤ 100001) := by have := HLA.out; have := HLEN.out; omega
    clear q0 q1 r0 r1 z0 z1 f0 f1
    by_cases hlt : k < LB.length
    · obtain ⟨x, hx⟩ : ∃ x, LA[k]? = some x := ⟨LA[k]'(by rw [← HLEN.out]; exact hlt), List.getElem?_eq_getElem _⟩
      obtain ⟨y, hy⟩ : ∃ y, LB[k]? = some y := ⟨LB[k], List.getElem?_eq_getElem _⟩
      obtain ⟨s1, s2⟩ := an_state k LA LB x y hx hy
      obtain ⟨ad', c', e, _, g1, g2, g3, g4, g5⟩ := hoa.at s1
      injection e with e1 e2 e3
      cases e1
      clear e2 e3
      obtain ⟨bd', d', e, _, _, t3⟩ := hob.cell HNB.out
      injection e with e1 e2 e3
      cases e1
      clear e2 e3
      have t4 := t3 k y hy
      have G5 : Hid (∀ u, u = (x && y) → OwnL (wr.setCell (ad.add k) (.bool u)) w1.heap.size (.slice (some ad) LA.length c1) (anL (LA.take (k + 1)) (LB.take (k + 1)) ++ LA.drop (k + 1))) := Lib.hid (by rintro u rfl; rw [← s2]; exact g5 _)
      have GB : Hid ((ad.add k).block < w2.heap.size) := Lib.hid (by rw [add_block]; exact HAD.out)
      have GC : Hid (w1.heap.size ≤ (ad.add k).block) := Lib.hid (by rw [add_block]; exact g1)
      have hlt1 : (k : Int) < LB.length := by omega
      have hlt2 : (k : Int) < LA.length := by rw [← HLEN.out]; exact hlt1
      clear s1 s2 g1 g2 g5 t3 hx hy hoa hob hb
      cases x with
      | false =>
        go_wp2_with fail
        go_roundw
        case rel => exact ⟨k + 1, by go_num, by omega, G5.out _ (by rfl), HOB.out.cellset GB.out _, HB.out.setCell GC.out _⟩
        case measure => simp [intOf]; omega
      | true =>
        go_wp2_with fail
        go_roundw
        case rel => exact ⟨k + 1, by go_num, by omega, G5.out _ (by simp), HOB.out.cellset GB.out _, HB.out.setCell GC.out _⟩
        case measure => simp [intOf]; omega
    · have hlt' : ¬ (k : Int) < LB.length := by omega
      obtain rfl : k = LB.length := by omega
      rw [an_all LA LB HLEN.out.symm] at hoa
      have hbw : wr.heap.size ≥ w3.heap.size := hb.size
      have hz1 := HZ1.out
      have X2 : Hid (BxR wr w.heap.size (.string n) (.slice A xs.length c)) := Lib.hid (X.out.kept (hb.block _ (by omega)))
      have Z2 : Hid (BxR wr (w.heap.size + 1 + 1) (.string ⟨#[]⟩) (.slice none 0 0)) := Lib.hid (Z.out.kept (hb.block _ (by omega)))
      have B2 : Hid (Below w.heap.size w wr) := Lib.hid (B.out.trans (hb.mono (by omega)))
      have q0 := X2.out.cells.1
      have HOA2 := Lib.hid hoa
      have HAL : Hid ((anL LA LB).length ≤ 400000) := Lib.hid (by rw [anL_len _ _ HLEN.out.symm]; have := HLA.out; omega)
      clear hoa hob hb hbw hz1 HOA
      go_wp2_with fail
      refine (withLevels_any n (anL LA LB) _ _ _ HOA2.out HAL.out).mono ?_
      rintro e w5 ⟨⟨u, rfl, A5, c5, rfl, hc5, hi5⟩, hb1⟩
      replace Z2 := Lib.hid (Z2.out.stay hb1)
      replace B2 := Lib.hid (B2.out.trans (hb1.mono B2.out.size))
      have z0 := Z2.out.cells.1
      have z1 := Z2.out.cells.2
      have f0 := Z2.out.frz 0
      have f1 := Z2.out.frz 1
      have HC5 := Lib.hid hc5
      have HI5 := Lib.hid hi5
      clear q0 hb1 hc5 hi5
      generalize wlL (anL LA LB) = zs at *
      go_wp2_with fail
      obtain ⟨y1, y2, y3⟩ := ref_end (n := n) Z2.out (by omega) B2.out HC5.out HI5.out
      obtain ⟨⟨u, e, hu⟩, hbl⟩ := y1
      cases e
      exact bodyPost_ret (by simp [results, Tryz.results30, go_sem, y2, y3]) rfl (opt_some (by rw [HWE.out]) hu hbl)
theorem tweaken_any (n m : ByteArray) (xs ys : Ws) (v u : Value) (w : World) (hx : RefV w w.heap.size v n xs) (hy : RefV w w.heap.size u m ys) (hl : xs.length ≤ 100000) (hl2 : ys.length ≤ 100000) : Calls Tryz.prog 30 #[v, u] w (OptPost n (if decide (n = m ∧ strL xs = strL ys) = true then some (weL xs ys) else none) w) := by
  cases hsh : decide (n = m ∧ strL xs = strL ys) with
  | true => exact tweaken_t n m xs ys v u w hx hy hl hl2 hsh
  | false => exact tweaken_f n m xs ys v u w hx hy hl hl2 hsh
theorem fi_no {n m : ByteArray} {xs ys : Ws} (h : decide (n = m ∧ strL xs = strL ys) = false) : (decide (n = m) && fiL xs ys) = false := by
  unfold fiL
  by_cases h1 : n = m
  · have : ¬ strL xs = strL ys := fun e => by simp [h1, e] at h
    simp [this]
  · simp [h1]
theorem fi_yes {n m : ByteArray} {xs ys : Ws} (h : decide (n = m ∧ strL xs = strL ys) = true) : (decide (n = m) && fiL xs ys) = leB (lv xs) (lv ys) := by
  obtain ⟨h1, h2⟩ := of_decide_eq_true h
  unfold fiL; simp [h1, h2]
set_option maxRecDepth 100000 in
set_option maxHeartbeats 2000000 in
theorem tfits_f (n m : ByteArray) (xs ys : Ws) (v u : Value) (w : World) (hx : RefV w w.heap.size v n xs) (hy : RefV w w.heap.size u m ys) (hl : xs.length ≤ 100000) (hl2 : ys.length ≤ 100000) (hsh : decide (n = m ∧ strL xs = strL ys) = false) : Calls Tryz.prog 32 #[v, u] w (BoolPost (decide (n = m) && fiL xs ys) w) := by
  have HSH := Lib.hid hsh
  have HFI := Lib.hid (fi_no hsh)
  clear hsh
  obtain ⟨A, c, rfl, hc, hi⟩ := hx
  obtain ⟨B0, d, rfl, hd, hj⟩ := hy
  obtain ⟨x1, x2, x3, x5⟩ := BxR.both w (.string n) (.slice A xs.length c) (.string m) (.slice B0 ys.length d)
  have X := Lib.hid x1
  have Y := Lib.hid x2
  have B := Lib.hid x3
  have I := Lib.hid (hi.stay x3)
  have J := Lib.hid (hj.stay x3)
  have HC := Lib.hid hc
  have HD := Lib.hid hd
  have HX := Lib.hid hl
  have HY := Lib.hid hl2
  clear hc hd hi hj x1 x2 x3 x5 hl hl2
  go_enter Tryz.func32, Tryz.ntmps32
  go_wp2_with fail
  generalize ((w.alloc (.cells #[.string n, .slice A xs.length c] 24 (0, 0))).alloc (.cells #[.string m, .slice B0 ys.length d] 24 (0, 0))) = W0 at *
  have q0 := X.out.cells.1
  have q1 := X.out.cells.2
  have r0 := Y.out.cells.1
  have r1 := Y.out.cells.2
  have hcall := tshape_any n m xs ys _ _ _ ⟨A, c, rfl, HC.out, I.out⟩ ⟨B0, d, rfl, HD.out, J.out⟩ (by have := HX.out; omega) (by have := HY.out; omega)
  rw [HSH.out] at hcall
  refine hcall.mono ?_
  clear hcall
  rintro e w1 ⟨rfl, hb1⟩
  replace X := Lib.hid (X.out.stay hb1)
  replace Y := Lib.hid (Y.out.stay hb1)
  replace I := Lib.hid (I.out.stay hb1)
  replace J := Lib.hid (J.out.stay hb1)
  replace B := Lib.hid (B.out.trans (hb1.mono B.out.size))
  replace q0 := X.out.cells.1
  replace q1 := X.out.cells.2
  replace r0 := Y.out.cells.1
  replace r1 := Y.out.cells.2
  clear hb1
  go_wp2_with fail
  exact bodyPost_ret (v := .bool false) (by simp [results, Tryz.results32, go_sem]) rfl ⟨by rw [HFI.out], B.out⟩
set_option maxRecDepth 100000 in
set_option maxHeartbeats 2000000 in
theorem tfits_t (n m : ByteArray) (xs ys : Ws) (v u : Value) (w : World) (hx : RefV w w.heap.size v n xs) (hy : RefV w w.heap.size u m ys) (hl : xs.length ≤ 100000) (hl2 : ys.length ≤ 100000) (hsh : decide (n = m ∧ strL xs = strL ys) = true) : Calls Tryz.prog 32 #[v, u] w (BoolPost (decide (n = m) && fiL xs ys) w) := by
  have HSH := Lib.hid hsh
  have hfi := fi_yes hsh
  have hlen : (lv ys).length = (lv xs).length := by rw [lv_len, lv_len, (of_decide_eq_true hsh).2]
  clear hsh
  obtain ⟨A, c, rfl, hc, hi⟩ := hx
  obtain ⟨B0, d, rfl, hd, hj⟩ := hy
  obtain ⟨x1, x2, x3, x5⟩ := BxR.both w (.string n) (.slice A xs.length c) (.string m) (.slice B0 ys.length d)
  have X := Lib.hid x1
  have Y := Lib.hid x2
  have B := Lib.hid x3
  have I := Lib.hid (hi.stay x3)
  have J := Lib.hid (hj.stay x3)
  have HC := Lib.hid hc
  have HD := Lib.hid hd
  have HX := Lib.hid hl
  have HY := Lib.hid hl2
  clear hc hd hi hj x1 x2 x3 x5 hl hl2
  go_enter Tryz.func32, Tryz.ntmps32
  go_wp2_with fail
  generalize ((w.alloc (.cells #[.string n, .slice A xs.length c] 24 (0, 0))).alloc (.cells #[.string m, .slice B0 ys.length d] 24 (0, 0))) = W0 at *
  have q0 := X.out.cells.1
  have q1 := X.out.cells.2
  have r0 := Y.out.cells.1
  have r1 := Y.out.cells.2
  have hcall := tshape_any n m xs ys _ _ _ ⟨A, c, rfl, HC.out, I.out⟩ ⟨B0, d, rfl, HD.out, J.out⟩ (by have := HX.out; omega) (by have := HY.out; omega)
  rw [HSH.out] at hcall
  refine hcall.mono ?_
  clear hcall
  rintro e w1 ⟨rfl, hb1⟩
  replace X := Lib.hid (X.out.stay hb1)
  replace Y := Lib.hid (Y.out.stay hb1)
  replace I := Lib.hid (I.out.stay hb1)
  replace J := Lib.hid (J.out.stay hb1)
  replace B := Lib.hid (B.out.trans (hb1.mono B.out.size))
  replace q0 := X.out.cells.1
  replace q1 := X.out.cells.2
  replace r0 := Y.out.cells.1
  replace r1 := Y.out.cells.2
  clear hb1
  go_wp2_with fail
  have hla := lv_le xs
  have hcall := levels_any n xs _ _ ⟨A, c, rfl, HC.out, I.out⟩ (by have := HX.out; omega)
  have hcb : ∀ w9, Below w1.heap.size w1 w9 → Calls Tryz.prog 49 #[.agg #[.string m, .slice B0 ys.length d]] w9 fun e w' => (∃ u, e = .returned u ∧ OwnL w' w9.heap.size u (lv ys)) ∧ Below w9.heap.size w9 w' := fun w9 h9 => levels_any m ys _ _ ⟨B0, d, rfl, HD.out, J.out.stay h9⟩ (by have := HY.out; omega)
  have hna := lv_ne xs
  have hnb := lv_ne ys
  have HLA : Hid ((lv xs).length ≤ 100001) := Lib.hid (by have := HX.out; omega)
  generalize lv xs = LA at hlen hcall hna hfi HLA
  generalize lv ys = LB at hlen hcb hnb hfi
  have HFI := Lib.hid hfi
  have HLEN := Lib.hid hlen
  have HCB := Lib.hid hcb
  have HNA := Lib.hid hna
  have HNB := Lib.hid hnb
  clear hla hlen hcb hna hnb hfi
  refine hcall.mono ?_
  clear hcall
  rintro e w2 ⟨⟨u, rfl, ho⟩, hb1⟩
  obtain ⟨ad, c1, rfl, hc1, had, _⟩ := ho.cell HNA.out
  have OA := Lib.hid ho
  have HB12 := Lib.hid hb1
  clear ho hc1 had
  replace X := Lib.hid (X.out.stay hb1)
  replace Y := Lib.hid (Y.out.stay hb1)
  replace I := Lib.hid (I.out.stay hb1)
  replace J := Lib.hid (J.out.stay hb1)
  replace B := Lib.hid (B.out.trans (hb1.mono B.out.size))
  replace q0 := X.out.cells.1
  replace q1 := X.out.cells.2
  replace r0 := Y.out.cells.1
  replace r1 := Y.out.cells.2
  clear hb1
  go_wp2_with fail
  refine (HCB.out _ HB12.out).mono ?_
  rintro e w3 ⟨⟨u, rfl, ho⟩, hb1⟩
  obtain ⟨bd, d1, rfl, hc1, hbd, _⟩ := ho.cell HNB.out
  have OB := Lib.hid ho
  replace OA := Lib.hid (OA.out.stay hb1)
  clear ho hc1 hbd
  replace X := Lib.hid (X.out.stay hb1)
  replace Y := Lib.hid (Y.out.stay hb1)
  replace I := Lib.hid (I.out.stay hb1)
  replace J := Lib.hid (J.out.stay hb1)
  replace B := Lib.hid (B.out.trans (hb1.mono B.out.size))
  replace q0 := X.out.cells.1
  replace q1 := X.out.cells.2
  replace r0 := Y.out.cells.1
  replace r1 := Y.out.cells.2
  clear hb1
  go_wp2_with fail
  go_loopw [6, 7, 17] (fun _ _ i wr => ∃ k : Nat, i = .int .i64 k ∧ k ≤ LB.length ∧ leB LA LB = leB (LA.drop k) (LB.drop k) ∧ Below w3.heap.size w3 wr) (fun _ _ i _ => LB.length - (intOf i).toNat)
  case atStart => exact ⟨0, rfl, Nat.zero_le _, rfl, Below.refl _ _⟩
  case round =>
    obtain ⟨k, rfl, hk, hle, hb⟩ := hrel
    have HLE := Lib.hid hle
    have HB := Lib.hid hb
    have hlm : ((LB.length : Int) ≤ 100001) := by have := HLA.out; have := HLEN.out; omega
    clear q0 q1 r0 r1 hle
    by_cases hlt : k < LB.length
    · obtain ⟨x, hx⟩ : ∃ x, LA[k]? = some x := ⟨LA[k]'(by rw [← HLEN.out]; exact hlt), List.getElem?_eq_getElem _⟩
      obtain ⟨y, hy⟩ : ∃ y, LB[k]? = some y := ⟨LB[k], List.getElem?_eq_getElem _⟩
      obtain ⟨ad', c', e, _, _, t1⟩ := (OA.out.stay hb).cell HNA.out
      injection e with e1 e2 e3
      cases e1
      clear e2 e3
      obtain ⟨bd', d', e, _, _, t3⟩ := (OB.out.stay hb).cell HNB.out
      injection e with e1 e2 e3
      cases e1
      clear e2 e3
      have t4 := t3 k y hy
      have t2 := t1 k x hx
      have HLD := Lib.hid (le_drop hx hy)
      have hlt1 : (k : Int) < LB.length := by omega
      have hlt2 : (k : Int) < LA.length := by rw [← HLEN.out]; exact hlt1
      clear t1 t3 hx hy hb
      cases y with
      | false =>
        cases x with
        | false =>
          go_wp2_with fail
          go_roundw
          case rel => exact ⟨k + 1, by go_num, by omega, by rw [HLE.out, HLD.out]; rfl, HB.out⟩
          case measure => simp [intOf]; omega
        | true =>
          go_wp2_with fail
          go_roundw
          case rel => exact ⟨k + 1, by go_num, by omega, by rw [HLE.out, HLD.out]; rfl, HB.out⟩
          case measure => simp [intOf]; omega
      | true =>
        cases x with
        | false =>
          go_wp2_with fail
          go_ret
          exact ⟨by rw [HFI.out, HLE.out, HLD.out]; rfl, B.out.trans (HB.out.mono B.out.size)⟩
        | true =>
          go_wp2_with fail
          go_roundw
          case rel => exact ⟨k + 1, by go_num, by omega, by rw [HLE.out, HLD.out]; rfl, HB.out⟩
          case measure => simp [intOf]; omega
    · have hlt' : ¬ (k : Int) < LB.length := by omega
      have HT : Hid (leB LA LB = true) := Lib.hid (by rw [HLE.out, List.drop_eq_nil_of_le (by have := HLEN.out; omega), List.drop_eq_nil_of_le (by have := HLEN.out; omega)]; rfl)
      clear hb
      go_wp2_with fail
      go_ret
      exact ⟨by rw [HFI.out, HT.out]; rfl, B.out.trans (HB.out.mono B.out.size)⟩
theorem tfits_any (n m : ByteArray) (xs ys : Ws) (v u : Value) (w : World) (hx : RefV w w.heap.size v n xs) (hy : RefV w w.heap.size u m ys) (hl : xs.length ≤ 100000) (hl2 : ys.length ≤ 100000) : Calls Tryz.prog 32 #[v, u] w (BoolPost (decide (n = m) && fiL xs ys) w) := by
  cases hsh : decide (n = m ∧ strL xs = strL ys) with
  | true => exact tfits_t n m xs ys v u w hx hy hl hl2 hsh
  | false => exact tfits_f n m xs ys v u w hx hy hl hl2 hsh
end Go.Proofs.YtgicbmibhnnflaaGreatDoor
