
/-
  Weaken and Fits of the reference.
-/
import Derived.Test.YtgicbmibhnnflaaGreatDoorYWeak
namespace Go.Proofs.YtgicbmibhnnflaaGreatDoor
open Go.RowKit
theorem RefB.lt {w : World} {b : Nat} {n : ByteArray} {xs : Ws} (h : RefB w b n xs) : b < w.heap.size := by
  obtain ⟨A, c, h1, _⟩ := h; exact h1.lt
theorem rweak_len {n : ByteArray} {xs : Ws} {o : Option Ws} {w w' : World} {e : Ending} (h : OptPost n o w e w') (ho : o = some xs) : (∃ u, e = .returned (.tuple #[u, .bool true]) ∧ RefV w' w'.heap.size u n xs) ∧ Below w.heap.size w w' := by subst ho; exact h.some
theorem rweak_no {n : ByteArray} {o : Option Ws} {w w' : World} {e : Ending} (h : OptPost n o w e w') (ho : o = none) : e = .returned (.tuple #[.agg #[.string ⟨#[]⟩, .slice none 0 0], .bool false]) ∧ Below w.heap.size w w' := by subst ho; exact h.none
def wkO (n m : ByteArray) (xs ys : Ws) : Option Ws := if decide (n = m ∧ strL xs = strL ys) = true then some (weL xs ys) else none
set_option maxRecDepth 100000 in
set_option maxHeartbeats 2000000 in
theorem rweaken_f (n m : ByteArray) (xs ys : Ws) (v u : Value) (w : World) (hx : RefV w w.heap.size v n xs) (hy : RefV w w.heap.size u m ys) (hl : xs.length ≤ 100) (hl2 : ys.length ≤ 100) (hsh : decide (n = m ∧ strL xs = strL ys) = false) : Calls Tryz.prog 31 #[v, u] w (OptPost n none w) := by
  have HSH := Lib.hid hsh
  clear hsh
  obtain ⟨A, c, rfl, hc, hi⟩ := hx
  obtain ⟨B0, d, rfl, hd, hj⟩ := hy
  obtain ⟨x1, x2, x5, x3⟩ := BxR.three w (.string n) (.slice A xs.length c) (.string m) (.slice B0 ys.length d)
  have Z := Lib.hid x5
  have X : Hid (RefB (((w.alloc (.cells #[.string n, .slice A xs.length c] 24 (0, 0))).alloc (.cells #[.string m, .slice B0 ys.length d] 24 (0, 0))).alloc (.cells #[.string ⟨#[]⟩, .slice none 0 0] 24 (0, 0))) w.heap.size n xs) := Lib.hid ⟨A, c, x1, hc, hi.stay x3⟩
  have Y : Hid (RefB (((w.alloc (.cells #[.string n, .slice A xs.length c] 24 (0, 0))).alloc (.cells #[.string m, .slice B0 ys.length d] 24 (0, 0))).alloc (.cells #[.string ⟨#[]⟩, .slice none 0 0] 24 (0, 0))) (w.heap.size + 1) m ys) := Lib.hid ⟨B0, d, x2, hd, hj.stay x3⟩
  have B := Lib.hid x3
  have I := Lib.hid (hi.stay x3)
  have J := Lib.hid (hj.stay x3)
  have HC0 := Lib.hid hc
  have HD0 := Lib.hid hd
  have HX := Lib.hid hl
  have HY := Lib.hid hl2
  clear hc hd hi hj x1 x2 x3 x5 hl hl2
  go_enter Tryz.func31, Tryz.ntmps31
  go_wp2_with fail
  generalize (((w.alloc (.cells #[.string n, .slice A xs.length c] 24 (0, 0))).alloc (.cells #[.string m, .slice B0 ys.length d] 24 (0, 0))).alloc (.cells #[.string ⟨#[]⟩, .slice none 0 0] 24 (0, 0))) = W0 at *
  have hcall := rshape_any n m xs ys _ _ _ ⟨A, c, rfl, HC0.out, I.out⟩ ⟨B0, d, rfl, HD0.out, J.out⟩ (by have := HX.out; omega) (by have := HY.out; omega)
  rw [HSH.out] at hcall
  refine hcall.mono ?_
  clear hcall
  rintro e wc1 ⟨rfl, hb1⟩
  clear I J HC0 HD0
  replace X := Lib.hid (X.out.stay hb1)
  replace Y := Lib.hid (Y.out.stay hb1)
  replace Z := Lib.hid (Z.out.stay hb1)
  replace B := Lib.hid (B.out.trans (hb1.mono B.out.size))
  clear hb1
  have z0 := Z.out.cells.1
  have z1 := Z.out.cells.2
  have zf0 := Z.out.frz 0
  have zf1 := Z.out.frz 1
  go_wp2_with fail
  obtain ⟨y1, y2, y3⟩ := zero_end Z.out (by omega) B.out
  exact bodyPost_ret (by simp [results, Tryz.results31, go_sem, y2, y3]) rfl (opt_none rfl y1)
set_option maxRecDepth 100000 in
set_option maxHeartbeats 2000000 in
theorem rweaken_nff (n m : ByteArray) (xs ys : Ws) (v u : Value) (w : World) (hx : RefV w w.heap.size v n xs) (hy : RefV w w.heap.size u m ys) (hl : xs.length ≤ 100) (hl2 : ys.length ≤ 100) (hsh : decide (n = m ∧ strL xs = strL ys) = true) (hna : nnB xs = false) (hia : inO xs = none) (hib : inO ys = none) (hwe : weL xs ys = []) : Calls Tryz.prog 31 #[v, u] w (OptPost n (some (weL xs ys)) w) := by
  have HSH := Lib.hid hsh
  have HNA := Lib.hid hna
  have HIA := Lib.hid hia
  have HIB := Lib.hid hib
  have HWE := Lib.hid hwe
  have HZS : Hid (([] : Ws).length ≤ 1001) := Lib.hid (by decide)
  clear hsh hna hia hib hwe
  obtain ⟨A, c, rfl, hc, hi⟩ := hx
  obtain ⟨B0, d, rfl, hd, hj⟩ := hy
  obtain ⟨x1, x2, x5, x3⟩ := BxR.three w (.string n) (.slice A xs.length c) (.string m) (.slice B0 ys.length d)
  have Z := Lib.hid x5
  have X : Hid (RefB (((w.alloc (.cells #[.string n, .slice A xs.length c] 24 (0, 0))).alloc (.cells #[.string m, .slice B0 ys.length d] 24 (0, 0))).alloc (.cells #[.string ⟨#[]⟩, .slice none 0 0] 24 (0, 0))) w.heap.size n xs) := Lib.hid ⟨A, c, x1, hc, hi.stay x3⟩
  have Y : Hid (RefB (((w.alloc (.cells #[.string n, .slice A xs.length c] 24 (0, 0))).alloc (.cells #[.string m, .slice B0 ys.length d] 24 (0, 0))).alloc (.cells #[.string ⟨#[]⟩, .slice none 0 0] 24 (0, 0))) (w.heap.size + 1) m ys) := Lib.hid ⟨B0, d, x2, hd, hj.stay x3⟩
  have B := Lib.hid x3
  have I := Lib.hid (hi.stay x3)
  have J := Lib.hid (hj.stay x3)
  have HC0 := Lib.hid hc
  have HD0 := Lib.hid hd
  have HX := Lib.hid hl
  have HY := Lib.hid hl2
  clear hc hd hi hj x1 x2 x3 x5 hl hl2
  go_enter Tryz.func31, Tryz.ntmps31
  go_wp2_with fail
  generalize (((w.alloc (.cells #[.string n, .slice A xs.length c] 24 (0, 0))).alloc (.cells #[.string m, .slice B0 ys.length d] 24 (0, 0))).alloc (.cells #[.string ⟨#[]⟩, .slice none 0 0] 24 (0, 0))) = W0 at *
  have hcall := rshape_any n m xs ys _ _ _ ⟨A, c, rfl, HC0.out, I.out⟩ ⟨B0, d, rfl, HD0.out, J.out⟩ (by have := HX.out; omega) (by have := HY.out; omega)
  rw [HSH.out] at hcall
  refine hcall.mono ?_
  clear hcall
  rintro e wc1 ⟨rfl, hb1⟩
  clear I J HC0 HD0
  replace X := Lib.hid (X.out.stay hb1)
  replace Y := Lib.hid (Y.out.stay hb1)
  replace Z := Lib.hid (Z.out.stay hb1)
  replace B := Lib.hid (B.out.trans (hb1.mono B.out.size))
  clear hb1
  have HZL := Lib.hid Z.out.lt
  obtain ⟨AX, cX, hX, hcX, hiX⟩ := X.out
  have qX0 := hX.cells.1
  have qX1 := hX.cells.2
  have HHX := Lib.hid hX
  have HCX := Lib.hid hcX
  have HIX := Lib.hid hiX
  clear hX hcX hiX
  go_wp2_with fail
  have hcall := rnamed_any n wc1
  refine hcall.mono ?_
  clear hcall
  clear qX0 qX1
  rintro e wc2 ⟨⟨u, rfl, AN, cN, rfl, hcN, hiN⟩, hb1⟩
  have HCN := Lib.hid hcN
  have HIN := Lib.hid hiN
  clear hcN hiN
  replace X := Lib.hid (X.out.stay hb1)
  replace Y := Lib.hid (Y.out.stay hb1)
  replace Z := Lib.hid (Z.out.stay hb1)
  replace B := Lib.hid (B.out.trans (hb1.mono B.out.size))
  clear hb1
  have HZO := Lib.hid Z.out.lt
  have hbA := (Below.refl wc2.heap.size wc2).alloc (Nat.le_refl _) (.cells #[.string n, .slice AN 0 cN] 24 (0, 0))
  have O : Hid (RefB (wc2.alloc (.cells #[.string n, .slice AN 0 cN] 24 (0, 0))) wc2.heap.size n []) := Lib.hid ⟨_, _, BxR.new wc2 _ _, HCN.out, HIN.out.stay hbA⟩
  have VO : Hid (RefV (wc2.alloc (.cells #[.string n, .slice AN 0 cN] 24 (0, 0))) (wc2.alloc (.cells #[.string n, .slice AN 0 cN] 24 (0, 0))).heap.size (.agg #[.string n, .slice AN 0 cN]) n []) := Lib.hid ⟨_, _, rfl, HCN.out, HIN.out.stay hbA⟩
  replace X := Lib.hid (X.out.stay hbA)
  replace Y := Lib.hid (Y.out.stay hbA)
  replace Z := Lib.hid (Z.out.stay hbA)
  replace B := Lib.hid (B.out.trans (hbA.mono B.out.size))
  clear hbA
  have hltO : Hid (wc2.heap.size < (wc2.alloc (.cells #[.string n, .slice AN 0 cN] 24 (0, 0))).heap.size) := Lib.hid (by simp)
  obtain ⟨AX, cX, hX, hcX, hiX⟩ := X.out
  have qX0 := hX.cells.1
  have qX1 := hX.cells.2
  have HHX := Lib.hid hX
  have HCX := Lib.hid hcX
  have HIX := Lib.hid hiX
  clear hX hcX hiX
  go_wp2_with fail
  generalize (wc2.alloc (.cells #[.string n, .slice AN 0 cN] 24 (0, 0))) = wa3 at *
  have hcall := (rinner_any n xs _ _ ⟨AX, cX, rfl, HCX.out, HIX.out⟩ (by have := HX.out; omega)).mono fun _ _ h => rweak_no h HIA.out
  refine hcall.mono ?_
  clear hcall
  clear qX0 qX1
  rintro e wc4 ⟨rfl, hb1⟩
  replace X := Lib.hid (X.out.stay hb1)
  replace Y := Lib.hid (Y.out.stay hb1)
  replace O := Lib.hid (O.out.stay hb1)
  replace Z := Lib.hid (Z.out.stay hb1)
  replace B := Lib.hid (B.out.trans (hb1.mono B.out.size))
  clear hb1
  have HOP := Lib.hid O.out.lt
  have HNC : Hid (([] : Ws).length ≤ 0) := Lib.hid (Nat.le_refl _)
  have HNI := Lib.hid (IntsAt.nil wc4 wc4.heap.size none)
  have hbA := (Below.refl wc4.heap.size wc4).alloc (Nat.le_refl _) (.cells #[.string ⟨#[]⟩, .slice none 0 0] 24 (0, 0))
  have P : Hid (RefB (wc4.alloc (.cells #[.string ⟨#[]⟩, .slice none 0 0] 24 (0, 0))) wc4.heap.size ⟨#[]⟩ []) := Lib.hid ⟨_, _, BxR.new wc4 _ _, HNC.out, HNI.out.stay hbA⟩
  have VP : Hid (RefV (wc4.alloc (.cells #[.string ⟨#[]⟩, .slice none 0 0] 24 (0, 0))) (wc4.alloc (.cells #[.string ⟨#[]⟩, .slice none 0 0] 24 (0, 0))).heap.size (.agg #[.string ⟨#[]⟩, .slice none 0 0]) ⟨#[]⟩ []) := Lib.hid ⟨_, _, rfl, HNC.out, HNI.out.stay hbA⟩
  replace X := Lib.hid (X.out.stay hbA)
  replace Y := Lib.hid (Y.out.stay hbA)
  replace O := Lib.hid (O.out.stay hbA)
  replace Z := Lib.hid (Z.out.stay hbA)
  replace B := Lib.hid (B.out.trans (hbA.mono B.out.size))
  clear hbA
  have hltP : Hid (wc4.heap.size < (wc4.alloc (.cells #[.string ⟨#[]⟩, .slice none 0 0] 24 (0, 0))).heap.size) := Lib.hid (by simp)
  obtain ⟨AY, cY, hY, hcY, hiY⟩ := Y.out
  have qY0 := hY.cells.1
  have qY1 := hY.cells.2
  have HHY := Lib.hid hY
  have HCY := Lib.hid hcY
  have HIY := Lib.hid hiY
  clear hY hcY hiY
  go_wp2_with fail
  generalize (wc4.alloc (.cells #[.string ⟨#[]⟩, .slice none 0 0] 24 (0, 0))) = wa5 at *
  have hcall := (rinner_any m ys _ _ ⟨AY, cY, rfl, HCY.out, HIY.out⟩ (by have := HY.out; omega)).mono fun _ _ h => rweak_no h HIB.out
  refine hcall.mono ?_
  clear hcall
  clear qY0 qY1
  rintro e wc6 ⟨rfl, hb1⟩
  replace X := Lib.hid (X.out.stay hb1)
  replace Y := Lib.hid (Y.out.stay hb1)
  replace O := Lib.hid (O.out.stay hb1)
  replace P := Lib.hid (P.out.stay hb1)
  replace Z := Lib.hid (Z.out.stay hb1)
  replace B := Lib.hid (B.out.trans (hb1.mono B.out.size))
  clear hb1
  replace HNI := Lib.hid (IntsAt.nil wc6 wc6.heap.size none)
  have hbA := (Below.refl wc6.heap.size wc6).alloc (Nat.le_refl _) (.cells #[.string ⟨#[]⟩, .slice none 0 0] 24 (0, 0))
  have Q : Hid (RefB (wc6.alloc (.cells #[.string ⟨#[]⟩, .slice none 0 0] 24 (0, 0))) wc6.heap.size ⟨#[]⟩ []) := Lib.hid ⟨_, _, BxR.new wc6 _ _, HNC.out, HNI.out.stay hbA⟩
  have VQ : Hid (RefV (wc6.alloc (.cells #[.string ⟨#[]⟩, .slice none 0 0] 24 (0, 0))) (wc6.alloc (.cells #[.string ⟨#[]⟩, .slice none 0 0] 24 (0, 0))).heap.size (.agg #[.string ⟨#[]⟩, .slice none 0 0]) ⟨#[]⟩ []) := Lib.hid ⟨_, _, rfl, HNC.out, HNI.out.stay hbA⟩
  replace X := Lib.hid (X.out.stay hbA)
  replace Y := Lib.hid (Y.out.stay hbA)
  replace O := Lib.hid (O.out.stay hbA)
  replace P := Lib.hid (P.out.stay hbA)
  replace Z := Lib.hid (Z.out.stay hbA)
  replace B := Lib.hid (B.out.trans (hbA.mono B.out.size))
  clear hbA
  have hltQ : Hid (wc6.heap.size < (wc6.alloc (.cells #[.string ⟨#[]⟩, .slice none 0 0] 24 (0, 0))).heap.size) := Lib.hid (by simp)
  obtain ⟨AX, cX, hX, hcX, hiX⟩ := X.out
  have qX0 := hX.cells.1
  have qX1 := hX.cells.2
  have HHX := Lib.hid hX
  have HCX := Lib.hid hcX
  have HIX := Lib.hid hiX
  clear hX hcX hiX
  go_wp2_with fail
  generalize (wc6.alloc (.cells #[.string ⟨#[]⟩, .slice none 0 0] 24 (0, 0))) = wa7 at *
  have hcall := risnn_any n xs _ _ ⟨AX, cX, rfl, HCX.out, HIX.out⟩
  rw [HNA.out] at hcall
  refine hcall.mono ?_
  clear hcall
  clear qX0 qX1
  rintro e wc8 ⟨rfl, hb1⟩
  replace X := Lib.hid (X.out.stay hb1)
  replace Y := Lib.hid (Y.out.stay hb1)
  replace O := Lib.hid (O.out.stay hb1)
  replace P := Lib.hid (P.out.stay hb1)
  replace Q := Lib.hid (Q.out.stay hb1)
  replace Z := Lib.hid (Z.out.stay hb1)
  replace B := Lib.hid (B.out.trans (hb1.mono B.out.size))
  clear hb1
  obtain ⟨AO, cO, hO, hcO, hiO⟩ := O.out
  have qO0 := hO.cells.1
  have qO1 := hO.cells.2
  have HHO := Lib.hid hO
  have HCO := Lib.hid hcO
  have HIO := Lib.hid hiO
  clear hO hcO hiO
  have z0 := Z.out.cells.1
  have z1 := Z.out.cells.2
  have zf0 := Z.out.frz 0
  have zf1 := Z.out.frz 1
  go_wp2_with fail
  obtain ⟨y1, y2, y3⟩ := ref_end (n := n) Z.out (by omega) B.out HCO.out HIO.out
  simp only [List.length_nil] at y2 y3
  obtain ⟨⟨u, e, hu⟩, hbl⟩ := y1
  cases e
  exact bodyPost_ret (by simp [results, Tryz.results31, go_sem, y2, y3]) rfl (opt_some (by rw [HWE.out]) hu hbl)
set_option maxRecDepth 100000 in
set_option maxHeartbeats 2000000 in
theorem rweaken_ntf (n m : ByteArray) (xs ys : Ws) (v u : Value) (w : World) (hx : RefV w w.heap.size v n xs) (hy : RefV w w.heap.size u m ys) (hl : xs.length ≤ 100) (hl2 : ys.length ≤ 100) (hsh : decide (n = m ∧ strL xs = strL ys) = true) (hna : nnB xs = true) (hnb : nnB ys = false) (hia : inO xs = none) (hib : inO ys = none) (hwe : weL xs ys = []) : Calls Tryz.prog 31 #[v, u] w (OptPost n (some (weL xs ys)) w) := by
  have HSH := Lib.hid hsh
  have HNA := Lib.hid hna
  have HNB := Lib.hid hnb
  have HIA := Lib.hid hia
  have HIB := Lib.hid hib
  have HWE := Lib.hid hwe
  have HZS : Hid (([] : Ws).length ≤ 1001) := Lib.hid (by decide)
  clear hsh hna hia hib hwe hnb
  obtain ⟨A, c, rfl, hc, hi⟩ := hx
  obtain ⟨B0, d, rfl, hd, hj⟩ := hy
  obtain ⟨x1, x2, x5, x3⟩ := BxR.three w (.string n) (.slice A xs.length c) (.string m) (.slice B0 ys.length d)
  have Z := Lib.hid x5
  have X : Hid (RefB (((w.alloc (.cells #[.string n, .slice A xs.length c] 24 (0, 0))).alloc (.cells #[.string m, .slice B0 ys.length d] 24 (0, 0))).alloc (.cells #[.string ⟨#[]⟩, .slice none 0 0] 24 (0, 0))) w.heap.size n xs) := Lib.hid ⟨A, c, x1, hc, hi.stay x3⟩
  have Y : Hid (RefB (((w.alloc (.cells #[.string n, .slice A xs.length c] 24 (0, 0))).alloc (.cells #[.string m, .slice B0 ys.length d] 24 (0, 0))).alloc (.cells #[.string ⟨#[]⟩, .slice none 0 0] 24 (0, 0))) (w.heap.size + 1) m ys) := Lib.hid ⟨B0, d, x2, hd, hj.stay x3⟩
  have B := Lib.hid x3
  have I := Lib.hid (hi.stay x3)
  have J := Lib.hid (hj.stay x3)
  have HC0 := Lib.hid hc
  have HD0 := Lib.hid hd
  have HX := Lib.hid hl
  have HY := Lib.hid hl2
  clear hc hd hi hj x1 x2 x3 x5 hl hl2
  go_enter Tryz.func31, Tryz.ntmps31
  go_wp2_with fail
  generalize (((w.alloc (.cells #[.string n, .slice A xs.length c] 24 (0, 0))).alloc (.cells #[.string m, .slice B0 ys.length d] 24 (0, 0))).alloc (.cells #[.string ⟨#[]⟩, .slice none 0 0] 24 (0, 0))) = W0 at *
  have hcall := rshape_any n m xs ys _ _ _ ⟨A, c, rfl, HC0.out, I.out⟩ ⟨B0, d, rfl, HD0.out, J.out⟩ (by have := HX.out; omega) (by have := HY.out; omega)
  rw [HSH.out] at hcall
  refine hcall.mono ?_
  clear hcall
  rintro e wc1 ⟨rfl, hb1⟩
  clear I J HC0 HD0
  replace X := Lib.hid (X.out.stay hb1)
  replace Y := Lib.hid (Y.out.stay hb1)
  replace Z := Lib.hid (Z.out.stay hb1)
  replace B := Lib.hid (B.out.trans (hb1.mono B.out.size))
  clear hb1
  have HZL := Lib.hid Z.out.lt
  obtain ⟨AX, cX, hX, hcX, hiX⟩ := X.out
  have qX0 := hX.cells.1
  have qX1 := hX.cells.2
  have HHX := Lib.hid hX
  have HCX := Lib.hid hcX
  have HIX := Lib.hid hiX
  clear hX hcX hiX
  go_wp2_with fail
  have hcall := rnamed_any n wc1
  refine hcall.mono ?_
  clear hcall
  clear qX0 qX1
  rintro e wc2 ⟨⟨u, rfl, AN, cN, rfl, hcN, hiN⟩, hb1⟩
  have HCN := Lib.hid hcN
  have HIN := Lib.hid hiN
  clear hcN hiN
  replace X := Lib.hid (X.out.stay hb1)
  replace Y := Lib.hid (Y.out.stay hb1)
  replace Z := Lib.hid (Z.out.stay hb1)
  replace B := Lib.hid (B.out.trans (hb1.mono B.out.size))
  clear hb1
  have HZO := Lib.hid Z.out.lt
  have hbA := (Below.refl wc2.heap.size wc2).alloc (Nat.le_refl _) (.cells #[.string n, .slice AN 0 cN] 24 (0, 0))
  have O : Hid (RefB (wc2.alloc (.cells #[.string n, .slice AN 0 cN] 24 (0, 0))) wc2.heap.size n []) := Lib.hid ⟨_, _, BxR.new wc2 _ _, HCN.out, HIN.out.stay hbA⟩
  have VO : Hid (RefV (wc2.alloc (.cells #[.string n, .slice AN 0 cN] 24 (0, 0))) (wc2.alloc (.cells #[.string n, .slice AN 0 cN] 24 (0, 0))).heap.size (.agg #[.string n, .slice AN 0 cN]) n []) := Lib.hid ⟨_, _, rfl, HCN.out, HIN.out.stay hbA⟩
  replace X := Lib.hid (X.out.stay hbA)
  replace Y := Lib.hid (Y.out.stay hbA)
  replace Z := Lib.hid (Z.out.stay hbA)
  replace B := Lib.hid (B.out.trans (hbA.mono B.out.size))
  clear hbA
  have hltO : Hid (wc2.heap.size < (wc2.alloc (.cells #[.string n, .slice AN 0 cN] 24 (0, 0))).heap.size) := Lib.hid (by simp)
  obtain ⟨AX, cX, hX, hcX, hiX⟩ := X.out
  have qX0 := hX.cells.1
  have qX1 := hX.cells.2
  have HHX := Lib.hid hX
  have HCX := Lib.hid hcX
  have HIX := Lib.hid hiX
  clear hX hcX hiX
  go_wp2_with fail
  generalize (wc2.alloc (.cells #[.string n, .slice AN 0 cN] 24 (0, 0))) = wa3 at *
  have hcall := (rinner_any n xs _ _ ⟨AX, cX, rfl, HCX.out, HIX.out⟩ (by have := HX.out; omega)).mono fun _ _ h => rweak_no h HIA.out
  refine hcall.mono ?_
  clear hcall
  clear qX0 qX1
  rintro e wc4 ⟨rfl, hb1⟩
  replace X := Lib.hid (X.out.stay hb1)
  replace Y := Lib.hid (Y.out.stay hb1)
  replace O := Lib.hid (O.out.stay hb1)
  replace Z := Lib.hid (Z.out.stay hb1)
  replace B := Lib.hid (B.out.trans (hb1.mono B.out.size))
  clear hb1
  have HOP := Lib.hid O.out.lt
  have HNC : Hid (([] : Ws).length ≤ 0) := Lib.hid (Nat.le_refl _)
  have HNI := Lib.hid (IntsAt.nil wc4 wc4.heap.size none)
  have hbA := (Below.refl wc4.heap.size wc4).alloc (Nat.le_refl _) (.cells #[.string ⟨#[]⟩, .slice none 0 0] 24 (0, 0))
  have P : Hid (RefB (wc4.alloc (.cells #[.string ⟨#[]⟩, .slice none 0 0] 24 (0, 0))) wc4.heap.size ⟨#[]⟩ []) := Lib.hid ⟨_, _, BxR.new wc4 _ _, HNC.out, HNI.out.stay hbA⟩
  have VP : Hid (RefV (wc4.alloc (.cells #[.string ⟨#[]⟩, .slice none 0 0] 24 (0, 0))) (wc4.alloc (.cells #[.string ⟨#[]⟩, .slice none 0 0] 24 (0, 0))).heap.size (.agg #[.string ⟨#[]⟩, .slice none 0 0]) ⟨#[]⟩ []) := Lib.hid ⟨_, _, rfl, HNC.out, HNI.out.stay hbA⟩
  replace X := Lib.hid (X.out.stay hbA)
  replace Y := Lib.hid (Y.out.stay hbA)
  replace O := Lib.hid (O.out.stay hbA)
  replace Z := Lib.hid (Z.out.stay hbA)
  replace B := Lib.hid (B.out.trans (hbA.mono B.out.size))
  clear hbA
  have hltP : Hid (wc4.heap.size < (wc4.alloc (.cells #[.string ⟨#[]⟩, .slice none 0 0] 24 (0, 0))).heap.size) := Lib.hid (by simp)
  obtain ⟨AY, cY, hY, hcY, hiY⟩ := Y.out
  have qY0 := hY.cells.1
  have qY1 := hY.cells.2
  have HHY := Lib.hid hY
  have HCY := Lib.hid hcY
  have HIY := Lib.hid hiY
  clear hY hcY hiY
  go_wp2_with fail
  generalize (wc4.alloc (.cells #[.string ⟨#[]⟩, .slice none 0 0] 24 (0, 0))) = wa5 at *
  have hcall := (rinner_any m ys _ _ ⟨AY, cY, rfl, HCY.out, HIY.out⟩ (by have := HY.out; omega)).mono fun _ _ h => rweak_no h HIB.out
  refine hcall.mono ?_
  clear hcall
  clear qY0 qY1
  rintro e wc6 ⟨rfl, hb1⟩
  replace X := Lib.hid (X.out.stay hb1)
  replace Y := Lib.hid (Y.out.stay hb1)
  replace O := Lib.hid (O.out.stay hb1)
  replace P := Lib.hid (P.out.stay hb1)
  replace Z := Lib.hid (Z.out.stay hb1)
  replace B := Lib.hid (B.out.trans (hb1.mono B.out.size))
  clear hb1
  replace HNI := Lib.hid (IntsAt.nil wc6 wc6.heap.size none)
  have hbA := (Below.refl wc6.heap.size wc6).alloc (Nat.le_refl _) (.cells #[.string ⟨#[]⟩, .slice none 0 0] 24 (0, 0))
  have Q : Hid (RefB (wc6.alloc (.cells #[.string ⟨#[]⟩, .slice none 0 0] 24 (0, 0))) wc6.heap.size ⟨#[]⟩ []) := Lib.hid ⟨_, _, BxR.new wc6 _ _, HNC.out, HNI.out.stay hbA⟩
  have VQ : Hid (RefV (wc6.alloc (.cells #[.string ⟨#[]⟩, .slice none 0 0] 24 (0, 0))) (wc6.alloc (.cells #[.string ⟨#[]⟩, .slice none 0 0] 24 (0, 0))).heap.size (.agg #[.string ⟨#[]⟩, .slice none 0 0]) ⟨#[]⟩ []) := Lib.hid ⟨_, _, rfl, HNC.out, HNI.out.stay hbA⟩
  replace X := Lib.hid (X.out.stay hbA)
  replace Y := Lib.hid (Y.out.stay hbA)
  replace O := Lib.hid (O.out.stay hbA)
  replace P := Lib.hid (P.out.stay hbA)
  replace Z := Lib.hid (Z.out.stay hbA)
  replace B := Lib.hid (B.out.trans (hbA.mono B.out.size))
  clear hbA
  have hltQ : Hid (wc6.heap.size < (wc6.alloc (.cells #[.string ⟨#[]⟩, .slice none 0 0] 24 (0, 0))).heap.size) := Lib.hid (by simp)
  obtain ⟨AX, cX, hX, hcX, hiX⟩ := X.out
  have qX0 := hX.cells.1
  have qX1 := hX.cells.2
  have HHX := Lib.hid hX
  have HCX := Lib.hid hcX
  have HIX := Lib.hid hiX
  clear hX hcX hiX
  go_wp2_with fail
  generalize (wc6.alloc (.cells #[.string ⟨#[]⟩, .slice none 0 0] 24 (0, 0))) = wa7 at *
  have hcall := risnn_any n xs _ _ ⟨AX, cX, rfl, HCX.out, HIX.out⟩
  rw [HNA.out] at hcall
  refine hcall.mono ?_
  clear hcall
  clear qX0 qX1
  rintro e wc8 ⟨rfl, hb1⟩
  replace X := Lib.hid (X.out.stay hb1)
  replace Y := Lib.hid (Y.out.stay hb1)
  replace O := Lib.hid (O.out.stay hb1)
  replace P := Lib.hid (P.out.stay hb1)
  replace Q := Lib.hid (Q.out.stay hb1)
  replace Z := Lib.hid (Z.out.stay hb1)
  replace B := Lib.hid (B.out.trans (hb1.mono B.out.size))
  clear hb1
  obtain ⟨AY, cY, hY, hcY, hiY⟩ := Y.out
  have qY0 := hY.cells.1
  have qY1 := hY.cells.2
  have HHY := Lib.hid hY
  have HCY := Lib.hid hcY
  have HIY := Lib.hid hiY
  clear hY hcY hiY
  go_wp2_with fail
  have hcall := risnn_any m ys _ _ ⟨AY, cY, rfl, HCY.out, HIY.out⟩
  rw [HNB.out] at hcall
  refine hcall.mono ?_
  clear hcall
  clear qY0 qY1
  rintro e wc9 ⟨rfl, hb1⟩
  replace X := Lib.hid (X.out.stay hb1)
  replace Y := Lib.hid (Y.out.stay hb1)
  replace O := Lib.hid (O.out.stay hb1)
  replace P := Lib.hid (P.out.stay hb1)
  replace Q := Lib.hid (Q.out.stay hb1)
  replace Z := Lib.hid (Z.out.stay hb1)
  replace B := Lib.hid (B.out.trans (hb1.mono B.out.size))
  clear hb1
  obtain ⟨AO, cO, hO, hcO, hiO⟩ := O.out
  have qO0 := hO.cells.1
  have qO1 := hO.cells.2
  have HHO := Lib.hid hO
  have HCO := Lib.hid hcO
  have HIO := Lib.hid hiO
  clear hO hcO hiO
  have z0 := Z.out.cells.1
  have z1 := Z.out.cells.2
  have zf0 := Z.out.frz 0
  have zf1 := Z.out.frz 1
  go_wp2_with fail
  obtain ⟨y1, y2, y3⟩ := ref_end (n := n) Z.out (by omega) B.out HCO.out HIO.out
  simp only [List.length_nil] at y2 y3
  obtain ⟨⟨u, e, hu⟩, hbl⟩ := y1
  cases e
  exact bodyPost_ret (by simp [results, Tryz.results31, go_sem, y2, y3]) rfl (opt_some (by rw [HWE.out]) hu hbl)
set_option maxRecDepth 100000 in
set_option maxHeartbeats 2000000 in
theorem rweaken_ntt (n m : ByteArray) (xs ys : Ws) (v u : Value) (w : World) (hx : RefV w w.heap.size v n xs) (hy : RefV w w.heap.size u m ys) (hl : xs.length ≤ 100) (hl2 : ys.length ≤ 100) (hsh : decide (n = m ∧ strL xs = strL ys) = true) (hna : nnB xs = true) (hnb : nnB ys = true) (hia : inO xs = none) (hib : inO ys = none) (hwe : weL xs ys = nnL []) : Calls Tryz.prog 31 #[v, u] w (OptPost n (some (weL xs ys)) w) := by
  have HSH := Lib.hid hsh
  have HNA := Lib.hid hna
  have HNB := Lib.hid hnb
  have HIA := Lib.hid hia
  have HIB := Lib.hid hib
  have HWE := Lib.hid hwe
  have HZS : Hid (([] : Ws).length ≤ 1001) := Lib.hid (by decide)
  clear hsh hna hia hib hwe hnb
  obtain ⟨A, c, rfl, hc, hi⟩ := hx
  obtain ⟨B0, d, rfl, hd, hj⟩ := hy
  obtain ⟨x1, x2, x5, x3⟩ := BxR.three w (.string n) (.slice A xs.length c) (.string m) (.slice B0 ys.length d)
  have Z := Lib.hid x5
  have X : Hid (RefB (((w.alloc (.cells #[.string n, .slice A xs.length c] 24 (0, 0))).alloc (.cells #[.string m, .slice B0 ys.length d] 24 (0, 0))).alloc (.cells #[.string ⟨#[]⟩, .slice none 0 0] 24 (0, 0))) w.heap.size n xs) := Lib.hid ⟨A, c, x1, hc, hi.stay x3⟩
  have Y : Hid (RefB (((w.alloc (.cells #[.string n, .slice A xs.length c] 24 (0, 0))).alloc (.cells #[.string m, .slice B0 ys.length d] 24 (0, 0))).alloc (.cells #[.string ⟨#[]⟩, .slice none 0 0] 24 (0, 0))) (w.heap.size + 1) m ys) := Lib.hid ⟨B0, d, x2, hd, hj.stay x3⟩
  have B := Lib.hid x3
  have I := Lib.hid (hi.stay x3)
  have J := Lib.hid (hj.stay x3)
  have HC0 := Lib.hid hc
  have HD0 := Lib.hid hd
  have HX := Lib.hid hl
  have HY := Lib.hid hl2
  clear hc hd hi hj x1 x2 x3 x5 hl hl2
  go_enter Tryz.func31, Tryz.ntmps31
  go_wp2_with fail
  generalize (((w.alloc (.cells #[.string n, .slice A xs.length c] 24 (0, 0))).alloc (.cells #[.string m, .slice B0 ys.length d] 24 (0, 0))).alloc (.cells #[.string ⟨#[]⟩, .slice none 0 0] 24 (0, 0))) = W0 at *
  have hcall := rshape_any n m xs ys _ _ _ ⟨A, c, rfl, HC0.out, I.out⟩ ⟨B0, d, rfl, HD0.out, J.out⟩ (by have := HX.out; omega) (by have := HY.out; omega)
  rw [HSH.out] at hcall
  refine hcall.mono ?_
  clear hcall
  rintro e wc1 ⟨rfl, hb1⟩
  clear I J HC0 HD0
  replace X := Lib.hid (X.out.stay hb1)
  replace Y := Lib.hid (Y.out.stay hb1)
  replace Z := Lib.hid (Z.out.stay hb1)
  replace B := Lib.hid (B.out.trans (hb1.mono B.out.size))
  clear hb1
  have HZL := Lib.hid Z.out.lt
  obtain ⟨AX, cX, hX, hcX, hiX⟩ := X.out
  have qX0 := hX.cells.1
  have qX1 := hX.cells.2
  have HHX := Lib.hid hX
  have HCX := Lib.hid hcX
  have HIX := Lib.hid hiX
  clear hX hcX hiX
  go_wp2_with fail
  have hcall := rnamed_any n wc1
  refine hcall.mono ?_
  clear hcall
  clear qX0 qX1
  rintro e wc2 ⟨⟨u, rfl, AN, cN, rfl, hcN, hiN⟩, hb1⟩
  have HCN := Lib.hid hcN
  have HIN := Lib.hid hiN
  clear hcN hiN
  replace X := Lib.hid (X.out.stay hb1)
  replace Y := Lib.hid (Y.out.stay hb1)
  replace Z := Lib.hid (Z.out.stay hb1)
  replace B := Lib.hid (B.out.trans (hb1.mono B.out.size))
  clear hb1
  have HZO := Lib.hid Z.out.lt
  have hbA := (Below.refl wc2.heap.size wc2).alloc (Nat.le_refl _) (.cells #[.string n, .slice AN 0 cN] 24 (0, 0))
  have O : Hid (RefB (wc2.alloc (.cells #[.string n, .slice AN 0 cN] 24 (0, 0))) wc2.heap.size n []) := Lib.hid ⟨_, _, BxR.new wc2 _ _, HCN.out, HIN.out.stay hbA⟩
  have VO : Hid (RefV (wc2.alloc (.cells #[.string n, .slice AN 0 cN] 24 (0, 0))) (wc2.alloc (.cells #[.string n, .slice AN 0 cN] 24 (0, 0))).heap.size (.agg #[.string n, .slice AN 0 cN]) n []) := Lib.hid ⟨_, _, rfl, HCN.out, HIN.out.stay hbA⟩
  replace X := Lib.hid (X.out.stay hbA)
  replace Y := Lib.hid (Y.out.stay hbA)
  replace Z := Lib.hid (Z.out.stay hbA)
  replace B := Lib.hid (B.out.trans (hbA.mono B.out.size))
  clear hbA
  have hltO : Hid (wc2.heap.size < (wc2.alloc (.cells #[.string n, .slice AN 0 cN] 24 (0, 0))).heap.size) := Lib.hid (by simp)
  obtain ⟨AX, cX, hX, hcX, hiX⟩ := X.out
  have qX0 := hX.cells.1
  have qX1 := hX.cells.2
  have HHX := Lib.hid hX
  have HCX := Lib.hid hcX
  have HIX := Lib.hid hiX
  clear hX hcX hiX
  go_wp2_with fail
  generalize (wc2.alloc (.cells #[.string n, .slice AN 0 cN] 24 (0, 0))) = wa3 at *
  have hcall := (rinner_any n xs _ _ ⟨AX, cX, rfl, HCX.out, HIX.out⟩ (by have := HX.out; omega)).mono fun _ _ h => rweak_no h HIA.out
  refine hcall.mono ?_
  clear hcall
  clear qX0 qX1
  rintro e wc4 ⟨rfl, hb1⟩
  replace X := Lib.hid (X.out.stay hb1)
  replace Y := Lib.hid (Y.out.stay hb1)
  replace O := Lib.hid (O.out.stay hb1)
  replace Z := Lib.hid (Z.out.stay hb1)
  replace B := Lib.hid (B.out.trans (hb1.mono B.out.size))
  clear hb1
  have HOP := Lib.hid O.out.lt
  have HNC : Hid (([] : Ws).length ≤ 0) := Lib.hid (Nat.le_refl _)
  have HNI := Lib.hid (IntsAt.nil wc4 wc4.heap.size none)
  have hbA := (Below.refl wc4.heap.size wc4).alloc (Nat.le_refl _) (.cells #[.string ⟨#[]⟩, .slice none 0 0] 24 (0, 0))
  have P : Hid (RefB (wc4.alloc (.cells #[.string ⟨#[]⟩, .slice none 0 0] 24 (0, 0))) wc4.heap.size ⟨#[]⟩ []) := Lib.hid ⟨_, _, BxR.new wc4 _ _, HNC.out, HNI.out.stay hbA⟩
  have VP : Hid (RefV (wc4.alloc (.cells #[.string ⟨#[]⟩, .slice none 0 0] 24 (0, 0))) (wc4.alloc (.cells #[.string ⟨#[]⟩, .slice none 0 0] 24 (0, 0))).heap.size (.agg #[.string ⟨#[]⟩, .slice none 0 0]) ⟨#[]⟩ []) := Lib.hid ⟨_, _, rfl, HNC.out, HNI.out.stay hbA⟩
  replace X := Lib.hid (X.out.stay hbA)
  replace Y := Lib.hid (Y.out.stay hbA)
  replace O := Lib.hid (O.out.stay hbA)
  replace Z := Lib.hid (Z.out.stay hbA)
  replace B := Lib.hid (B.out.trans (hbA.mono B.out.size))
  clear hbA
  have hltP : Hid (wc4.heap.size < (wc4.alloc (.cells #[.string ⟨#[]⟩, .slice none 0 0] 24 (0, 0))).heap.size) := Lib.hid (by simp)
  obtain ⟨AY, cY, hY, hcY, hiY⟩ := Y.out
  have qY0 := hY.cells.1
  have qY1 := hY.cells.2
  have HHY := Lib.hid hY
  have HCY := Lib.hid hcY
  have HIY := Lib.hid hiY
  clear hY hcY hiY
  go_wp2_with fail
  generalize (wc4.alloc (.cells #[.string ⟨#[]⟩, .slice none 0 0] 24 (0, 0))) = wa5 at *
  have hcall := (rinner_any m ys _ _ ⟨AY, cY, rfl, HCY.out, HIY.out⟩ (by have := HY.out; omega)).mono fun _ _ h => rweak_no h HIB.out
  refine hcall.mono ?_
  clear hcall
  clear qY0 qY1
  rintro e wc6 ⟨rfl, hb1⟩
  replace X := Lib.hid (X.out.stay hb1)
  replace Y := Lib.hid (Y.out.stay hb1)
  replace O := Lib.hid (O.out.stay hb1)
  replace P := Lib.hid (P.out.stay hb1)
  replace Z := Lib.hid (Z.out.stay hb1)
  replace B := Lib.hid (B.out.trans (hb1.mono B.out.size))
  clear hb1
  replace HNI := Lib.hid (IntsAt.nil wc6 wc6.heap.size none)
  have hbA := (Below.refl wc6.heap.size wc6).alloc (Nat.le_refl _) (.cells #[.string ⟨#[]⟩, .slice none 0 0] 24 (0, 0))
  have Q : Hid (RefB (wc6.alloc (.cells #[.string ⟨#[]⟩, .slice none 0 0] 24 (0, 0))) wc6.heap.size ⟨#[]⟩ []) := Lib.hid ⟨_, _, BxR.new wc6 _ _, HNC.out, HNI.out.stay hbA⟩
  have VQ : Hid (RefV (wc6.alloc (.cells #[.string ⟨#[]⟩, .slice none 0 0] 24 (0, 0))) (wc6.alloc (.cells #[.string ⟨#[]⟩, .slice none 0 0] 24 (0, 0))).heap.size (.agg #[.string ⟨#[]⟩, .slice none 0 0]) ⟨#[]⟩ []) := Lib.hid ⟨_, _, rfl, HNC.out, HNI.out.stay hbA⟩
  replace X := Lib.hid (X.out.stay hbA)
  replace Y := Lib.hid (Y.out.stay hbA)
  replace O := Lib.hid (O.out.stay hbA)
  replace P := Lib.hid (P.out.stay hbA)
  replace Z := Lib.hid (Z.out.stay hbA)
  replace B := Lib.hid (B.out.trans (hbA.mono B.out.size))
  clear hbA
  have hltQ : Hid (wc6.heap.size < (wc6.alloc (.cells #[.string ⟨#[]⟩, .slice none 0 0] 24 (0, 0))).heap.size) := Lib.hid (by simp)
  obtain ⟨AX, cX, hX, hcX, hiX⟩ := X.out
  have qX0 := hX.cells.1
  have qX1 := hX.cells.2
  have HHX := Lib.hid hX
  have HCX := Lib.hid hcX
  have HIX := Lib.hid hiX
  clear hX hcX hiX
  go_wp2_with fail
  generalize (wc6.alloc (.cells #[.string ⟨#[]⟩, .slice none 0 0] 24 (0, 0))) = wa7 at *
  have hcall := risnn_any n xs _ _ ⟨AX, cX, rfl, HCX.out, HIX.out⟩
  rw [HNA.out] at hcall
  refine hcall.mono ?_
  clear hcall
  clear qX0 qX1
  rintro e wc8 ⟨rfl, hb1⟩
  replace X := Lib.hid (X.out.stay hb1)
  replace Y := Lib.hid (Y.out.stay hb1)
  replace O := Lib.hid (O.out.stay hb1)
  replace P := Lib.hid (P.out.stay hb1)
  replace Q := Lib.hid (Q.out.stay hb1)
  replace Z := Lib.hid (Z.out.stay hb1)
  replace B := Lib.hid (B.out.trans (hb1.mono B.out.size))
  clear hb1
  obtain ⟨AY, cY, hY, hcY, hiY⟩ := Y.out
  have qY0 := hY.cells.1
  have qY1 := hY.cells.2
  have HHY := Lib.hid hY
  have HCY := Lib.hid hcY
  have HIY := Lib.hid hiY
  clear hY hcY hiY
  go_wp2_with fail
  have hcall := risnn_any m ys _ _ ⟨AY, cY, rfl, HCY.out, HIY.out⟩
  rw [HNB.out] at hcall
  refine hcall.mono ?_
  clear hcall
  clear qY0 qY1
  rintro e wc9 ⟨rfl, hb1⟩
  replace X := Lib.hid (X.out.stay hb1)
  replace Y := Lib.hid (Y.out.stay hb1)
  replace O := Lib.hid (O.out.stay hb1)
  replace P := Lib.hid (P.out.stay hb1)
  replace Q := Lib.hid (Q.out.stay hb1)
  replace Z := Lib.hid (Z.out.stay hb1)
  replace B := Lib.hid (B.out.trans (hb1.mono B.out.size))
  clear hb1
  obtain ⟨AO, cO, hO, hcO, hiO⟩ := O.out
  have qO0 := hO.cells.1
  have qO1 := hO.cells.2
  have HHO := Lib.hid hO
  have HCO := Lib.hid hcO
  have HIO := Lib.hid hiO
  clear hO hcO hiO
  go_wp2_with fail
  have hcall := rnonnull_any n [] _ _ ⟨AO, cO, rfl, HCO.out, HIO.out⟩ (by have := HZS.out; omega)
  generalize hzz : nnL [] = zz at hcall
  have HZZ := Lib.hid hzz
  clear hzz
  refine hcall.mono ?_
  clear hcall
  clear qO0 qO1
  rintro e wc10 ⟨⟨u9, rfl, A9, c9, rfl, hc9, hi9⟩, hb1⟩
  replace X := Lib.hid (X.out.stay hb1)
  replace Y := Lib.hid (Y.out.stay hb1)
  replace O := Lib.hid (O.out.stay hb1)
  replace P := Lib.hid (P.out.stay hb1)
  replace Q := Lib.hid (Q.out.stay hb1)
  replace Z := Lib.hid (Z.out.stay hb1)
  replace B := Lib.hid (B.out.trans (hb1.mono B.out.size))
  clear hb1
  have HC9 := Lib.hid hc9
  have HI9 := Lib.hid hi9
  clear hc9 hi9
  obtain ⟨AO, cO, hO, hcO, hiO⟩ := O.out
  have qO0 := hO.cells.1
  have qO1 := hO.cells.2
  have fO0 := hO.frz 0
  have fO1 := hO.frz 1
  have HHO := Lib.hid hO
  have HCO := Lib.hid hcO
  have HIO := Lib.hid hiO
  clear hO hcO hiO
  have z0 := Z.out.cells.1
  have z1 := Z.out.cells.2
  have zf0 := Z.out.frz 0
  have zf1 := Z.out.frz 1
  have hn9 : ¬ w.heap.size + 1 + 1 = wc2.heap.size := by have h9 := HZO.out; omega
  have hn8 : ¬ wc2.heap.size = w.heap.size + 1 + 1 := by have h9 := HZO.out; omega
  go_wp2_with fail
  have hz9 := (Z.out.kept (Below.heap_setCell wc10 ⟨wc2.heap.size, 0, none⟩ (.string n) _ (by have h9 := HZO.out; omega))).kept (Below.heap_setCell (wc10.setCell ⟨wc2.heap.size, 0, none⟩ (.string n)) ⟨wc2.heap.size, 1, none⟩ (.slice A9 zz.length c9) _ (by have h9 := HZO.out; omega))
  have hb9 := Below.pair (b := wc2.heap.size) B.out (by have h9 := HZO.out; omega) (.string n) (.slice A9 zz.length c9)
  have hi9 := (HI9.out.off HHO.out 0 (.string n)).off (HHO.out.s0 (.string n)) 1 (.slice A9 zz.length c9)
  obtain ⟨y1, y2, y3⟩ := ref_end (n := n) hz9 (by omega) hb9 HC9.out (by simpa using hi9)
  obtain ⟨⟨u, e, hu⟩, hbl⟩ := y1
  cases e
  exact bodyPost_ret (by simp [results, Tryz.results31, go_sem, y2, y3]) rfl (opt_some (by rw [HWE.out, HZZ.out]) hu hbl)
set_option maxRecDepth 100000 in
set_option maxHeartbeats 2000000 in
theorem rweaken_sff (n m : ByteArray) (xs ys : Ws) (v u : Value) (w : World) (hx : RefV w w.heap.size v n xs) (hy : RefV w w.heap.size u m ys) (hl : xs.length ≤ 100) (hl2 : ys.length ≤ 100) (hsh : decide (n = m ∧ strL xs = strL ys) = true) (hna : nnB xs = false) (xi yi z : Ws) (hia : inO xs = some xi) (hib : inO ys = some yi) (hz : wkO n m xi yi = some z) (hzl : z.length ≤ 1000) (ih : ∀ (v u : Value) (w : World), RefV w w.heap.size v n xi → RefV w w.heap.size u m yi → Calls Tryz.prog 31 #[v, u] w (OptPost n (wkO n m xi yi) w)) (hwe : weL xs ys = (2 :: z)) : Calls Tryz.prog 31 #[v, u] w (OptPost n (some (weL xs ys)) w) := by
  have HSH := Lib.hid hsh
  have HNA := Lib.hid hna
  have HIA := Lib.hid hia
  have HIB := Lib.hid hib
  have HWE := Lib.hid hwe
  have IH := Lib.hid ih
  have HZW := Lib.hid hz
  have HZS : Hid ((2 :: z : Ws).length ≤ 1001) := Lib.hid (by simp; omega)
  have HZN := Lib.hid hzl
  clear ih hz hzl
  clear hsh hna hia hib hwe
  obtain ⟨A, c, rfl, hc, hi⟩ := hx
  obtain ⟨B0, d, rfl, hd, hj⟩ := hy
  obtain ⟨x1, x2, x5, x3⟩ := BxR.three w (.string n) (.slice A xs.length c) (.string m) (.slice B0 ys.length d)
  have Z := Lib.hid x5
  have X : Hid (RefB (((w.alloc (.cells #[.string n, .slice A xs.length c] 24 (0, 0))).alloc (.cells #[.string m, .slice B0 ys.length d] 24 (0, 0))).alloc (.cells #[.string ⟨#[]⟩, .slice none 0 0] 24 (0, 0))) w.heap.size n xs) := Lib.hid ⟨A, c, x1, hc, hi.stay x3⟩
  have Y : Hid (RefB (((w.alloc (.cells #[.string n, .slice A xs.length c] 24 (0, 0))).alloc (.cells #[.string m, .slice B0 ys.length d] 24 (0, 0))).alloc (.cells #[.string ⟨#[]⟩, .slice none 0 0] 24 (0, 0))) (w.heap.size + 1) m ys) := Lib.hid ⟨B0, d, x2, hd, hj.stay x3⟩
  have B := Lib.hid x3
  have I := Lib.hid (hi.stay x3)
  have J := Lib.hid (hj.stay x3)
  have HC0 := Lib.hid hc
  have HD0 := Lib.hid hd
  have HX := Lib.hid hl
  have HY := Lib.hid hl2
  clear hc hd hi hj x1 x2 x3 x5 hl hl2
  go_enter Tryz.func31, Tryz.ntmps31
  go_wp2_with fail
  generalize (((w.alloc (.cells #[.string n, .slice A xs.length c] 24 (0, 0))).alloc (.cells #[.string m, .slice B0 ys.length d] 24 (0, 0))).alloc (.cells #[.string ⟨#[]⟩, .slice none 0 0] 24 (0, 0))) = W0 at *
  have hcall := rshape_any n m xs ys _ _ _ ⟨A, c, rfl, HC0.out, I.out⟩ ⟨B0, d, rfl, HD0.out, J.out⟩ (by have := HX.out; omega) (by have := HY.out; omega)
  rw [HSH.out] at hcall
  refine hcall.mono ?_
  clear hcall
  rintro e wc1 ⟨rfl, hb1⟩
  clear I J HC0 HD0
  replace X := Lib.hid (X.out.stay hb1)
  replace Y := Lib.hid (Y.out.stay hb1)
  replace Z := Lib.hid (Z.out.stay hb1)
  replace B := Lib.hid (B.out.trans (hb1.mono B.out.size))
  clear hb1
  have HZL := Lib.hid Z.out.lt
  obtain ⟨AX, cX, hX, hcX, hiX⟩ := X.out
  have qX0 := hX.cells.1
  have qX1 := hX.cells.2
  have HHX := Lib.hid hX
  have HCX := Lib.hid hcX
  have HIX := Lib.hid hiX
  clear hX hcX hiX
  go_wp2_with fail
  have hcall := rnamed_any n wc1
  refine hcall.mono ?_
  clear hcall
  clear qX0 qX1
  rintro e wc2 ⟨⟨u, rfl, AN, cN, rfl, hcN, hiN⟩, hb1⟩
  have HCN := Lib.hid hcN
  have HIN := Lib.hid hiN
  clear hcN hiN
  replace X := Lib.hid (X.out.stay hb1)
  replace Y := Lib.hid (Y.out.stay hb1)
  replace Z := Lib.hid (Z.out.stay hb1)
  replace B := Lib.hid (B.out.trans (hb1.mono B.out.size))
  clear hb1
  have HZO := Lib.hid Z.out.lt
  have hbA := (Below.refl wc2.heap.size wc2).alloc (Nat.le_refl _) (.cells #[.string n, .slice AN 0 cN] 24 (0, 0))
  have O : Hid (RefB (wc2.alloc (.cells #[.string n, .slice AN 0 cN] 24 (0, 0))) wc2.heap.size n []) := Lib.hid ⟨_, _, BxR.new wc2 _ _, HCN.out, HIN.out.stay hbA⟩
  have VO : Hid (RefV (wc2.alloc (.cells #[.string n, .slice AN 0 cN] 24 (0, 0))) (wc2.alloc (.cells #[.string n, .slice AN 0 cN] 24 (0, 0))).heap.size (.agg #[.string n, .slice AN 0 cN]) n []) := Lib.hid ⟨_, _, rfl, HCN.out, HIN.out.stay hbA⟩
  replace X := Lib.hid (X.out.stay hbA)
  replace Y := Lib.hid (Y.out.stay hbA)
  replace Z := Lib.hid (Z.out.stay hbA)
  replace B := Lib.hid (B.out.trans (hbA.mono B.out.size))
  clear hbA
  have hltO : Hid (wc2.heap.size < (wc2.alloc (.cells #[.string n, .slice AN 0 cN] 24 (0, 0))).heap.size) := Lib.hid (by simp)
  obtain ⟨AX, cX, hX, hcX, hiX⟩ := X.out
  have qX0 := hX.cells.1
  have qX1 := hX.cells.2
  have HHX := Lib.hid hX
  have HCX := Lib.hid hcX
  have HIX := Lib.hid hiX
  clear hX hcX hiX
  go_wp2_with fail
  generalize (wc2.alloc (.cells #[.string n, .slice AN 0 cN] 24 (0, 0))) = wa3 at *
  have hcall := (rinner_any n xs _ _ ⟨AX, cX, rfl, HCX.out, HIX.out⟩ (by have := HX.out; omega)).mono fun _ _ h => rweak_len h HIA.out
  refine hcall.mono ?_
  clear hcall
  clear qX0 qX1
  rintro e wc4 ⟨⟨u, rfl, AIX, cIX, rfl, hcI, hiI⟩, hb1⟩
  have HCIX := Lib.hid hcI
  have HIIX := Lib.hid hiI
  clear hcI hiI
  replace X := Lib.hid (X.out.stay hb1)
  replace Y := Lib.hid (Y.out.stay hb1)
  replace O := Lib.hid (O.out.stay hb1)
  replace Z := Lib.hid (Z.out.stay hb1)
  replace B := Lib.hid (B.out.trans (hb1.mono B.out.size))
  clear hb1
  have HOP := Lib.hid O.out.lt
  have hbA := (Below.refl wc4.heap.size wc4).alloc (Nat.le_refl _) (.cells #[.string n, .slice AIX xi.length cIX] 24 (0, 0))
  have P : Hid (RefB (wc4.alloc (.cells #[.string n, .slice AIX xi.length cIX] 24 (0, 0))) wc4.heap.size n xi) := Lib.hid ⟨_, _, BxR.new wc4 _ _, HCIX.out, HIIX.out.stay hbA⟩
  have VP : Hid (RefV (wc4.alloc (.cells #[.string n, .slice AIX xi.length cIX] 24 (0, 0))) (wc4.alloc (.cells #[.string n, .slice AIX xi.length cIX] 24 (0, 0))).heap.size (.agg #[.string n, .slice AIX xi.length cIX]) n xi) := Lib.hid ⟨_, _, rfl, HCIX.out, HIIX.out.stay hbA⟩
  replace X := Lib.hid (X.out.stay hbA)
  replace Y := Lib.hid (Y.out.stay hbA)
  replace O := Lib.hid (O.out.stay hbA)
  replace Z := Lib.hid (Z.out.stay hbA)
  replace B := Lib.hid (B.out.trans (hbA.mono B.out.size))
  clear hbA
  have hltP : Hid (wc4.heap.size < (wc4.alloc (.cells #[.string n, .slice AIX xi.length cIX] 24 (0, 0))).heap.size) := Lib.hid (by simp)
  obtain ⟨AY, cY, hY, hcY, hiY⟩ := Y.out
  have qY0 := hY.cells.1
  have qY1 := hY.cells.2
  have HHY := Lib.hid hY
  have HCY := Lib.hid hcY
  have HIY := Lib.hid hiY
  clear hY hcY hiY
  go_wp2_with fail
  generalize (wc4.alloc (.cells #[.string n, .slice AIX xi.length cIX] 24 (0, 0))) = wa5 at *
  have hcall := (rinner_any m ys _ _ ⟨AY, cY, rfl, HCY.out, HIY.out⟩ (by have := HY.out; omega)).mono fun _ _ h => rweak_len h HIB.out
  refine hcall.mono ?_
  clear hcall
  clear qY0 qY1
  rintro e wc6 ⟨⟨u, rfl, AIY, cIY, rfl, hcI, hiI⟩, hb1⟩
  have HCIY := Lib.hid hcI
  have HIIY := Lib.hid hiI
  clear hcI hiI
  replace X := Lib.hid (X.out.stay hb1)
  replace Y := Lib.hid (Y.out.stay hb1)
  replace O := Lib.hid (O.out.stay hb1)
  replace P := Lib.hid (P.out.stay hb1)
  replace Z := Lib.hid (Z.out.stay hb1)
  replace B := Lib.hid (B.out.trans (hb1.mono B.out.size))
  clear hb1
  have HOQ := Lib.hid O.out.lt
  have hbA := (Below.refl wc6.heap.size wc6).alloc (Nat.le_refl _) (.cells #[.string m, .slice AIY yi.length cIY] 24 (0, 0))
  have Q : Hid (RefB (wc6.alloc (.cells #[.string m, .slice AIY yi.length cIY] 24 (0, 0))) wc6.heap.size m yi) := Lib.hid ⟨_, _, BxR.new wc6 _ _, HCIY.out, HIIY.out.stay hbA⟩
  have VQ : Hid (RefV (wc6.alloc (.cells #[.string m, .slice AIY yi.length cIY] 24 (0, 0))) (wc6.alloc (.cells #[.string m, .slice AIY yi.length cIY] 24 (0, 0))).heap.size (.agg #[.string m, .slice AIY yi.length cIY]) m yi) := Lib.hid ⟨_, _, rfl, HCIY.out, HIIY.out.stay hbA⟩
  replace X := Lib.hid (X.out.stay hbA)
  replace Y := Lib.hid (Y.out.stay hbA)
  replace O := Lib.hid (O.out.stay hbA)
  replace P := Lib.hid (P.out.stay hbA)
  replace Z := Lib.hid (Z.out.stay hbA)
  replace B := Lib.hid (B.out.trans (hbA.mono B.out.size))
  clear hbA
  have hltQ : Hid (wc6.heap.size < (wc6.alloc (.cells #[.string m, .slice AIY yi.length cIY] 24 (0, 0))).heap.size) := Lib.hid (by simp)
  obtain ⟨AP, cP, hP, hcP, hiP⟩ := P.out
  have qP0 := hP.cells.1
  have qP1 := hP.cells.2
  have HHP := Lib.hid hP
  have HCP := Lib.hid hcP
  have HIP := Lib.hid hiP
  clear hP hcP hiP
  go_wp2_with fail
  generalize (wc6.alloc (.cells #[.string m, .slice AIY yi.length cIY] 24 (0, 0))) = wa7 at *
  have hcall := (IH.out _ _ _ ⟨AP, cP, rfl, HCP.out, HIP.out⟩ VQ.out).mono fun _ _ h => rweak_len h HZW.out
  refine hcall.mono ?_
  clear hcall
  clear qP0 qP1
  rintro e wc8 ⟨⟨u, rfl, AR, cR, rfl, hcR, hiR⟩, hb1⟩
  have HCR := Lib.hid hcR
  have HIR := Lib.hid hiR
  clear hcR hiR
  replace X := Lib.hid (X.out.stay hb1)
  replace Y := Lib.hid (Y.out.stay hb1)
  replace O := Lib.hid (O.out.stay hb1)
  replace P := Lib.hid (P.out.stay hb1)
  replace Q := Lib.hid (Q.out.stay hb1)
  replace Z := Lib.hid (Z.out.stay hb1)
  replace B := Lib.hid (B.out.trans (hb1.mono B.out.size))
  clear hb1
  obtain ⟨AO, cO, hO, hcO, hiO⟩ := O.out
  have qO0 := hO.cells.1
  have qO1 := hO.cells.2
  have fO0 := hO.frz 0
  have fO1 := hO.frz 1
  have HHO := Lib.hid hO
  have HCO := Lib.hid hcO
  have HIO := Lib.hid hiO
  clear hO hcO hiO
  replace X : Hid (RefB ((wc8.setCell ⟨wc2.heap.size, 0, none⟩ (.string n)).setCell ⟨wc2.heap.size, 1, none⟩ (.slice AR z.length cR)) w.heap.size n xs) := Lib.hid ((X.out.off HHO.out (by have h9 := HZO.out; omega) 0 _).off (HHO.out.s0 _) (by have h9 := HZO.out; omega) 1 _)
  replace Y : Hid (RefB ((wc8.setCell ⟨wc2.heap.size, 0, none⟩ (.string n)).setCell ⟨wc2.heap.size, 1, none⟩ (.slice AR z.length cR)) (w.heap.size + 1) m ys) := Lib.hid ((Y.out.off HHO.out (by have h9 := HZO.out; omega) 0 _).off (HHO.out.s0 _) (by have h9 := HZO.out; omega) 1 _)
  replace P : Hid (RefB ((wc8.setCell ⟨wc2.heap.size, 0, none⟩ (.string n)).setCell ⟨wc2.heap.size, 1, none⟩ (.slice AR z.length cR)) wc4.heap.size n xi) := Lib.hid ((P.out.off HHO.out (by have h9 := HOP.out; omega) 0 _).off (HHO.out.s0 _) (by have h9 := HOP.out; omega) 1 _)
  replace Q : Hid (RefB ((wc8.setCell ⟨wc2.heap.size, 0, none⟩ (.string n)).setCell ⟨wc2.heap.size, 1, none⟩ (.slice AR z.length cR)) wc6.heap.size m yi) := Lib.hid ((Q.out.off HHO.out (by have h9 := HOQ.out; omega) 0 _).off (HHO.out.s0 _) (by have h9 := HOQ.out; omega) 1 _)
  replace Z : Hid (BxR ((wc8.setCell ⟨wc2.heap.size, 0, none⟩ (.string n)).setCell ⟨wc2.heap.size, 1, none⟩ (.slice AR z.length cR)) (w.heap.size + 1 + 1) (.string ⟨#[]⟩) (.slice none 0 0)) := Lib.hid ((Z.out.kept (Below.heap_setCell _ _ _ _ (by have h9 := HZO.out; dsimp only; omega))).kept (Below.heap_setCell _ _ _ _ (by have h9 := HZO.out; dsimp only; omega)))
  have VO : Hid (RefV ((wc8.setCell ⟨wc2.heap.size, 0, none⟩ (.string n)).setCell ⟨wc2.heap.size, 1, none⟩ (.slice AR z.length cR)) ((wc8.setCell ⟨wc2.heap.size, 0, none⟩ (.string n)).setCell ⟨wc2.heap.size, 1, none⟩ (.slice AR z.length cR)).heap.size (.agg #[.string n, (.slice AR z.length cR)]) n z) := Lib.hid ⟨_, _, rfl, HCR.out, by have h8 := (HIR.out.off HHO.out 0 (.string n)).off (HHO.out.s0 (.string n)) 1 (.slice AR z.length cR); simpa using h8⟩
  replace O : Hid (RefB ((wc8.setCell ⟨wc2.heap.size, 0, none⟩ (.string n)).setCell ⟨wc2.heap.size, 1, none⟩ (.slice AR z.length cR)) wc2.heap.size n z) := Lib.hid (RefB.put HHO.out HCR.out HIR.out)
  replace B : Hid (Below w.heap.size w ((wc8.setCell ⟨wc2.heap.size, 0, none⟩ (.string n)).setCell ⟨wc2.heap.size, 1, none⟩ (.slice AR z.length cR))) := Lib.hid (Below.pair B.out (by have h9 := HZO.out; omega) _ _)
  go_wp2_with fail
  generalize ((wc8.setCell ⟨wc2.heap.size, 0, none⟩ (.string n)).setCell ⟨wc2.heap.size, 1, none⟩ (.slice AR z.length cR)) = wa9 at *
  have hcall := rlistof_any n z _ _ VO.out (by have := HZN.out; omega)
  refine hcall.mono ?_
  clear hcall
  clear qO0 qO1 fO0 fO1
  rintro e wc10 ⟨⟨u, rfl, AS, cS, rfl, hcS, hiS⟩, hb1⟩
  have HCS := Lib.hid hcS
  have HIS := Lib.hid hiS
  clear hcS hiS
  replace X := Lib.hid (X.out.stay hb1)
  replace Y := Lib.hid (Y.out.stay hb1)
  replace O := Lib.hid (O.out.stay hb1)
  replace P := Lib.hid (P.out.stay hb1)
  replace Q := Lib.hid (Q.out.stay hb1)
  replace Z := Lib.hid (Z.out.stay hb1)
  replace B := Lib.hid (B.out.trans (hb1.mono B.out.size))
  clear hb1
  obtain ⟨AO, cO, hO, hcO, hiO⟩ := O.out
  have qO0 := hO.cells.1
  have qO1 := hO.cells.2
  have fO0 := hO.frz 0
  have fO1 := hO.frz 1
  have HHO := Lib.hid hO
  have HCO := Lib.hid hcO
  have HIO := Lib.hid hiO
  clear hO hcO hiO
  replace X : Hid (RefB ((wc10.setCell ⟨wc2.heap.size, 0, none⟩ (.string n)).setCell ⟨wc2.heap.size, 1, none⟩ (.slice AS (z.length + 1) cS)) w.heap.size n xs) := Lib.hid ((X.out.off HHO.out (by have h9 := HZO.out; omega) 0 _).off (HHO.out.s0 _) (by have h9 := HZO.out; omega) 1 _)
  replace Y : Hid (RefB ((wc10.setCell ⟨wc2.heap.size, 0, none⟩ (.string n)).setCell ⟨wc2.heap.size, 1, none⟩ (.slice AS (z.length + 1) cS)) (w.heap.size + 1) m ys) := Lib.hid ((Y.out.off HHO.out (by have h9 := HZO.out; omega) 0 _).off (HHO.out.s0 _) (by have h9 := HZO.out; omega) 1 _)
  replace P : Hid (RefB ((wc10.setCell ⟨wc2.heap.size, 0, none⟩ (.string n)).setCell ⟨wc2.heap.size, 1, none⟩ (.slice AS (z.length + 1) cS)) wc4.heap.size n xi) := Lib.hid ((P.out.off HHO.out (by have h9 := HOP.out; omega) 0 _).off (HHO.out.s0 _) (by have h9 := HOP.out; omega) 1 _)
  replace Q : Hid (RefB ((wc10.setCell ⟨wc2.heap.size, 0, none⟩ (.string n)).setCell ⟨wc2.heap.size, 1, none⟩ (.slice AS (z.length + 1) cS)) wc6.heap.size m yi) := Lib.hid ((Q.out.off HHO.out (by have h9 := HOQ.out; omega) 0 _).off (HHO.out.s0 _) (by have h9 := HOQ.out; omega) 1 _)
  replace Z : Hid (BxR ((wc10.setCell ⟨wc2.heap.size, 0, none⟩ (.string n)).setCell ⟨wc2.heap.size, 1, none⟩ (.slice AS (z.length + 1) cS)) (w.heap.size + 1 + 1) (.string ⟨#[]⟩) (.slice none 0 0)) := Lib.hid ((Z.out.kept (Below.heap_setCell _ _ _ _ (by have h9 := HZO.out; dsimp only; omega))).kept (Below.heap_setCell _ _ _ _ (by have h9 := HZO.out; dsimp only; omega)))
  have VO : Hid (RefV ((wc10.setCell ⟨wc2.heap.size, 0, none⟩ (.string n)).setCell ⟨wc2.heap.size, 1, none⟩ (.slice AS (z.length + 1) cS)) ((wc10.setCell ⟨wc2.heap.size, 0, none⟩ (.string n)).setCell ⟨wc2.heap.size, 1, none⟩ (.slice AS (z.length + 1) cS)).heap.size (.agg #[.string n, (.slice AS (z.length + 1) cS)]) n (2 :: z)) := Lib.hid ⟨_, _, rfl, HCS.out, by have h8 := (HIS.out.off HHO.out 0 (.string n)).off (HHO.out.s0 (.string n)) 1 (.slice AS (z.length + 1) cS); simpa using h8⟩
  replace O : Hid (RefB ((wc10.setCell ⟨wc2.heap.size, 0, none⟩ (.string n)).setCell ⟨wc2.heap.size, 1, none⟩ (.slice AS (z.length + 1) cS)) wc2.heap.size n (2 :: z)) := Lib.hid (RefB.put HHO.out HCS.out HIS.out)
  replace B : Hid (Below w.heap.size w ((wc10.setCell ⟨wc2.heap.size, 0, none⟩ (.string n)).setCell ⟨wc2.heap.size, 1, none⟩ (.slice AS (z.length + 1) cS))) := Lib.hid (Below.pair B.out (by have h9 := HZO.out; omega) _ _)
  obtain ⟨AX, cX, hX, hcX, hiX⟩ := X.out
  have qX0 := hX.cells.1
  have qX1 := hX.cells.2
  have HHX := Lib.hid hX
  have HCX := Lib.hid hcX
  have HIX := Lib.hid hiX
  clear hX hcX hiX
  go_wp2_with fail
  generalize ((wc10.setCell ⟨wc2.heap.size, 0, none⟩ (.string n)).setCell ⟨wc2.heap.size, 1, none⟩ (.slice AS (z.length + 1) cS)) = wa11 at *
  have hcall := risnn_any n xs _ _ ⟨AX, cX, rfl, HCX.out, HIX.out⟩
  rw [HNA.out] at hcall
  refine hcall.mono ?_
  clear hcall
  clear qO0 qO1 fO0 fO1 qX0 qX1
  rintro e wc12 ⟨rfl, hb1⟩
  replace X := Lib.hid (X.out.stay hb1)
  replace Y := Lib.hid (Y.out.stay hb1)
  replace O := Lib.hid (O.out.stay hb1)
  replace P := Lib.hid (P.out.stay hb1)
  replace Q := Lib.hid (Q.out.stay hb1)
  replace Z := Lib.hid (Z.out.stay hb1)
  replace B := Lib.hid (B.out.trans (hb1.mono B.out.size))
  clear hb1
  obtain ⟨AO, cO, hO, hcO, hiO⟩ := O.out
  have qO0 := hO.cells.1
  have qO1 := hO.cells.2
  have HHO := Lib.hid hO
  have HCO := Lib.hid hcO
  have HIO := Lib.hid hiO
  clear hO hcO hiO
  have z0 := Z.out.cells.1
  have z1 := Z.out.cells.2
  have zf0 := Z.out.frz 0
  have zf1 := Z.out.frz 1
  go_wp2_with fail
  obtain ⟨y1, y2, y3⟩ := ref_end (n := n) Z.out (by omega) B.out HCO.out HIO.out
  simp only [List.length_cons] at y2 y3
  obtain ⟨⟨u, e, hu⟩, hbl⟩ := y1
  cases e
  exact bodyPost_ret (by simp [results, Tryz.results31, go_sem, y2, y3]) rfl (opt_some (by rw [HWE.out]) hu hbl)
set_option maxRecDepth 100000 in
set_option maxHeartbeats 2000000 in
theorem rweaken_stf (n m : ByteArray) (xs ys : Ws) (v u : Value) (w : World) (hx : RefV w w.heap.size v n xs) (hy : RefV w w.heap.size u m ys) (hl : xs.length ≤ 100) (hl2 : ys.length ≤ 100) (hsh : decide (n = m ∧ strL xs = strL ys) = true) (hna : nnB xs = true) (hnb : nnB ys = false) (xi yi z : Ws) (hia : inO xs = some xi) (hib : inO ys = some yi) (hz : wkO n m xi yi = some z) (hzl : z.length ≤ 1000) (ih : ∀ (v u : Value) (w : World), RefV w w.heap.size v n xi → RefV w w.heap.size u m yi → Calls Tryz.prog 31 #[v, u] w (OptPost n (wkO n m xi yi) w)) (hwe : weL xs ys = (2 :: z)) : Calls Tryz.prog 31 #[v, u] w (OptPost n (some (weL xs ys)) w) := by
  have HSH := Lib.hid hsh
  have HNA := Lib.hid hna
  have HNB := Lib.hid hnb
  have HIA := Lib.hid hia
  have HIB := Lib.hid hib
  have HWE := Lib.hid hwe
  have IH := Lib.hid ih
  have HZW := Lib.hid hz
  have HZS : Hid ((2 :: z : Ws).length ≤ 1001) := Lib.hid (by simp; omega)
  have HZN := Lib.hid hzl
  clear ih hz hzl
  clear hsh hna hia hib hwe hnb
  obtain ⟨A, c, rfl, hc, hi⟩ := hx
  obtain ⟨B0, d, rfl, hd, hj⟩ := hy
  obtain ⟨x1, x2, x5, x3⟩ := BxR.three w (.string n) (.slice A xs.length c) (.string m) (.slice B0 ys.length d)
  have Z := Lib.hid x5
  have X : Hid (RefB (((w.alloc (.cells #[.string n, .slice A xs.length c] 24 (0, 0))).alloc (.cells #[.string m, .slice B0 ys.length d] 24 (0, 0))).alloc (.cells #[.string ⟨#[]⟩, .slice none 0 0] 24 (0, 0))) w.heap.size n xs) := Lib.hid ⟨A, c, x1, hc, hi.stay x3⟩
  have Y : Hid (RefB (((w.alloc (.cells #[.string n, .slice A xs.length c] 24 (0, 0))).alloc (.cells #[.string m, .slice B0 ys.length d] 24 (0, 0))).alloc (.cells #[.string ⟨#[]⟩, .slice none 0 0] 24 (0, 0))) (w.heap.size + 1) m ys) := Lib.hid ⟨B0, d, x2, hd, hj.stay x3⟩
  have B := Lib.hid x3
  have I := Lib.hid (hi.stay x3)
  have J := Lib.hid (hj.stay x3)
  have HC0 := Lib.hid hc
  have HD0 := Lib.hid hd
  have HX := Lib.hid hl
  have HY := Lib.hid hl2
  clear hc hd hi hj x1 x2 x3 x5 hl hl2
  go_enter Tryz.func31, Tryz.ntmps31
  go_wp2_with fail
  generalize (((w.alloc (.cells #[.string n, .slice A xs.length c] 24 (0, 0))).alloc (.cells #[.string m, .slice B0 ys.length d] 24 (0, 0))).alloc (.cells #[.string ⟨#[]⟩, .slice none 0 0] 24 (0, 0))) = W0 at *
  have hcall := rshape_any n m xs ys _ _ _ ⟨A, c, rfl, HC0.out, I.out⟩ ⟨B0, d, rfl, HD0.out, J.out⟩ (by have := HX.out; omega) (by have := HY.out; omega)
  rw [HSH.out] at hcall
  refine hcall.mono ?_
  clear hcall
  rintro e wc1 ⟨rfl, hb1⟩
  clear I J HC0 HD0
  replace X := Lib.hid (X.out.stay hb1)
  replace Y := Lib.hid (Y.out.stay hb1)
  replace Z := Lib.hid (Z.out.stay hb1)
  replace B := Lib.hid (B.out.trans (hb1.mono B.out.size))
  clear hb1
  have HZL := Lib.hid Z.out.lt
  obtain ⟨AX, cX, hX, hcX, hiX⟩ := X.out
  have qX0 := hX.cells.1
  have qX1 := hX.cells.2
  have HHX := Lib.hid hX
  have HCX := Lib.hid hcX
  have HIX := Lib.hid hiX
  clear hX hcX hiX
  go_wp2_with fail
  have hcall := rnamed_any n wc1
  refine hcall.mono ?_
  clear hcall
  clear qX0 qX1
  rintro e wc2 ⟨⟨u, rfl, AN, cN, rfl, hcN, hiN⟩, hb1⟩
  have HCN := Lib.hid hcN
  have HIN := Lib.hid hiN
  clear hcN hiN
  replace X := Lib.hid (X.out.stay hb1)
  replace Y := Lib.hid (Y.out.stay hb1)
  replace Z := Lib.hid (Z.out.stay hb1)
  replace B := Lib.hid (B.out.trans (hb1.mono B.out.size))
  clear hb1
  have HZO := Lib.hid Z.out.lt
  have hbA := (Below.refl wc2.heap.size wc2).alloc (Nat.le_refl _) (.cells #[.string n, .slice AN 0 cN] 24 (0, 0))
  have O : Hid (RefB (wc2.alloc (.cells #[.string n, .slice AN 0 cN] 24 (0, 0))) wc2.heap.size n []) := Lib.hid ⟨_, _, BxR.new wc2 _ _, HCN.out, HIN.out.stay hbA⟩
  have VO : Hid (RefV (wc2.alloc (.cells #[.string n, .slice AN 0 cN] 24 (0, 0))) (wc2.alloc (.cells #[.string n, .slice AN 0 cN] 24 (0, 0))).heap.size (.agg #[.string n, .slice AN 0 cN]) n []) := Lib.hid ⟨_, _, rfl, HCN.out, HIN.out.stay hbA⟩
  replace X := Lib.hid (X.out.stay hbA)
  replace Y := Lib.hid (Y.out.stay hbA)
  replace Z := Lib.hid (Z.out.stay hbA)
  replace B := Lib.hid (B.out.trans (hbA.mono B.out.size))
  clear hbA
  have hltO : Hid (wc2.heap.size < (wc2.alloc (.cells #[.string n, .slice AN 0 cN] 24 (0, 0))).heap.size) := Lib.hid (by simp)
  obtain ⟨AX, cX, hX, hcX, hiX⟩ := X.out
  have qX0 := hX.cells.1
  have qX1 := hX.cells.2
  have HHX := Lib.hid hX
  have HCX := Lib.hid hcX
  have HIX := Lib.hid hiX
  clear hX hcX hiX
  go_wp2_with fail
  generalize (wc2.alloc (.cells #[.string n, .slice AN 0 cN] 24 (0, 0))) = wa3 at *
  have hcall := (rinner_any n xs _ _ ⟨AX, cX, rfl, HCX.out, HIX.out⟩ (by have := HX.out; omega)).mono fun _ _ h => rweak_len h HIA.out
  refine hcall.mono ?_
  clear hcall
  clear qX0 qX1
  rintro e wc4 ⟨⟨u, rfl, AIX, cIX, rfl, hcI, hiI⟩, hb1⟩
  have HCIX := Lib.hid hcI
  have HIIX := Lib.hid hiI
  clear hcI hiI
  replace X := Lib.hid (X.out.stay hb1)
  replace Y := Lib.hid (Y.out.stay hb1)
  replace O := Lib.hid (O.out.stay hb1)
  replace Z := Lib.hid (Z.out.stay hb1)
  replace B := Lib.hid (B.out.trans (hb1.mono B.out.size))
  clear hb1
  have HOP := Lib.hid O.out.lt
  have hbA := (Below.refl wc4.heap.size wc4).alloc (Nat.le_refl _) (.cells #[.string n, .slice AIX xi.length cIX] 24 (0, 0))
  have P : Hid (RefB (wc4.alloc (.cells #[.string n, .slice AIX xi.length cIX] 24 (0, 0))) wc4.heap.size n xi) := Lib.hid ⟨_, _, BxR.new wc4 _ _, HCIX.out, HIIX.out.stay hbA⟩
  have VP : Hid (RefV (wc4.alloc (.cells #[.string n, .slice AIX xi.length cIX] 24 (0, 0))) (wc4.alloc (.cells #[.string n, .slice AIX xi.length cIX] 24 (0, 0))).heap.size (.agg #[.string n, .slice AIX xi.length cIX]) n xi) := Lib.hid ⟨_, _, rfl, HCIX.out, HIIX.out.stay hbA⟩
  replace X := Lib.hid (X.out.stay hbA)
  replace Y := Lib.hid (Y.out.stay hbA)
  replace O := Lib.hid (O.out.stay hbA)
  replace Z := Lib.hid (Z.out.stay hbA)
  replace B := Lib.hid (B.out.trans (hbA.mono B.out.size))
  clear hbA
  have hltP : Hid (wc4.heap.size < (wc4.alloc (.cells #[.string n, .slice AIX xi.length cIX] 24 (0, 0))).heap.size) := Lib.hid (by simp)
  obtain ⟨AY, cY, hY, hcY, hiY⟩ := Y.out
  have qY0 := hY.cells.1
  have qY1 := hY.cells.2
  have HHY := Lib.hid hY
  have HCY := Lib.hid hcY
  have HIY := Lib.hid hiY
  clear hY hcY hiY
  go_wp2_with fail
  generalize (wc4.alloc (.cells #[.string n, .slice AIX xi.length cIX] 24 (0, 0))) = wa5 at *
  have hcall := (rinner_any m ys _ _ ⟨AY, cY, rfl, HCY.out, HIY.out⟩ (by have := HY.out; omega)).mono fun _ _ h => rweak_len h HIB.out
  refine hcall.mono ?_
  clear hcall
  clear qY0 qY1
  rintro e wc6 ⟨⟨u, rfl, AIY, cIY, rfl, hcI, hiI⟩, hb1⟩
  have HCIY := Lib.hid hcI
  have HIIY := Lib.hid hiI
  clear hcI hiI
  replace X := Lib.hid (X.out.stay hb1)
  replace Y := Lib.hid (Y.out.stay hb1)
  replace O := Lib.hid (O.out.stay hb1)
  replace P := Lib.hid (P.out.stay hb1)
  replace Z := Lib.hid (Z.out.stay hb1)
  replace B := Lib.hid (B.out.trans (hb1.mono B.out.size))
  clear hb1
  have HOQ := Lib.hid O.out.lt
  have hbA := (Below.refl wc6.heap.size wc6).alloc (Nat.le_refl _) (.cells #[.string m, .slice AIY yi.length cIY] 24 (0, 0))
  have Q : Hid (RefB (wc6.alloc (.cells #[.string m, .slice AIY yi.length cIY] 24 (0, 0))) wc6.heap.size m yi) := Lib.hid ⟨_, _, BxR.new wc6 _ _, HCIY.out, HIIY.out.stay hbA⟩
  have VQ : Hid (RefV (wc6.alloc (.cells #[.string m, .slice AIY yi.length cIY] 24 (0, 0))) (wc6.alloc (.cells #[.string m, .slice AIY yi.length cIY] 24 (0, 0))).heap.size (.agg #[.string m, .slice AIY yi.length cIY]) m yi) := Lib.hid ⟨_, _, rfl, HCIY.out, HIIY.out.stay hbA⟩
  replace X := Lib.hid (X.out.stay hbA)
  replace Y := Lib.hid (Y.out.stay hbA)
  replace O := Lib.hid (O.out.stay hbA)
  replace P := Lib.hid (P.out.stay hbA)
  replace Z := Lib.hid (Z.out.stay hbA)
  replace B := Lib.hid (B.out.trans (hbA.mono B.out.size))
  clear hbA
  have hltQ : Hid (wc6.heap.size < (wc6.alloc (.cells #[.string m, .slice AIY yi.length cIY] 24 (0, 0))).heap.size) := Lib.hid (by simp)
  obtain ⟨AP, cP, hP, hcP, hiP⟩ := P.out
  have qP0 := hP.cells.1
  have qP1 := hP.cells.2
  have HHP := Lib.hid hP
  have HCP := Lib.hid hcP
  have HIP := Lib.hid hiP
  clear hP hcP hiP
  go_wp2_with fail
  generalize (wc6.alloc (.cells #[.string m, .slice AIY yi.length cIY] 24 (0, 0))) = wa7 at *
  have hcall := (IH.out _ _ _ ⟨AP, cP, rfl, HCP.out, HIP.out⟩ VQ.out).mono fun _ _ h => rweak_len h HZW.out
  refine hcall.mono ?_
  clear hcall
  clear qP0 qP1
  rintro e wc8 ⟨⟨u, rfl, AR, cR, rfl, hcR, hiR⟩, hb1⟩
  have HCR := Lib.hid hcR
  have HIR := Lib.hid hiR
  clear hcR hiR
  replace X := Lib.hid (X.out.stay hb1)
  replace Y := Lib.hid (Y.out.stay hb1)
  replace O := Lib.hid (O.out.stay hb1)
  replace P := Lib.hid (P.out.stay hb1)
  replace Q := Lib.hid (Q.out.stay hb1)
  replace Z := Lib.hid (Z.out.stay hb1)
  replace B := Lib.hid (B.out.trans (hb1.mono B.out.size))
  clear hb1
  obtain ⟨AO, cO, hO, hcO, hiO⟩ := O.out
  have qO0 := hO.cells.1
  have qO1 := hO.cells.2
  have fO0 := hO.frz 0
  have fO1 := hO.frz 1
  have HHO := Lib.hid hO
  have HCO := Lib.hid hcO
  have HIO := Lib.hid hiO
  clear hO hcO hiO
  replace X : Hid (RefB ((wc8.setCell ⟨wc2.heap.size, 0, none⟩ (.string n)).setCell ⟨wc2.heap.size, 1, none⟩ (.slice AR z.length cR)) w.heap.size n xs) := Lib.hid ((X.out.off HHO.out (by have h9 := HZO.out; omega) 0 _).off (HHO.out.s0 _) (by have h9 := HZO.out; omega) 1 _)
  replace Y : Hid (RefB ((wc8.setCell ⟨wc2.heap.size, 0, none⟩ (.string n)).setCell ⟨wc2.heap.size, 1, none⟩ (.slice AR z.length cR)) (w.heap.size + 1) m ys) := Lib.hid ((Y.out.off HHO.out (by have h9 := HZO.out; omega) 0 _).off (HHO.out.s0 _) (by have h9 := HZO.out; omega) 1 _)
  replace P : Hid (RefB ((wc8.setCell ⟨wc2.heap.size, 0, none⟩ (.string n)).setCell ⟨wc2.heap.size, 1, none⟩ (.slice AR z.length cR)) wc4.heap.size n xi) := Lib.hid ((P.out.off HHO.out (by have h9 := HOP.out; omega) 0 _).off (HHO.out.s0 _) (by have h9 := HOP.out; omega) 1 _)
  replace Q : Hid (RefB ((wc8.setCell ⟨wc2.heap.size, 0, none⟩ (.string n)).setCell ⟨wc2.heap.size, 1, none⟩ (.slice AR z.length cR)) wc6.heap.size m yi) := Lib.hid ((Q.out.off HHO.out (by have h9 := HOQ.out; omega) 0 _).off (HHO.out.s0 _) (by have h9 := HOQ.out; omega) 1 _)
  replace Z : Hid (BxR ((wc8.setCell ⟨wc2.heap.size, 0, none⟩ (.string n)).setCell ⟨wc2.heap.size, 1, none⟩ (.slice AR z.length cR)) (w.heap.size + 1 + 1) (.string ⟨#[]⟩) (.slice none 0 0)) := Lib.hid ((Z.out.kept (Below.heap_setCell _ _ _ _ (by have h9 := HZO.out; dsimp only; omega))).kept (Below.heap_setCell _ _ _ _ (by have h9 := HZO.out; dsimp only; omega)))
  have VO : Hid (RefV ((wc8.setCell ⟨wc2.heap.size, 0, none⟩ (.string n)).setCell ⟨wc2.heap.size, 1, none⟩ (.slice AR z.length cR)) ((wc8.setCell ⟨wc2.heap.size, 0, none⟩ (.string n)).setCell ⟨wc2.heap.size, 1, none⟩ (.slice AR z.length cR)).heap.size (.agg #[.string n, (.slice AR z.length cR)]) n z) := Lib.hid ⟨_, _, rfl, HCR.out, by have h8 := (HIR.out.off HHO.out 0 (.string n)).off (HHO.out.s0 (.string n)) 1 (.slice AR z.length cR); simpa using h8⟩
  replace O : Hid (RefB ((wc8.setCell ⟨wc2.heap.size, 0, none⟩ (.string n)).setCell ⟨wc2.heap.size, 1, none⟩ (.slice AR z.length cR)) wc2.heap.size n z) := Lib.hid (RefB.put HHO.out HCR.out HIR.out)
  replace B : Hid (Below w.heap.size w ((wc8.setCell ⟨wc2.heap.size, 0, none⟩ (.string n)).setCell ⟨wc2.heap.size, 1, none⟩ (.slice AR z.length cR))) := Lib.hid (Below.pair B.out (by have h9 := HZO.out; omega) _ _)
  go_wp2_with fail
  generalize ((wc8.setCell ⟨wc2.heap.size, 0, none⟩ (.string n)).setCell ⟨wc2.heap.size, 1, none⟩ (.slice AR z.length cR)) = wa9 at *
  have hcall := rlistof_any n z _ _ VO.out (by have := HZN.out; omega)
  refine hcall.mono ?_
  clear hcall
  clear qO0 qO1 fO0 fO1
  rintro e wc10 ⟨⟨u, rfl, AS, cS, rfl, hcS, hiS⟩, hb1⟩
  have HCS := Lib.hid hcS
  have HIS := Lib.hid hiS
  clear hcS hiS
  replace X := Lib.hid (X.out.stay hb1)
  replace Y := Lib.hid (Y.out.stay hb1)
  replace O := Lib.hid (O.out.stay hb1)
  replace P := Lib.hid (P.out.stay hb1)
  replace Q := Lib.hid (Q.out.stay hb1)
  replace Z := Lib.hid (Z.out.stay hb1)
  replace B := Lib.hid (B.out.trans (hb1.mono B.out.size))
  clear hb1
  obtain ⟨AO, cO, hO, hcO, hiO⟩ := O.out
  have qO0 := hO.cells.1
  have qO1 := hO.cells.2
  have fO0 := hO.frz 0
  have fO1 := hO.frz 1
  have HHO := Lib.hid hO
  have HCO := Lib.hid hcO
  have HIO := Lib.hid hiO
  clear hO hcO hiO
  replace X : Hid (RefB ((wc10.setCell ⟨wc2.heap.size, 0, none⟩ (.string n)).setCell ⟨wc2.heap.size, 1, none⟩ (.slice AS (z.length + 1) cS)) w.heap.size n xs) := Lib.hid ((X.out.off HHO.out (by have h9 := HZO.out; omega) 0 _).off (HHO.out.s0 _) (by have h9 := HZO.out; omega) 1 _)
  replace Y : Hid (RefB ((wc10.setCell ⟨wc2.heap.size, 0, none⟩ (.string n)).setCell ⟨wc2.heap.size, 1, none⟩ (.slice AS (z.length + 1) cS)) (w.heap.size + 1) m ys) := Lib.hid ((Y.out.off HHO.out (by have h9 := HZO.out; omega) 0 _).off (HHO.out.s0 _) (by have h9 := HZO.out; omega) 1 _)
  replace P : Hid (RefB ((wc10.setCell ⟨wc2.heap.size, 0, none⟩ (.string n)).setCell ⟨wc2.heap.size, 1, none⟩ (.slice AS (z.length + 1) cS)) wc4.heap.size n xi) := Lib.hid ((P.out.off HHO.out (by have h9 := HOP.out; omega) 0 _).off (HHO.out.s0 _) (by have h9 := HOP.out; omega) 1 _)
  replace Q : Hid (RefB ((wc10.setCell ⟨wc2.heap.size, 0, none⟩ (.string n)).setCell ⟨wc2.heap.size, 1, none⟩ (.slice AS (z.length + 1) cS)) wc6.heap.size m yi) := Lib.hid ((Q.out.off HHO.out (by have h9 := HOQ.out; omega) 0 _).off (HHO.out.s0 _) (by have h9 := HOQ.out; omega) 1 _)
  replace Z : Hid (BxR ((wc10.setCell ⟨wc2.heap.size, 0, none⟩ (.string n)).setCell ⟨wc2.heap.size, 1, none⟩ (.slice AS (z.length + 1) cS)) (w.heap.size + 1 + 1) (.string ⟨#[]⟩) (.slice none 0 0)) := Lib.hid ((Z.out.kept (Below.heap_setCell _ _ _ _ (by have h9 := HZO.out; dsimp only; omega))).kept (Below.heap_setCell _ _ _ _ (by have h9 := HZO.out; dsimp only; omega)))
  have VO : Hid (RefV ((wc10.setCell ⟨wc2.heap.size, 0, none⟩ (.string n)).setCell ⟨wc2.heap.size, 1, none⟩ (.slice AS (z.length + 1) cS)) ((wc10.setCell ⟨wc2.heap.size, 0, none⟩ (.string n)).setCell ⟨wc2.heap.size, 1, none⟩ (.slice AS (z.length + 1) cS)).heap.size (.agg #[.string n, (.slice AS (z.length + 1) cS)]) n (2 :: z)) := Lib.hid ⟨_, _, rfl, HCS.out, by have h8 := (HIS.out.off HHO.out 0 (.string n)).off (HHO.out.s0 (.string n)) 1 (.slice AS (z.length + 1) cS); simpa using h8⟩
  replace O : Hid (RefB ((wc10.setCell ⟨wc2.heap.size, 0, none⟩ (.string n)).setCell ⟨wc2.heap.size, 1, none⟩ (.slice AS (z.length + 1) cS)) wc2.heap.size n (2 :: z)) := Lib.hid (RefB.put HHO.out HCS.out HIS.out)
  replace B : Hid (Below w.heap.size w ((wc10.setCell ⟨wc2.heap.size, 0, none⟩ (.string n)).setCell ⟨wc2.heap.size, 1, none⟩ (.slice AS (z.length + 1) cS))) := Lib.hid (Below.pair B.out (by have h9 := HZO.out; omega) _ _)
  obtain ⟨AX, cX, hX, hcX, hiX⟩ := X.out
  have qX0 := hX.cells.1
  have qX1 := hX.cells.2
  have HHX := Lib.hid hX
  have HCX := Lib.hid hcX
  have HIX := Lib.hid hiX
  clear hX hcX hiX
  go_wp2_with fail
  generalize ((wc10.setCell ⟨wc2.heap.size, 0, none⟩ (.string n)).setCell ⟨wc2.heap.size, 1, none⟩ (.slice AS (z.length + 1) cS)) = wa11 at *
  have hcall := risnn_any n xs _ _ ⟨AX, cX, rfl, HCX.out, HIX.out⟩
  rw [HNA.out] at hcall
  refine hcall.mono ?_
  clear hcall
  clear qO0 qO1 fO0 fO1 qX0 qX1
  rintro e wc12 ⟨rfl, hb1⟩
  replace X := Lib.hid (X.out.stay hb1)
  replace Y := Lib.hid (Y.out.stay hb1)
  replace O := Lib.hid (O.out.stay hb1)
  replace P := Lib.hid (P.out.stay hb1)
  replace Q := Lib.hid (Q.out.stay hb1)
  replace Z := Lib.hid (Z.out.stay hb1)
  replace B := Lib.hid (B.out.trans (hb1.mono B.out.size))
  clear hb1
  obtain ⟨AY, cY, hY, hcY, hiY⟩ := Y.out
  have qY0 := hY.cells.1
  have qY1 := hY.cells.2
  have HHY := Lib.hid hY
  have HCY := Lib.hid hcY
  have HIY := Lib.hid hiY
  clear hY hcY hiY
  go_wp2_with fail
  have hcall := risnn_any m ys _ _ ⟨AY, cY, rfl, HCY.out, HIY.out⟩
  rw [HNB.out] at hcall
  refine hcall.mono ?_
  clear hcall
  clear qY0 qY1
  rintro e wc13 ⟨rfl, hb1⟩
  replace X := Lib.hid (X.out.stay hb1)
  replace Y := Lib.hid (Y.out.stay hb1)
  replace O := Lib.hid (O.out.stay hb1)
  replace P := Lib.hid (P.out.stay hb1)
  replace Q := Lib.hid (Q.out.stay hb1)
  replace Z := Lib.hid (Z.out.stay hb1)
  replace B := Lib.hid (B.out.trans (hb1.mono B.out.size))
  clear hb1
  obtain ⟨AO, cO, hO, hcO, hiO⟩ := O.out
  have qO0 := hO.cells.1
  have qO1 := hO.cells.2
  have HHO := Lib.hid hO
  have HCO := Lib.hid hcO
  have HIO := Lib.hid hiO
  clear hO hcO hiO
  have z0 := Z.out.cells.1
  have z1 := Z.out.cells.2
  have zf0 := Z.out.frz 0
  have zf1 := Z.out.frz 1
  go_wp2_with fail
  obtain ⟨y1, y2, y3⟩ := ref_end (n := n) Z.out (by omega) B.out HCO.out HIO.out
  simp only [List.length_cons] at y2 y3
  obtain ⟨⟨u, e, hu⟩, hbl⟩ := y1
  cases e
  exact bodyPost_ret (by simp [results, Tryz.results31, go_sem, y2, y3]) rfl (opt_some (by rw [HWE.out]) hu hbl)
set_option maxRecDepth 100000 in
set_option maxHeartbeats 2000000 in
theorem rweaken_stt (n m : ByteArray) (xs ys : Ws) (v u : Value) (w : World) (hx : RefV w w.heap.size v n xs) (hy : RefV w w.heap.size u m ys) (hl : xs.length ≤ 100) (hl2 : ys.length ≤ 100) (hsh : decide (n = m ∧ strL xs = strL ys) = true) (hna : nnB xs = true) (hnb : nnB ys = true) (xi yi z : Ws) (hia : inO xs = some xi) (hib : inO ys = some yi) (hz : wkO n m xi yi = some z) (hzl : z.length ≤ 1000) (ih : ∀ (v u : Value) (w : World), RefV w w.heap.size v n xi → RefV w w.heap.size u m yi → Calls Tryz.prog 31 #[v, u] w (OptPost n (wkO n m xi yi) w)) (hwe : weL xs ys = nnL (2 :: z)) : Calls Tryz.prog 31 #[v, u] w (OptPost n (some (weL xs ys)) w) := by
  have HSH := Lib.hid hsh
  have HNA := Lib.hid hna
  have HNB := Lib.hid hnb
  have HIA := Lib.hid hia
  have HIB := Lib.hid hib
  have HWE := Lib.hid hwe
  have IH := Lib.hid ih
  have HZW := Lib.hid hz
  have HZS : Hid ((2 :: z : Ws).length ≤ 1001) := Lib.hid (by simp; omega)
  have HZN := Lib.hid hzl
  clear ih hz hzl
  clear hsh hna hia hib hwe hnb
  obtain ⟨A, c, rfl, hc, hi⟩ := hx
  obtain ⟨B0, d, rfl, hd, hj⟩ := hy
  obtain ⟨x1, x2, x5, x3⟩ := BxR.three w (.string n) (.slice A xs.length c) (.string m) (.slice B0 ys.length d)
  have Z := Lib.hid x5
  have X : Hid (RefB (((w.alloc (.cells #[.string n, .slice A xs.length c] 24 (0, 0))).alloc (.cells #[.string m, .slice B0 ys.length d] 24 (0, 0))).alloc (.cells #[.string ⟨#[]⟩, .slice none 0 0] 24 (0, 0))) w.heap.size n xs) := Lib.hid ⟨A, c, x1, hc, hi.stay x3⟩
  have Y : Hid (RefB (((w.alloc (.cells #[.string n, .slice A xs.length c] 24 (0, 0))).alloc (.cells #[.string m, .slice B0 ys.length d] 24 (0, 0))).alloc (.cells #[.string ⟨#[]⟩, .slice none 0 0] 24 (0, 0))) (w.heap.size + 1) m ys) := Lib.hid ⟨B0, d, x2, hd, hj.stay x3⟩
  have B := Lib.hid x3
  have I := Lib.hid (hi.stay x3)
  have J := Lib.hid (hj.stay x3)
  have HC0 := Lib.hid hc
  have HD0 := Lib.hid hd
  have HX := Lib.hid hl
  have HY := Lib.hid hl2
  clear hc hd hi hj x1 x2 x3 x5 hl hl2
  go_enter Tryz.func31, Tryz.ntmps31
  go_wp2_with fail
  generalize (((w.alloc (.cells #[.string n, .slice A xs.length c] 24 (0, 0))).alloc (.cells #[.string m, .slice B0 ys.length d] 24 (0, 0))).alloc (.cells #[.string ⟨#[]⟩, .slice none 0 0] 24 (0, 0))) = W0 at *
  have hcall := rshape_any n m xs ys _ _ _ ⟨A, c, rfl, HC0.out, I.out⟩ ⟨B0, d, rfl, HD0.out, J.out⟩ (by have := HX.out; omega) (by have := HY.out; omega)
  rw [HSH.out] at hcall
  refine hcall.mono ?_
  clear hcall
  rintro e wc1 ⟨rfl, hb1⟩
  clear I J HC0 HD0
  replace X := Lib.hid (X.out.stay hb1)
  replace Y := Lib.hid (Y.out.stay hb1)
  replace Z := Lib.hid (Z.out.stay hb1)
  replace B := Lib.hid (B.out.trans (hb1.mono B.out.size))
  clear hb1
  have HZL := Lib.hid Z.out.lt
  obtain ⟨AX, cX, hX, hcX, hiX⟩ := X.out
  have qX0 := hX.cells.1
  have qX1 := hX.cells.2
  have HHX := Lib.hid hX
  have HCX := Lib.hid hcX
  have HIX := Lib.hid hiX
  clear hX hcX hiX
  go_wp2_with fail
  have hcall := rnamed_any n wc1
  refine hcall.mono ?_
  clear hcall
  clear qX0 qX1
  rintro e wc2 ⟨⟨u, rfl, AN, cN, rfl, hcN, hiN⟩, hb1⟩
  have HCN := Lib.hid hcN
  have HIN := Lib.hid hiN
  clear hcN hiN
  replace X := Lib.hid (X.out.stay hb1)
  replace Y := Lib.hid (Y.out.stay hb1)
  replace Z := Lib.hid (Z.out.stay hb1)
  replace B := Lib.hid (B.out.trans (hb1.mono B.out.size))
  clear hb1
  have HZO := Lib.hid Z.out.lt
  have hbA := (Below.refl wc2.heap.size wc2).alloc (Nat.le_refl _) (.cells #[.string n, .slice AN 0 cN] 24 (0, 0))
  have O : Hid (RefB (wc2.alloc (.cells #[.string n, .slice AN 0 cN] 24 (0, 0))) wc2.heap.size n []) := Lib.hid ⟨_, _, BxR.new wc2 _ _, HCN.out, HIN.out.stay hbA⟩
  have VO : Hid (RefV (wc2.alloc (.cells #[.string n, .slice AN 0 cN] 24 (0, 0))) (wc2.alloc (.cells #[.string n, .slice AN 0 cN] 24 (0, 0))).heap.size (.agg #[.string n, .slice AN 0 cN]) n []) := Lib.hid ⟨_, _, rfl, HCN.out, HIN.out.stay hbA⟩
  replace X := Lib.hid (X.out.stay hbA)
  replace Y := Lib.hid (Y.out.stay hbA)
  replace Z := Lib.hid (Z.out.stay hbA)
  replace B := Lib.hid (B.out.trans (hbA.mono B.out.size))
  clear hbA
  have hltO : Hid (wc2.heap.size < (wc2.alloc (.cells #[.string n, .slice AN 0 cN] 24 (0, 0))).heap.size) := Lib.hid (by simp)
  obtain ⟨AX, cX, hX, hcX, hiX⟩ := X.out
  have qX0 := hX.cells.1
  have qX1 := hX.cells.2
  have HHX := Lib.hid hX
  have HCX := Lib.hid hcX
  have HIX := Lib.hid hiX
  clear hX hcX hiX
  go_wp2_with fail
  generalize (wc2.alloc (.cells #[.string n, .slice AN 0 cN] 24 (0, 0))) = wa3 at *
  have hcall := (rinner_any n xs _ _ ⟨AX, cX, rfl, HCX.out, HIX.out⟩ (by have := HX.out; omega)).mono fun _ _ h => rweak_len h HIA.out
  refine hcall.mono ?_
  clear hcall
  clear qX0 qX1
  rintro e wc4 ⟨⟨u, rfl, AIX, cIX, rfl, hcI, hiI⟩, hb1⟩
  have HCIX := Lib.hid hcI
  have HIIX := Lib.hid hiI
  clear hcI hiI
  replace X := Lib.hid (X.out.stay hb1)
  replace Y := Lib.hid (Y.out.stay hb1)
  replace O := Lib.hid (O.out.stay hb1)
  replace Z := Lib.hid (Z.out.stay hb1)
  replace B := Lib.hid (B.out.trans (hb1.mono B.out.size))
  clear hb1
  have HOP := Lib.hid O.out.lt
  have hbA := (Below.refl wc4.heap.size wc4).alloc (Nat.le_refl _) (.cells #[.string n, .slice AIX xi.length cIX] 24 (0, 0))
  have P : Hid (RefB (wc4.alloc (.cells #[.string n, .slice AIX xi.length cIX] 24 (0, 0))) wc4.heap.size n xi) := Lib.hid ⟨_, _, BxR.new wc4 _ _, HCIX.out, HIIX.out.stay hbA⟩
  have VP : Hid (RefV (wc4.alloc (.cells #[.string n, .slice AIX xi.length cIX] 24 (0, 0))) (wc4.alloc (.cells #[.string n, .slice AIX xi.length cIX] 24 (0, 0))).heap.size (.agg #[.string n, .slice AIX xi.length cIX]) n xi) := Lib.hid ⟨_, _, rfl, HCIX.out, HIIX.out.stay hbA⟩
  replace X := Lib.hid (X.out.stay hbA)
  replace Y := Lib.hid (Y.out.stay hbA)
  replace O := Lib.hid (O.out.stay hbA)
  replace Z := Lib.hid (Z.out.stay hbA)
  replace B := Lib.hid (B.out.trans (hbA.mono B.out.size))
  clear hbA
  have hltP : Hid (wc4.heap.size < (wc4.alloc (.cells #[.string n, .slice AIX xi.length cIX] 24 (0, 0))).heap.size) := Lib.hid (by simp)
  obtain ⟨AY, cY, hY, hcY, hiY⟩ := Y.out
  have qY0 := hY.cells.1
  have qY1 := hY.cells.2
  have HHY := Lib.hid hY
  have HCY := Lib.hid hcY
  have HIY := Lib.hid hiY
  clear hY hcY hiY
  go_wp2_with fail
  generalize (wc4.alloc (.cells #[.string n, .slice AIX xi.length cIX] 24 (0, 0))) = wa5 at *
  have hcall := (rinner_any m ys _ _ ⟨AY, cY, rfl, HCY.out, HIY.out⟩ (by have := HY.out; omega)).mono fun _ _ h => rweak_len h HIB.out
  refine hcall.mono ?_
  clear hcall
  clear qY0 qY1
  rintro e wc6 ⟨⟨u, rfl, AIY, cIY, rfl, hcI, hiI⟩, hb1⟩
  have HCIY := Lib.hid hcI
  have HIIY := Lib.hid hiI
  clear hcI hiI
  replace X := Lib.hid (X.out.stay hb1)
  replace Y := Lib.hid (Y.out.stay hb1)
  replace O := Lib.hid (O.out.stay hb1)
  replace P := Lib.hid (P.out.stay hb1)
  replace Z := Lib.hid (Z.out.stay hb1)
  replace B := Lib.hid (B.out.trans (hb1.mono B.out.size))
  clear hb1
  have HOQ := Lib.hid O.out.lt
  have hbA := (Below.refl wc6.heap.size wc6).alloc (Nat.le_refl _) (.cells #[.string m, .slice AIY yi.length cIY] 24 (0, 0))
  have Q : Hid (RefB (wc6.alloc (.cells #[.string m, .slice AIY yi.length cIY] 24 (0, 0))) wc6.heap.size m yi) := Lib.hid ⟨_, _, BxR.new wc6 _ _, HCIY.out, HIIY.out.stay hbA⟩
  have VQ : Hid (RefV (wc6.alloc (.cells #[.string m, .slice AIY yi.length cIY] 24 (0, 0))) (wc6.alloc (.cells #[.string m, .slice AIY yi.length cIY] 24 (0, 0))).heap.size (.agg #[.string m, .slice AIY yi.length cIY]) m yi) := Lib.hid ⟨_, _, rfl, HCIY.out, HIIY.out.stay hbA⟩
  replace X := Lib.hid (X.out.stay hbA)
  replace Y := Lib.hid (Y.out.stay hbA)
  replace O := Lib.hid (O.out.stay hbA)
  replace P := Lib.hid (P.out.stay hbA)
  replace Z := Lib.hid (Z.out.stay hbA)
  replace B := Lib.hid (B.out.trans (hbA.mono B.out.size))
  clear hbA
  have hltQ : Hid (wc6.heap.size < (wc6.alloc (.cells #[.string m, .slice AIY yi.length cIY] 24 (0, 0))).heap.size) := Lib.hid (by simp)
  obtain ⟨AP, cP, hP, hcP, hiP⟩ := P.out
  have qP0 := hP.cells.1
  have qP1 := hP.cells.2
  have HHP := Lib.hid hP
  have HCP := Lib.hid hcP
  have HIP := Lib.hid hiP
  clear hP hcP hiP
  go_wp2_with fail
  generalize (wc6.alloc (.cells #[.string m, .slice AIY yi.length cIY] 24 (0, 0))) = wa7 at *
  have hcall := (IH.out _ _ _ ⟨AP, cP, rfl, HCP.out, HIP.out⟩ VQ.out).mono fun _ _ h => rweak_len h HZW.out
  refine hcall.mono ?_
  clear hcall
  clear qP0 qP1
  rintro e wc8 ⟨⟨u, rfl, AR, cR, rfl, hcR, hiR⟩, hb1⟩
  have HCR := Lib.hid hcR
  have HIR := Lib.hid hiR
  clear hcR hiR
  replace X := Lib.hid (X.out.stay hb1)
  replace Y := Lib.hid (Y.out.stay hb1)
  replace O := Lib.hid (O.out.stay hb1)
  replace P := Lib.hid (P.out.stay hb1)
  replace Q := Lib.hid (Q.out.stay hb1)
  replace Z := Lib.hid (Z.out.stay hb1)
  replace B := Lib.hid (B.out.trans (hb1.mono B.out.size))
  clear hb1
  obtain ⟨AO, cO, hO, hcO, hiO⟩ := O.out
  have qO0 := hO.cells.1
  have qO1 := hO.cells.2
  have fO0 := hO.frz 0
  have fO1 := hO.frz 1
  have HHO := Lib.hid hO
  have HCO := Lib.hid hcO
  have HIO := Lib.hid hiO
  clear hO hcO hiO
  replace X : Hid (RefB ((wc8.setCell ⟨wc2.heap.size, 0, none⟩ (.string n)).setCell ⟨wc2.heap.size, 1, none⟩ (.slice AR z.length cR)) w.heap.size n xs) := Lib.hid ((X.out.off HHO.out (by have h9 := HZO.out; omega) 0 _).off (HHO.out.s0 _) (by have h9 := HZO.out; omega) 1 _)
  replace Y : Hid (RefB ((wc8.setCell ⟨wc2.heap.size, 0, none⟩ (.string n)).setCell ⟨wc2.heap.size, 1, none⟩ (.slice AR z.length cR)) (w.heap.size + 1) m ys) := Lib.hid ((Y.out.off HHO.out (by have h9 := HZO.out; omega) 0 _).off (HHO.out.s0 _) (by have h9 := HZO.out; omega) 1 _)
  replace P : Hid (RefB ((wc8.setCell ⟨wc2.heap.size, 0, none⟩ (.string n)).setCell ⟨wc2.heap.size, 1, none⟩ (.slice AR z.length cR)) wc4.heap.size n xi) := Lib.hid ((P.out.off HHO.out (by have h9 := HOP.out; omega) 0 _).off (HHO.out.s0 _) (by have h9 := HOP.out; omega) 1 _)
  replace Q : Hid (RefB ((wc8.setCell ⟨wc2.heap.size, 0, none⟩ (.string n)).setCell ⟨wc2.heap.size, 1, none⟩ (.slice AR z.length cR)) wc6.heap.size m yi) := Lib.hid ((Q.out.off HHO.out (by have h9 := HOQ.out; omega) 0 _).off (HHO.out.s0 _) (by have h9 := HOQ.out; omega) 1 _)
  replace Z : Hid (BxR ((wc8.setCell ⟨wc2.heap.size, 0, none⟩ (.string n)).setCell ⟨wc2.heap.size, 1, none⟩ (.slice AR z.length cR)) (w.heap.size + 1 + 1) (.string ⟨#[]⟩) (.slice none 0 0)) := Lib.hid ((Z.out.kept (Below.heap_setCell _ _ _ _ (by have h9 := HZO.out; dsimp only; omega))).kept (Below.heap_setCell _ _ _ _ (by have h9 := HZO.out; dsimp only; omega)))
  have VO : Hid (RefV ((wc8.setCell ⟨wc2.heap.size, 0, none⟩ (.string n)).setCell ⟨wc2.heap.size, 1, none⟩ (.slice AR z.length cR)) ((wc8.setCell ⟨wc2.heap.size, 0, none⟩ (.string n)).setCell ⟨wc2.heap.size, 1, none⟩ (.slice AR z.length cR)).heap.size (.agg #[.string n, (.slice AR z.length cR)]) n z) := Lib.hid ⟨_, _, rfl, HCR.out, by have h8 := (HIR.out.off HHO.out 0 (.string n)).off (HHO.out.s0 (.string n)) 1 (.slice AR z.length cR); simpa using h8⟩
  replace O : Hid (RefB ((wc8.setCell ⟨wc2.heap.size, 0, none⟩ (.string n)).setCell ⟨wc2.heap.size, 1, none⟩ (.slice AR z.length cR)) wc2.heap.size n z) := Lib.hid (RefB.put HHO.out HCR.out HIR.out)
  replace B : Hid (Below w.heap.size w ((wc8.setCell ⟨wc2.heap.size, 0, none⟩ (.string n)).setCell ⟨wc2.heap.size, 1, none⟩ (.slice AR z.length cR))) := Lib.hid (Below.pair B.out (by have h9 := HZO.out; omega) _ _)
  go_wp2_with fail
  generalize ((wc8.setCell ⟨wc2.heap.size, 0, none⟩ (.string n)).setCell ⟨wc2.heap.size, 1, none⟩ (.slice AR z.length cR)) = wa9 at *
  have hcall := rlistof_any n z _ _ VO.out (by have := HZN.out; omega)
  refine hcall.mono ?_
  clear hcall
  clear qO0 qO1 fO0 fO1
  rintro e wc10 ⟨⟨u, rfl, AS, cS, rfl, hcS, hiS⟩, hb1⟩
  have HCS := Lib.hid hcS
  have HIS := Lib.hid hiS
  clear hcS hiS
  replace X := Lib.hid (X.out.stay hb1)
  replace Y := Lib.hid (Y.out.stay hb1)
  replace O := Lib.hid (O.out.stay hb1)
  replace P := Lib.hid (P.out.stay hb1)
  replace Q := Lib.hid (Q.out.stay hb1)
  replace Z := Lib.hid (Z.out.stay hb1)
  replace B := Lib.hid (B.out.trans (hb1.mono B.out.size))
  clear hb1
  obtain ⟨AO, cO, hO, hcO, hiO⟩ := O.out
  have qO0 := hO.cells.1
  have qO1 := hO.cells.2
  have fO0 := hO.frz 0
  have fO1 := hO.frz 1
  have HHO := Lib.hid hO
  have HCO := Lib.hid hcO
  have HIO := Lib.hid hiO
  clear hO hcO hiO
  replace X : Hid (RefB ((wc10.setCell ⟨wc2.heap.size, 0, none⟩ (.string n)).setCell ⟨wc2.heap.size, 1, none⟩ (.slice AS (z.length + 1) cS)) w.heap.size n xs) := Lib.hid ((X.out.off HHO.out (by have h9 := HZO.out; omega) 0 _).off (HHO.out.s0 _) (by have h9 := HZO.out; omega) 1 _)
  replace Y : Hid (RefB ((wc10.setCell ⟨wc2.heap.size, 0, none⟩ (.string n)).setCell ⟨wc2.heap.size, 1, none⟩ (.slice AS (z.length + 1) cS)) (w.heap.size + 1) m ys) := Lib.hid ((Y.out.off HHO.out (by have h9 := HZO.out; omega) 0 _).off (HHO.out.s0 _) (by have h9 := HZO.out; omega) 1 _)
  replace P : Hid (RefB ((wc10.setCell ⟨wc2.heap.size, 0, none⟩ (.string n)).setCell ⟨wc2.heap.size, 1, none⟩ (.slice AS (z.length + 1) cS)) wc4.heap.size n xi) := Lib.hid ((P.out.off HHO.out (by have h9 := HOP.out; omega) 0 _).off (HHO.out.s0 _) (by have h9 := HOP.out; omega) 1 _)
  replace Q : Hid (RefB ((wc10.setCell ⟨wc2.heap.size, 0, none⟩ (.string n)).setCell ⟨wc2.heap.size, 1, none⟩ (.slice AS (z.length + 1) cS)) wc6.heap.size m yi) := Lib.hid ((Q.out.off HHO.out (by have h9 := HOQ.out; omega) 0 _).off (HHO.out.s0 _) (by have h9 := HOQ.out; omega) 1 _)
  replace Z : Hid (BxR ((wc10.setCell ⟨wc2.heap.size, 0, none⟩ (.string n)).setCell ⟨wc2.heap.size, 1, none⟩ (.slice AS (z.length + 1) cS)) (w.heap.size + 1 + 1) (.string ⟨#[]⟩) (.slice none 0 0)) := Lib.hid ((Z.out.kept (Below.heap_setCell _ _ _ _ (by have h9 := HZO.out; dsimp only; omega))).kept (Below.heap_setCell _ _ _ _ (by have h9 := HZO.out; dsimp only; omega)))
  have VO : Hid (RefV ((wc10.setCell ⟨wc2.heap.size, 0, none⟩ (.string n)).setCell ⟨wc2.heap.size, 1, none⟩ (.slice AS (z.length + 1) cS)) ((wc10.setCell ⟨wc2.heap.size, 0, none⟩ (.string n)).setCell ⟨wc2.heap.size, 1, none⟩ (.slice AS (z.length + 1) cS)).heap.size (.agg #[.string n, (.slice AS (z.length + 1) cS)]) n (2 :: z)) := Lib.hid ⟨_, _, rfl, HCS.out, by have h8 := (HIS.out.off HHO.out 0 (.string n)).off (HHO.out.s0 (.string n)) 1 (.slice AS (z.length + 1) cS); simpa using h8⟩
  replace O : Hid (RefB ((wc10.setCell ⟨wc2.heap.size, 0, none⟩ (.string n)).setCell ⟨wc2.heap.size, 1, none⟩ (.slice AS (z.length + 1) cS)) wc2.heap.size n (2 :: z)) := Lib.hid (RefB.put HHO.out HCS.out HIS.out)
  replace B : Hid (Below w.heap.size w ((wc10.setCell ⟨wc2.heap.size, 0, none⟩ (.string n)).setCell ⟨wc2.heap.size, 1, none⟩ (.slice AS (z.length + 1) cS))) := Lib.hid (Below.pair B.out (by have h9 := HZO.out; omega) _ _)
  obtain ⟨AX, cX, hX, hcX, hiX⟩ := X.out
  have qX0 := hX.cells.1
  have qX1 := hX.cells.2
  have HHX := Lib.hid hX
  have HCX := Lib.hid hcX
  have HIX := Lib.hid hiX
  clear hX hcX hiX
  go_wp2_with fail
  generalize ((wc10.setCell ⟨wc2.heap.size, 0, none⟩ (.string n)).setCell ⟨wc2.heap.size, 1, none⟩ (.slice AS (z.length + 1) cS)) = wa11 at *
  have hcall := risnn_any n xs _ _ ⟨AX, cX, rfl, HCX.out, HIX.out⟩
  rw [HNA.out] at hcall
  refine hcall.mono ?_
  clear hcall
  clear qO0 qO1 fO0 fO1 qX0 qX1
  rintro e wc12 ⟨rfl, hb1⟩
  replace X := Lib.hid (X.out.stay hb1)
  replace Y := Lib.hid (Y.out.stay hb1)
  replace O := Lib.hid (O.out.stay hb1)
  replace P := Lib.hid (P.out.stay hb1)
  replace Q := Lib.hid (Q.out.stay hb1)
  replace Z := Lib.hid (Z.out.stay hb1)
  replace B := Lib.hid (B.out.trans (hb1.mono B.out.size))
  clear hb1
  obtain ⟨AY, cY, hY, hcY, hiY⟩ := Y.out
  have qY0 := hY.cells.1
  have qY1 := hY.cells.2
  have HHY := Lib.hid hY
  have HCY := Lib.hid hcY
  have HIY := Lib.hid hiY
  clear hY hcY hiY
  go_wp2_with fail
  have hcall := risnn_any m ys _ _ ⟨AY, cY, rfl, HCY.out, HIY.out⟩
  rw [HNB.out] at hcall
  refine hcall.mono ?_
  clear hcall
  clear qY0 qY1
  rintro e wc13 ⟨rfl, hb1⟩
  replace X := Lib.hid (X.out.stay hb1)
  replace Y := Lib.hid (Y.out.stay hb1)
  replace O := Lib.hid (O.out.stay hb1)
  replace P := Lib.hid (P.out.stay hb1)
  replace Q := Lib.hid (Q.out.stay hb1)
  replace Z := Lib.hid (Z.out.stay hb1)
  replace B := Lib.hid (B.out.trans (hb1.mono B.out.size))
  clear hb1
  obtain ⟨AO, cO, hO, hcO, hiO⟩ := O.out
  have qO0 := hO.cells.1
  have qO1 := hO.cells.2
  have HHO := Lib.hid hO
  have HCO := Lib.hid hcO
  have HIO := Lib.hid hiO
  clear hO hcO hiO
  go_wp2_with fail
  have hcall := rnonnull_any n (2 :: z) _ _ ⟨AO, cO, rfl, HCO.out, HIO.out⟩ (by have := HZS.out; omega)
  generalize hzz : nnL (2 :: z) = zz at hcall
  have HZZ := Lib.hid hzz
  clear hzz
  refine hcall.mono ?_
  clear hcall
  clear qO0 qO1
  rintro e wc14 ⟨⟨u9, rfl, A9, c9, rfl, hc9, hi9⟩, hb1⟩
  replace X := Lib.hid (X.out.stay hb1)
  replace Y := Lib.hid (Y.out.stay hb1)
  replace O := Lib.hid (O.out.stay hb1)
  replace P := Lib.hid (P.out.stay hb1)
  replace Q := Lib.hid (Q.out.stay hb1)
  replace Z := Lib.hid (Z.out.stay hb1)
  replace B := Lib.hid (B.out.trans (hb1.mono B.out.size))
  clear hb1
  have HC9 := Lib.hid hc9
  have HI9 := Lib.hid hi9
  clear hc9 hi9
  obtain ⟨AO, cO, hO, hcO, hiO⟩ := O.out
  have qO0 := hO.cells.1
  have qO1 := hO.cells.2
  have fO0 := hO.frz 0
  have fO1 := hO.frz 1
  have HHO := Lib.hid hO
  have HCO := Lib.hid hcO
  have HIO := Lib.hid hiO
  clear hO hcO hiO
  have z0 := Z.out.cells.1
  have z1 := Z.out.cells.2
  have zf0 := Z.out.frz 0
  have zf1 := Z.out.frz 1
  have hn9 : ¬ w.heap.size + 1 + 1 = wc2.heap.size := by have h9 := HZO.out; omega
  have hn8 : ¬ wc2.heap.size = w.heap.size + 1 + 1 := by have h9 := HZO.out; omega
  go_wp2_with fail
  have hz9 := (Z.out.kept (Below.heap_setCell wc14 ⟨wc2.heap.size, 0, none⟩ (.string n) _ (by have h9 := HZO.out; omega))).kept (Below.heap_setCell (wc14.setCell ⟨wc2.heap.size, 0, none⟩ (.string n)) ⟨wc2.heap.size, 1, none⟩ (.slice A9 zz.length c9) _ (by have h9 := HZO.out; omega))
  have hb9 := Below.pair (b := wc2.heap.size) B.out (by have h9 := HZO.out; omega) (.string n) (.slice A9 zz.length c9)
  have hi9 := (HI9.out.off HHO.out 0 (.string n)).off (HHO.out.s0 (.string n)) 1 (.slice A9 zz.length c9)
  obtain ⟨y1, y2, y3⟩ := ref_end (n := n) hz9 (by omega) hb9 HC9.out (by simpa using hi9)
  obtain ⟨⟨u, e, hu⟩, hbl⟩ := y1
  cases e
  exact bodyPost_ret (by simp [results, Tryz.results31, go_sem, y2, y3]) rfl (opt_some (by rw [HWE.out, HZZ.out]) hu hbl)
theorem rweaken_core (n m : ByteArray) (xs ys : Ws) (v u : Value) (w : World) (hx : RefV w w.heap.size v n xs) (hy : RefV w w.heap.size u m ys) (hl : xs.length ≤ 100) (hl2 : ys.length ≤ 100) (ha : rtF false xs = true) (hb : rtF false ys = true)
    (IH : ∀ (xi yi : Ws) (v u : Value) (w : World), xi.length < xs.length → rtF false xi = true → rtF false yi = true → xi.length ≤ 100 → yi.length ≤ 100 → RefV w w.heap.size v n xi → RefV w w.heap.size u m yi → Calls Tryz.prog 31 #[v, u] w (OptPost n (wkO n m xi yi) w)) :
    Calls Tryz.prog 31 #[v, u] w (OptPost n (wkO n m xs ys) w) := by
  cases hsh : decide (n = m ∧ strL xs = strL ys) with
  | false => rw [show wkO n m xs ys = none by unfold wkO; rw [hsh]; rfl]; exact rweaken_f n m xs ys v u w hx hy hl hl2 hsh
  | true =>
    have hs := of_decide_eq_true hsh
    rw [show wkO n m xs ys = some (weL xs ys) by unfold wkO; rw [hsh]; rfl]
    rcases we_step ha hb hs.2 with ⟨x, y, h1, h2, h3, h4, _⟩ | ⟨h1, h2, h4, _⟩
    · have hz : wkO n m x y = some (weL x y) := by unfold wkO; rw [if_pos (decide_eq_true ⟨hs.1, h3⟩)]
      have l1 := in_len h1
      have l2 := in_len h2
      have l3 := we_len (in_rt ha h1) h3
      have ih := fun (v u : Value) (w : World) (hv : RefV w w.heap.size v n x) (hu : RefV w w.heap.size u m y) => IH x y v u w l1 (in_rt ha h1) (in_rt hb h2) (by omega) (by omega) hv hu
      cases hna : nnB xs with
      | false => exact rweaken_sff n m xs ys v u w hx hy hl hl2 hsh hna x y (weL x y) h1 h2 hz (by omega) ih (by rw [h4, hna]; simp)
      | true =>
        cases hnb : nnB ys with
        | false => exact rweaken_stf n m xs ys v u w hx hy hl hl2 hsh hna hnb x y (weL x y) h1 h2 hz (by omega) ih (by rw [h4, hna, hnb]; simp)
        | true => exact rweaken_stt n m xs ys v u w hx hy hl hl2 hsh hna hnb x y (weL x y) h1 h2 hz (by omega) ih (by rw [h4, hna, hnb]; simp)
    · cases hna : nnB xs with
      | false => exact rweaken_nff n m xs ys v u w hx hy hl hl2 hsh hna h1 h2 (by rw [h4, hna]; simp)
      | true =>
        cases hnb : nnB ys with
        | false => exact rweaken_ntf n m xs ys v u w hx hy hl hl2 hsh hna hnb h1 h2 (by rw [h4, hna, hnb]; simp)
        | true => exact rweaken_ntt n m xs ys v u w hx hy hl hl2 hsh hna hnb h1 h2 (by rw [h4, hna, hnb]; simp)
theorem rweaken_all : ∀ (N : Nat) (n m : ByteArray) (xs ys : Ws) (v u : Value) (w : World), RefV w w.heap.size v n xs → RefV w w.heap.size u m ys → xs.length ≤ 100 → ys.length ≤ 100 → xs.length ≤ N → rtF false xs = true → rtF false ys = true → Calls Tryz.prog 31 #[v, u] w (OptPost n (wkO n m xs ys) w)
  | 0, n, m, xs, ys, v, u, w, hx, hy, hl, hl2, h0, ha, hb => rweaken_core n m xs ys v u w hx hy hl hl2 ha hb (fun xi yi _ _ _ hlt _ _ _ _ _ _ => by omega)
  | N + 1, n, m, xs, ys, v, u, w, hx, hy, hl, hl2, h0, ha, hb => rweaken_core n m xs ys v u w hx hy hl hl2 ha hb (fun xi yi v u w hlt h1 h2 h3 h4 h5 h6 => rweaken_all N n m xi yi v u w h5 h6 h3 h4 (by omega) h1 h2)
theorem rweaken_any (n m : ByteArray) (xs ys : Ws) (v u : Value) (w : World) (hx : RefV w w.heap.size v n xs) (hy : RefV w w.heap.size u m ys) (hl : xs.length ≤ 100) (hl2 : ys.length ≤ 100) (ha : rtF false xs = true) (hb : rtF false ys = true) : Calls Tryz.prog 31 #[v, u] w (OptPost n (wkO n m xs ys) w) :=
  rweaken_all xs.length n m xs ys v u w hx hy hl hl2 (Nat.le_refl _) ha hb
end Go.Proofs.YtgicbmibhnnflaaGreatDoor
