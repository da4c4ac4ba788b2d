
/-
  The law of printing and parsing.
-/
import Derived.Test.YtgicbmibhnnflaaGreatDoorZC
namespace Go.Proofs.YtgicbmibhnnflaaGreatDoor
open Go.RowKit
theorem ok_name {n : ByteArray} {xs : Ws} (h : okB n xs = true) : n.size ≤ 64 := by
  have h1 := (ok_len h).1
  unfold T1.nameL at h1
  simp at h1
  have h2 := h1.1.1.2
  have h3 := T1.size_eq n
  simp at h3
  omega
set_option maxRecDepth 100000 in
set_option maxHeartbeats 2000000 in
theorem lawRound_any (n : ByteArray) (xs : Ws) (v : Value) (w : World) (h : RefV w w.heap.size v n xs) (hL : LK w) (hn : n.size ≤ maxLen) : Calls Tryz.prog 7 #[v] w (BoolPost true w) := by
  have HLK := Lib.hid hL
  have HN := Lib.hid hn
  obtain ⟨A, c, rfl, hc, hi⟩ := h
  have hb0 := (Below.refl w.heap.size w).alloc (Nat.le_refl _) (.cells #[.string n, .slice A xs.length c] 24 (0, 0))
  have B := Lib.hid hb0
  have BT : Hid (RefB (w.alloc (.cells #[.string n, .slice A xs.length c] 24 (0, 0))) w.heap.size n xs) := Lib.hid ⟨A, c, BxR.new w _ _, hc, hi.stay hb0⟩
  have VT : Hid (RefV (w.alloc (.cells #[.string n, .slice A xs.length c] 24 (0, 0))) (w.alloc (.cells #[.string n, .slice A xs.length c] 24 (0, 0))).heap.size (.agg #[.string n, .slice A xs.length c]) n xs) := Lib.hid ⟨A, c, rfl, hc, hi.stay hb0⟩
  clear hL hn hc hi hb0
  go_enter Tryz.func7, Tryz.ntmps7
  go_wp2_with fail
  generalize (w.alloc (.cells #[.string n, .slice A xs.length c] 24 (0, 0))) = W0 at *
  have hcall := rright_any n xs _ _ VT.out HN.out
  cases hok : okB n xs with
  | false =>
    rw [hok] at hcall
    have HOK := Lib.hid hok
    clear hok
    refine hcall.mono ?_
    clear hcall VT
    rintro e w1 ⟨rfl, hb1⟩
    replace BT := Lib.hid (BT.out.stay hb1)
    replace B := Lib.hid (B.out.trans (hb1.mono B.out.size))
    clear hb1
    go_wp2_with fail
    refine (knows_any _ (HLK.out.below B.out)).mono ?_
    rintro e wk9 ⟨rfl, hb1⟩
    have HBK := Lib.hid (B.out.trans (hb1.mono B.out.size))
    clear hb1
    go_wp2_with fail
    exact bodyPost_ret (v := .bool true) (by simp [results, Tryz.results7, go_sem]) rfl ⟨rfl, HBK.out⟩
  | true =>
    rw [hok] at hcall
    have HOK := Lib.hid hok
    clear hok
    refine hcall.mono ?_
    clear hcall VT
    rintro e w1 ⟨rfl, hb1⟩
    replace BT := Lib.hid (BT.out.stay hb1)
    replace B := Lib.hid (B.out.trans (hb1.mono B.out.size))
    clear hb1
    have hpa := pa_pr (n := n.data.toList) (ws := xs) (ok_len HOK.out).1 (ok_len HOK.out).2.2 (ok_len HOK.out).2.1 (by have h3 := pr_len n.data.toList xs; have h4 := ok_name HOK.out; have h5 := (ok_len HOK.out).2.1; rw [T1.size_eq] at h3; omega)
    have HPA := Lib.hid hpa
    have HSZ := Lib.hid (ok_name HOK.out)
    have HXL := Lib.hid (ok_len HOK.out).2.1
    clear hpa
    obtain ⟨ABT, cBT, hBT, hcBT, hiBT⟩ := BT.out
    have qBT0 := hBT.cells.1
    have qBT1 := hBT.cells.2
    have HHBT := Lib.hid hBT
    have HCBT := Lib.hid hcBT
    have HIBT := Lib.hid hiBT
    clear hBT hcBT hiBT
    go_wp2_with fail
    have hp1 := tprint_any n xs _ _ ⟨ABT, cBT, rfl, HCBT.out, HIBT.out⟩ (by have := HSZ.out; omega) (by have := HXL.out; omega)
    have hp2 := fun (v : Value) (w' : World) (hv : RefV w' w'.heap.size v n xs) => rprint_any n (by have := HSZ.out; omega) xs v w' (by have := HXL.out; omega) hv
    have HP2 := Lib.hid hp2
    have hp3 := fun (w' : World) (hk : LK w') => tparse_any ⟨(prL n.data.toList xs).toArray⟩ w' hk
    rw [show ((⟨(prL n.data.toList xs).toArray⟩ : ByteArray).data.toList) = prL n.data.toList xs by simp, HPA.out] at hp3
    have HP3 := Lib.hid hp3
    clear hp2 hp3
    unfold StrPost at HP2
    generalize (⟨(prL n.data.toList xs).toArray⟩ : ByteArray) = out at *
    refine hp1.mono ?_
    clear hp1
    clear qBT0 qBT1
    rintro e w2 ⟨rfl, hb1⟩
    replace BT := Lib.hid (BT.out.stay hb1)
    replace B := Lib.hid (B.out.trans (hb1.mono B.out.size))
    clear hb1
    go_wp2_with fail
    refine (HP3.out _ (HLK.out.below B.out)).mono ?_
    rintro e w3 ⟨⟨⟨u, rfl, AX, cX, rfl, hcX, hiX⟩, _⟩, hb1⟩
    have HCX := Lib.hid hcX
    have HIX := Lib.hid hiX
    replace BT := Lib.hid (BT.out.stay hb1)
    replace B := Lib.hid (B.out.trans (hb1.mono B.out.size))
    clear hb1 hcX hiX
    have hbA := (Below.refl w3.heap.size w3).alloc (Nat.le_refl _) (.cells #[.string ⟨n.data.toList.toArray⟩, .slice AX xs.length cX] 24 (0, 0))
    have BX : Hid (RefB (w3.alloc (.cells #[.string ⟨n.data.toList.toArray⟩, .slice AX xs.length cX] 24 (0, 0))) w3.heap.size ⟨n.data.toList.toArray⟩ xs) := Lib.hid ⟨_, _, BxR.new w3 _ _, HCX.out, HIX.out.stay hbA⟩
    have VBX : Hid (RefV (w3.alloc (.cells #[.string ⟨n.data.toList.toArray⟩, .slice AX xs.length cX] 24 (0, 0))) (w3.alloc (.cells #[.string ⟨n.data.toList.toArray⟩, .slice AX xs.length cX] 24 (0, 0))).heap.size (.agg #[.string ⟨n.data.toList.toArray⟩, .slice AX xs.length cX]) ⟨n.data.toList.toArray⟩ xs) := Lib.hid ⟨_, _, rfl, HCX.out, HIX.out.stay hbA⟩
    replace BT := Lib.hid (BT.out.stay hbA)
    replace B := Lib.hid (B.out.trans (hbA.mono B.out.size))
    clear hbA
    have hltBX : Hid (w3.heap.size < (w3.alloc (.cells #[.string ⟨n.data.toList.toArray⟩, .slice AX xs.length cX] 24 (0, 0))).heap.size) := Lib.hid (by simp)
    obtain ⟨ABT, cBT, hBT, hcBT, hiBT⟩ := BT.out
    have qBT0 := hBT.cells.1
    have qBT1 := hBT.cells.2
    have HHBT := Lib.hid hBT
    have HCBT := Lib.hid hcBT
    have HIBT := Lib.hid hiBT
    clear hBT hcBT hiBT
    go_wp2_with fail
    generalize (w3.alloc (.cells #[.string ⟨n.data.toList.toArray⟩, .slice AX xs.length cX] 24 (0, 0))) = wa1 at *
    refine (HP2.out _ _ ⟨ABT, cBT, rfl, HCBT.out, HIBT.out⟩).mono ?_
    clear qBT0 qBT1
    rintro e w4 ⟨rfl, hb1⟩
    replace BT := Lib.hid (BT.out.stay hb1)
    replace BX := Lib.hid (BX.out.stay hb1)
    replace B := Lib.hid (B.out.trans (hb1.mono B.out.size))
    clear hb1
    obtain ⟨ABX, cBX, hBX, hcBX, hiBX⟩ := BX.out
    have qBX0 := hBX.cells.1
    have qBX1 := hBX.cells.2
    have HHBX := Lib.hid hBX
    have HCBX := Lib.hid hcBX
    have HIBX := Lib.hid hiBX
    clear hBX hcBX hiBX
    obtain ⟨ABT, cBT, hBT, hcBT, hiBT⟩ := BT.out
    have qBT0 := hBT.cells.1
    have qBT1 := hBT.cells.2
    have HHBT := Lib.hid hBT
    have HCBT := Lib.hid hcBT
    have HIBT := Lib.hid hiBT
    clear hBT hcBT hiBT
    go_wp2_with fail
    have hse := rsame_eq n xs _ _ _ (show RefV _ _ (.agg #[.string ⟨n.data.toList.toArray⟩, .slice ABX xs.length cBX]) n xs from ⟨ABX, cBX, by simp, HCBX.out, HIBX.out⟩) ⟨ABT, cBT, rfl, HCBT.out, HIBT.out⟩ (by have := HXL.out; omega)
    refine hse.mono ?_
    clear hse
    clear qBX0 qBX1 qBT0 qBT1
    rintro e w5 ⟨rfl, hb1⟩
    replace BT := Lib.hid (BT.out.stay hb1)
    replace BX := Lib.hid (BX.out.stay hb1)
    replace B := Lib.hid (B.out.trans (hb1.mono B.out.size))
    clear hb1
    go_wp2_with fail
    refine (knows_any _ (HLK.out.below B.out)).mono ?_
    rintro e wk9 ⟨rfl, hb1⟩
    have HBK := Lib.hid (B.out.trans (hb1.mono B.out.size))
    clear hb1
    go_wp2_with fail
    exact bodyPost_ret (v := .bool true) (by simp [results, Tryz.results7, go_sem]) rfl ⟨rfl, HBK.out⟩
end Go.Proofs.YtgicbmibhnnflaaGreatDoor
