
/-
  The law of Parse.
-/
import Derived.Test.YtgicbmibhnnflaaGreatDoorZC
namespace Go.Proofs.YtgicbmibhnnflaaGreatDoor
open Go.RowKit
set_option maxRecDepth 100000 in
set_option maxHeartbeats 2000000 in
theorem lawParse_any (s : ByteArray) (w : World) (hL : LK w) (hs : s.size ≤ 281474976710656) : Calls Tryz.prog 6 #[.string s] w (BoolPost true w) := by
  have HLK := Lib.hid hL
  have HS := Lib.hid hs
  have B := Lib.hid (Below.refl w.heap.size w)
  clear hL
  by_cases hz : 2000 < s.size ∧ s.size ≤ 65536
  · obtain ⟨h1, h2⟩ := hz
    have h1' : ((s.size : Int) > 2000) := by omega
    have h2' : ((s.size : Int) ≤ 65536) := by omega
    clear h1 h2 hs
    go_enter Tryz.func6, Tryz.ntmps6
    go_wp2_with fail
    refine (knows_any _ (HLK.out.below B.out)).mono ?_
    rintro e wk9 ⟨rfl, hb1⟩
    have HBK := Lib.hid (B.out.trans (hb1.mono B.out.size))
    clear hb1
    go_wp2_with fail
    exact bodyPost_ret (v := .bool true) (by simp [results, Tryz.results6, go_sem]) rfl ⟨rfl, HBK.out⟩
  · have hcase : ¬ s.size > 2000 ∨ (s.size > 2000 ∧ ¬ s.size ≤ 65536) := by omega
    clear hz
    have hmain : ∀ (h : (¬ (s.size : Int) > 2000) ∨ ((s.size : Int) > 2000 ∧ ¬ (s.size : Int) ≤ 65536)), Calls Tryz.prog 6 #[.string s] w (BoolPost true w) := by
      intro h
      clear hs hcase
      rcases h with h1 | ⟨h1, h2⟩
      · skip
        go_enter Tryz.func6, Tryz.ntmps6
        go_wp2_with fail
        have hp1 := tparse_any s w HLK.out
        have hp2 := fun w' => rparse_any s w'
        generalize paL s.data.toList = R at hp1 hp2
        have HP2 := Lib.hid hp2
        clear hp2
        refine hp1.mono ?_
        clear hp1
        rintro e w1 hpost
        obtain ⟨⟨u, rfl, AX, cX, rfl, hcX, hiX⟩, hwl, hb1⟩ := hpost.ref
        have HCX := Lib.hid hcX
        have HIX := Lib.hid hiX
        have HWL := Lib.hid hwl
        replace B := Lib.hid (B.out.trans (hb1.mono B.out.size))
        clear hpost hcX hiX hwl hb1
        have hbA := (Below.refl w1.heap.size w1).alloc (Nat.le_refl _) (.cells #[.string (paN R), .slice AX (paW R).length cX] 24 (0, 0))
        have BX : Hid (RefB (w1.alloc (.cells #[.string (paN R), .slice AX (paW R).length cX] 24 (0, 0))) w1.heap.size (paN R) (paW R)) := Lib.hid ⟨_, _, BxR.new w1 _ _, HCX.out, HIX.out.stay hbA⟩
        have VBX : Hid (RefV (w1.alloc (.cells #[.string (paN R), .slice AX (paW R).length cX] 24 (0, 0))) (w1.alloc (.cells #[.string (paN R), .slice AX (paW R).length cX] 24 (0, 0))).heap.size (.agg #[.string (paN R), .slice AX (paW R).length cX]) (paN R) (paW R)) := Lib.hid ⟨_, _, rfl, HCX.out, HIX.out.stay hbA⟩
        replace B := Lib.hid (B.out.trans (hbA.mono B.out.size))
        clear hbA
        have hltBX : Hid (w1.heap.size < (w1.alloc (.cells #[.string (paN R), .slice AX (paW R).length cX] 24 (0, 0))).heap.size) := Lib.hid (by simp)
        go_wp2_with fail
        generalize (w1.alloc (.cells #[.string (paN R), .slice AX (paW R).length cX] 24 (0, 0))) = wa1 at *
        refine (HP2.out _).mono ?_
        rintro e w2 hpost
        obtain ⟨⟨u, rfl, AY, cY, rfl, hcY, hiY⟩, _, hb1⟩ := hpost.ref
        have HCY := Lib.hid hcY
        have HIY := Lib.hid hiY
        replace BX := Lib.hid (BX.out.stay hb1)
        replace B := Lib.hid (B.out.trans (hb1.mono B.out.size))
        clear hpost hcY hiY hb1
        have hbA := (Below.refl w2.heap.size w2).alloc (Nat.le_refl _) (.cells #[.string (paN R), .slice AY (paW R).length cY] 24 (0, 0))
        have BY : Hid (RefB (w2.alloc (.cells #[.string (paN R), .slice AY (paW R).length cY] 24 (0, 0))) w2.heap.size (paN R) (paW R)) := Lib.hid ⟨_, _, BxR.new w2 _ _, HCY.out, HIY.out.stay hbA⟩
        have VBY : Hid (RefV (w2.alloc (.cells #[.string (paN R), .slice AY (paW R).length cY] 24 (0, 0))) (w2.alloc (.cells #[.string (paN R), .slice AY (paW R).length cY] 24 (0, 0))).heap.size (.agg #[.string (paN R), .slice AY (paW R).length cY]) (paN R) (paW R)) := Lib.hid ⟨_, _, rfl, HCY.out, HIY.out.stay hbA⟩
        replace BX := Lib.hid (BX.out.stay hbA)
        replace B := Lib.hid (B.out.trans (hbA.mono B.out.size))
        clear hbA
        have hltBY : Hid (w2.heap.size < (w2.alloc (.cells #[.string (paN R), .slice AY (paW R).length cY] 24 (0, 0))).heap.size) := Lib.hid (by simp)
        obtain ⟨ABX, cBX, hBX, hcBX, hiBX⟩ := BX.out
        have qBX0 := hBX.cells.1
        have qBX1 := hBX.cells.2
        have HHBX := Lib.hid hBX
        have HCBX := Lib.hid hcBX
        have HIBX := Lib.hid hiBX
        clear hBX hcBX hiBX
        go_wp2_with fail
        generalize (w2.alloc (.cells #[.string (paN R), .slice AY (paW R).length cY] 24 (0, 0))) = wa2 at *
        have hcall := rsame_eq (paN R) (paW R) _ _ _ ⟨ABX, cBX, rfl, HCBX.out, HIBX.out⟩ VBY.out (by have := HWL.out; omega)
        refine hcall.mono ?_
        clear hcall
        clear qBX0 qBX1
        rintro e wc3 ⟨rfl, hb1⟩
        replace BX := Lib.hid (BX.out.stay hb1)
        replace BY := Lib.hid (BY.out.stay hb1)
        replace B := Lib.hid (B.out.trans (hb1.mono B.out.size))
        clear hb1
        go_wp2_with fail
        refine (knows_any _ (HLK.out.below B.out)).mono ?_
        rintro e wk9 ⟨rfl, hb1⟩
        have HBK := Lib.hid (B.out.trans (hb1.mono B.out.size))
        clear hb1
        go_wp2_with fail
        exact bodyPost_ret (v := .bool true) (by simp [results, Tryz.results6, go_sem]) rfl ⟨rfl, HBK.out⟩
      · skip
        go_enter Tryz.func6, Tryz.ntmps6
        go_wp2_with fail
        have hp1 := tparse_any s w HLK.out
        have hp2 := fun w' => rparse_any s w'
        generalize paL s.data.toList = R at hp1 hp2
        have HP2 := Lib.hid hp2
        clear hp2
        refine hp1.mono ?_
        clear hp1
        rintro e w1 hpost
        obtain ⟨⟨u, rfl, AX, cX, rfl, hcX, hiX⟩, hwl, hb1⟩ := hpost.ref
        have HCX := Lib.hid hcX
        have HIX := Lib.hid hiX
        have HWL := Lib.hid hwl
        replace B := Lib.hid (B.out.trans (hb1.mono B.out.size))
        clear hpost hcX hiX hwl hb1
        have hbA := (Below.refl w1.heap.size w1).alloc (Nat.le_refl _) (.cells #[.string (paN R), .slice AX (paW R).length cX] 24 (0, 0))
        have BX : Hid (RefB (w1.alloc (.cells #[.string (paN R), .slice AX (paW R).length cX] 24 (0, 0))) w1.heap.size (paN R) (paW R)) := Lib.hid ⟨_, _, BxR.new w1 _ _, HCX.out, HIX.out.stay hbA⟩
        have VBX : Hid (RefV (w1.alloc (.cells #[.string (paN R), .slice AX (paW R).length cX] 24 (0, 0))) (w1.alloc (.cells #[.string (paN R), .slice AX (paW R).length cX] 24 (0, 0))).heap.size (.agg #[.string (paN R), .slice AX (paW R).length cX]) (paN R) (paW R)) := Lib.hid ⟨_, _, rfl, HCX.out, HIX.out.stay hbA⟩
        replace B := Lib.hid (B.out.trans (hbA.mono B.out.size))
        clear hbA
        have hltBX : Hid (w1.heap.size < (w1.alloc (.cells #[.string (paN R), .slice AX (paW R).length cX] 24 (0, 0))).heap.size) := Lib.hid (by simp)
        go_wp2_with fail
        generalize (w1.alloc (.cells #[.string (paN R), .slice AX (paW R).length cX] 24 (0, 0))) = wa1 at *
        refine (HP2.out _).mono ?_
        rintro e w2 hpost
        obtain ⟨⟨u, rfl, AY, cY, rfl, hcY, hiY⟩, _, hb1⟩ := hpost.ref
        have HCY := Lib.hid hcY
        have HIY := Lib.hid hiY
        replace BX := Lib.hid (BX.out.stay hb1)
        replace B := Lib.hid (B.out.trans (hb1.mono B.out.size))
        clear hpost hcY hiY hb1
        have hbA := (Below.refl w2.heap.size w2).alloc (Nat.le_refl _) (.cells #[.string (paN R), .slice AY (paW R).length cY] 24 (0, 0))
        have BY : Hid (RefB (w2.alloc (.cells #[.string (paN R), .slice AY (paW R).length cY] 24 (0, 0))) w2.heap.size (paN R) (paW R)) := Lib.hid ⟨_, _, BxR.new w2 _ _, HCY.out, HIY.out.stay hbA⟩
        have VBY : Hid (RefV (w2.alloc (.cells #[.string (paN R), .slice AY (paW R).length cY] 24 (0, 0))) (w2.alloc (.cells #[.string (paN R), .slice AY (paW R).length cY] 24 (0, 0))).heap.size (.agg #[.string (paN R), .slice AY (paW R).length cY]) (paN R) (paW R)) := Lib.hid ⟨_, _, rfl, HCY.out, HIY.out.stay hbA⟩
        replace BX := Lib.hid (BX.out.stay hbA)
        replace B := Lib.hid (B.out.trans (hbA.mono B.out.size))
        clear hbA
        have hltBY : Hid (w2.heap.size < (w2.alloc (.cells #[.string (paN R), .slice AY (paW R).length cY] 24 (0, 0))).heap.size) := Lib.hid (by simp)
        obtain ⟨ABX, cBX, hBX, hcBX, hiBX⟩ := BX.out
        have qBX0 := hBX.cells.1
        have qBX1 := hBX.cells.2
        have HHBX := Lib.hid hBX
        have HCBX := Lib.hid hcBX
        have HIBX := Lib.hid hiBX
        clear hBX hcBX hiBX
        go_wp2_with fail
        generalize (w2.alloc (.cells #[.string (paN R), .slice AY (paW R).length cY] 24 (0, 0))) = wa2 at *
        have hcall := rsame_eq (paN R) (paW R) _ _ _ ⟨ABX, cBX, rfl, HCBX.out, HIBX.out⟩ VBY.out (by have := HWL.out; omega)
        refine hcall.mono ?_
        clear hcall
        clear qBX0 qBX1
        rintro e wc3 ⟨rfl, hb1⟩
        replace BX := Lib.hid (BX.out.stay hb1)
        replace BY := Lib.hid (BY.out.stay hb1)
        replace B := Lib.hid (B.out.trans (hb1.mono B.out.size))
        clear hb1
        go_wp2_with fail
        refine (knows_any _ (HLK.out.below B.out)).mono ?_
        rintro e wk9 ⟨rfl, hb1⟩
        have HBK := Lib.hid (B.out.trans (hb1.mono B.out.size))
        clear hb1
        go_wp2_with fail
        exact bodyPost_ret (v := .bool true) (by simp [results, Tryz.results6, go_sem]) rfl ⟨rfl, HBK.out⟩
    exact hmain (by omega)
end Go.Proofs.YtgicbmibhnnflaaGreatDoor
