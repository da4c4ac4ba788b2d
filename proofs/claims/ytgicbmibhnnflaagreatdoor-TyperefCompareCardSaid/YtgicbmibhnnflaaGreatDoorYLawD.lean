
/-
  The law of comparing.
-/
import Derived.Test.YtgicbmibhnnflaaGreatDoorYLawC
namespace Go.Proofs.YtgicbmibhnnflaaGreatDoor
open Go.RowKit
set_option maxRecDepth 100000 in
set_option maxHeartbeats 2000000 in
theorem lawCompare_any (n m : ByteArray) (xs ys : Ws) (v u : Value) (w : World) (hx : RefV w w.heap.size v n xs) (hy : RefV w w.heap.size u m ys) (hL : LK w) (hn : n.size ≤ maxLen) (hm : m.size ≤ maxLen) : Calls Tryz.prog 4 #[v, u] w (BoolPost true w) := by
  have HLK := Lib.hid hL
  have HN := Lib.hid hn
  have HM := Lib.hid hm
  obtain ⟨A, c, rfl, hc, hi⟩ := hx
  obtain ⟨B0, d, rfl, hd, hj⟩ := hy
  obtain ⟨x1, x2, x3, x5⟩ := BxR.both w (.string n) (.slice A xs.length c) (.string m) (.slice B0 ys.length d)
  have X : Hid (RefB ((w.alloc (.cells #[.string n, .slice A xs.length c] 24 (0, 0))).alloc (.cells #[.string m, .slice B0 ys.length d] 24 (0, 0))) w.heap.size n xs) := Lib.hid ⟨A, c, x1, hc, hi.stay x3⟩
  have Y : Hid (RefB ((w.alloc (.cells #[.string n, .slice A xs.length c] 24 (0, 0))).alloc (.cells #[.string m, .slice B0 ys.length d] 24 (0, 0))) (w.heap.size + 1) m ys) := Lib.hid ⟨B0, d, x2, hd, hj.stay x3⟩
  have B := Lib.hid x3
  have V0 : Hid (RefV ((w.alloc (.cells #[.string n, .slice A xs.length c] 24 (0, 0))).alloc (.cells #[.string m, .slice B0 ys.length d] 24 (0, 0))) ((w.alloc (.cells #[.string n, .slice A xs.length c] 24 (0, 0))).alloc (.cells #[.string m, .slice B0 ys.length d] 24 (0, 0))).heap.size (.agg #[.string n, .slice A xs.length c]) n xs) := Lib.hid ⟨A, c, rfl, hc, hi.stay x3⟩
  clear hc hd hi hj x1 x2 x3 x5 hL hn hm
  go_enter Tryz.func4, Tryz.ntmps4
  go_wp2_with fail
  generalize ((w.alloc (.cells #[.string n, .slice A xs.length c] 24 (0, 0))).alloc (.cells #[.string m, .slice B0 ys.length d] 24 (0, 0))) = W0 at *
  have hcall := few_any n xs _ _ V0.out
  cases hf : decide (xs.length ≤ 200) with
  | false =>
      replace hcall := hcall _ hf
      have HF := Lib.hid hf
      clear hf
      refine hcall.mono ?_
      clear hcall V0
      rintro e w1 ⟨rfl, hb1⟩
      replace X := Lib.hid (X.out.stay hb1)
      replace Y := Lib.hid (Y.out.stay hb1)
      replace B := Lib.hid (B.out.trans (hb1.mono B.out.size))
      clear hb1
      go_wp2_with fail
      refine (knows_any _ (HLK.out.below B.out)).mono ?_
      rintro e wk9 ⟨rfl, hb1⟩
      have HBK := Lib.hid (B.out.trans (hb1.mono B.out.size))
      clear hb1
      go_wp2_with fail
      exact bodyPost_ret (v := .bool true) (by simp [results, Tryz.results4, go_sem]) rfl ⟨rfl, HBK.out⟩
  | true =>
      replace hcall := hcall _ hf
      have HF := Lib.hid hf
      clear hf
      refine hcall.mono ?_
      clear hcall V0
      rintro e w1 ⟨rfl, hb1⟩
      replace X := Lib.hid (X.out.stay hb1)
      replace Y := Lib.hid (Y.out.stay hb1)
      replace B := Lib.hid (B.out.trans (hb1.mono B.out.size))
      clear hb1
      obtain ⟨AY, cY, hY, hcY, hiY⟩ := Y.out
      have qY0 := hY.cells.1
      have qY1 := hY.cells.2
      have HHY := Lib.hid hY
      have HCY := Lib.hid hcY
      have HIY := Lib.hid hiY
      clear hY hcY hiY
      go_wp2_with fail
      have hcall := few_any m ys _ _ ⟨AY, cY, rfl, HCY.out, HIY.out⟩
      cases hg : decide (ys.length ≤ 200) with
      | false =>
          replace hcall := hcall _ hg
          have HG := Lib.hid hg
          clear hg
          refine hcall.mono ?_
          clear hcall
          clear qY0 qY1
          rintro e w2 ⟨rfl, hb1⟩
          replace X := Lib.hid (X.out.stay hb1)
          replace Y := Lib.hid (Y.out.stay hb1)
          replace B := Lib.hid (B.out.trans (hb1.mono B.out.size))
          clear hb1
          go_wp2_with fail
          refine (knows_any _ (HLK.out.below B.out)).mono ?_
          rintro e wk9 ⟨rfl, hb1⟩
          have HBK := Lib.hid (B.out.trans (hb1.mono B.out.size))
          clear hb1
          go_wp2_with fail
          exact bodyPost_ret (v := .bool true) (by simp [results, Tryz.results4, go_sem]) rfl ⟨rfl, HBK.out⟩
      | true =>
          replace hcall := hcall _ hg
          have HG := Lib.hid hg
          clear hg
          refine hcall.mono ?_
          clear hcall
          clear qY0 qY1
          rintro e w2 ⟨rfl, hb1⟩
          replace X := Lib.hid (X.out.stay hb1)
          replace Y := Lib.hid (Y.out.stay hb1)
          replace B := Lib.hid (B.out.trans (hb1.mono B.out.size))
          clear hb1
          have HX := Lib.hid (of_decide_eq_true HF.out)
          have HY := Lib.hid (of_decide_eq_true HG.out)
          clear HF HG
          go_wp2_with fail
          refine wp_region_list (by kernel_rfl) (by kernel_rfl) (by kernel_rfl) [Fact.ref n xs, Fact.ref m ys, Fact.is (.bool (decide (n = m ∧ xs = ys))), Fact.ref n xs, Fact.ref m ys, Fact.is (.bool (decide (n = m ∧ xs = ys))), Fact.is (.bool false), Fact.is (.bool false), Fact.ref n xs, Fact.ref m ys, Fact.is (.bool (decide (n = m ∧ strL xs = strL ys))), Fact.ref n xs, Fact.ref m ys, Fact.is (.bool (decide (n = m ∧ strL xs = strL ys))), Fact.is (.bool false), Fact.is (.bool false)] ?_ ?_
          · intro i o ho a wn hf hbl had
            have hi : i < 16 := (Array.getElem?_eq_some_iff.1 ho).1
            have hc : i = 0 ∨ i = 1 ∨ i = 2 ∨ i = 3 ∨ i = 4 ∨ i = 5 ∨ i = 6 ∨ i = 7 ∨ i = 8 ∨ i = 9 ∨ i = 10 ∨ i = 11 ∨ i = 12 ∨ i = 13 ∨ i = 14 ∨ i = 15 := by omega
            rcases hc with rfl | rfl | rfl | rfl | rfl | rfl | rfl | rfl | rfl | rfl | rfl | rfl | rfl | rfl | rfl | rfl
            · cases ho
              have h0 : a.tmps.getD 2 undef = .pointer (some ⟨w.heap.size, 0, none⟩) := hf.slot 2 (by kernel_rfl)
              left
              exact rk_ldR rfl (.tmp 2) rfl h0 (X.out.stay hbl) fun u hu => ⟨Below.refl _ _, hu⟩
            · cases ho
              have h0 : a.tmps.getD 3 undef = .pointer (some ⟨(w.heap.size + 1), 0, none⟩) := hf.slot 3 (by kernel_rfl)
              left
              exact rk_ldR rfl (.tmp 3) rfl h0 (Y.out.stay hbl) fun u hu => ⟨Below.refl _ _, hu⟩
            · cases ho
              have h0 : RefV wn wn.heap.size (vof _ a 0) n xs := had ⟨0, .data⟩ (by simp) rfl (by decide)
              have h1 : RefV wn wn.heap.size (vof _ a 1) m ys := had ⟨1, .data⟩ (by simp) rfl (by decide)
              left
              exact rk_call2 rfl rfl en_27 rfl rfl ((tsame2_any n m xs ys _ _ wn h0 h1 (by have := HX.out; omega)).mono fun e w1 ⟨he, hb1⟩ => ⟨_, he, hb1, rfl⟩)
            · cases ho
              have h0 : a.tmps.getD 2 undef = .pointer (some ⟨w.heap.size, 0, none⟩) := hf.slot 2 (by kernel_rfl)
              left
              exact rk_ldR rfl (.tmp 2) rfl h0 (X.out.stay hbl) fun u hu => ⟨Below.refl _ _, hu⟩
            · cases ho
              have h0 : a.tmps.getD 3 undef = .pointer (some ⟨(w.heap.size + 1), 0, none⟩) := hf.slot 3 (by kernel_rfl)
              left
              exact rk_ldR rfl (.tmp 3) rfl h0 (Y.out.stay hbl) fun u hu => ⟨Below.refl _ _, hu⟩
            · cases ho
              have h0 : RefV wn wn.heap.size (vof _ a 3) n xs := had ⟨3, .data⟩ (by simp) rfl (by decide)
              have h1 : RefV wn wn.heap.size (vof _ a 4) m ys := had ⟨4, .data⟩ (by simp) rfl (by decide)
              left
              exact rk_call2 rfl rfl en_12 rfl rfl ((rsame2_any n m xs ys _ _ wn h0 h1 (by have := HX.out; omega)).mono fun e w1 ⟨he, hb1⟩ => ⟨_, he, hb1, rfl⟩)
            · cases ho
              have h0 : vof _ a 2 = .bool (decide (n = m ∧ xs = ys)) := had ⟨2, .data⟩ (by simp) rfl (by decide)
              have h1 : vof _ a 5 = .bool (decide (n = m ∧ xs = ys)) := had ⟨5, .data⟩ (by simp) rfl (by decide)
              left
              exact rk_neqB rfl (.tmp 20) (.tmp 23) rfl h0 h1 (by simp) ⟨Below.refl _ _, rfl⟩
            · cases ho
              have h0 : vof _ a 6 = .bool false := had ⟨6, .data⟩ (by simp) rfl (by decide)
              left
              exact rc_move rfl (.tmp 24) rfl h0 ⟨Below.refl _ _, rfl⟩
            · cases ho
              have hg : vof _ a 7 = .bool false := had ⟨7, .guard⟩ (by simp) rfl (by decide)
              have h0 : a.tmps.getD 2 undef = .pointer (some ⟨w.heap.size, 0, none⟩) := hf.slot 2 (by kernel_rfl)
              left
              exact rk_ldR (want_if rfl hg) (.tmp 2) rfl h0 (X.out.stay hbl) fun u hu => ⟨Below.refl _ _, hu⟩
            · cases ho
              have hg : vof _ a 7 = .bool false := had ⟨7, .guard⟩ (by simp) rfl (by decide)
              have h0 : a.tmps.getD 3 undef = .pointer (some ⟨(w.heap.size + 1), 0, none⟩) := hf.slot 3 (by kernel_rfl)
              left
              exact rk_ldR (want_if rfl hg) (.tmp 3) rfl h0 (Y.out.stay hbl) fun u hu => ⟨Below.refl _ _, hu⟩
            · cases ho
              have hg : vof _ a 7 = .bool false := had ⟨7, .guard⟩ (by simp) rfl (by decide)
              have h0 : RefV wn wn.heap.size (vof _ a 8) n xs := had ⟨8, .data⟩ (by simp) rfl (by decide)
              have h1 : RefV wn wn.heap.size (vof _ a 9) m ys := had ⟨9, .data⟩ (by simp) rfl (by decide)
              left
              exact rk_call2 (want_if rfl hg) rfl en_28 rfl rfl ((tshape_any n m xs ys _ _ wn h0 h1 (by have := HX.out; omega) (by have := HY.out; omega)).mono fun e w1 ⟨he, hb1⟩ => ⟨_, he, hb1, rfl⟩)
            · cases ho
              have hg : vof _ a 7 = .bool false := had ⟨7, .guard⟩ (by simp) rfl (by decide)
              have h0 : a.tmps.getD 2 undef = .pointer (some ⟨w.heap.size, 0, none⟩) := hf.slot 2 (by kernel_rfl)
              left
              exact rk_ldR (want_if rfl hg) (.tmp 2) rfl h0 (X.out.stay hbl) fun u hu => ⟨Below.refl _ _, hu⟩
            · cases ho
              have hg : vof _ a 7 = .bool false := had ⟨7, .guard⟩ (by simp) rfl (by decide)
              have h0 : a.tmps.getD 3 undef = .pointer (some ⟨(w.heap.size + 1), 0, none⟩) := hf.slot 3 (by kernel_rfl)
              left
              exact rk_ldR (want_if rfl hg) (.tmp 3) rfl h0 (Y.out.stay hbl) fun u hu => ⟨Below.refl _ _, hu⟩
            · cases ho
              have hg : vof _ a 7 = .bool false := had ⟨7, .guard⟩ (by simp) rfl (by decide)
              have h0 : RefV wn wn.heap.size (vof _ a 11) n xs := had ⟨11, .data⟩ (by simp) rfl (by decide)
              have h1 : RefV wn wn.heap.size (vof _ a 12) m ys := had ⟨12, .data⟩ (by simp) rfl (by decide)
              left
              exact rk_call2 (want_if rfl hg) rfl en_29 rfl rfl ((rshape_any n m xs ys _ _ wn h0 h1 (by have := HX.out; omega) (by have := HY.out; omega)).mono fun e w1 ⟨he, hb1⟩ => ⟨_, he, hb1, rfl⟩)
            · cases ho
              have hg : vof _ a 7 = .bool false := had ⟨7, .guard⟩ (by simp) rfl (by decide)
              have h0 : vof _ a 10 = .bool (decide (n = m ∧ strL xs = strL ys)) := had ⟨10, .data⟩ (by simp) rfl (by decide)
              have h1 : vof _ a 13 = .bool (decide (n = m ∧ strL xs = strL ys)) := had ⟨13, .data⟩ (by simp) rfl (by decide)
              left
              exact rk_neqB (want_if rfl hg) (.tmp 28) (.tmp 31) rfl h0 h1 (by simp) ⟨Below.refl _ _, rfl⟩
            · cases ho
              have h0 : vof _ a 7 = .bool false := had ⟨7, .data⟩ (by simp) rfl (by decide)
              have h1 : vof _ a 14 = .bool false := had ⟨14, .data⟩ (by simp) rfl (by decide)
              left
              exact rk_pickF rfl (.tmp 25) _ _ rfl h0 h1 ⟨Below.refl _ _, rfl⟩
          · intro a wn hf hbl hall
            replace X := Lib.hid (X.out.stay hbl)
            replace Y := Lib.hid (Y.out.stay hbl)
            replace B := Lib.hid (B.out.trans (hbl.mono B.out.size))
            clear hbl
            have ha := over_ofB hf [18, 19, 20, 21, 22, 23, 24, 25, 26, 27, 28, 29, 30, 31, 32, 33] (by kernel_rfl)
            have q33 : (fun d => a.tmps.getD d undef) 33 = .bool false := hall 15 (by decide)
            generalize (fun d => a.tmps.getD d undef) = f at ha q33
            subst ha
            clear hf hall
            simp only [over, List.foldl_cons, List.foldl_nil, Act.put, List.setIfInBounds_toArray, List.set_cons_succ, List.set_cons_zero]
            rw [q33]
            clear q33
            generalize f 18 = u18
            generalize f 19 = u19
            generalize f 20 = u20
            generalize f 21 = u21
            generalize f 22 = u22
            generalize f 23 = u23
            generalize f 24 = u24
            generalize f 25 = u25
            generalize f 26 = u26
            generalize f 27 = u27
            generalize f 28 = u28
            generalize f 29 = u29
            generalize f 30 = u30
            generalize f 31 = u31
            generalize f 32 = u32
            obtain ⟨AX, cX, hX, hcX, hiX⟩ := X.out
            have qX0 := hX.cells.1
            have qX1 := hX.cells.2
            have HHX := Lib.hid hX
            have HCX := Lib.hid hcX
            have HIX := Lib.hid hiX
            clear hX hcX hiX
            go_wp2_with fail
            cases hoa : okB n xs with
            | false =>
                have hcall := rright_any n xs _ _ ⟨AX, cX, rfl, HCX.out, HIX.out⟩ HN.out
                rw [hoa] at hcall
                have HOA := Lib.hid hoa
                clear hoa
                refine hcall.mono ?_
                clear hcall
                clear qX0 qX1
                rintro e wc1 ⟨rfl, hb1⟩
                replace X := Lib.hid (X.out.stay hb1)
                replace Y := Lib.hid (Y.out.stay hb1)
                replace B := Lib.hid (B.out.trans (hb1.mono B.out.size))
                clear hb1
                go_wp2_with fail
                refine (knows_any _ (HLK.out.below B.out)).mono ?_
                rintro e wk9 ⟨rfl, hb1⟩
                have HBK := Lib.hid (B.out.trans (hb1.mono B.out.size))
                clear hb1
                go_wp2_with fail
                exact bodyPost_ret (v := .bool true) (by simp [results, Tryz.results4, go_sem]) rfl ⟨rfl, HBK.out⟩
            | true =>
                have hcall := rright_any n xs _ _ ⟨AX, cX, rfl, HCX.out, HIX.out⟩ HN.out
                rw [hoa] at hcall
                have HOA := Lib.hid hoa
                clear hoa
                refine hcall.mono ?_
                clear hcall
                clear qX0 qX1
                rintro e wc1 ⟨rfl, hb1⟩
                replace X := Lib.hid (X.out.stay hb1)
                replace Y := Lib.hid (Y.out.stay hb1)
                replace B := Lib.hid (B.out.trans (hb1.mono B.out.size))
                clear hb1
                obtain ⟨AY, cY, hY, hcY, hiY⟩ := Y.out
                have qY0 := hY.cells.1
                have qY1 := hY.cells.2
                have HHY := Lib.hid hY
                have HCY := Lib.hid hcY
                have HIY := Lib.hid hiY
                clear hY hcY hiY
                go_wp2_with fail
                cases hob : okB m ys with
                | false =>
                    have hcall := rright_any m ys _ _ ⟨AY, cY, rfl, HCY.out, HIY.out⟩ HM.out
                    rw [hob] at hcall
                    have HOB := Lib.hid hob
                    clear hob
                    refine hcall.mono ?_
                    clear hcall
                    clear qY0 qY1
                    rintro e wc2 ⟨rfl, hb1⟩
                    replace X := Lib.hid (X.out.stay hb1)
                    replace Y := Lib.hid (Y.out.stay hb1)
                    replace B := Lib.hid (B.out.trans (hb1.mono B.out.size))
                    clear hb1
                    go_wp2_with fail
                    refine (knows_any _ (HLK.out.below B.out)).mono ?_
                    rintro e wk9 ⟨rfl, hb1⟩
                    have HBK := Lib.hid (B.out.trans (hb1.mono B.out.size))
                    clear hb1
                    go_wp2_with fail
                    exact bodyPost_ret (v := .bool true) (by simp [results, Tryz.results4, go_sem]) rfl ⟨rfl, HBK.out⟩
                | true =>
                    have hcall := rright_any m ys _ _ ⟨AY, cY, rfl, HCY.out, HIY.out⟩ HM.out
                    rw [hob] at hcall
                    have HOB := Lib.hid hob
                    clear hob
                    refine hcall.mono ?_
                    clear hcall
                    clear qY0 qY1
                    rintro e wc2 ⟨rfl, hb1⟩
                    replace X := Lib.hid (X.out.stay hb1)
                    replace Y := Lib.hid (Y.out.stay hb1)
                    replace B := Lib.hid (B.out.trans (hb1.mono B.out.size))
                    clear hb1
                    have HRX := Lib.hid (ok_len HOA.out).2.2
                    have HRY := Lib.hid (ok_len HOB.out).2.2
                    have HLX : Hid (xs.length ≤ 24) := Lib.hid (ok_len HOA.out).2.1
                    have HLY : Hid (ys.length ≤ 24) := Lib.hid (ok_len HOB.out).2.1
                    have h8 : (optW (wkO n m xs ys)).length ≤ 200 := by
                      unfold wkO; split
                      · rename_i hd; have h1 := we_len HRX.out (of_decide_eq_true hd).2; have h2 := HLX.out; simp only [optW]; omega
                      · simp [optW]
                    have hp1 : ∀ (v u : Value) (w : World), RefV w w.heap.size v n xs → RefV w w.heap.size u m ys → Calls Tryz.prog 30 #[v, u] w (OptPost n (wkO n m xs ys) w) := fun v u w h1 h2 => tweaken_any n m xs ys v u w h1 h2 (by have := HLX.out; omega) (by have := HLY.out; omega)
                    have hp2 : ∀ (v u : Value) (w : World), RefV w w.heap.size v n xs → RefV w w.heap.size u m ys → Calls Tryz.prog 31 #[v, u] w (OptPost n (wkO n m xs ys) w) := fun v u w h1 h2 => rweaken_any n m xs ys v u w h1 h2 (by have := HLX.out; omega) (by have := HLY.out; omega) HRX.out HRY.out
                    generalize wkO n m xs ys = O at h8 hp1 hp2
                    have HOL := Lib.hid h8
                    have HP1 := Lib.hid hp1
                    have HP2 := Lib.hid hp2
                    clear h8 hp1 hp2
                    obtain ⟨AX, cX, hX, hcX, hiX⟩ := X.out
                    have qX0 := hX.cells.1
                    have qX1 := hX.cells.2
                    have HHX := Lib.hid hX
                    have HCX := Lib.hid hcX
                    have HIX := Lib.hid hiX
                    clear hX hcX hiX
                    obtain ⟨AY, cY, hY, hcY, hiY⟩ := Y.out
                    have qY0 := hY.cells.1
                    have qY1 := hY.cells.2
                    have HHY := Lib.hid hY
                    have HCY := Lib.hid hcY
                    have HIY := Lib.hid hiY
                    clear hY hcY hiY
                    go_wp2_with fail
                    have hcall := HP1.out _ _ _ ⟨AX, cX, rfl, HCX.out, HIX.out⟩ ⟨AY, cY, rfl, HCY.out, HIY.out⟩
                    refine hcall.mono ?_
                    clear hcall
                    clear qX0 qX1 qY0 qY1
                    rintro e wc3 hpost
                    obtain ⟨⟨u, rfl, ABX, cBX, rfl, hcx, hix⟩, hb1⟩ := hpost.ref
                    clear hpost
                    have HCBXv := Lib.hid hcx
                    have HIBXv := Lib.hid hix
                    clear hcx hix
                    replace X := Lib.hid (X.out.stay hb1)
                    replace Y := Lib.hid (Y.out.stay hb1)
                    replace B := Lib.hid (B.out.trans (hb1.mono B.out.size))
                    clear hb1
                    have hbA := (Below.refl wc3.heap.size wc3).alloc (Nat.le_refl _) (.cells #[.string (optN n O), .slice ABX (optW O).length cBX] 24 (0, 0))
                    have BX : Hid (RefB (wc3.alloc (.cells #[.string (optN n O), .slice ABX (optW O).length cBX] 24 (0, 0))) wc3.heap.size (optN n O) (optW O)) := Lib.hid ⟨_, _, BxR.new wc3 _ _, HCBXv.out, HIBXv.out.stay hbA⟩
                    have VBX : Hid (RefV (wc3.alloc (.cells #[.string (optN n O), .slice ABX (optW O).length cBX] 24 (0, 0))) (wc3.alloc (.cells #[.string (optN n O), .slice ABX (optW O).length cBX] 24 (0, 0))).heap.size (.agg #[.string (optN n O), .slice ABX (optW O).length cBX]) (optN n O) (optW O)) := Lib.hid ⟨_, _, rfl, HCBXv.out, HIBXv.out.stay hbA⟩
                    replace X := Lib.hid (X.out.stay hbA)
                    replace Y := Lib.hid (Y.out.stay hbA)
                    replace B := Lib.hid (B.out.trans (hbA.mono B.out.size))
                    clear hbA
                    have hltBX : Hid (wc3.heap.size < (wc3.alloc (.cells #[.string (optN n O), .slice ABX (optW O).length cBX] 24 (0, 0))).heap.size) := Lib.hid (by simp)
                    obtain ⟨AX, cX, hX, hcX, hiX⟩ := X.out
                    have qX0 := hX.cells.1
                    have qX1 := hX.cells.2
                    have HHX := Lib.hid hX
                    have HCX := Lib.hid hcX
                    have HIX := Lib.hid hiX
                    clear hX hcX hiX
                    obtain ⟨AY, cY, hY, hcY, hiY⟩ := Y.out
                    have qY0 := hY.cells.1
                    have qY1 := hY.cells.2
                    have HHY := Lib.hid hY
                    have HCY := Lib.hid hcY
                    have HIY := Lib.hid hiY
                    clear hY hcY hiY
                    go_wp2_with fail
                    generalize (wc3.alloc (.cells #[.string (optN n O), .slice ABX (optW O).length cBX] 24 (0, 0))) = wa4 at *
                    have hcall := HP2.out _ _ _ ⟨AX, cX, rfl, HCX.out, HIX.out⟩ ⟨AY, cY, rfl, HCY.out, HIY.out⟩
                    refine hcall.mono ?_
                    clear hcall
                    clear qX0 qX1 qY0 qY1
                    rintro e wc5 hpost
                    obtain ⟨⟨u, rfl, ABY, cBY, rfl, hcx, hix⟩, hb1⟩ := hpost.ref
                    clear hpost
                    have HCBYv := Lib.hid hcx
                    have HIBYv := Lib.hid hix
                    clear hcx hix
                    replace X := Lib.hid (X.out.stay hb1)
                    replace Y := Lib.hid (Y.out.stay hb1)
                    replace BX := Lib.hid (BX.out.stay hb1)
                    replace B := Lib.hid (B.out.trans (hb1.mono B.out.size))
                    clear hb1
                    have hbA := (Below.refl wc5.heap.size wc5).alloc (Nat.le_refl _) (.cells #[.string (optN n O), .slice ABY (optW O).length cBY] 24 (0, 0))
                    have BY : Hid (RefB (wc5.alloc (.cells #[.string (optN n O), .slice ABY (optW O).length cBY] 24 (0, 0))) wc5.heap.size (optN n O) (optW O)) := Lib.hid ⟨_, _, BxR.new wc5 _ _, HCBYv.out, HIBYv.out.stay hbA⟩
                    have VBY : Hid (RefV (wc5.alloc (.cells #[.string (optN n O), .slice ABY (optW O).length cBY] 24 (0, 0))) (wc5.alloc (.cells #[.string (optN n O), .slice ABY (optW O).length cBY] 24 (0, 0))).heap.size (.agg #[.string (optN n O), .slice ABY (optW O).length cBY]) (optN n O) (optW O)) := Lib.hid ⟨_, _, rfl, HCBYv.out, HIBYv.out.stay hbA⟩
                    replace X := Lib.hid (X.out.stay hbA)
                    replace Y := Lib.hid (Y.out.stay hbA)
                    replace BX := Lib.hid (BX.out.stay hbA)
                    replace B := Lib.hid (B.out.trans (hbA.mono B.out.size))
                    clear hbA
                    have hltBY : Hid (wc5.heap.size < (wc5.alloc (.cells #[.string (optN n O), .slice ABY (optW O).length cBY] 24 (0, 0))).heap.size) := Lib.hid (by simp)
                    go_wp2_with fail
                    generalize (wc5.alloc (.cells #[.string (optN n O), .slice ABY (optW O).length cBY] 24 (0, 0))) = wa6 at *
                    clear VBX VBY hltBX hltBY HP1 HP2
                    refine wp_region_list (by kernel_rfl) (by kernel_rfl) (by kernel_rfl) [Fact.is (.bool O.isSome), Fact.is (.bool O.isSome), Fact.is (.bool true), Fact.is (.bool true), Fact.ref (optN n O) (optW O), Fact.ref (optN n O) (optW O), Fact.is (.bool true), Fact.is (.bool true), Fact.is (.bool true), Fact.ref n xs, Fact.ref m ys, Fact.is (.bool (decide (n = m) && fiL xs ys)), Fact.ref n xs, Fact.ref m ys, Fact.is (.bool (decide (n = m) && fiL xs ys)), Fact.is (.bool true), Fact.is (.bool true), Fact.is (.bool true), Fact.is (.bool true), Fact.is (.bool true), Fact.is (.bool true)] ?_ ?_
                    · intro i o ho a wn hf hbl had
                      have hi : i < 21 := (Array.getElem?_eq_some_iff.1 ho).1
                      have hc : i = 0 ∨ i = 1 ∨ i = 2 ∨ i = 3 ∨ i = 4 ∨ i = 5 ∨ i = 6 ∨ i = 7 ∨ i = 8 ∨ i = 9 ∨ i = 10 ∨ i = 11 ∨ i = 12 ∨ i = 13 ∨ i = 14 ∨ i = 15 ∨ i = 16 ∨ i = 17 ∨ i = 18 ∨ i = 19 ∨ i = 20 := by omega
                      rcases hc with rfl | rfl | rfl | rfl | rfl | rfl | rfl | rfl | rfl | rfl | rfl | rfl | rfl | rfl | rfl | rfl | rfl | rfl | rfl | rfl | rfl
                      · cases ho
                        have h0 : a.tmps.getD 6 undef = .bool O.isSome := hf.slot 6 (by kernel_rfl)
                        left
                        exact rc_move rfl (.tmp 6) rfl h0 ⟨Below.refl _ _, rfl⟩
                      · cases ho
                        have h0 : a.tmps.getD 8 undef = .bool O.isSome := hf.slot 8 (by kernel_rfl)
                        left
                        exact rc_move rfl (.tmp 8) rfl h0 ⟨Below.refl _ _, rfl⟩
                      · cases ho
                        have h0 : vof _ a 0 = .bool O.isSome := had ⟨0, .data⟩ (by simp) rfl (by decide)
                        have h1 : vof _ a 1 = .bool O.isSome := had ⟨1, .data⟩ (by simp) rfl (by decide)
                        left
                        exact rk_eqlB rfl (.tmp 55) (.tmp 56) rfl h0 h1 (by simp) ⟨Below.refl _ _, rfl⟩
                      · cases ho
                        have h0 : vof _ a 2 = .bool true := had ⟨2, .data⟩ (by simp) rfl (by decide)
                        left
                        exact rc_move rfl (.tmp 57) rfl h0 ⟨Below.refl _ _, rfl⟩
                      · cases ho
                        have hg : vof _ a 3 = .bool true := had ⟨3, .guard⟩ (by simp) rfl (by decide)
                        have h0 : a.tmps.getD 5 undef = .pointer (some ⟨wc3.heap.size, 0, none⟩) := hf.slot 5 (by kernel_rfl)
                        left
                        exact rk_ldR (want_if rfl hg) (.tmp 5) rfl h0 (BX.out.stay hbl) fun u hu => ⟨Below.refl _ _, hu⟩
                      · cases ho
                        have hg : vof _ a 3 = .bool true := had ⟨3, .guard⟩ (by simp) rfl (by decide)
                        have h0 : a.tmps.getD 7 undef = .pointer (some ⟨wc5.heap.size, 0, none⟩) := hf.slot 7 (by kernel_rfl)
                        left
                        exact rk_ldR (want_if rfl hg) (.tmp 7) rfl h0 (BY.out.stay hbl) fun u hu => ⟨Below.refl _ _, hu⟩
                      · cases ho
                        have hg : vof _ a 3 = .bool true := had ⟨3, .guard⟩ (by simp) rfl (by decide)
                        have h0 : RefV wn wn.heap.size (vof _ a 4) (optN n O) (optW O) := had ⟨4, .data⟩ (by simp) rfl (by decide)
                        have h1 : RefV wn wn.heap.size (vof _ a 5) (optN n O) (optW O) := had ⟨5, .data⟩ (by simp) rfl (by decide)
                        left
                        exact rk_call2 (want_if rfl hg) rfl en_12 rfl rfl ((rsame_eq (optN n O) (optW O) _ _ wn h0 h1 (by have := HOL.out; omega)).mono fun e w1 ⟨he, hb1⟩ => ⟨_, he, hb1, rfl⟩)
                      · cases ho
                        have h0 : vof _ a 3 = .bool true := had ⟨3, .data⟩ (by simp) rfl (by decide)
                        have h1 : vof _ a 6 = .bool true := had ⟨6, .data⟩ (by simp) rfl (by decide)
                        left
                        exact rk_pickT rfl (.tmp 58) _ _ rfl h0 h1 ⟨Below.refl _ _, rfl⟩
                      · cases ho
                        have h0 : vof _ a 7 = .bool true := had ⟨7, .data⟩ (by simp) rfl (by decide)
                        left
                        exact rc_move rfl (.tmp 62) rfl h0 ⟨Below.refl _ _, rfl⟩
                      · cases ho
                        have hg : vof _ a 8 = .bool true := had ⟨8, .guard⟩ (by simp) rfl (by decide)
                        have h0 : a.tmps.getD 2 undef = .pointer (some ⟨w.heap.size, 0, none⟩) := hf.slot 2 (by kernel_rfl)
                        left
                        exact rk_ldR (want_if rfl hg) (.tmp 2) rfl h0 (X.out.stay hbl) fun u hu => ⟨Below.refl _ _, hu⟩
                      · cases ho
                        have hg : vof _ a 8 = .bool true := had ⟨8, .guard⟩ (by simp) rfl (by decide)
                        have h0 : a.tmps.getD 3 undef = .pointer (some ⟨(w.heap.size + 1), 0, none⟩) := hf.slot 3 (by kernel_rfl)
                        left
                        exact rk_ldR (want_if rfl hg) (.tmp 3) rfl h0 (Y.out.stay hbl) fun u hu => ⟨Below.refl _ _, hu⟩
                      · cases ho
                        have hg : vof _ a 8 = .bool true := had ⟨8, .guard⟩ (by simp) rfl (by decide)
                        have h0 : RefV wn wn.heap.size (vof _ a 9) n xs := had ⟨9, .data⟩ (by simp) rfl (by decide)
                        have h1 : RefV wn wn.heap.size (vof _ a 10) m ys := had ⟨10, .data⟩ (by simp) rfl (by decide)
                        left
                        exact rk_call2 (want_if rfl hg) rfl en_32 rfl rfl ((tfits_any n m xs ys _ _ wn h0 h1 (by have := HLX.out; omega) (by have := HLY.out; omega)).mono fun e w1 ⟨he, hb1⟩ => ⟨_, he, hb1, rfl⟩)
                      · cases ho
                        have hg : vof _ a 8 = .bool true := had ⟨8, .guard⟩ (by simp) rfl (by decide)
                        have h0 : a.tmps.getD 2 undef = .pointer (some ⟨w.heap.size, 0, none⟩) := hf.slot 2 (by kernel_rfl)
                        left
                        exact rk_ldR (want_if rfl hg) (.tmp 2) rfl h0 (X.out.stay hbl) fun u hu => ⟨Below.refl _ _, hu⟩
                      · cases ho
                        have hg : vof _ a 8 = .bool true := had ⟨8, .guard⟩ (by simp) rfl (by decide)
                        have h0 : a.tmps.getD 3 undef = .pointer (some ⟨(w.heap.size + 1), 0, none⟩) := hf.slot 3 (by kernel_rfl)
                        left
                        exact rk_ldR (want_if rfl hg) (.tmp 3) rfl h0 (Y.out.stay hbl) fun u hu => ⟨Below.refl _ _, hu⟩
                      · cases ho
                        have hg : vof _ a 8 = .bool true := had ⟨8, .guard⟩ (by simp) rfl (by decide)
                        have h0 : RefV wn wn.heap.size (vof _ a 12) n xs := had ⟨12, .data⟩ (by simp) rfl (by decide)
                        have h1 : RefV wn wn.heap.size (vof _ a 13) m ys := had ⟨13, .data⟩ (by simp) rfl (by decide)
                        left
                        exact rk_call2 (want_if rfl hg) rfl en_33 rfl rfl ((rfits_any n m xs ys _ _ wn h0 h1 (by have := HLX.out; omega) (by have := HLY.out; omega) HRX.out HRY.out).mono fun e w1 ⟨he, hb1⟩ => ⟨_, he, hb1, rfl⟩)
                      · cases ho
                        have hg : vof _ a 8 = .bool true := had ⟨8, .guard⟩ (by simp) rfl (by decide)
                        have h0 : vof _ a 11 = .bool (decide (n = m) && fiL xs ys) := had ⟨11, .data⟩ (by simp) rfl (by decide)
                        have h1 : vof _ a 14 = .bool (decide (n = m) && fiL xs ys) := had ⟨14, .data⟩ (by simp) rfl (by decide)
                        left
                        exact rk_eqlB (want_if rfl hg) (.tmp 66) (.tmp 69) rfl h0 h1 (by simp) ⟨Below.refl _ _, rfl⟩
                      · cases ho
                        have h0 : vof _ a 8 = .bool true := had ⟨8, .data⟩ (by simp) rfl (by decide)
                        have h1 : vof _ a 15 = .bool true := had ⟨15, .data⟩ (by simp) rfl (by decide)
                        left
                        exact rk_pickT rfl (.tmp 63) _ _ rfl h0 h1 ⟨Below.refl _ _, rfl⟩
                      · cases ho
                        have h0 : vof _ a 16 = .bool true := had ⟨16, .data⟩ (by simp) rfl (by decide)
                        left
                        exact rc_move rfl (.tmp 71) rfl h0 ⟨Below.refl _ _, rfl⟩
                      · cases ho
                        have hg : vof _ a 17 = .bool true := had ⟨17, .guard⟩ (by simp) rfl (by decide)
                        left
                        exact rk_call0 (want_if rfl hg) rfl en_9 ((knows_any wn (HLK.out.below (B.out.trans (hbl.mono B.out.size)))).mono fun e w1 ⟨he, hb1⟩ => ⟨_, he, hb1, rfl⟩)
                      · cases ho
                        have h0 : vof _ a 17 = .bool true := had ⟨17, .data⟩ (by simp) rfl (by decide)
                        have h1 : vof _ a 18 = .bool true := had ⟨18, .data⟩ (by simp) rfl (by decide)
                        left
                        exact rk_pickT rfl (.tmp 72) _ _ rfl h0 h1 ⟨Below.refl _ _, rfl⟩
                      · cases ho
                        have h0 : vof _ a 19 = .bool true := had ⟨19, .data⟩ (by simp) rfl (by decide)
                        left
                        exact rk_assign rfl (.tmp 74) rfl h0 ⟨Below.refl _ _, rfl⟩
                    · intro a wn hf hbl hall
                      have HB := Lib.hid (B.out.trans (hbl.mono B.out.size))
                      clear hbl
                      have ha := over_ofB hf [55, 56, 57, 58, 59, 60, 61, 62, 63, 64, 65, 66, 67, 68, 69, 70, 71, 72, 73, 74, 4] (by kernel_rfl)
                      have q4 : (fun d => a.tmps.getD d undef) 4 = .bool true := hall 20 (by decide)
                      generalize (fun d => a.tmps.getD d undef) = f at ha q4
                      subst ha
                      clear hf hall
                      simp only [over, List.foldl_cons, List.foldl_nil, Act.put, List.setIfInBounds_toArray, List.set_cons_succ, List.set_cons_zero]
                      rw [q4]
                      clear q4
                      generalize f 55 = u55
                      generalize f 56 = u56
                      generalize f 57 = u57
                      generalize f 58 = u58
                      generalize f 59 = u59
                      generalize f 60 = u60
                      generalize f 61 = u61
                      generalize f 62 = u62
                      generalize f 63 = u63
                      generalize f 64 = u64
                      generalize f 65 = u65
                      generalize f 66 = u66
                      generalize f 67 = u67
                      generalize f 68 = u68
                      generalize f 69 = u69
                      generalize f 70 = u70
                      generalize f 71 = u71
                      generalize f 72 = u72
                      generalize f 73 = u73
                      generalize f 74 = u74
                      go_wp2_with fail
                      exact bodyPost_ret (v := .bool true) (by simp [results, Tryz.results4, go_sem]) rfl ⟨rfl, HB.out⟩
end Go.Proofs.YtgicbmibhnnflaaGreatDoor
