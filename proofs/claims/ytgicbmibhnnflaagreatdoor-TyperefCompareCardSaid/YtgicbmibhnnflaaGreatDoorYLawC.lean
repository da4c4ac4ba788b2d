
/-
  The law of the parts.
-/
import Derived.Test.YtgicbmibhnnflaaGreatDoorZC
namespace Go.Proofs.YtgicbmibhnnflaaGreatDoor
open Go.RowKit
theorem few_any (n : ByteArray) (xs : Ws) (v : Value) (w : World) (h : RefV w w.heap.size v n xs) (b : Bool) (hb : decide (xs.length ≤ 200) = b) : Calls Tryz.prog 8 #[v] w (BoolPost b w) := by
  obtain ⟨A, c, rfl, hc, hi⟩ := h
  have hb0 := (Below.refl w.heap.size w).alloc (Nat.le_refl _) (.cells #[.string n, .slice A xs.length c] 24 (0, 0))
  have h9 : decide ((xs.length : Int) ≤ 200) = b := by rw [← hb]; exact decide_eq_decide.2 (by omega)
  have H9 := Lib.hid h9
  have B := Lib.hid hb0
  clear hb0 hb hc hi
  go_enter Tryz.func8, Tryz.ntmps8
  go_wp2_with fail
  exact bodyPost_ret (v := .bool b) (by simp [results, Tryz.results8, go_sem]) rfl ⟨rfl, B.out⟩
set_option maxRecDepth 100000 in
set_option maxHeartbeats 2000000 in
theorem lawParts_any (s n : ByteArray) (xs : Ws) (v : Value) (w : World) (h : RefV w w.heap.size v n xs) (hL : LK w) (hn : n.size ≤ maxLen) : Calls Tryz.prog 3 #[.string s, v] w (BoolPost true w) := by
  have HLK := Lib.hid hL
  have HN := Lib.hid hn
  obtain ⟨A, c, rfl, hc, hi⟩ := h
  have hb0 := (Below.refl w.heap.size w).alloc (Nat.le_refl _) (.cells #[.string n, .slice A xs.length c] 24 (0, 0))
  have B := Lib.hid hb0
  have BT : Hid (RefB (w.alloc (.cells #[.string n, .slice A xs.length c] 24 (0, 0))) w.heap.size n xs) := Lib.hid ⟨A, c, BxR.new w _ _, hc, hi.stay hb0⟩
  have VT : Hid (RefV (w.alloc (.cells #[.string n, .slice A xs.length c] 24 (0, 0))) (w.alloc (.cells #[.string n, .slice A xs.length c] 24 (0, 0))).heap.size (.agg #[.string n, .slice A xs.length c]) n xs) := Lib.hid ⟨A, c, rfl, hc, hi.stay hb0⟩
  clear hL hn hc hi hb0
  go_enter Tryz.func3, Tryz.ntmps3
  go_wp2_with fail
  generalize (w.alloc (.cells #[.string n, .slice A xs.length c] 24 (0, 0))) = W0 at *
  have hcall := few_any n xs _ _ VT.out
  cases hf : decide (xs.length ≤ 200) with
  | false =>
    replace hcall := hcall _ hf
    have HF := Lib.hid hf
    clear hf
    refine hcall.mono ?_
    clear hcall VT
    rintro e w1 ⟨rfl, hb1⟩
    replace BT := Lib.hid (BT.out.stay hb1)
    replace B := Lib.hid (B.out.trans (hb1.mono B.out.size))
    clear hb1
    go_wp2_with fail
    refine (knows_any _ (HLK.out.below B.out)).mono ?_
    rintro e wk9 ⟨rfl, hb1⟩
    have HBK := Lib.hid (B.out.trans (hb1.mono B.out.size))
    clear hb1
    go_wp2_with fail
    exact bodyPost_ret (v := .bool true) (by simp [results, Tryz.results3, go_sem]) rfl ⟨rfl, HBK.out⟩
  | true =>
    replace hcall := hcall _ hf
    have HF := Lib.hid hf
    clear hf
    refine hcall.mono ?_
    clear hcall VT
    rintro e w1 ⟨rfl, hb1⟩
    replace BT := Lib.hid (BT.out.stay hb1)
    replace B := Lib.hid (B.out.trans (hb1.mono B.out.size))
    clear hb1
    have HX := Lib.hid (of_decide_eq_true HF.out)
    clear HF
    have h8 : (optW (inO xs)).length ≤ 200 := by have h1 := HX.out; have h2 := nul_len xs; unfold inO; split <;> simp [optW] <;> omega
    have hp1 := inner_any n xs
    have hp2 := rinner_any n xs
    generalize inO xs = O at h8 hp1 hp2
    have HOL := Lib.hid h8
    have HP1 := Lib.hid hp1
    have HP2 := Lib.hid hp2
    clear h8 hp1 hp2
    have HNL : Hid ((nnL xs).length ≤ 1000) := Lib.hid (by have h1 := HX.out; have h2 := nul_len xs; show (nulL xs).length + 1 ≤ 1000; omega)
    have HUL : Hid ((nulL xs).length ≤ 1000) := Lib.hid (by have h1 := HX.out; have h2 := nul_len xs; omega)
    obtain ⟨ABT, cBT, hBT, hcBT, hiBT⟩ := BT.out
    have qBT0 := hBT.cells.1
    have qBT1 := hBT.cells.2
    have HHBT := Lib.hid hBT
    have HCBT := Lib.hid hcBT
    have HIBT := Lib.hid hiBT
    clear hBT hcBT hiBT
    go_wp2_with fail
    have hcall := HP1.out _ _ ⟨ABT, cBT, rfl, HCBT.out, HIBT.out⟩ (by have := HX.out; omega)
    refine hcall.mono ?_
    clear hcall
    clear qBT0 qBT1
    rintro e wc1 hpost
    obtain ⟨⟨u, rfl, ABX, cBX, rfl, hcx, hix⟩, hb1⟩ := hpost.ref
    clear hpost
    have HCBXv := Lib.hid hcx
    have HIBXv := Lib.hid hix
    clear hcx hix
    replace BT := Lib.hid (BT.out.stay hb1)
    replace B := Lib.hid (B.out.trans (hb1.mono B.out.size))
    clear hb1
    have hbA := (Below.refl wc1.heap.size wc1).alloc (Nat.le_refl _) (.cells #[.string (optN n O), .slice ABX (optW O).length cBX] 24 (0, 0))
    have BX : Hid (RefB (wc1.alloc (.cells #[.string (optN n O), .slice ABX (optW O).length cBX] 24 (0, 0))) wc1.heap.size (optN n O) (optW O)) := Lib.hid ⟨_, _, BxR.new wc1 _ _, HCBXv.out, HIBXv.out.stay hbA⟩
    have VBX : Hid (RefV (wc1.alloc (.cells #[.string (optN n O), .slice ABX (optW O).length cBX] 24 (0, 0))) (wc1.alloc (.cells #[.string (optN n O), .slice ABX (optW O).length cBX] 24 (0, 0))).heap.size (.agg #[.string (optN n O), .slice ABX (optW O).length cBX]) (optN n O) (optW O)) := Lib.hid ⟨_, _, rfl, HCBXv.out, HIBXv.out.stay hbA⟩
    replace BT := Lib.hid (BT.out.stay hbA)
    replace B := Lib.hid (B.out.trans (hbA.mono B.out.size))
    clear hbA
    have hltBX : Hid (wc1.heap.size < (wc1.alloc (.cells #[.string (optN n O), .slice ABX (optW O).length cBX] 24 (0, 0))).heap.size) := Lib.hid (by simp)
    obtain ⟨ABT, cBT, hBT, hcBT, hiBT⟩ := BT.out
    have qBT0 := hBT.cells.1
    have qBT1 := hBT.cells.2
    have HHBT := Lib.hid hBT
    have HCBT := Lib.hid hcBT
    have HIBT := Lib.hid hiBT
    clear hBT hcBT hiBT
    go_wp2_with fail
    generalize (wc1.alloc (.cells #[.string (optN n O), .slice ABX (optW O).length cBX] 24 (0, 0))) = wa2 at *
    have hcall := HP2.out _ _ ⟨ABT, cBT, rfl, HCBT.out, HIBT.out⟩ (by have := HX.out; omega)
    refine hcall.mono ?_
    clear hcall
    clear qBT0 qBT1
    rintro e wc3 hpost
    obtain ⟨⟨u, rfl, ABY, cBY, rfl, hcx, hix⟩, hb1⟩ := hpost.ref
    clear hpost
    have HCBYv := Lib.hid hcx
    have HIBYv := Lib.hid hix
    clear hcx hix
    replace BT := Lib.hid (BT.out.stay hb1)
    replace BX := Lib.hid (BX.out.stay hb1)
    replace B := Lib.hid (B.out.trans (hb1.mono B.out.size))
    clear hb1
    have hbA := (Below.refl wc3.heap.size wc3).alloc (Nat.le_refl _) (.cells #[.string (optN n O), .slice ABY (optW O).length cBY] 24 (0, 0))
    have BY : Hid (RefB (wc3.alloc (.cells #[.string (optN n O), .slice ABY (optW O).length cBY] 24 (0, 0))) wc3.heap.size (optN n O) (optW O)) := Lib.hid ⟨_, _, BxR.new wc3 _ _, HCBYv.out, HIBYv.out.stay hbA⟩
    have VBY : Hid (RefV (wc3.alloc (.cells #[.string (optN n O), .slice ABY (optW O).length cBY] 24 (0, 0))) (wc3.alloc (.cells #[.string (optN n O), .slice ABY (optW O).length cBY] 24 (0, 0))).heap.size (.agg #[.string (optN n O), .slice ABY (optW O).length cBY]) (optN n O) (optW O)) := Lib.hid ⟨_, _, rfl, HCBYv.out, HIBYv.out.stay hbA⟩
    replace BT := Lib.hid (BT.out.stay hbA)
    replace BX := Lib.hid (BX.out.stay hbA)
    replace B := Lib.hid (B.out.trans (hbA.mono B.out.size))
    clear hbA
    have hltBY : Hid (wc3.heap.size < (wc3.alloc (.cells #[.string (optN n O), .slice ABY (optW O).length cBY] 24 (0, 0))).heap.size) := Lib.hid (by simp)
    go_wp2_with fail
    generalize (wc3.alloc (.cells #[.string (optN n O), .slice ABY (optW O).length cBY] 24 (0, 0))) = wa4 at *
    clear VBX hltBX VBY hltBY HP1 HP2
    refine wp_region_list (by kernel_rfl) (by kernel_rfl) (by kernel_rfl) [Fact.is (.bool O.isSome), Fact.is (.bool O.isSome), Fact.is (.bool false), Fact.is (.bool false), Fact.ref (optN n O) (optW O), Fact.ref (optN n O) (optW O), Fact.is (.bool true), Fact.is (.bool false), Fact.is (.bool false), Fact.is (.bool false), Fact.is (.string s), Fact.ref s [], Fact.is (.string s), Fact.ref s [], Fact.is (.bool true), Fact.is (.bool false), Fact.is (.bool false), Fact.is (.bool false), Fact.ref n xs, Fact.ref n (nnL xs), Fact.ref n xs, Fact.ref n (nnL xs), Fact.is (.bool true), Fact.is (.bool false), Fact.is (.bool false), Fact.is (.bool false), Fact.ref n xs, Fact.ref n (2 :: xs), Fact.ref n xs, Fact.ref n (2 :: xs), Fact.is (.bool true), Fact.is (.bool false), Fact.is (.bool false)] ?_ ?_
    · intro i o ho a wn hf hbl had
      have hi : i < 33 := (Array.getElem?_eq_some_iff.1 ho).1
      have hc : i = 0 ∨ i = 1 ∨ i = 2 ∨ i = 3 ∨ i = 4 ∨ i = 5 ∨ i = 6 ∨ i = 7 ∨ i = 8 ∨ i = 9 ∨ i = 10 ∨ i = 11 ∨ i = 12 ∨ i = 13 ∨ i = 14 ∨ i = 15 ∨ i = 16 ∨ i = 17 ∨ i = 18 ∨ i = 19 ∨ i = 20 ∨ i = 21 ∨ i = 22 ∨ i = 23 ∨ i = 24 ∨ i = 25 ∨ i = 26 ∨ i = 27 ∨ i = 28 ∨ i = 29 ∨ i = 30 ∨ i = 31 ∨ i = 32 := by omega
      rcases hc with rfl | rfl | rfl | rfl | rfl | rfl | rfl | rfl | rfl | rfl | rfl | rfl | rfl | rfl | rfl | rfl | rfl | rfl | rfl | rfl | rfl | rfl | rfl | rfl | rfl | rfl | rfl | rfl | rfl | rfl | rfl | rfl | rfl
      · cases ho
        have h0 : a.tmps.getD 6 undef = .bool O.isSome := hf.slot 6 (by kernel_rfl)
        left
        exact rc_move rfl (.tmp 6) rfl h0 ⟨Below.refl _ _, rfl⟩
      · cases ho
        have h0 : a.tmps.getD 8 undef = .bool O.isSome := hf.slot 8 (by kernel_rfl)
        left
        exact rc_move rfl (.tmp 8) rfl h0 ⟨Below.refl _ _, rfl⟩
      · cases ho
        have h0 : vof _ a 0 = .bool O.isSome := had ⟨0, .data⟩ (by simp) rfl (by decide)
        have h1 : vof _ a 1 = .bool O.isSome := had ⟨1, .data⟩ (by simp) rfl (by decide)
        left
        exact rk_neqB rfl (.tmp 23) (.tmp 24) rfl h0 h1 (by simp) ⟨Below.refl _ _, rfl⟩
      · cases ho
        have h0 : vof _ a 2 = .bool false := had ⟨2, .data⟩ (by simp) rfl (by decide)
        left
        exact rc_move rfl (.tmp 25) rfl h0 ⟨Below.refl _ _, rfl⟩
      · cases ho
        have hg : vof _ a 3 = .bool false := had ⟨3, .guard⟩ (by simp) rfl (by decide)
        have h0 : a.tmps.getD 5 undef = .pointer (some ⟨wc1.heap.size, 0, none⟩) := hf.slot 5 (by kernel_rfl)
        left
        exact rk_ldR (want_if rfl hg) (.tmp 5) rfl h0 (BX.out.stay hbl) fun u hu => ⟨Below.refl _ _, hu⟩
      · cases ho
        have hg : vof _ a 3 = .bool false := had ⟨3, .guard⟩ (by simp) rfl (by decide)
        have h0 : a.tmps.getD 7 undef = .pointer (some ⟨wc3.heap.size, 0, none⟩) := hf.slot 7 (by kernel_rfl)
        left
        exact rk_ldR (want_if rfl hg) (.tmp 7) rfl h0 (BY.out.stay hbl) fun u hu => ⟨Below.refl _ _, hu⟩
      · cases ho
        have hg : vof _ a 3 = .bool false := had ⟨3, .guard⟩ (by simp) rfl (by decide)
        have h0 : RefV wn wn.heap.size (vof _ a 4) (optN n O) (optW O) := had ⟨4, .data⟩ (by simp) rfl (by decide)
        have h1 : RefV wn wn.heap.size (vof _ a 5) (optN n O) (optW O) := had ⟨5, .data⟩ (by simp) rfl (by decide)
        left
        exact rk_call2 (want_if rfl hg) rfl en_12 rfl rfl ((rsame_eq (optN n O) (optW O) _ _ wn h0 h1 (by have := HOL.out; omega)).mono fun e w1 ⟨he, hb1⟩ => ⟨_, he, hb1, rfl⟩)
      · cases ho
        have hg : vof _ a 3 = .bool false := had ⟨3, .guard⟩ (by simp) rfl (by decide)
        have h0 : vof _ a 6 = .bool true := had ⟨6, .data⟩ (by simp) rfl (by decide)
        left
        exact rc_not (want_if rfl hg) (.tmp 29) rfl h0 rfl ⟨Below.refl _ _, rfl⟩
      · cases ho
        have h0 : vof _ a 3 = .bool false := had ⟨3, .data⟩ (by simp) rfl (by decide)
        have h1 : vof _ a 7 = .bool false := had ⟨7, .data⟩ (by simp) rfl (by decide)
        left
        exact rk_pickF rfl (.tmp 26) _ _ rfl h0 h1 ⟨Below.refl _ _, rfl⟩
      · cases ho
        have h0 : vof _ a 8 = .bool false := had ⟨8, .data⟩ (by simp) rfl (by decide)
        left
        exact rc_move rfl (.tmp 31) rfl h0 ⟨Below.refl _ _, rfl⟩
      · cases ho
        have hg : vof _ a 9 = .bool false := had ⟨9, .guard⟩ (by simp) rfl (by decide)
        have h0 : a.tmps.getD 0 undef = .string s := hf.slot 0 (by kernel_rfl)
        left
        exact rc_move (want_if rfl hg) (.tmp 0) rfl h0 ⟨Below.refl _ _, rfl⟩
      · cases ho
        have hg : vof _ a 9 = .bool false := had ⟨9, .guard⟩ (by simp) rfl (by decide)
        have h0 : vof _ a 10 = .string s := had ⟨10, .data⟩ (by simp) rfl (by decide)
        left
        exact rk_call1 (want_if rfl hg) rfl en_13 h0 ((named_any s wn).mono fun e w1 ⟨⟨u, he, hu⟩, hb1⟩ => ⟨u, he, hb1, hu⟩)
      · cases ho
        have hg : vof _ a 9 = .bool false := had ⟨9, .guard⟩ (by simp) rfl (by decide)
        have h0 : a.tmps.getD 0 undef = .string s := hf.slot 0 (by kernel_rfl)
        left
        exact rc_move (want_if rfl hg) (.tmp 0) rfl h0 ⟨Below.refl _ _, rfl⟩
      · cases ho
        have hg : vof _ a 9 = .bool false := had ⟨9, .guard⟩ (by simp) rfl (by decide)
        have h0 : vof _ a 12 = .string s := had ⟨12, .data⟩ (by simp) rfl (by decide)
        left
        exact rk_call1 (want_if rfl hg) rfl en_14 h0 ((rnamed_any s wn).mono fun e w1 ⟨⟨u, he, hu⟩, hb1⟩ => ⟨u, he, hb1, hu⟩)
      · cases ho
        have hg : vof _ a 9 = .bool false := had ⟨9, .guard⟩ (by simp) rfl (by decide)
        have h0 : RefV wn wn.heap.size (vof _ a 11) s [] := had ⟨11, .data⟩ (by simp) rfl (by decide)
        have h1 : RefV wn wn.heap.size (vof _ a 13) s [] := had ⟨13, .data⟩ (by simp) rfl (by decide)
        left
        exact rk_call2 (want_if rfl hg) rfl en_12 rfl rfl ((rsame_eq s [] _ _ wn h0 h1 (by simp)).mono fun e w1 ⟨he, hb1⟩ => ⟨_, he, hb1, rfl⟩)
      · cases ho
        have hg : vof _ a 9 = .bool false := had ⟨9, .guard⟩ (by simp) rfl (by decide)
        have h0 : vof _ a 14 = .bool true := had ⟨14, .data⟩ (by simp) rfl (by decide)
        left
        exact rc_not (want_if rfl hg) (.tmp 37) rfl h0 rfl ⟨Below.refl _ _, rfl⟩
      · cases ho
        have h0 : vof _ a 9 = .bool false := had ⟨9, .data⟩ (by simp) rfl (by decide)
        have h1 : vof _ a 15 = .bool false := had ⟨15, .data⟩ (by simp) rfl (by decide)
        left
        exact rk_pickF rfl (.tmp 32) _ _ rfl h0 h1 ⟨Below.refl _ _, rfl⟩
      · cases ho
        have h0 : vof _ a 16 = .bool false := had ⟨16, .data⟩ (by simp) rfl (by decide)
        left
        exact rc_move rfl (.tmp 39) rfl h0 ⟨Below.refl _ _, rfl⟩
      · cases ho
        have hg : vof _ a 17 = .bool false := had ⟨17, .guard⟩ (by simp) rfl (by decide)
        have h0 : a.tmps.getD 3 undef = .pointer (some ⟨w.heap.size, 0, none⟩) := hf.slot 3 (by kernel_rfl)
        left
        exact rk_ldR (want_if rfl hg) (.tmp 3) rfl h0 (BT.out.stay hbl) fun u hu => ⟨Below.refl _ _, hu⟩
      · cases ho
        have hg : vof _ a 17 = .bool false := had ⟨17, .guard⟩ (by simp) rfl (by decide)
        have h0 : RefV wn wn.heap.size (vof _ a 18) n xs := had ⟨18, .data⟩ (by simp) rfl (by decide)
        left
        exact rk_call1 (want_if rfl hg) rfl en_15 rfl ((nonnull_any n xs _ wn h0 (by have := HX.out; omega)).mono fun e w1 ⟨⟨u, he, hu⟩, hb1⟩ => ⟨u, he, hb1, hu⟩)
      · cases ho
        have hg : vof _ a 17 = .bool false := had ⟨17, .guard⟩ (by simp) rfl (by decide)
        have h0 : a.tmps.getD 3 undef = .pointer (some ⟨w.heap.size, 0, none⟩) := hf.slot 3 (by kernel_rfl)
        left
        exact rk_ldR (want_if rfl hg) (.tmp 3) rfl h0 (BT.out.stay hbl) fun u hu => ⟨Below.refl _ _, hu⟩
      · cases ho
        have hg : vof _ a 17 = .bool false := had ⟨17, .guard⟩ (by simp) rfl (by decide)
        have h0 : RefV wn wn.heap.size (vof _ a 20) n xs := had ⟨20, .data⟩ (by simp) rfl (by decide)
        left
        exact rk_call1 (want_if rfl hg) rfl en_16 rfl ((rnonnull_any n xs _ wn h0 (by have := HX.out; omega)).mono fun e w1 ⟨⟨u, he, hu⟩, hb1⟩ => ⟨u, he, hb1, hu⟩)
      · cases ho
        have hg : vof _ a 17 = .bool false := had ⟨17, .guard⟩ (by simp) rfl (by decide)
        have h0 : RefV wn wn.heap.size (vof _ a 19) n (nnL xs) := had ⟨19, .data⟩ (by simp) rfl (by decide)
        have h1 : RefV wn wn.heap.size (vof _ a 21) n (nnL xs) := had ⟨21, .data⟩ (by simp) rfl (by decide)
        left
        exact rk_call2 (want_if rfl hg) rfl en_12 rfl rfl ((rsame_eq n (nnL xs) _ _ wn h0 h1 (by have := HNL.out; omega)).mono fun e w1 ⟨he, hb1⟩ => ⟨_, he, hb1, rfl⟩)
      · cases ho
        have hg : vof _ a 17 = .bool false := had ⟨17, .guard⟩ (by simp) rfl (by decide)
        have h0 : vof _ a 22 = .bool true := had ⟨22, .data⟩ (by simp) rfl (by decide)
        left
        exact rc_not (want_if rfl hg) (.tmp 45) rfl h0 rfl ⟨Below.refl _ _, rfl⟩
      · cases ho
        have h0 : vof _ a 17 = .bool false := had ⟨17, .data⟩ (by simp) rfl (by decide)
        have h1 : vof _ a 23 = .bool false := had ⟨23, .data⟩ (by simp) rfl (by decide)
        left
        exact rk_pickF rfl (.tmp 40) _ _ rfl h0 h1 ⟨Below.refl _ _, rfl⟩
      · cases ho
        have h0 : vof _ a 24 = .bool false := had ⟨24, .data⟩ (by simp) rfl (by decide)
        left
        exact rc_move rfl (.tmp 47) rfl h0 ⟨Below.refl _ _, rfl⟩
      · cases ho
        have hg : vof _ a 25 = .bool false := had ⟨25, .guard⟩ (by simp) rfl (by decide)
        have h0 : a.tmps.getD 3 undef = .pointer (some ⟨w.heap.size, 0, none⟩) := hf.slot 3 (by kernel_rfl)
        left
        exact rk_ldR (want_if rfl hg) (.tmp 3) rfl h0 (BT.out.stay hbl) fun u hu => ⟨Below.refl _ _, hu⟩
      · cases ho
        have hg : vof _ a 25 = .bool false := had ⟨25, .guard⟩ (by simp) rfl (by decide)
        have h0 : RefV wn wn.heap.size (vof _ a 26) n xs := had ⟨26, .data⟩ (by simp) rfl (by decide)
        left
        exact rk_call1 (want_if rfl hg) rfl en_17 rfl ((listof_any n xs _ wn h0 (by have := HX.out; omega)).mono fun e w1 ⟨⟨u, he, hu⟩, hb1⟩ => ⟨u, he, hb1, hu⟩)
      · cases ho
        have hg : vof _ a 25 = .bool false := had ⟨25, .guard⟩ (by simp) rfl (by decide)
        have h0 : a.tmps.getD 3 undef = .pointer (some ⟨w.heap.size, 0, none⟩) := hf.slot 3 (by kernel_rfl)
        left
        exact rk_ldR (want_if rfl hg) (.tmp 3) rfl h0 (BT.out.stay hbl) fun u hu => ⟨Below.refl _ _, hu⟩
      · cases ho
        have hg : vof _ a 25 = .bool false := had ⟨25, .guard⟩ (by simp) rfl (by decide)
        have h0 : RefV wn wn.heap.size (vof _ a 28) n xs := had ⟨28, .data⟩ (by simp) rfl (by decide)
        left
        exact rk_call1 (want_if rfl hg) rfl en_18 rfl ((rlistof_any n xs _ wn h0 (by have := HX.out; omega)).mono fun e w1 ⟨⟨u, he, hu⟩, hb1⟩ => ⟨u, he, hb1, hu⟩)
      · cases ho
        have hg : vof _ a 25 = .bool false := had ⟨25, .guard⟩ (by simp) rfl (by decide)
        have h0 : RefV wn wn.heap.size (vof _ a 27) n (2 :: xs) := had ⟨27, .data⟩ (by simp) rfl (by decide)
        have h1 : RefV wn wn.heap.size (vof _ a 29) n (2 :: xs) := had ⟨29, .data⟩ (by simp) rfl (by decide)
        left
        exact rk_call2 (want_if rfl hg) rfl en_12 rfl rfl ((rsame_eq n (2 :: xs) _ _ wn h0 h1 (by have := HX.out; simp only [List.length_cons]; omega)).mono fun e w1 ⟨he, hb1⟩ => ⟨_, he, hb1, rfl⟩)
      · cases ho
        have hg : vof _ a 25 = .bool false := had ⟨25, .guard⟩ (by simp) rfl (by decide)
        have h0 : vof _ a 30 = .bool true := had ⟨30, .data⟩ (by simp) rfl (by decide)
        left
        exact rc_not (want_if rfl hg) (.tmp 53) rfl h0 rfl ⟨Below.refl _ _, rfl⟩
      · cases ho
        have h0 : vof _ a 25 = .bool false := had ⟨25, .data⟩ (by simp) rfl (by decide)
        have h1 : vof _ a 31 = .bool false := had ⟨31, .data⟩ (by simp) rfl (by decide)
        left
        exact rk_pickF rfl (.tmp 48) _ _ rfl h0 h1 ⟨Below.refl _ _, rfl⟩
    · intro a wn hf hbl hall
      replace BT := Lib.hid (BT.out.stay hbl)
      replace BX := Lib.hid (BX.out.stay hbl)
      replace BY := Lib.hid (BY.out.stay hbl)
      replace B := Lib.hid (B.out.trans (hbl.mono B.out.size))
      clear hbl
      have ha := over_ofB hf [23, 24, 25, 26, 27, 28, 29, 30, 31, 32, 33, 34, 35, 36, 37, 38, 39, 40, 41, 42, 43, 44, 45, 46, 47, 48, 49, 50, 51, 52, 53, 54, 55] (by kernel_rfl)
      have q55 : (fun d => a.tmps.getD d undef) 55 = .bool false := hall 32 (by decide)
      generalize (fun d => a.tmps.getD d undef) = f at ha q55
      subst ha
      clear hf hall
      simp only [over, List.foldl_cons, List.foldl_nil, Act.put, List.setIfInBounds_toArray, List.set_cons_succ, List.set_cons_zero]
      rw [q55]
      clear q55
      generalize f 23 = u23
      generalize f 24 = u24
      generalize f 25 = u25
      generalize f 26 = u26
      generalize f 27 = u27
      generalize f 28 = u28
      generalize f 29 = u29
      generalize f 30 = u30
      generalize f 31 = u31
      generalize f 32 = u32
      generalize f 33 = u33
      generalize f 34 = u34
      generalize f 35 = u35
      generalize f 36 = u36
      generalize f 37 = u37
      generalize f 38 = u38
      generalize f 39 = u39
      generalize f 40 = u40
      generalize f 41 = u41
      generalize f 42 = u42
      generalize f 43 = u43
      generalize f 44 = u44
      generalize f 45 = u45
      generalize f 46 = u46
      generalize f 47 = u47
      generalize f 48 = u48
      generalize f 49 = u49
      generalize f 50 = u50
      generalize f 51 = u51
      generalize f 52 = u52
      generalize f 53 = u53
      generalize f 54 = u54
      go_wp2_with fail
      refine wp_region_list (by kernel_rfl) (by kernel_rfl) (by kernel_rfl) [Fact.ref n xs, Fact.ref n (nulL xs), Fact.ref n xs, Fact.ref n (nulL xs), Fact.is (.bool true), Fact.is (.bool true), Fact.ref n xs, Fact.is (.bool (nnB xs)), Fact.ref n xs, Fact.is (.bool (nnB xs)), Fact.is (.bool true), Fact.is (.bool true), Fact.is (.bool true), Fact.ref n xs, Fact.is (.bool (lsB xs)), Fact.ref n xs, Fact.is (.bool (lsB xs)), Fact.is (.bool true), Fact.is (.bool true), Fact.is (.bool true), Fact.ref n xs, Fact.is (.bool (okB n xs)), Fact.ref n xs, Fact.is (.bool (okB n xs)), Fact.is (.bool true), Fact.is (.bool true), Fact.is (.bool true), Fact.is (.bool true), Fact.is (.bool true), Fact.is (.bool true)] ?_ ?_
      · intro i o ho a wn hf hbl had
        have hi : i < 30 := (Array.getElem?_eq_some_iff.1 ho).1
        have hc : i = 0 ∨ i = 1 ∨ i = 2 ∨ i = 3 ∨ i = 4 ∨ i = 5 ∨ i = 6 ∨ i = 7 ∨ i = 8 ∨ i = 9 ∨ i = 10 ∨ i = 11 ∨ i = 12 ∨ i = 13 ∨ i = 14 ∨ i = 15 ∨ i = 16 ∨ i = 17 ∨ i = 18 ∨ i = 19 ∨ i = 20 ∨ i = 21 ∨ i = 22 ∨ i = 23 ∨ i = 24 ∨ i = 25 ∨ i = 26 ∨ i = 27 ∨ i = 28 ∨ i = 29 := by omega
        rcases hc with rfl | rfl | rfl | rfl | rfl | rfl | rfl | rfl | rfl | rfl | rfl | rfl | rfl | rfl | rfl | rfl | rfl | rfl | rfl | rfl | rfl | rfl | rfl | rfl | rfl | rfl | rfl | rfl | rfl | rfl
        · cases ho
          have h0 : a.tmps.getD 3 undef = .pointer (some ⟨w.heap.size, 0, none⟩) := hf.slot 3 (by kernel_rfl)
          left
          exact rk_ldR rfl (.tmp 3) rfl h0 (BT.out.stay hbl) fun u hu => ⟨Below.refl _ _, hu⟩
        · cases ho
          have h0 : RefV wn wn.heap.size (vof _ a 0) n xs := had ⟨0, .data⟩ (by simp) rfl (by decide)
          left
          exact rk_call1 rfl rfl en_19 rfl ((nullable_any n xs _ wn h0 (by have := HX.out; omega)).mono fun e w1 ⟨⟨u, he, hu⟩, hb1⟩ => ⟨u, he, hb1, hu⟩)
        · cases ho
          have h0 : a.tmps.getD 3 undef = .pointer (some ⟨w.heap.size, 0, none⟩) := hf.slot 3 (by kernel_rfl)
          left
          exact rk_ldR rfl (.tmp 3) rfl h0 (BT.out.stay hbl) fun u hu => ⟨Below.refl _ _, hu⟩
        · cases ho
          have h0 : RefV wn wn.heap.size (vof _ a 2) n xs := had ⟨2, .data⟩ (by simp) rfl (by decide)
          left
          exact rk_call1 rfl rfl en_20 rfl ((rnullable_any n xs _ wn h0 (by have := HX.out; omega)).mono fun e w1 ⟨⟨u, he, hu⟩, hb1⟩ => ⟨u, he, hb1, hu⟩)
        · cases ho
          have h0 : RefV wn wn.heap.size (vof _ a 1) n (nulL xs) := had ⟨1, .data⟩ (by simp) rfl (by decide)
          have h1 : RefV wn wn.heap.size (vof _ a 3) n (nulL xs) := had ⟨3, .data⟩ (by simp) rfl (by decide)
          left
          exact rk_call2 rfl rfl en_12 rfl rfl ((rsame_eq n (nulL xs) _ _ wn h0 h1 (by have := HUL.out; omega)).mono fun e w1 ⟨he, hb1⟩ => ⟨_, he, hb1, rfl⟩)
        · cases ho
          have h0 : vof _ a 4 = .bool true := had ⟨4, .data⟩ (by simp) rfl (by decide)
          left
          exact rc_move rfl (.tmp 60) rfl h0 ⟨Below.refl _ _, rfl⟩
        · cases ho
          have hg : vof _ a 5 = .bool true := had ⟨5, .guard⟩ (by simp) rfl (by decide)
          have h0 : a.tmps.getD 3 undef = .pointer (some ⟨w.heap.size, 0, none⟩) := hf.slot 3 (by kernel_rfl)
          left
          exact rk_ldR (want_if rfl hg) (.tmp 3) rfl h0 (BT.out.stay hbl) fun u hu => ⟨Below.refl _ _, hu⟩
        · cases ho
          have hg : vof _ a 5 = .bool true := had ⟨5, .guard⟩ (by simp) rfl (by decide)
          have h0 : RefV wn wn.heap.size (vof _ a 6) n xs := had ⟨6, .data⟩ (by simp) rfl (by decide)
          left
          exact rk_call1 (want_if rfl hg) rfl en_21 rfl ((isnn_any n xs _ wn h0).mono fun e w1 ⟨he, hb1⟩ => ⟨_, he, hb1, rfl⟩)
        · cases ho
          have hg : vof _ a 5 = .bool true := had ⟨5, .guard⟩ (by simp) rfl (by decide)
          have h0 : a.tmps.getD 3 undef = .pointer (some ⟨w.heap.size, 0, none⟩) := hf.slot 3 (by kernel_rfl)
          left
          exact rk_ldR (want_if rfl hg) (.tmp 3) rfl h0 (BT.out.stay hbl) fun u hu => ⟨Below.refl _ _, hu⟩
        · cases ho
          have hg : vof _ a 5 = .bool true := had ⟨5, .guard⟩ (by simp) rfl (by decide)
          have h0 : RefV wn wn.heap.size (vof _ a 8) n xs := had ⟨8, .data⟩ (by simp) rfl (by decide)
          left
          exact rk_call1 (want_if rfl hg) rfl en_22 rfl ((risnn_any n xs _ wn h0).mono fun e w1 ⟨he, hb1⟩ => ⟨_, he, hb1, rfl⟩)
        · cases ho
          have hg : vof _ a 5 = .bool true := had ⟨5, .guard⟩ (by simp) rfl (by decide)
          have h0 : vof _ a 7 = .bool (nnB xs) := had ⟨7, .data⟩ (by simp) rfl (by decide)
          have h1 : vof _ a 9 = .bool (nnB xs) := had ⟨9, .data⟩ (by simp) rfl (by decide)
          left
          exact rk_eqlB (want_if rfl hg) (.tmp 63) (.tmp 65) rfl h0 h1 (by simp) ⟨Below.refl _ _, rfl⟩
        · cases ho
          have h0 : vof _ a 5 = .bool true := had ⟨5, .data⟩ (by simp) rfl (by decide)
          have h1 : vof _ a 10 = .bool true := had ⟨10, .data⟩ (by simp) rfl (by decide)
          left
          exact rk_pickT rfl (.tmp 61) _ _ rfl h0 h1 ⟨Below.refl _ _, rfl⟩
        · cases ho
          have h0 : vof _ a 11 = .bool true := had ⟨11, .data⟩ (by simp) rfl (by decide)
          left
          exact rc_move rfl (.tmp 67) rfl h0 ⟨Below.refl _ _, rfl⟩
        · cases ho
          have hg : vof _ a 12 = .bool true := had ⟨12, .guard⟩ (by simp) rfl (by decide)
          have h0 : a.tmps.getD 3 undef = .pointer (some ⟨w.heap.size, 0, none⟩) := hf.slot 3 (by kernel_rfl)
          left
          exact rk_ldR (want_if rfl hg) (.tmp 3) rfl h0 (BT.out.stay hbl) fun u hu => ⟨Below.refl _ _, hu⟩
        · cases ho
          have hg : vof _ a 12 = .bool true := had ⟨12, .guard⟩ (by simp) rfl (by decide)
          have h0 : RefV wn wn.heap.size (vof _ a 13) n xs := had ⟨13, .data⟩ (by simp) rfl (by decide)
          left
          exact rk_call1 (want_if rfl hg) rfl en_23 rfl ((islist_any n xs _ wn h0 (by have := HX.out; omega)).mono fun e w1 ⟨he, hb1⟩ => ⟨_, he, hb1, rfl⟩)
        · cases ho
          have hg : vof _ a 12 = .bool true := had ⟨12, .guard⟩ (by simp) rfl (by decide)
          have h0 : a.tmps.getD 3 undef = .pointer (some ⟨w.heap.size, 0, none⟩) := hf.slot 3 (by kernel_rfl)
          left
          exact rk_ldR (want_if rfl hg) (.tmp 3) rfl h0 (BT.out.stay hbl) fun u hu => ⟨Below.refl _ _, hu⟩
        · cases ho
          have hg : vof _ a 12 = .bool true := had ⟨12, .guard⟩ (by simp) rfl (by decide)
          have h0 : RefV wn wn.heap.size (vof _ a 15) n xs := had ⟨15, .data⟩ (by simp) rfl (by decide)
          left
          exact rk_call1 (want_if rfl hg) rfl en_24 rfl ((rislist_any n xs _ wn h0 (by have := HX.out; omega)).mono fun e w1 ⟨he, hb1⟩ => ⟨_, he, hb1, rfl⟩)
        · cases ho
          have hg : vof _ a 12 = .bool true := had ⟨12, .guard⟩ (by simp) rfl (by decide)
          have h0 : vof _ a 14 = .bool (lsB xs) := had ⟨14, .data⟩ (by simp) rfl (by decide)
          have h1 : vof _ a 16 = .bool (lsB xs) := had ⟨16, .data⟩ (by simp) rfl (by decide)
          left
          exact rk_eqlB (want_if rfl hg) (.tmp 70) (.tmp 72) rfl h0 h1 (by simp) ⟨Below.refl _ _, rfl⟩
        · cases ho
          have h0 : vof _ a 12 = .bool true := had ⟨12, .data⟩ (by simp) rfl (by decide)
          have h1 : vof _ a 17 = .bool true := had ⟨17, .data⟩ (by simp) rfl (by decide)
          left
          exact rk_pickT rfl (.tmp 68) _ _ rfl h0 h1 ⟨Below.refl _ _, rfl⟩
        · cases ho
          have h0 : vof _ a 18 = .bool true := had ⟨18, .data⟩ (by simp) rfl (by decide)
          left
          exact rc_move rfl (.tmp 74) rfl h0 ⟨Below.refl _ _, rfl⟩
        · cases ho
          have hg : vof _ a 19 = .bool true := had ⟨19, .guard⟩ (by simp) rfl (by decide)
          have h0 : a.tmps.getD 3 undef = .pointer (some ⟨w.heap.size, 0, none⟩) := hf.slot 3 (by kernel_rfl)
          left
          exact rk_ldR (want_if rfl hg) (.tmp 3) rfl h0 (BT.out.stay hbl) fun u hu => ⟨Below.refl _ _, hu⟩
        · cases ho
          have hg : vof _ a 19 = .bool true := had ⟨19, .guard⟩ (by simp) rfl (by decide)
          have h0 : RefV wn wn.heap.size (vof _ a 20) n xs := had ⟨20, .data⟩ (by simp) rfl (by decide)
          left
          exact rk_call1 (want_if rfl hg) rfl en_25 rfl ((tright_any n xs _ wn h0 HN.out).mono fun e w1 ⟨he, hb1⟩ => ⟨_, he, hb1, rfl⟩)
        · cases ho
          have hg : vof _ a 19 = .bool true := had ⟨19, .guard⟩ (by simp) rfl (by decide)
          have h0 : a.tmps.getD 3 undef = .pointer (some ⟨w.heap.size, 0, none⟩) := hf.slot 3 (by kernel_rfl)
          left
          exact rk_ldR (want_if rfl hg) (.tmp 3) rfl h0 (BT.out.stay hbl) fun u hu => ⟨Below.refl _ _, hu⟩
        · cases ho
          have hg : vof _ a 19 = .bool true := had ⟨19, .guard⟩ (by simp) rfl (by decide)
          have h0 : RefV wn wn.heap.size (vof _ a 22) n xs := had ⟨22, .data⟩ (by simp) rfl (by decide)
          left
          exact rk_call1 (want_if rfl hg) rfl en_26 rfl ((rright_any n xs _ wn h0 HN.out).mono fun e w1 ⟨he, hb1⟩ => ⟨_, he, hb1, rfl⟩)
        · cases ho
          have hg : vof _ a 19 = .bool true := had ⟨19, .guard⟩ (by simp) rfl (by decide)
          have h0 : vof _ a 21 = .bool (okB n xs) := had ⟨21, .data⟩ (by simp) rfl (by decide)
          have h1 : vof _ a 23 = .bool (okB n xs) := had ⟨23, .data⟩ (by simp) rfl (by decide)
          left
          exact rk_eqlB (want_if rfl hg) (.tmp 77) (.tmp 79) rfl h0 h1 (by simp) ⟨Below.refl _ _, rfl⟩
        · cases ho
          have h0 : vof _ a 19 = .bool true := had ⟨19, .data⟩ (by simp) rfl (by decide)
          have h1 : vof _ a 24 = .bool true := had ⟨24, .data⟩ (by simp) rfl (by decide)
          left
          exact rk_pickT rfl (.tmp 75) _ _ rfl h0 h1 ⟨Below.refl _ _, rfl⟩
        · cases ho
          have h0 : vof _ a 25 = .bool true := had ⟨25, .data⟩ (by simp) rfl (by decide)
          left
          exact rc_move rfl (.tmp 81) rfl h0 ⟨Below.refl _ _, rfl⟩
        · cases ho
          have hg : vof _ a 26 = .bool true := had ⟨26, .guard⟩ (by simp) rfl (by decide)
          left
          exact rk_call0 (want_if rfl hg) rfl en_9 ((knows_any wn (HLK.out.below (B.out.trans (hbl.mono B.out.size)))).mono fun e w1 ⟨he, hb1⟩ => ⟨_, he, hb1, rfl⟩)
        · cases ho
          have h0 : vof _ a 26 = .bool true := had ⟨26, .data⟩ (by simp) rfl (by decide)
          have h1 : vof _ a 27 = .bool true := had ⟨27, .data⟩ (by simp) rfl (by decide)
          left
          exact rk_pickT rfl (.tmp 82) _ _ rfl h0 h1 ⟨Below.refl _ _, rfl⟩
        · cases ho
          have h0 : vof _ a 28 = .bool true := had ⟨28, .data⟩ (by simp) rfl (by decide)
          left
          exact rk_assign rfl (.tmp 84) rfl h0 ⟨Below.refl _ _, rfl⟩
      · intro a wn hf hbl hall
        have HB := Lib.hid (B.out.trans (hbl.mono B.out.size))
        clear hbl
        have ha := over_ofB hf [56, 57, 58, 59, 60, 61, 62, 63, 64, 65, 66, 67, 68, 69, 70, 71, 72, 73, 74, 75, 76, 77, 78, 79, 80, 81, 82, 83, 84, 4] (by kernel_rfl)
        have q4 : (fun d => a.tmps.getD d undef) 4 = .bool true := hall 29 (by decide)
        generalize (fun d => a.tmps.getD d undef) = f at ha q4
        subst ha
        clear hf hall
        simp only [over, List.foldl_cons, List.foldl_nil, Act.put, List.setIfInBounds_toArray, List.set_cons_succ, List.set_cons_zero]
        rw [q4]
        clear q4
        generalize f 56 = u56
        generalize f 57 = u57
        generalize f 58 = u58
        generalize f 59 = u59
        generalize f 60 = u60
        generalize f 61 = u61
        generalize f 62 = u62
        generalize f 63 = u63
        generalize f 64 = u64
        generalize f 65 = u65
        generalize f 66 = u66
        generalize f 67 = u67
        generalize f 68 = u68
        generalize f 69 = u69
        generalize f 70 = u70
        generalize f 71 = u71
        generalize f 72 = u72
        generalize f 73 = u73
        generalize f 74 = u74
        generalize f 75 = u75
        generalize f 76 = u76
        generalize f 77 = u77
        generalize f 78 = u78
        generalize f 79 = u79
        generalize f 80 = u80
        generalize f 81 = u81
        generalize f 82 = u82
        generalize f 83 = u83
        generalize f 84 = u84
        go_wp2_with fail
        exact bodyPost_ret (v := .bool true) (by simp [results, Tryz.results3, go_sem]) rfl ⟨rfl, HB.out⟩
end Go.Proofs.YtgicbmibhnnflaaGreatDoor
