
/-
  Texts joined: NY NT0 NT1 NT2.
-/
import Derived.Test.YtieklhplalgmmaaGreatDoorVr11
import Derived.Test.YtieklhplalgmmaaGreatDoorVr3
namespace Go.Proofs.YtieklhplalgmmaaGreatDoor
open Go.RowKit
def pvD (row D : Value) (j : Nat) (pd : Addr) (A : Value) (k : Nat) (pa : Addr) (y u1 : ByteArray) (it : Value) (o u2 : ByteArray) : Nat → Option Value
  | 0 => some row
  | 1 => some D
  | 2 => some (.int .i64 j)
  | 3 => some (.pointer (some pd))
  | 4 => some (.pointer (some ⟨pd.block, pd.off + 1, none⟩))
  | 5 => some A
  | 6 => some (.int .i64 k)
  | 7 => some (.pointer (some pa))
  | 8 => some (.pointer (some pa))
  | 9 => some (.string y)
  | 10 => some (.string u1)
  | 11 => some D
  | 12 => some (.int .i64 j)
  | 13 => some (.pointer (some pd))
  | 14 => some (.pointer (some ⟨pd.block, pd.off + 1, none⟩))
  | 15 => some A
  | 16 => some (.int .i64 k)
  | 17 => some (.pointer (some pa))
  | 18 => some (.pointer (some ⟨pa.block, pa.off + 1, none⟩))
  | 19 => some it
  | 20 => some (.string o)
  | 21 => some (.string u2)
  | _ => none
theorem arg_len (x : DirT) {k : Nat} {y : ByteArray × VT} (h : x.args[k]? = some y) : y.1.size + 2 + y.2.src.length ≤ (dirTxt x).length := by
  have hm : (x.args.map argTxt)[k]? = some (argTxt y) := by rw [List.getElem?_map, h]; rfl
  have h1 := jn_step_le [44, 32] hm
  have h0 : x.args.length ≠ 0 := by
    have := (List.getElem?_eq_some_iff.1 h).1; omega
  unfold dirTxt
  rw [if_neg h0]
  have h2 : (argTxt y).length = y.1.size + (2 + y.2.src.length) := by unfold argTxt; simp only [List.length_append, List.length_cons, List.length_nil, bL_len]
  simp only [List.length_append, List.length_cons, List.length_nil, bL_len]
  omega
set_option maxRecDepth 100000 in
set_option maxHeartbeats 8000000 in
theorem rdirs_any (xs : List DirT) (hf : dirsFit xs) (u : Value) (w : World) (B : Nat) (h : DirsR w B u xs) (hB : B ≤ w.heap.size) (hl : (dirsTxt xs).length ≤ 140737488355328) : Calls Tryz.prog 69 #[u] w (SP (dirsTxt xs) w) := by
  obtain ⟨A, c, rfl, hc, hbg, V, hA, hr⟩ := h
  unfold big at hbg
  obtain ⟨n, hn⟩ : ∃ n, xs.length = n := ⟨_, rfl⟩
  rw [hn] at hA hbg ⊢
  have hnm : (n : Int) ≤ 140737488351232 := by omega
  have HN := Lib.hid hn
  have HA := Lib.hid hA
  have HR := Lib.hid hr
  have HF := Lib.hid hf
  have HLL := Lib.hid hl
  have HBB := Lib.hid hB
  have HBG := Lib.hid hbg
  clear hn hA hr hf hl hc hbg
  go_enter Tryz.func69, Tryz.ntmps69
  go_wp2_with fail
  go_loopw [3, 4] (fun v i wr => ∃ (j : Nat) (ss : List ByteArray), j ≤ n ∧ i = .int .i64 j ∧ Hid (OwnR wr w.heap.size v ss ∧ ss.map bL = (xs.map dirTxt).take j ∧ Below w.heap.size w wr)) (fun _ i _ => n - (intOf i).toNat)
  case atStart => exact ⟨0, [], Nat.zero_le _, rfl, Lib.hid ⟨OwnR.nil _ _, by simp, Below.refl _ _⟩⟩
  case round =>
    obtain ⟨j, ss, hj, rfl, hr⟩ := hrel
    obtain ⟨hown, hss, hb⟩ := hr.out
    have HOW := Lib.hid hown
    have HSS := Lib.hid hss
    have HB := Lib.hid hb
    clear hown hss hb hr
    by_cases hlt : j < n
    · have hlt' : (j : Int) < n := by omega
      obtain ⟨x, hxi⟩ : ∃ x, xs[j]? = some x := ⟨_, List.getElem?_eq_getElem (by rw [HN.out]; exact hlt)⟩
      obtain ⟨a, eA, ha, hc0⟩ := HA.out (by omega)
      have hfx := HF.out x (List.mem_of_getElem? hxi)
      have hxd : (xs.map dirTxt)[j]? = some (dirTxt x) := by rw [List.getElem?_map, hxi]; rfl
      have hst := jn_step_le [32] hxd
      have HXS : Hid ((xs.map dirTxt).take (j + 1) = (xs.map dirTxt).take j ++ [dirTxt x]) := Lib.hid (take_sn hxd)
      have HDL : Hid ((dirTxt x).length ≤ 140737488355328) := Lib.hid (by have := HLL.out; unfold dirsTxt at this; omega)
      have HFX := Lib.hid hfx
      obtain ⟨Ai, ci, e1, _, hag⟩ := (HR.out j x hxi).args.form
      unfold big at hag
      obtain ⟨A1, c1, e1', _, _, V1, hA1, hr1⟩ := (HR.out j x hxi).args
      rw [e1] at e1'
      cases e1'
      have e0 := (HR.out j x hxi).name
      obtain ⟨m, hm⟩ : ∃ m, x.args.length = m := ⟨_, rfl⟩
      rw [hm] at hA1 e1 hag
      have hmm : (m : Int) ≤ 140737488351232 := by omega
      have HM := Lib.hid hm
      have HMG := Lib.hid hag
      have HA1 := Lib.hid hA1
      have HR1 := Lib.hid hr1
      have HC0 : Hid (∀ W, Below w.heap.size w W → W.cell? (a.add (j * 2)) = some (.string x.name)) := Lib.hid fun W hb => by
        rw [← e0]; exact ((hb.mono HBB.out).cell (by rw [add_block]; exact ha)).trans (hc0 j hlt 0 (by omega))
      have HC1 : Hid (∀ W, Below w.heap.size w W → W.cell? ⟨(a.add (j * 2)).block, (a.add (j * 2)).off + 1, none⟩ = some (.slice Ai m ci)) := Lib.hid fun W hb => by
        rw [← e1]; exact ((hb.mono HBB.out).cell (by show (a.add (j * 2)).block < B; rw [add_block]; exact ha)).trans (hc0 j hlt 1 (by omega))
      obtain ⟨base, hbase⟩ : ∃ base, base = wr.heap.size := ⟨_, rfl⟩
      have HBASE : Hid (w.heap.size ≤ base ∧ ∀ g, HOW.out.val.ownBlock = some g → g < base) := Lib.hid ⟨by rw [hbase]; exact HB.out.size, fun g hg => by rw [hbase]; exact (HOW.out.lt g hg).2⟩
      have HBS : Hid (base ≤ wr.heap.size) := Lib.hid (by omega)
      have EA := Lib.hid eA
      have x0 := HC0.out wr HB.out
      have x1 := HC1.out wr HB.out
      clear hc0 hfx hxd hst e0 e1 hm hA1 hr1 hag hbase eA
      subst EA
      go_wp2_with fail
      clear x0 x1
      go_loopw [5, 6] (fun v2 i2 wr => ∃ (k : Nat) (s2 : List ByteArray), k ≤ m ∧ i2 = .int .i64 k ∧ Hid (OwnR wr base v2 s2 ∧ s2.map bL = (x.args.map argTxt).take k ∧ OwnR wr w.heap.size HOW.out.val ss ∧ Below w.heap.size w wr ∧ base ≤ wr.heap.size)) (fun _ i2 _ => m - (intOf i2).toNat)
      case atStart => exact ⟨0, [], Nat.zero_le _, rfl, Lib.hid ⟨OwnR.nil _ _, by simp, HOW.out, HB.out, HBS.out⟩⟩
      case round =>
        obtain ⟨k, s2, hk, rfl, hr2⟩ := hrel
        obtain ⟨hown2, hss2, hout2, hb2, hbs2⟩ := hr2.out
        have HOW2 := Lib.hid hown2
        have HSS2 := Lib.hid hss2
        have HOUT2 := Lib.hid hout2
        have HB2 := Lib.hid hb2
        have HBS2 := Lib.hid hbs2
        clear hown2 hss2 hout2 hb2 hbs2 hr2
        have x1 := HC1.out _ HB2.out
        by_cases hlt2 : k < m
        · have hlt2' : (k : Int) < m := by omega
          obtain ⟨y, hyi⟩ : ∃ y, x.args[k]? = some y := ⟨_, List.getElem?_eq_getElem (by rw [HM.out]; exact hlt2)⟩
          obtain ⟨ai, eAi, hai, hk0⟩ := HA1.out (by omega)
          obtain ⟨k', n1, s1, VA, vli, vci, VK, vlk, vck, e1, e2, e3, e4, e5⟩ := Rd.form (HR1.out k y hyi).val
          have E1 := Lib.hid e1; have E2 := Lib.hid e2; have E3 := Lib.hid e3; have E4 := Lib.hid e4; have E5 := Lib.hid e5
          have en := (HR1.out k y hyi).name
          have HK0 : Hid (∀ W, Below w.heap.size w W → W.cell? (ai.add (k * 6)) = some (.string y.1)) := Lib.hid fun W hb => by
            rw [← en]; exact ((hb.mono HBB.out).cell (by rw [add_block]; exact hai)).trans (hk0 k hlt2 0 (by omega))
          have HKC : Hid (∀ W, Below w.heap.size w W → ∀ q, q < 6 → ∀ z, V1 k q = z → W.cell? (at_ (ai.add (k * 6)) q) = some z) := Lib.hid fun W hb q hq z hz => by
            rw [← hz]; exact ((hb.mono HBB.out).cell (by rw [at_block, add_block]; exact hai)).trans (hk0 k hlt2 q hq)
          have HXV : Hid (∀ W, Below w.heap.size w W → Rd W B (.agg #[.int .i64 k', .int .i64 n1, .string s1, .slice VA vli vci, .slice VK vlk vck]) y.2) := Lib.hid fun W hb => by
            have h1 := (HR1.out k y hyi).val
            rw [e1, e2, e3, e4, e5] at h1
            exact h1.kept (hb.mono HBB.out)
          have hal := arg_len x hyi
          have hdl := HDL.out
          have hxm : (x.args.map argTxt)[k]? = some (argTxt y) := by rw [List.getElem?_map, hyi]; rfl
          have HXS2 : Hid ((x.args.map argTxt).take (k + 1) = (x.args.map argTxt).take k ++ [argTxt y]) := Lib.hid (take_sn hxm)
          have hfy := HFX.out y (List.mem_of_getElem? hyi)
          obtain ⟨o, hob⟩ : ∃ o : ByteArray, bL o = y.2.src := ⟨⟨y.2.src.toArray⟩, bL_mk _⟩
          have hoz : o.size = y.2.src.length := by rw [← bL_len, hob]
          obtain ⟨u1, hu1, hadd1⟩ := cat_ex y.1 ⟨#[58, 32]⟩ (by show y.1.size + 2 ≤ _; omega)
          have hu1z : u1.size = y.1.size + 2 := by rw [← bL_len, hu1, List.length_append, bL_len]; rfl
          obtain ⟨u2, hu2, hadd2⟩ := cat_ex u1 o (by rw [hu1z, hoz]; omega)
          have HU2 : Hid (bL u2 = argTxt y) := Lib.hid (by rw [hu2, hu1, hob, List.append_assoc]; rfl)
          have HAD1 := Lib.hid hadd1
          have HAD2 := Lib.hid hadd2
          have CALL : Hid (∀ W, Below w.heap.size w W → Calls Tryz.prog 91 #[.agg #[.int .i64 k', .int .i64 n1, .string s1, .slice VA vli vci, .slice VK vlk vck]] W fun e w' => e = .returned (.string o) ∧ Below W.heap.size W w') := Lib.hid fun W hW => by
            have h1 := rvalue_any y.2 W B _ (HXV.out W hW) (Nat.le_trans HBB.out hW.size) hfy (by omega)
            refine h1.mono ?_
            rintro e w' ⟨⟨o', rfl, ho'⟩, hb⟩
            exact ⟨by rw [bL_inj (ho'.trans hob.symm)], hb⟩
          have HSL : Hid (s2.length = k) := Lib.hid (by have := congrArg List.length HSS2.out; rw [List.length_map, List.length_take, List.length_map, HM.out] at this; omega)
          have HEA := Lib.hid eAi
          clear hk0 e1 e2 e3 e4 e5 en hal hdl hxm hyi hob hoz hu1 hu1z hadd1 hu2 hadd2 eAi hfy
          subst HEA
          go_wp2_with fail
          clear x1
          obtain ⟨W, hW⟩ : ∃ W, wr.drew = W := ⟨_, rfl⟩
          have HBW : Hid (Below w.heap.size w W) := Lib.hid (hW ▸ HB2.out.trans (Below.drew (Below.refl _ _)))
          have HOW3 : Hid (OwnR W base HOW2.out.val s2) := Lib.hid (hW ▸ HOW2.out.stay (Below.drew (Below.refl _ _)))
          have HOUT3 : Hid (OwnR W w.heap.size HOW.out.val ss) := Lib.hid (hW ▸ HOUT2.out.stay (Below.drew (Below.refl _ _)))
          have hzW : base ≤ W.heap.size := by rw [← hW]; exact HBS2.out
          refine wp_region_puts (pv := pvD HOW2.out.val (.slice (some a) n c) j (a.add (j * 2)) (.slice (some ai) m ci) k (ai.add (k * 6)) y.1 u1 (.agg #[.int .i64 k', .int .i64 n1, .string s1, .slice VA vli vci, .slice VK vlk vck]) o u2) (b := 20) (c := 22) (e := 23) (x := 24) (C := fun w1 => Below W.heap.size W w1)
            (G := fun u w2 => ∃ w1, Below W.heap.size W w1 ∧ u = .slice (some ⟨w1.heap.size, 0, none⟩) 1 1 ∧ w2 = w1.alloc (.cells #[.string u2] 9 (0, 0)))
            (E := fun u w3 => OwnR w3 base u (s2 ++ [u2]) ∧ OwnR w3 w.heap.size HOW.out.val ss ∧ Below w.heap.size w w3 ∧ base ≤ w3.heap.size) (by kernel_rfl) (by kernel_rfl) (by kernel_rfl) ⟨by decide, by decide, by decide, by decide, by decide, by decide, rfl, rfl, rfl, by decide, by decide, by decide⟩ ?_ ?_ ?_ ?_ ?_ ?_ ?_ ?_ ?_
          · intro o ho d hcl hall; cases ho; exact hcl 21 _ rfl (hall ⟨21, .data⟩ (by simp) rfl) ⟨20, .data⟩ (by simp) rfl
          · intro o ho; cases ho; exact ⟨⟨22, .data⟩, by simp, rfl, rfl⟩
          · intro o ho; cases ho; exact ⟨⟨23, .data⟩, by simp, rfl, rfl⟩
          · intro i oo ho q1 q2 q3 q4 d a2 w2 hf hcl hdi hx0 had hw
            rw [hW] at hw
            have hi : i < 25 := (Array.getElem?_eq_some_iff.1 ho).1
            have hbx : (d 5 = false ∨ d 9 = false ∨ d 15 = false ∨ d 19 = false) → Below w.heap.size w w2 := by
              intro hd
              rcases hw with rfl | hb | ⟨u, w1, hb, _, rfl⟩ | ⟨hde, _⟩
              · exact HBW.out
              · exact HBW.out.trans (hb.mono HBW.out.size)
              · exact (HBW.out.trans (hb.mono HBW.out.size)).trans ((below_new w1 _).mono (Nat.le_trans HBW.out.size hb.size))
              · have d22 : d 22 = true := hcl 23 _ rfl hde ⟨22, .data⟩ (by simp) rfl
                have d21 : d 21 = true := hcl 22 _ rfl d22 ⟨21, .data⟩ (by simp) rfl
                have d10 : d 10 = true := hcl 21 _ rfl d21 ⟨10, .data⟩ (by simp) rfl
                have d20 : d 20 = true := hcl 21 _ rfl d21 ⟨20, .data⟩ (by simp) rfl
                have d9 : d 9 = true := hcl 10 _ rfl d10 ⟨9, .data⟩ (by simp) rfl
                have d8 : d 8 = true := hcl 9 _ rfl d9 ⟨8, .data⟩ (by simp) rfl
                have d7 : d 7 = true := hcl 8 _ rfl d8 ⟨7, .data⟩ (by simp) rfl
                have d5 : d 5 = true := hcl 7 _ rfl d7 ⟨5, .data⟩ (by simp) rfl
                have d19 : d 19 = true := hcl 20 _ rfl d20 ⟨19, .data⟩ (by simp) rfl
                have d18 : d 18 = true := hcl 19 _ rfl d19 ⟨18, .data⟩ (by simp) rfl
                have d17 : d 17 = true := hcl 18 _ rfl d18 ⟨17, .data⟩ (by simp) rfl
                have d15 : d 15 = true := hcl 17 _ rfl d17 ⟨15, .data⟩ (by simp) rfl
                rw [d5, d9, d15, d19] at hd
                simp at hd
            have hc : i = 0 ∨ i = 1 ∨ i = 2 ∨ i = 3 ∨ i = 4 ∨ i = 5 ∨ i = 6 ∨ i = 7 ∨ i = 8 ∨ i = 9 ∨ i = 10 ∨ i = 11 ∨ i = 12 ∨ i = 13 ∨ i = 14 ∨ i = 15 ∨ i = 16 ∨ i = 17 ∨ i = 18 ∨ i = 19 ∨ i = 21 := by omega
            rcases hc with rfl | rfl | rfl | rfl | rfl | rfl | rfl | rfl | rfl | rfl | rfl | rfl | rfl | rfl | rfl | rfl | rfl | rfl | rfl | rfl | rfl
            · cases ho
              have d24 : d 24 = false := by
                cases q : d 24 with
                | false => rfl
                | true =>
                  have d23 : d 23 = true := hcl 24 _ rfl q ⟨23, .data⟩ (by simp) rfl
                  have d0 : d 0 = true := hcl 23 _ rfl d23 ⟨0, .data⟩ (by simp) rfl
                  rw [d0] at hdi; cases hdi
              exact op_move rfl (.tmp 5) rfl (hx0 d24) ⟨rfl, fun z hz => by cases hz; rfl⟩
            · cases ho
              exact op_move rfl (.tmp 0) rfl (K.Fr.slot hf 0 (by kernel_rfl)) ⟨rfl, fun z hz => by cases hz; rfl⟩
            · cases ho
              exact op_move rfl (.tmp 4) rfl (K.Fr.slot hf 4 (by kernel_rfl)) ⟨rfl, fun z hz => by cases hz; rfl⟩
            · cases ho
              have hx : a2.eval (.tmp 25) = .slice (some a) n c := had ⟨1, .data⟩ (by simp) rfl _ rfl
              have hy : a2.eval (.tmp 26) = .int .i64 j := had ⟨2, .data⟩ (by simp) rfl _ rfl
              exact op_ixD rfl (.tmp 25) (.tmp 26) rfl hx hy hlt ⟨rfl, fun z hz => by cases hz; rfl⟩
            · cases ho
              have hx : a2.eval (.tmp 27) = .pointer (some (a.add (j * 2))) := had ⟨3, .data⟩ (by simp) rfl _ rfl
              exact op_faD1 rfl (.tmp 27) rfl hx ⟨rfl, fun z hz => by cases hz; rfl⟩
            · cases ho
              have hx : a2.eval (.tmp 28) = .pointer (some ⟨(a.add (j * 2)).block, (a.add (j * 2)).off + 1, none⟩) := had ⟨4, .data⟩ (by simp) rfl _ rfl
              exact op_ldLA rfl (.tmp 28) rfl hx (HC1.out _ (hbx (by simp [hdi]))) ⟨rfl, fun z hz => by cases hz; rfl⟩
            · cases ho
              exact op_move rfl (.tmp 6) rfl (K.Fr.slot hf 6 (by kernel_rfl)) ⟨rfl, fun z hz => by cases hz; rfl⟩
            · cases ho
              have hx : a2.eval (.tmp 29) = .slice (some ai) m ci := had ⟨5, .data⟩ (by simp) rfl _ rfl
              have hy : a2.eval (.tmp 30) = .int .i64 k := had ⟨6, .data⟩ (by simp) rfl _ rfl
              exact op_ixA rfl (.tmp 29) (.tmp 30) rfl hx hy hlt2 ⟨rfl, fun z hz => by cases hz; rfl⟩
            · cases ho
              have hx : a2.eval (.tmp 31) = .pointer (some (ai.add (k * 6))) := had ⟨7, .data⟩ (by simp) rfl _ rfl
              exact op_faA0 rfl (.tmp 31) rfl hx ⟨rfl, fun z hz => by cases hz; rfl⟩
            · cases ho
              have hx : a2.eval (.tmp 32) = .pointer (some (ai.add (k * 6))) := had ⟨8, .data⟩ (by simp) rfl _ rfl
              exact op_ldS rfl (.tmp 32) rfl hx (HK0.out _ (hbx (by simp [hdi]))) ⟨rfl, fun z hz => by cases hz; rfl⟩
            · cases ho
              have hx : a2.eval (.tmp 33) = .string y.1 := had ⟨9, .data⟩ (by simp) rfl _ rfl
              exact op_cat rfl (.tmp 33) (.const (.string ⟨#[58, 32]⟩)) rfl hx rfl HAD1.out ⟨rfl, fun z hz => by cases hz; rfl⟩
            · cases ho
              exact op_move rfl (.tmp 0) rfl (K.Fr.slot hf 0 (by kernel_rfl)) ⟨rfl, fun z hz => by cases hz; rfl⟩
            · cases ho
              exact op_move rfl (.tmp 4) rfl (K.Fr.slot hf 4 (by kernel_rfl)) ⟨rfl, fun z hz => by cases hz; rfl⟩
            · cases ho
              have hx : a2.eval (.tmp 35) = .slice (some a) n c := had ⟨11, .data⟩ (by simp) rfl _ rfl
              have hy : a2.eval (.tmp 36) = .int .i64 j := had ⟨12, .data⟩ (by simp) rfl _ rfl
              exact op_ixD rfl (.tmp 35) (.tmp 36) rfl hx hy hlt ⟨rfl, fun z hz => by cases hz; rfl⟩
            · cases ho
              have hx : a2.eval (.tmp 37) = .pointer (some (a.add (j * 2))) := had ⟨13, .data⟩ (by simp) rfl _ rfl
              exact op_faD1 rfl (.tmp 37) rfl hx ⟨rfl, fun z hz => by cases hz; rfl⟩
            · cases ho
              have hx : a2.eval (.tmp 38) = .pointer (some ⟨(a.add (j * 2)).block, (a.add (j * 2)).off + 1, none⟩) := had ⟨14, .data⟩ (by simp) rfl _ rfl
              exact op_ldLA rfl (.tmp 38) rfl hx (HC1.out _ (hbx (by simp [hdi]))) ⟨rfl, fun z hz => by cases hz; rfl⟩
            · cases ho
              exact op_move rfl (.tmp 6) rfl (K.Fr.slot hf 6 (by kernel_rfl)) ⟨rfl, fun z hz => by cases hz; rfl⟩
            · cases ho
              have hx : a2.eval (.tmp 39) = .slice (some ai) m ci := had ⟨15, .data⟩ (by simp) rfl _ rfl
              have hy : a2.eval (.tmp 40) = .int .i64 k := had ⟨16, .data⟩ (by simp) rfl _ rfl
              exact op_ixA rfl (.tmp 39) (.tmp 40) rfl hx hy hlt2 ⟨rfl, fun z hz => by cases hz; rfl⟩
            · cases ho
              have hx : a2.eval (.tmp 41) = .pointer (some (ai.add (k * 6))) := had ⟨17, .data⟩ (by simp) rfl _ rfl
              exact op_faA1 rfl (.tmp 41) rfl hx ⟨rfl, fun z hz => by cases hz; rfl⟩
            · cases ho
              have hx : a2.eval (.tmp 42) = .pointer (some ⟨(ai.add (k * 6)).block, (ai.add (k * 6)).off + 1, none⟩) := had ⟨18, .data⟩ (by simp) rfl _ rfl
              have hcc := HKC.out _ (hbx (by simp [hdi]))
              exact op_ldV rfl (.tmp 42) rfl hx (hcc 1 (by omega) _ E1.out) (hcc 2 (by omega) _ E2.out) (hcc 3 (by omega) _ E3.out) (hcc 4 (by omega) _ E4.out) (hcc 5 (by omega) _ E5.out) ⟨rfl, fun z hz => by cases hz; rfl⟩
            · cases ho
              have hx : a2.eval (.tmp 34) = .string u1 := had ⟨10, .data⟩ (by simp) rfl _ rfl
              have hy : a2.eval (.tmp 44) = .string o := had ⟨20, .data⟩ (by simp) rfl _ rfl
              exact op_cat rfl (.tmp 34) (.tmp 44) rfl hx hy HAD2.out ⟨rfl, fun z hz => by cases hz; rfl⟩
          · intro oo ho a2 hf had
            cases ho
            rw [hW]
            have hx : a2.eval (.tmp 43) = .agg #[.int .i64 k', .int .i64 n1, .string s1, .slice VA vli vci, .slice VK vlk vck] := had ⟨19, .data⟩ (by simp) rfl _ rfl
            refine runs_calls rfl _ _ _ rfl en_rvalue #[.agg #[.int .i64 k', .int .i64 n1, .string s1, .slice VA vli vci, .slice VK vlk vck]] (by rw [K.map1, hx]) ?_
            refine (CALL.out _ HBW.out).mono ?_
            rintro e w4 ⟨rfl, hb⟩
            exact ⟨_, rfl, hb, fun z hz => by cases hz; rfl⟩
          · intro oo ho a2 w2 hf had hb
            cases ho
            have hx : a2.eval (.tmp 45) = .string u2 := had ⟨21, .data⟩ (by simp) rfl _ rfl
            exact op_mk1 rfl (.tmp 45) rfl hx ⟨w2, hb, rfl, rfl⟩
          · intro oo ho a2 w2 hf had ⟨w1, hb, hu, hw⟩
            cases ho
            subst hw
            refine op_app rfl (.tmp 24) (.tmp 46) rfl base HOW2.out.val s2 (had ⟨0, .data⟩ (by simp) rfl _ rfl) ((HOW3.out.stay hb).stay (below_new _ _)) w1.heap.size u2 hu ((Bk.new w1 #[.string u2] 9).cell 0 _ rfl) (by have := HSL.out; have := HMG.out; omega) (by have := hb.size; simp; omega) ?_
            intro v' w' ho' hg'
            have hbs : Below w.heap.size w (w1.alloc (.cells #[.string u2] 9 (0, 0))) := (HBW.out.trans (hb.mono HBW.out.size)).trans ((below_new w1 _).mono (Nat.le_trans HBW.out.size hb.size))
            have how := (HOW3.out.stay hb).stay (below_new w1 (.cells #[.string u2] 9 (0, 0)))
            have hou := (HOUT3.out.stay hb).stay (below_new w1 (.cells #[.string u2] 9 (0, 0)))
            exact ⟨ho', hou.other hg' (fun g hg e => by have h1 := HBASE.out.2 g hg; have h2 := (how.lt g e).1; omega), hbs.grown hg' hbs.size (fun k hk => by have h1 := (how.lt k hk).1; have h2 := HBASE.out.1; omega), by have h1 := hg'.size; have h2 := hb.size; simp at h1; omega⟩
          · intro oo ho a2 w2 hf
            cases ho
            exact op_assign rfl (.tmp 47) rfl rfl ⟨rfl, rfl⟩
          intro a2 w3 hf hE hx16
          have h5 : a2.tmps.getD 5 undef = a2.tmps.getD 47 undef := hx16 (by decide)
          obtain ⟨hown3, hout3, hb3, hk3⟩ := hE
          have hown3 : OwnR w3 base (a2.tmps.getD 47 undef) (s2 ++ [u2]) := hown3
          rw [← h5] at hown3
          have hfa := _root_.Go.Proofs.YtieklhplalgmmaaGreatDoor.K.over_ofB hf [24, 25, 26, 27, 28, 29, 30, 31, 32, 33, 34, 35, 36, 37, 38, 39, 40, 41, 42, 43, 44, 45, 46, 47, 5] (by kernel_rfl)
          have HO3 : Hid (OwnR w3 base ((fun d => a2.tmps.getD d undef) 5) (s2 ++ [u2])) := Lib.hid hown3
          have HOU3 := Lib.hid hout3
          have HB3 := Lib.hid hb3
          have HK3 := Lib.hid hk3
          clear hown3 hb3 hk3 hx16 h5 hf hout3
          generalize (fun d => a2.tmps.getD d undef) = f9 at hfa HO3
          subst hfa
          simp only [K.over, List.foldl_cons, List.foldl_nil, Act.put, List.setIfInBounds_toArray, List.set_cons_succ, List.set_cons_zero]
          generalize f9 24 = t24
          generalize f9 25 = t25
          generalize f9 26 = t26
          generalize f9 27 = t27
          generalize f9 28 = t28
          generalize f9 29 = t29
          generalize f9 30 = t30
          generalize f9 31 = t31
          generalize f9 32 = t32
          generalize f9 33 = t33
          generalize f9 34 = t34
          generalize f9 35 = t35
          generalize f9 36 = t36
          generalize f9 37 = t37
          generalize f9 38 = t38
          generalize f9 39 = t39
          generalize f9 40 = t40
          generalize f9 41 = t41
          generalize f9 42 = t42
          generalize f9 43 = t43
          generalize f9 44 = t44
          generalize f9 45 = t45
          generalize f9 46 = t46
          generalize f9 47 = t47
          generalize f9 5 = t5 at HO3 ⊢
          go_wp2_with fail
          go_roundw
          case rel => exact ⟨k + 1, s2 ++ [u2], by omega, by go_num, Lib.hid ⟨HO3.out, by rw [HXS2.out, List.map_append, HSS2.out, List.map_cons, List.map_nil, HU2.out], HOU3.out, HB3.out, HK3.out⟩⟩
          case measure => simp [intOf]; omega
        · have : k = m := by omega
          subst this
          have x0 := HC0.out _ HB2.out
          obtain ⟨A2, c2, hv2, hst2⟩ := HOW2.out.strs
          have HST2 := Lib.hid hst2
          have HFS : Hid (s2.map bL = x.args.map argTxt) := Lib.hid (by have := HSS2.out; rwa [List.take_of_length_le (by rw [List.length_map, HM.out]; exact Nat.le_refl _)] at this)
          have hsl : s2.length = k := by have := congrArg List.length HFS.out; rw [List.length_map, List.length_map, HM.out] at this; exact this
          subst hv2
          rw [hsl]
          have HSL2 := Lib.hid hsl
          have HSL1 : Hid (ss.length = j) := Lib.hid (by have := congrArg List.length HSS.out; rw [List.length_map, List.length_take, List.length_map, HN.out] at this; omega)
          have hdt : dirTxt x = [64] ++ (bL x.name ++ (if k = 0 then [] else [40] ++ (jn [44, 32] (x.args.map argTxt) ++ [41]))) := by unfold dirTxt; rw [HM.out]
          have hdl := HDL.out
          rw [hdt] at hdl
          simp only [List.length_append, List.length_cons, List.length_nil, bL_len] at hdl
          obtain ⟨q0, hq0, hadd0⟩ := cat_ex ⟨#[64]⟩ x.name (by show 1 + x.name.size ≤ _; omega)
          have hq0z : q0.size = x.name.size + 1 := by rw [← bL_len, hq0, List.length_append, bL_len x.name]; show 1 + x.name.size = _; omega
          have hq0' : bL q0 = [64] ++ bL x.name := hq0
          have HOUT4 : Hid (OwnR (wr.alloc (.cells #[.string q0] 9 (0, 0))) w.heap.size HOW.out.val ss) := Lib.hid (HOUT2.out.stay (below_new _ _))
          have HB4 : Hid (Below w.heap.size w (wr.alloc (.cells #[.string q0] 9 (0, 0)))) := Lib.hid (HB2.out.trans ((below_new wr _).mono HB2.out.size))
          by_cases hk0 : k = 0
          · have hk0' : ¬ (k : Int) > 0 := by omega
            rw [if_pos hk0] at hdt
            have HTX : Hid (bL q0 = dirTxt x) := Lib.hid (by rw [hq0', hdt, List.append_nil])
            clear hdt hdl hq0 hq0z hq0' hk0 hst2 hsl
            go_wp2_with (at_builtin; refine append_R rfl _ _ rfl w.heap.size _ ss rfl HOUT4.out wr.heap.size 1 q0 rfl ((Bk.new wr #[.string q0] 9).cell 0 _ rfl) (by have := HSL1.out; have := HBG.out; omega) (by have := HB2.out.size; simp; omega) ?_)
            intro v' w6 ho6 hg6
            have HB6 := Lib.hid (HB4.out.grown hg6 HB4.out.size (fun k hk => (HOUT4.out.lt k hk).1))
            have HO6 := Lib.hid ho6
            clear ho6 hg6
            go_wp2_with fail
            go_roundw
            case rel => exact ⟨j + 1, ss ++ [q0], by omega, by go_num, Lib.hid ⟨HO6.out, by rw [HXS.out, List.map_append, HSS.out, List.map_cons, List.map_nil, HTX.out], HB6.out⟩⟩
            case measure => simp [intOf]; omega
          · have hk0' : (k : Int) > 0 := by omega
            rw [if_neg hk0] at hdt hdl
            simp only [List.length_append, List.length_cons, List.length_nil] at hdl
            have HJ := Lib.hid (rjoin_any s2 A2 k c2 ⟨#[44, 32]⟩ wr HST2.out hsl (by have := HMG.out; omega) (by rw [HFS.out, show bL ⟨#[44, 32]⟩ = [44, 32] from rfl]; omega))
            obtain ⟨o, hob⟩ : ∃ o : ByteArray, bL o = jn [44, 32] (x.args.map argTxt) := ⟨⟨(jn [44, 32] (x.args.map argTxt)).toArray⟩, bL_mk _⟩
            have hoz : o.size = (jn [44, 32] (x.args.map argTxt)).length := by rw [← bL_len, hob]
            have HJ2 : Hid (Calls Tryz.prog 19 #[.slice A2 k c2, .string ⟨#[44, 32]⟩] wr fun e w' => e = .returned (.string o) ∧ wr = w') := Lib.hid (HJ.out.mono (by
              rintro e w' ⟨⟨o', rfl, ho'⟩, rfl⟩
              rw [HFS.out, show bL ⟨#[44, 32]⟩ = [44, 32] from rfl] at ho'
              exact ⟨by rw [bL_inj (ho'.trans hob.symm)], rfl⟩))
            obtain ⟨q1, hq1, hadd1⟩ := cat_ex q0 ⟨#[40]⟩ (by show q0.size + 1 ≤ _; omega)
            have hq1z : q1.size = q0.size + 1 := by rw [← bL_len, hq1, List.length_append, bL_len q0]; rfl
            obtain ⟨q2, hq2, hadd2⟩ := cat_ex q1 o (by omega)
            have hq2z : q2.size = q1.size + o.size := by rw [← bL_len, hq2, List.length_append, bL_len, bL_len]
            obtain ⟨q3, hq3, hadd3⟩ := cat_ex q2 ⟨#[41]⟩ (by show q2.size + 1 ≤ _; omega)
            have HTX : Hid (bL q3 = dirTxt x) := Lib.hid (by rw [hq3, hq2, hq1, hq0', hob, hdt]; simp only [List.append_assoc]; rfl)
            replace HOUT4 : Hid (OwnR (wr.alloc (.cells #[.string q3] 9 (0, 0))) w.heap.size HOW.out.val ss) := Lib.hid (HOUT2.out.stay (below_new _ _))
            replace HB4 : Hid (Below w.heap.size w (wr.alloc (.cells #[.string q3] 9 (0, 0)))) := Lib.hid (HB2.out.trans ((below_new wr _).mono HB2.out.size))
            clear hdt hdl hq0 hq0z hq0' hk0 hst2 hsl hob hoz hq1 hq1z hq2 hq2z hq3 HJ
            go_wp2_with fail
            refine HJ2.out.mono ?_
            rintro e w7 ⟨rfl, rfl⟩
            go_wp2_with (at_builtin; refine append_R rfl _ _ rfl w.heap.size _ ss rfl HOUT4.out wr.heap.size 1 q3 rfl ((Bk.new wr #[.string q3] 9).cell 0 _ rfl) (by have := HSL1.out; have := HBG.out; omega) (by have := HB2.out.size; simp; omega) ?_)
            intro v' w6 ho6 hg6
            have HB6 := Lib.hid (HB4.out.grown hg6 HB4.out.size (fun k hk => (HOUT4.out.lt k hk).1))
            have HO6 := Lib.hid ho6
            clear ho6 hg6
            go_wp2_with fail
            go_roundw
            case rel => exact ⟨j + 1, ss ++ [q3], by omega, by go_num, Lib.hid ⟨HO6.out, by rw [HXS.out, List.map_append, HSS.out, List.map_cons, List.map_nil, HTX.out], HB6.out⟩⟩
            case measure => simp [intOf]; omega
    · have : j = n := by omega
      subst this
      obtain ⟨A2, c2, hv2, hst2⟩ := HOW.out.strs
      have HST2 := Lib.hid hst2
      have HFS : Hid (ss.map bL = xs.map dirTxt) := Lib.hid (by have := HSS.out; rwa [List.take_of_length_le (by rw [List.length_map, HN.out]; exact Nat.le_refl _)] at this)
      have hsl : ss.length = j := by have := congrArg List.length HFS.out; rw [List.length_map, List.length_map, HN.out] at this; exact this
      subst hv2
      rw [hsl]
      have HJ := Lib.hid (rjoin_any ss A2 j c2 ⟨#[32]⟩ wr HST2.out hsl (by have := HBG.out; omega) (by rw [HFS.out, show bL ⟨#[32]⟩ = [32] from rfl]; exact HLL.out))
      clear hst2 hsl HOW
      go_wp2_with fail
      refine HJ.out.mono ?_
      rintro e w7 ⟨⟨o, rfl, ho⟩, rfl⟩
      rw [HFS.out, show bL ⟨#[32]⟩ = [32] from rfl] at ho
      have HU : Hid (bL o = dirsTxt xs) := Lib.hid ho
      clear ho
      go_wp2_with fail
      go_ret
      exact ⟨⟨o, rfl, HU.out⟩, HB.out⟩
end Go.Proofs.YtieklhplalgmmaaGreatDoor
namespace Go.Proofs.YtieklhplalgmmaaGreatDoor
open Go.RowKit
set_option maxRecDepth 100000 in
set_option maxHeartbeats 2000000 in
theorem rtail_any (xs : List DirT) (hf : dirsFit xs) (u : Value) (w : World) (B : Nat) (h : DirsR w B u xs) (hB : B ≤ w.heap.size) (hl : (tailTxt xs).length ≤ 140737488355328) : Calls Tryz.prog 38 #[u] w (SP (tailTxt xs) w) := by
  obtain ⟨A, c, e0, hc0, hg⟩ := h.form
  subst e0
  obtain ⟨n, hn⟩ : ∃ n, xs.length = n := ⟨_, rfl⟩
  rw [hn] at h hg ⊢
  have HV := Lib.hid h
  have HF := Lib.hid hf
  have HBB := Lib.hid hB
  unfold tailTxt at hl ⊢
  rw [hn] at hl ⊢
  have HL := Lib.hid hl
  clear h hf hB hl hn
  by_cases h0 : n = 0
  · subst h0
    rw [if_pos rfl]
    go_enter Tryz.func38, Tryz.ntmps38
    go_wp2_with fail
    go_ret
    exact ⟨⟨_, rfl, rfl⟩, Below.refl _ _⟩
  · rw [if_neg h0] at HL ⊢
    have h0' : ¬ (n : Int) = 0 := by omega
    obtain ⟨o, hob⟩ : ∃ o : ByteArray, bL o = dirsTxt xs := ⟨⟨(dirsTxt xs).toArray⟩, bL_mk _⟩
    have hoz : o.size = (dirsTxt xs).length := by rw [← bL_len, hob]
    obtain ⟨u1, hu1, hadd1⟩ := cat_ex ⟨#[32]⟩ o (by have h1 := HL.out; rw [List.length_append] at h1; show 1 + o.size ≤ _; omega)
    have HU := Lib.hid hu1
    have HOB := Lib.hid hob
    have HLD : Hid ((dirsTxt xs).length ≤ 140737488355328) := Lib.hid (by have h1 := HL.out; rw [List.length_append] at h1; omega)
    clear hu1 hob hoz h0
    go_enter Tryz.func38, Tryz.ntmps38
    go_wp2_with fail
    refine (rdirs_any xs HF.out _ _ B HV.out HBB.out HLD.out).mono ?_
    rintro e w' ⟨⟨o', rfl, ho'⟩, hb⟩
    obtain rfl : o' = o := bL_inj (ho'.trans HOB.out.symm)
    have HB := Lib.hid hb
    clear hb ho'
    go_wp2_with fail
    go_ret
    exact ⟨⟨_, rfl, by rw [HU.out, HOB.out]; rfl⟩, HB.out⟩
end Go.Proofs.YtieklhplalgmmaaGreatDoor
namespace Go.Proofs.YtieklhplalgmmaaGreatDoor
open Go.RowKit
set_option maxRecDepth 100000 in
set_option maxHeartbeats 4000000 in
theorem rinput_any (x : InpT) (hf : inpFit x) (f : Nat → Value) (w : World) (B : Nat) (h : InpR w B f x) (hB : B ≤ w.heap.size) (hl : (inpTxt x).length ≤ 140737488355328) : Calls Tryz.prog 71 #[.agg #[f 0, f 1, f 2, f 3, f 4, f 5, f 6, f 7, f 8, f 9]] w (SP (inpTxt x) w) := by
  obtain ⟨k, n, s, VA, vli, vci, VK, vlk, vck, e4, e5, e6, e7, e8⟩ := Rd.form h.val
  obtain ⟨A2, c2, e2, _, _⟩ := h.type.wraps.form
  obtain ⟨A9, c9, e9, _, _⟩ := h.dirs.form
  have hv := h.val
  have ht := h.type
  have hd := h.dirs
  rw [h.name, h.type.name, e2, h.has, e4, e5, e6, e7, e8, e9]
  rw [e4, e5, e6, e7, e8] at hv
  rw [h.type.name, e2] at ht
  rw [e9] at hd
  clear e2 e4 e5 e6 e7 e8 e9 h
  generalize x.tw.length = n2 at ht ⊢
  generalize x.dirs.length = n9 at hd ⊢
  have HTV := Lib.hid ht
  have HVV := Lib.hid hv
  have HDD := Lib.hid hd
  have HF := Lib.hid hf
  have HBB := Lib.hid hB
  obtain ⟨o, hob⟩ : ∃ o : ByteArray, bL o = refTxt x.tn x.tw := ⟨⟨(refTxt x.tn x.tw).toArray⟩, bL_mk _⟩
  have hoz : o.size = (refTxt x.tn x.tw).length := by rw [← bL_len, hob]
  have hll := hl
  unfold inpTxt at hll
  simp only [List.length_append] at hll
  rw [bL_len] at hll
  obtain ⟨u1, hu1, hadd1⟩ := cat_ex x.name ⟨#[58, 32]⟩ (by show x.name.size + 2 ≤ _; omega)
  have hu1z : u1.size = x.name.size + 2 := by rw [← bL_len, hu1, List.length_append, bL_len]; rfl
  obtain ⟨u2, hu2, hadd2⟩ := cat_ex u1 o (by rw [hu1z, hoz]; omega)
  have HU2 : Hid (bL u2 = bL x.name ++ ([58, 32] ++ refTxt x.tn x.tw)) := Lib.hid (by rw [hu2, hu1, hob, List.append_assoc]; rfl)
  have CALL : Hid (∀ W, Below w.heap.size w W → Calls Tryz.prog 92 #[.agg #[.string x.tn, .slice A2 n2 c2]] W fun e w' => e = .returned (.string o) ∧ Below W.heap.size W w') := Lib.hid fun W hW => by
    have h1 := K.rprint_any x.tn (by have := HF.out.1.1; omega) x.tw (.agg #[.string x.tn, .slice A2 n2 c2]) W (by have := HF.out.1.2; omega) (((ref_of HTV.out).kept (hW.mono HBB.out)).mono (Nat.le_trans HBB.out hW.size))
    refine h1.mono ?_
    rintro e w' ⟨rfl, hb⟩
    exact ⟨by rw [bL_inj ((bL_mk (K.prL x.tn.data.toList x.tw)).trans (hob.symm : refTxt x.tn x.tw = bL o))], hb⟩
  have HOB := Lib.hid hob
  have HLL := Lib.hid hll
  have HHL := Lib.hid hl
  have HAD1 := Lib.hid hadd1
  have HAD2 := Lib.hid hadd2
  have HU2Z : Hid (u2.size = x.name.size + 2 + (refTxt x.tn x.tw).length) := Lib.hid (by rw [← bL_len, hu2, List.length_append, bL_len, hob, hu1z])
  clear ht hv hd hf hB hob hoz hl hll hu1 hadd1 hu1z hu2 hadd2
  go_enter Tryz.func71, Tryz.ntmps71
  go_wp2_with fail
  obtain ⟨row, hrow⟩ : ∃ row : Array Value, row = #[.string x.name, .string x.tn, .slice A2 n2 c2, .bool x.has, .int .i64 k, .int .i64 n, .string s, .slice VA vli vci, .slice VK vlk vck, .slice A9 n9 c9] := ⟨_, rfl⟩
  have HBK : Hid (Bk (w.alloc (.cells row 78 (0, 0))).drew w.heap.size row 78) := Lib.hid (Bk.new w row 78)
  have HB1 : Hid (Below w.heap.size w (w.alloc (.cells row 78 (0, 0))).drew) := Lib.hid ((below_new w _).trans (Below.drew (Below.refl _ _)))
  rw [hrow] at HBK HB1
  refine K.wp_region_past (fun W => Bk W w.heap.size #[.string x.name, .string x.tn, .slice A2 n2 c2, .bool x.has, .int .i64 k, .int .i64 n, .string s, .slice VA vli vci, .slice VK vlk vck, .slice A9 n9 c9] 78 ∧ Below w.heap.size w W) ⟨(by rw [← hrow]; exact Bk.new w row _), (below_new w _)⟩ (by kernel_rfl) ?_
  rintro W ⟨hbk, hbw⟩ _
  have HBK := Lib.hid hbk
  have HBW := Lib.hid hbw
  have p0 : ∀ y : K.Past W, y.w.cell? ⟨w.heap.size, 0, none⟩ = some (.string x.name) := fun y => (HBK.out.stay y.b).cell 0 _ rfl
  have p1 : ∀ y : K.Past W, y.w.cell? ⟨w.heap.size, 1, none⟩ = some (.string x.tn) := fun y => (HBK.out.stay y.b).cell 1 _ rfl
  have p2 : ∀ y : K.Past W, y.w.cell? ⟨w.heap.size, 2, none⟩ = some (.slice A2 n2 c2) := fun y => (HBK.out.stay y.b).cell 2 _ rfl
  have kE : Hid (∀ y : K.Past W, Calls Tryz.prog 92 #[.agg #[.string x.tn, .slice A2 n2 c2]] y.w fun e w'' => e = .returned (.string o) ∧ ∃ z : K.Past W, w'' = z.w) := Lib.hid fun y => K.past_of y (CALL.out _ (HBW.out.trans (y.b.mono HBW.out.size)))
  have hadd1 := HAD1.out
  have hadd2 := HAD2.out
  clear hbk hbw hrow
  repeat (go_big_quiet_step (with_reducible exact kE.out _))
  refine wpQuiet_nil ?_
  intro _ hw'
  obtain ⟨y, rfl⟩ := hw'
  have HKY : Hid (Bk y.w w.heap.size #[.string x.name, .string x.tn, .slice A2 n2 c2, .bool x.has, .int .i64 k, .int .i64 n, .string s, .slice VA vli vci, .slice VK vlk vck, .slice A9 n9 c9] 78) := Lib.hid (HBK.out.stay y.b)
  have HBY : Hid (Below w.heap.size w y.w) := Lib.hid (HBW.out.trans (y.b.mono HBW.out.size))
  clear p0 p1 p2 kE hadd1 hadd2 HAD1 HAD2 CALL HBK HBW HB1
  generalize y.w = wy at *
  have q3 := HKY.out.cell 3 _ rfl
  obtain ⟨hs, hhs⟩ : ∃ hs, x.has = hs := ⟨_, rfl⟩
  rw [hhs] at q3
  have HIT : Hid (inpTxt x = bL x.name ++ ([58, 32] ++ (refTxt x.tn x.tw ++ ((if hs = true then [32, 61, 32] ++ x.dflt.src else []) ++ tailTxt x.dirs)))) := Lib.hid (by rw [← hhs]; rfl)
  have HLH : Hid ((if hs = true then [32, 61, 32] ++ x.dflt.src else []).length + (tailTxt x.dirs).length + u2.size ≤ 140737488355328) := Lib.hid (by rw [← hhs]; have h1 := HLL.out; have h2 := HU2Z.out; simp only [List.length_cons, List.length_nil] at h1; omega)
  have HFD : Hid (hs = true → x.dflt.fit) := Lib.hid (by rw [← hhs]; exact HF.out.2.1)
  cases hs with
  | true =>
    rw [if_pos rfl] at HLH HIT
    obtain ⟨u3, hu3, hadd3⟩ := cat_ex u2 ⟨#[32, 61, 32]⟩ (by have h1 := HLH.out; simp only [List.length_append, List.length_cons, List.length_nil] at h1; show u2.size + 3 ≤ _; omega)
    have hu3z : u3.size = u2.size + 3 := by rw [← bL_len, hu3, List.length_append, bL_len]; rfl
    obtain ⟨o3, ho3⟩ : ∃ o : ByteArray, bL o = x.dflt.src := ⟨⟨x.dflt.src.toArray⟩, bL_mk _⟩
    have ho3z : o3.size = x.dflt.src.length := by rw [← bL_len, ho3]
    obtain ⟨u4, hu4, hadd4⟩ := cat_ex u3 o3 (by have h1 := HLH.out; simp only [List.length_append, List.length_cons, List.length_nil] at h1; omega)
    have hu4z : u4.size = u3.size + o3.size := by rw [← bL_len, hu4, List.length_append, bL_len, bL_len]
    obtain ⟨o5, ho5⟩ : ∃ o : ByteArray, bL o = tailTxt x.dirs := ⟨⟨(tailTxt x.dirs).toArray⟩, bL_mk _⟩
    have ho5z : o5.size = (tailTxt x.dirs).length := by rw [← bL_len, ho5]
    obtain ⟨u5, hu5, hadd5⟩ := cat_ex u4 o5 (by have h1 := HLH.out; simp only [List.length_append, List.length_cons, List.length_nil] at h1; omega)
    have HU5 : Hid (bL u5 = inpTxt x) := Lib.hid (by rw [hu5, hu4, hu3, HU2.out, ho3, ho5, HIT.out]; simp only [List.append_assoc]; rfl)
    have HO3 := Lib.hid ho3
    have HO5 := Lib.hid ho5
    have HLV : Hid (x.dflt.src.length ≤ 140737488355328) := Lib.hid (by have h1 := HLH.out; simp only [List.length_append] at h1; omega)
    have HLT : Hid ((tailTxt x.dirs).length ≤ 140737488355328) := Lib.hid (by have h1 := HLH.out; omega)
    clear hhs hu3 hu3z ho3 ho3z hu4 hu4z ho5 ho5z hu5
    have q4 := HKY.out.cell 4 _ rfl
    have q5 := HKY.out.cell 5 _ rfl
    have q6 := HKY.out.cell 6 _ rfl
    have q7 := HKY.out.cell 7 _ rfl
    have q8 := HKY.out.cell 8 _ rfl
    go_wp2_with fail
    clear q3 q4 q5 q6 q7 q8
    refine (rvalue_any x.dflt _ B _ (HVV.out.kept (HBY.out.mono HBB.out)) (Nat.le_trans HBB.out HBY.out.size) (HFD.out (by trivial)) HLV.out).mono ?_
    rintro e w3 ⟨⟨o', rfl, ho'⟩, hb⟩
    obtain rfl : o' = o3 := bL_inj (ho'.trans HO3.out.symm)
    have HB3 : Hid (Below w.heap.size w w3) := Lib.hid (HBY.out.trans (hb.mono HBY.out.size))
    have HK3 := Lib.hid (HKY.out.stay hb)
    clear hb ho'
    have q9 := HK3.out.cell 9 _ rfl
    go_wp2_with fail
    clear q9
    refine (rtail_any x.dirs HF.out.2.2 _ _ B (HDD.out.kept (HB3.out.mono HBB.out)) (Nat.le_trans HBB.out HB3.out.size) HLT.out).mono ?_
    rintro e w4 ⟨⟨o', rfl, ho'⟩, hb⟩
    obtain rfl : o' = o5 := bL_inj (ho'.trans HO5.out.symm)
    have HB4 : Hid (Below w.heap.size w w4) := Lib.hid (HB3.out.trans (hb.mono HB3.out.size))
    clear hb ho'
    go_wp2_with fail
    go_ret
    exact ⟨⟨u5, rfl, HU5.out⟩, HB4.out⟩
  | false =>
    rw [if_neg (by decide)] at HLH HIT
    obtain ⟨o5, ho5⟩ : ∃ o : ByteArray, bL o = tailTxt x.dirs := ⟨⟨(tailTxt x.dirs).toArray⟩, bL_mk _⟩
    have ho5z : o5.size = (tailTxt x.dirs).length := by rw [← bL_len, ho5]
    obtain ⟨u5, hu5, hadd5⟩ := cat_ex u2 o5 (by have h1 := HLH.out; omega)
    have HU5 : Hid (bL u5 = inpTxt x) := Lib.hid (by rw [hu5, HU2.out, ho5, HIT.out]; simp only [List.append_assoc]; rfl)
    have HO5 := Lib.hid ho5
    have HLT : Hid ((tailTxt x.dirs).length ≤ 140737488355328) := Lib.hid (by have h1 := HLH.out; omega)
    clear hhs ho5 ho5z hu5
    have q9 := HKY.out.cell 9 _ rfl
    go_wp2_with fail
    clear q9 q3
    refine (rtail_any x.dirs HF.out.2.2 _ _ B (HDD.out.kept (HBY.out.mono HBB.out)) (Nat.le_trans HBB.out HBY.out.size) HLT.out).mono ?_
    rintro e w4 ⟨⟨o', rfl, ho'⟩, hb⟩
    obtain rfl : o' = o5 := bL_inj (ho'.trans HO5.out.symm)
    have HB4 : Hid (Below w.heap.size w w4) := Lib.hid (HBY.out.trans (hb.mono HBY.out.size))
    clear hb ho'
    go_wp2_with fail
    go_ret
    exact ⟨⟨u5, rfl, HU5.out⟩, HB4.out⟩
end Go.Proofs.YtieklhplalgmmaaGreatDoor
namespace Go.Proofs.YtieklhplalgmmaaGreatDoor
open Go.RowKit
set_option maxRecDepth 100000 in
set_option maxHeartbeats 8000000 in
theorem rfield_any (x : FldT) (hf : fldFit x) (f : Nat → Value) (w : World) (B : Nat) (h : FldR w B f x) (hB : B ≤ w.heap.size) (hl : (fldTxt x).length ≤ 140737488355328) : Calls Tryz.prog 70 #[.agg #[f 0, f 1, f 2, f 3, f 4]] w (SP (fldTxt x) w) := by
  obtain ⟨A2, c2, e2, _, _⟩ := h.type.wraps.form
  obtain ⟨A9, c9, e9, _, _⟩ := h.dirs.form
  obtain ⟨A1, c1, e1, _, hg1, V, hA, hr⟩ := h.args
  unfold big at hg1
  have ht := h.type
  have hd := h.dirs
  rw [h.name, e1, h.type.name, e2, e9]
  rw [h.type.name, e2] at ht
  rw [e9] at hd
  clear e1 e2 e9 h
  generalize x.tw.length = n2 at ht ⊢
  generalize x.dirs.length = n9 at hd ⊢
  obtain ⟨n1, hn1⟩ : ∃ n1, x.args.length = n1 := ⟨_, rfl⟩
  rw [hn1] at hA hg1 ⊢
  have hnm : (n1 : Int) ≤ 140737488351232 := by omega
  have HN1 := Lib.hid hn1
  have HTV := Lib.hid ht
  have HDD := Lib.hid hd
  have HF := Lib.hid hf
  have HBB := Lib.hid hB
  have HG1 := Lib.hid hg1
  have HA := Lib.hid hA
  have HR := Lib.hid hr
  obtain ⟨o, hob⟩ : ∃ o : ByteArray, bL o = refTxt x.tn x.tw := ⟨⟨(refTxt x.tn x.tw).toArray⟩, bL_mk _⟩
  have HOB := Lib.hid hob
  have HOZ : Hid (o.size = (refTxt x.tn x.tw).length) := Lib.hid (by rw [← bL_len, hob])
  obtain ⟨o9, ho9⟩ : ∃ o : ByteArray, bL o = tailTxt x.dirs := ⟨⟨(tailTxt x.dirs).toArray⟩, bL_mk _⟩
  have HO9 := Lib.hid ho9
  have HO9Z : Hid (o9.size = (tailTxt x.dirs).length) := Lib.hid (by rw [← bL_len, ho9])
  obtain ⟨M, hM⟩ : ∃ M, (if x.args.length = 0 then [] else [40] ++ (jn [44, 32] (x.args.map inpTxt) ++ [41])) = M := ⟨_, rfl⟩
  have HFT : Hid (fldTxt x = bL x.name ++ (M ++ ([58, 32] ++ (refTxt x.tn x.tw ++ tailTxt x.dirs)))) := Lib.hid (by rw [← hM]; rfl)
  have HLL : Hid (x.name.size + M.length + 2 + (refTxt x.tn x.tw).length + (tailTxt x.dirs).length ≤ 140737488355328) := Lib.hid (by have h1 := hl; rw [HFT.out] at h1; simp only [List.length_append, List.length_cons, List.length_nil, bL_len] at h1; omega)
  have HM := Lib.hid hM
  have CALL : Hid (∀ W, Below w.heap.size w W → Calls Tryz.prog 92 #[.agg #[.string x.tn, .slice A2 n2 c2]] W fun e w' => e = .returned (.string o) ∧ Below W.heap.size W w') := Lib.hid fun W hW => by
    have h1 := K.rprint_any x.tn (by have := HF.out.1.1; omega) x.tw (.agg #[.string x.tn, .slice A2 n2 c2]) W (by have := HF.out.1.2; omega) (((ref_of HTV.out).kept (hW.mono HBB.out)).mono (Nat.le_trans HBB.out hW.size))
    refine h1.mono ?_
    rintro e w' ⟨rfl, hb⟩
    exact ⟨by rw [bL_inj ((bL_mk (K.prL x.tn.data.toList x.tw)).trans (HOB.out.symm : refTxt x.tn x.tw = bL o))], hb⟩
  have CALT : Hid (∀ W, Below w.heap.size w W → Calls Tryz.prog 38 #[.slice A9 n9 c9] W fun e w' => e = .returned (.string o9) ∧ Below W.heap.size W w') := Lib.hid fun W hW => by
    refine (rtail_any x.dirs HF.out.2.2 _ W B (HDD.out.kept (hW.mono HBB.out)) (Nat.le_trans HBB.out hW.size) (by have := HLL.out; omega)).mono ?_
    rintro e w' ⟨⟨o', rfl, ho'⟩, hb⟩
    exact ⟨by rw [bL_inj (ho'.trans HO9.out.symm)], hb⟩
  have HB0 : Hid (Below w.heap.size w (w.alloc (.cells #[.string x.name, .slice A1 n1 c1, .string x.tn, .slice A2 n2 c2, .slice A9 n9 c9] 40 (0, 0)))) := Lib.hid (below_new _ _)
  have HK0 := Lib.hid (Bk.new w #[.string x.name, .slice A1 n1 c1, .string x.tn, .slice A2 n2 c2, .slice A9 n9 c9] 40)
  have hz0 : (w.alloc (.cells #[.string x.name, .slice A1 n1 c1, .string x.tn, .slice A2 n2 c2, .slice A9 n9 c9] 40 (0, 0))).heap.size = w.heap.size + 1 := by simp
  clear hn1 ht hd hf hB hg1 hA hr hob ho9 hM hl
  have y0 := HK0.out.cell 0 _ rfl
  have y1 := HK0.out.cell 1 _ rfl
  by_cases h0 : n1 = 0
  · subst h0
    have HM0 : Hid (M = []) := Lib.hid (by rw [← HM.out, if_pos HN1.out])
    have HNM : Hid (bL x.name = bL x.name ++ M) := Lib.hid (by rw [HM0.out, List.append_nil])
    have HNZ : Hid (x.name.size + 2 + (refTxt x.tn x.tw).length + (tailTxt x.dirs).length ≤ 140737488355328) := Lib.hid (by have := HLL.out; omega)
    go_enter Tryz.func70, Tryz.ntmps70
    go_wp2_with fail
    clear y0 y1
    obtain ⟨u5, hu5, hadd5⟩ := cat_ex x.name ⟨#[58, 32]⟩ (by have h1 := HNZ.out; show x.name.size + 2 ≤ _; omega)
    have hu5z : u5.size = x.name.size + 2 := by rw [← bL_len, hu5, List.length_append, bL_len]; rfl
    obtain ⟨u6, hu6, hadd6⟩ := cat_ex u5 o (by have h1 := HNZ.out; rw [hu5z, HOZ.out]; omega)
    have hu6z : u6.size = u5.size + o.size := by rw [← bL_len, hu6, List.length_append, bL_len, bL_len]
    obtain ⟨u7, hu7, hadd7⟩ := cat_ex u6 o9 (by have h1 := HNZ.out; rw [hu6z, hu5z, HOZ.out, HO9Z.out]; omega)
    have HU7 : Hid (bL u7 = fldTxt x) := Lib.hid (by rw [hu7, hu6, hu5, HNM.out, HOB.out, HO9.out, HFT.out]; simp only [List.append_assoc]; rfl)
    have HAD5 := Lib.hid hadd5
    have HAD6 := Lib.hid hadd6
    have HAD7 := Lib.hid hadd7
    clear hu5 hu5z hu6 hu6z hu7 hadd5 hadd6 hadd7
    refine K.wp_region_past (fun W => Bk W w.heap.size #[.string x.name, .slice A1 0 c1, .string x.tn, .slice A2 n2 c2, .slice A9 n9 c9] 40 ∧ Below w.heap.size w W) ⟨HK0.out, HB0.out⟩ (by kernel_rfl) ?_
    rintro W ⟨hbk, hbw⟩ _
    have HBK := Lib.hid hbk
    have HBW := Lib.hid hbw
    have p2 : ∀ y : K.Past W, y.w.cell? ⟨w.heap.size, 2, none⟩ = some (.string x.tn) := fun y => (HBK.out.stay y.b).cell 2 _ rfl
    have p3 : ∀ y : K.Past W, y.w.cell? ⟨w.heap.size, 3, none⟩ = some (.slice A2 n2 c2) := fun y => (HBK.out.stay y.b).cell 3 _ rfl
    have p4 : ∀ y : K.Past W, y.w.cell? ⟨w.heap.size, 4, none⟩ = some (.slice A9 n9 c9) := fun y => (HBK.out.stay y.b).cell 4 _ rfl
    have kE : Hid (∀ y : K.Past W, Calls Tryz.prog 92 #[.agg #[.string x.tn, .slice A2 n2 c2]] y.w fun e w'' => e = .returned (.string o) ∧ ∃ z : K.Past W, w'' = z.w) := Lib.hid fun y => K.past_of y (CALL.out _ (HBW.out.trans (y.b.mono HBW.out.size)))
    have kT : Hid (∀ y : K.Past W, Calls Tryz.prog 38 #[.slice A9 n9 c9] y.w fun e w'' => e = .returned (.string o9) ∧ ∃ z : K.Past W, w'' = z.w) := Lib.hid fun y => K.past_of y (CALT.out _ (HBW.out.trans (y.b.mono HBW.out.size)))
    have hadd5 := HAD5.out
    have hadd6 := HAD6.out
    have hadd7 := HAD7.out
    clear hbk hbw
    repeat (go_big_quiet_step (first | with_reducible exact kE.out _ | with_reducible exact kT.out _))
    refine wpQuiet_nil ?_
    intro _ hw'
    obtain ⟨y, rfl⟩ := hw'
    have HBY : Hid (Below w.heap.size w y.w) := Lib.hid (HBW.out.trans (y.b.mono HBW.out.size))
    go_wp2_with fail
    go_ret
    exact ⟨⟨u7, rfl, HU7.out⟩, HBY.out⟩
  · have h0' : (n1 : Int) > 0 := by omega
    have HM1 : Hid (M = [40] ++ (jn [44, 32] (x.args.map inpTxt) ++ [41])) := Lib.hid (by rw [← HM.out, if_neg (by rw [HN1.out]; exact h0)])
    have HML : Hid (M.length = (jn [44, 32] (x.args.map inpTxt)).length + 2) := Lib.hid (by rw [HM1.out]; simp only [List.length_append, List.length_cons, List.length_nil]; omega)
    go_enter Tryz.func70, Tryz.ntmps70
    go_wp2_with fail
    clear y0 y1
    rw [show (decide (0 < n1)) = true from decide_eq_true (by omega)]
    go_loopw [4, 5] (fun v i wr => ∃ (j : Nat) (ss : List ByteArray), j ≤ n1 ∧ i = .int .i64 j ∧ Hid (OwnR wr (w.heap.size + 1) v ss ∧ ss.map bL = (x.args.map inpTxt).take j ∧ Below w.heap.size w wr ∧ Bk wr w.heap.size #[.string x.name, .slice A1 n1 c1, .string x.tn, .slice A2 n2 c2, .slice A9 n9 c9] 40)) (fun _ i _ => n1 - (intOf i).toNat)
    case atStart => exact ⟨0, [], Nat.zero_le _, rfl, Lib.hid ⟨OwnR.nil _ _, by simp, HB0.out, HK0.out⟩⟩
    case round =>
      obtain ⟨j, ss, hj, rfl, hr⟩ := hrel
      obtain ⟨hown, hss, hb, hk⟩ := hr.out
      have HOW := Lib.hid hown
      have HSS := Lib.hid hss
      have HB := Lib.hid hb
      have HKB := Lib.hid hk
      have hwl := hk.lt
      clear hown hss hb hk hr
      have y1 := HKB.out.cell 1 _ rfl
      by_cases hlt : j < n1
      · have hlt' : (j : Int) < n1 := by omega
        obtain ⟨z, hzi⟩ : ∃ z, x.args[j]? = some z := ⟨_, List.getElem?_eq_getElem (by rw [HN1.out]; exact hlt)⟩
        obtain ⟨a, rfl, ha, hc0⟩ := HA.out (by omega)
        have hcc : ∀ q, q < 10 → wr.cell? (at_ (a.add (j * 10)) q) = some (V j q) := fun q hq => ((HB.out.mono HBB.out).cell (by rw [at_block, add_block]; exact ha)).trans (hc0 j hlt q hq)
        have k0 : wr.cell? (a.add (j * 10)) = some (V j 0) := hcc 0 (by omega)
        have k1 : wr.cell? ⟨(a.add (j * 10)).block, (a.add (j * 10)).off + 1, none⟩ = some (V j 1) := hcc 1 (by omega)
        have k2 : wr.cell? ⟨(a.add (j * 10)).block, (a.add (j * 10)).off + 2, none⟩ = some (V j 2) := hcc 2 (by omega)
        have k3 : wr.cell? ⟨(a.add (j * 10)).block, (a.add (j * 10)).off + 3, none⟩ = some (V j 3) := hcc 3 (by omega)
        have k4 : wr.cell? ⟨(a.add (j * 10)).block, (a.add (j * 10)).off + 4, none⟩ = some (V j 4) := hcc 4 (by omega)
        have k5 : wr.cell? ⟨(a.add (j * 10)).block, (a.add (j * 10)).off + 5, none⟩ = some (V j 5) := hcc 5 (by omega)
        have k6 : wr.cell? ⟨(a.add (j * 10)).block, (a.add (j * 10)).off + 6, none⟩ = some (V j 6) := hcc 6 (by omega)
        have k7 : wr.cell? ⟨(a.add (j * 10)).block, (a.add (j * 10)).off + 7, none⟩ = some (V j 7) := hcc 7 (by omega)
        have k8 : wr.cell? ⟨(a.add (j * 10)).block, (a.add (j * 10)).off + 8, none⟩ = some (V j 8) := hcc 8 (by omega)
        have k9 : wr.cell? ⟨(a.add (j * 10)).block, (a.add (j * 10)).off + 9, none⟩ = some (V j 9) := hcc 9 (by omega)
        have hxm : (x.args.map inpTxt)[j]? = some (inpTxt z) := by rw [List.getElem?_map, hzi]; rfl
        have hst := jn_step_le [44, 32] hxm
        have CALI := Lib.hid (rinput_any z (HF.out.2.1 z (List.mem_of_getElem? hzi)) (V j) wr B (InpR.stays.kept (HR.out j z hzi) (HB.out.mono HBB.out)) (Nat.le_trans HBB.out HB.out.size) (by have h2 := HLL.out; have h3 := HML.out; omega))
        have HXS : Hid ((x.args.map inpTxt).take (j + 1) = (x.args.map inpTxt).take j ++ [inpTxt z]) := Lib.hid (take_sn hxm)
        clear hc0 hcc hzi hxm hst
        go_wp2_with fail
        refine CALI.out.mono ?_
        rintro e w5 ⟨⟨oi, rfl, ho⟩, hb5⟩
        have HO := Lib.hid ho
        have hbn := below_new w5 (.cells #[.string oi] 9 (0, 0))
        have HOW5 := Lib.hid ((HOW.out.stay hb5).stay hbn)
        have HB5 := Lib.hid (HB.out.trans ((hb5.trans (hbn.mono hb5.size)).mono HB.out.size))
        have HK5 := Lib.hid ((HKB.out.stay hb5).stay hbn)
        have HN5 := Lib.hid (Bk.new w5 #[.string oi] 9)
        have hz5 : w.heap.size + 1 ≤ w5.heap.size := by have := hb5.size; omega
        have HSL : Hid (ss.length = j) := Lib.hid (by have := congrArg List.length HSS.out; rw [List.length_map, List.length_take, List.length_map, HN1.out] at this; omega)
        clear ho hb5 hbn CALI k0 k1 k2 k3 k4 k5 k6 k7 k8 k9 y1
        go_wp2_with (at_builtin; refine append_R rfl _ _ rfl (w.heap.size + 1) _ ss rfl HOW5.out w5.heap.size 1 oi rfl (HN5.out.cell 0 _ rfl) (by have := HSL.out; have := HG1.out; omega) (by simp; omega) ?_)
        intro v' w6 ho6 hg6
        have HK6 := Lib.hid (HK5.out.grown hg6 (fun k hk => by have := (HOW5.out.lt k hk).1; omega))
        have HB6 := Lib.hid (HB5.out.grown hg6 HB5.out.size (fun k hk => by have := (HOW5.out.lt k hk).1; omega))
        have HO6 := Lib.hid ho6
        clear ho6 hg6
        go_wp2_with fail
        go_roundw
        case rel => exact ⟨j + 1, ss ++ [oi], by omega, by go_num, Lib.hid ⟨HO6.out, by rw [HXS.out, List.map_append, HSS.out, List.map_cons, List.map_nil, HO.out], HB6.out, HK6.out⟩⟩
        case measure => simp [intOf]; omega
      · have : j = n1 := by omega
        subst this
        obtain ⟨A3, c3, hv2, hst2⟩ := HOW.out.strs
        have HST2 := Lib.hid hst2
        have HFS : Hid (ss.map bL = x.args.map inpTxt) := Lib.hid (by have := HSS.out; rwa [List.take_of_length_le (by rw [List.length_map, HN1.out]; exact Nat.le_refl _)] at this)
        have hsl : ss.length = j := by have := congrArg List.length HFS.out; rw [List.length_map, List.length_map, HN1.out] at this; exact this
        subst hv2
        rw [hsl]
        have HJ := Lib.hid (rjoin_any ss A3 j c3 ⟨#[44, 32]⟩ wr HST2.out hsl (by have := HG1.out; omega) (by rw [HFS.out, show bL ⟨#[44, 32]⟩ = [44, 32] from rfl]; have := HLL.out; have := HML.out; omega))
        obtain ⟨u2, hu2, hadd2⟩ := cat_ex x.name ⟨#[40]⟩ (by have h1 := HLL.out; show x.name.size + 1 ≤ _; omega)
        have hu2z : u2.size = x.name.size + 1 := by rw [← bL_len, hu2, List.length_append, bL_len]; rfl
        obtain ⟨oj, hoj⟩ : ∃ o : ByteArray, bL o = jn [44, 32] (x.args.map inpTxt) := ⟨⟨(jn [44, 32] (x.args.map inpTxt)).toArray⟩, bL_mk _⟩
        have hojz : oj.size = (jn [44, 32] (x.args.map inpTxt)).length := by rw [← bL_len, hoj]
        obtain ⟨u3, hu3, hadd3⟩ := cat_ex u2 oj (by have h1 := HLL.out; have := HML.out; omega)
        have hu3z : u3.size = u2.size + oj.size := by rw [← bL_len, hu3, List.length_append, bL_len, bL_len]
        obtain ⟨u4, hu4, hadd4⟩ := cat_ex u3 ⟨#[41]⟩ (by have h1 := HLL.out; have := HML.out; show u3.size + 1 ≤ _; omega)
        have hu4z : u4.size = u3.size + 1 := by rw [← bL_len, hu4, List.length_append, bL_len]; rfl
        have HNM : Hid (bL u4 = bL x.name ++ M) := Lib.hid (by rw [hu4, hu3, hu2, hoj, HM1.out]; simp only [List.append_assoc]; rfl)
        have HNZ : Hid (u4.size + 2 + (refTxt x.tn x.tw).length + (tailTxt x.dirs).length ≤ 140737488355328) := Lib.hid (by have := HLL.out; have := HML.out; omega)
        have HOJ := Lib.hid hoj
        clear hst2 hsl HOW hu2 hu2z hoj hojz hu3 hu3z hu4 hu4z
        go_wp2_with fail
        refine HJ.out.mono ?_
        rintro e w7 ⟨⟨o', rfl, ho'⟩, rfl⟩
        rw [HFS.out, show bL ⟨#[44, 32]⟩ = [44, 32] from rfl] at ho'
        obtain rfl : o' = oj := bL_inj (ho'.trans HOJ.out.symm)
        clear ho' y1
        go_wp2_with fail
        clear hadd2 hadd3 hadd4
        obtain ⟨u5, hu5, hadd5⟩ := cat_ex u4 ⟨#[58, 32]⟩ (by have h1 := HNZ.out; show u4.size + 2 ≤ _; omega)
        have hu5z : u5.size = u4.size + 2 := by rw [← bL_len, hu5, List.length_append, bL_len]; rfl
        obtain ⟨u6, hu6, hadd6⟩ := cat_ex u5 o (by have h1 := HNZ.out; rw [hu5z, HOZ.out]; omega)
        have hu6z : u6.size = u5.size + o.size := by rw [← bL_len, hu6, List.length_append, bL_len, bL_len]
        obtain ⟨u7, hu7, hadd7⟩ := cat_ex u6 o9 (by have h1 := HNZ.out; rw [hu6z, hu5z, HOZ.out, HO9Z.out]; omega)
        have HU7 : Hid (bL u7 = fldTxt x) := Lib.hid (by rw [hu7, hu6, hu5, HNM.out, HOB.out, HO9.out, HFT.out]; simp only [List.append_assoc]; rfl)
        have HAD5 := Lib.hid hadd5
        have HAD6 := Lib.hid hadd6
        have HAD7 := Lib.hid hadd7
        clear hu5 hu5z hu6 hu6z hu7 hadd5 hadd6 hadd7
        refine K.wp_region_past (fun W => Bk W w.heap.size #[.string x.name, .slice A1 j c1, .string x.tn, .slice A2 n2 c2, .slice A9 n9 c9] 40 ∧ Below w.heap.size w W) ⟨HKB.out, HB.out⟩ (by kernel_rfl) ?_
        rintro W ⟨hbk, hbw⟩ _
        have HBK := Lib.hid hbk
        have HBW := Lib.hid hbw
        have p2 : ∀ y : K.Past W, y.w.cell? ⟨w.heap.size, 2, none⟩ = some (.string x.tn) := fun y => (HBK.out.stay y.b).cell 2 _ rfl
        have p3 : ∀ y : K.Past W, y.w.cell? ⟨w.heap.size, 3, none⟩ = some (.slice A2 n2 c2) := fun y => (HBK.out.stay y.b).cell 3 _ rfl
        have p4 : ∀ y : K.Past W, y.w.cell? ⟨w.heap.size, 4, none⟩ = some (.slice A9 n9 c9) := fun y => (HBK.out.stay y.b).cell 4 _ rfl
        have kE : Hid (∀ y : K.Past W, Calls Tryz.prog 92 #[.agg #[.string x.tn, .slice A2 n2 c2]] y.w fun e w'' => e = .returned (.string o) ∧ ∃ z : K.Past W, w'' = z.w) := Lib.hid fun y => K.past_of y (CALL.out _ (HBW.out.trans (y.b.mono HBW.out.size)))
        have kT : Hid (∀ y : K.Past W, Calls Tryz.prog 38 #[.slice A9 n9 c9] y.w fun e w'' => e = .returned (.string o9) ∧ ∃ z : K.Past W, w'' = z.w) := Lib.hid fun y => K.past_of y (CALT.out _ (HBW.out.trans (y.b.mono HBW.out.size)))
        have hadd5 := HAD5.out
        have hadd6 := HAD6.out
        have hadd7 := HAD7.out
        clear hbk hbw
        repeat (go_big_quiet_step (first | with_reducible exact kE.out _ | with_reducible exact kT.out _))
        refine wpQuiet_nil ?_
        intro _ hw'
        obtain ⟨y, rfl⟩ := hw'
        have HBY : Hid (Below w.heap.size w y.w) := Lib.hid (HBW.out.trans (y.b.mono HBW.out.size))
        go_wp2_with fail
        go_ret
        exact ⟨⟨u7, rfl, HU7.out⟩, HBY.out⟩
end Go.Proofs.YtieklhplalgmmaaGreatDoor
