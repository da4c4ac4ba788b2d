
/-
  Texts joined: NY NZ NE NF.
-/
import Derived.Test.YtbacimfbjpimbaaGreatDoorDp10
import Derived.Test.YtbacimfbjpimbaaGreatDoorDp1
import Derived.Test.YtbacimfbjpimbaaGreatDoorDp7
namespace Go.Proofs.YtbacimfbjpimbaaGreatDoor
open Go.RowKit
def pvD (row D : Value) (j : Nat) (pd : Addr) (A : Value) (k : Nat) (pa : Addr) (y u1 : ByteArray) (it : Value) (o u2 : ByteArray) : Nat → Option Value
  | 0 => some row
  | 1 => some D
  | 2 => some (.int .i64 j)
  | 3 => some (.pointer (some pd))
  | 4 => some (.pointer (some ⟨pd.block, pd.off + 1, none⟩))
  | 5 => some A
  | 6 => some (.int .i64 k)
  | 7 => some (.pointer (some pa))
  | 8 => some (.pointer (some pa))
  | 9 => some (.string y)
  | 10 => some (.string u1)
  | 11 => some D
  | 12 => some (.int .i64 j)
  | 13 => some (.pointer (some pd))
  | 14 => some (.pointer (some ⟨pd.block, pd.off + 1, none⟩))
  | 15 => some A
  | 16 => some (.int .i64 k)
  | 17 => some (.pointer (some pa))
  | 18 => some (.pointer (some ⟨pa.block, pa.off + 1, none⟩))
  | 19 => some it
  | 20 => some (.string o)
  | 21 => some (.string u2)
  | _ => none
theorem arg_len (x : DirT) {k : Nat} {y : ByteArray × VT} (h : x.args[k]? = some y) : y.1.size + 2 + y.2.src.length ≤ (dirTxt x).length := by
  have hm : (x.args.map argTxt)[k]? = some (argTxt y) := by rw [List.getElem?_map, h]; rfl
  have h1 := jn_step_le [44, 32] hm
  have h0 : x.args.length ≠ 0 := by
    have := (List.getElem?_eq_some_iff.1 h).1; omega
  unfold dirTxt
  rw [if_neg h0]
  have h2 : (argTxt y).length = y.1.size + (2 + y.2.src.length) := by unfold argTxt; simp only [List.length_append, List.length_cons, List.length_nil, bL_len]
  simp only [List.length_append, List.length_cons, List.length_nil, bL_len]
  omega
set_option maxRecDepth 100000 in
set_option maxHeartbeats 8000000 in
theorem rdirs_any (xs : List DirT) (hf : dirsFit xs) (u : Value) (w : World) (B : Nat) (h : DirsR w B u xs) (hB : B ≤ w.heap.size) (hl : (dirsTxt xs).length ≤ 140737488355328) : Calls Tryz.prog 17 #[u] w (SP (dirsTxt xs) w) := by
  obtain ⟨A, c, rfl, hc, hbg, V, hA, hr⟩ := h
  unfold big at hbg
  obtain ⟨n, hn⟩ : ∃ n, xs.length = n := ⟨_, rfl⟩
  rw [hn] at hA hbg ⊢
  have hnm : (n : Int) ≤ 140737488351232 := by omega
  have HN := Lib.hid hn
  have HA := Lib.hid hA
  have HR := Lib.hid hr
  have HF := Lib.hid hf
  have HLL := Lib.hid hl
  have HBB := Lib.hid hB
  have HBG := Lib.hid hbg
  clear hn hA hr hf hl hc hbg
  go_enter Tryz.func17, Tryz.ntmps17
  go_wp2_with fail
  go_loopw [3, 4] (fun v i wr => ∃ (j : Nat) (ss : List ByteArray), j ≤ n ∧ i = .int .i64 j ∧ Hid (OwnR wr w.heap.size v ss ∧ ss.map bL = (xs.map dirTxt).take j ∧ Below w.heap.size w wr)) (fun _ i _ => n - (intOf i).toNat)
  case atStart => exact ⟨0, [], Nat.zero_le _, rfl, Lib.hid ⟨OwnR.nil _ _, by simp, Below.refl _ _⟩⟩
  case round =>
    obtain ⟨j, ss, hj, rfl, hr⟩ := hrel
    obtain ⟨hown, hss, hb⟩ := hr.out
    have HOW := Lib.hid hown
    have HSS := Lib.hid hss
    have HB := Lib.hid hb
    clear hown hss hb hr
    by_cases hlt : j < n
    · have hlt' : (j : Int) < n := by omega
      obtain ⟨x, hxi⟩ : ∃ x, xs[j]? = some x := ⟨_, List.getElem?_eq_getElem (by rw [HN.out]; exact hlt)⟩
      obtain ⟨a, eA, ha, hc0⟩ := HA.out (by omega)
      have hfx := HF.out x (List.mem_of_getElem? hxi)
      have hxd : (xs.map dirTxt)[j]? = some (dirTxt x) := by rw [List.getElem?_map, hxi]; rfl
      have hst := jn_step_le [32] hxd
      have HXS : Hid ((xs.map dirTxt).take (j + 1) = (xs.map dirTxt).take j ++ [dirTxt x]) := Lib.hid (take_sn hxd)
      have HDL : Hid ((dirTxt x).length ≤ 140737488355328) := Lib.hid (by have := HLL.out; unfold dirsTxt at this; omega)
      have HFX := Lib.hid hfx
      obtain ⟨Ai, ci, e1, _, hag⟩ := (HR.out j x hxi).args.form
      unfold big at hag
      obtain ⟨A1, c1, e1', _, _, V1, hA1, hr1⟩ := (HR.out j x hxi).args
      rw [e1] at e1'
      cases e1'
      have e0 := (HR.out j x hxi).name
      obtain ⟨m, hm⟩ : ∃ m, x.args.length = m := ⟨_, rfl⟩
      rw [hm] at hA1 e1 hag
      have hmm : (m : Int) ≤ 140737488351232 := by omega
      have HM := Lib.hid hm
      have HMG := Lib.hid hag
      have HA1 := Lib.hid hA1
      have HR1 := Lib.hid hr1
      have HC0 : Hid (∀ W, Below w.heap.size w W → W.cell? (a.add (j * 2)) = some (.string x.name)) := Lib.hid fun W hb => by
        rw [← e0]; exact ((hb.mono HBB.out).cell (by rw [add_block]; exact ha)).trans (hc0 j hlt 0 (by omega))
      have HC1 : Hid (∀ W, Below w.heap.size w W → W.cell? ⟨(a.add (j * 2)).block, (a.add (j * 2)).off + 1, none⟩ = some (.slice Ai m ci)) := Lib.hid fun W hb => by
        rw [← e1]; exact ((hb.mono HBB.out).cell (by show (a.add (j * 2)).block < B; rw [add_block]; exact ha)).trans (hc0 j hlt 1 (by omega))
      obtain ⟨base, hbase⟩ : ∃ base, base = wr.heap.size := ⟨_, rfl⟩
      have HBASE : Hid (w.heap.size ≤ base ∧ ∀ g, HOW.out.val.ownBlock = some g → g < base) := Lib.hid ⟨by rw [hbase]; exact HB.out.size, fun g hg => by rw [hbase]; exact (HOW.out.lt g hg).2⟩
      have HBS : Hid (base ≤ wr.heap.size) := Lib.hid (by omega)
      have EA := Lib.hid eA
      have x0 := HC0.out wr HB.out
      have x1 := HC1.out wr HB.out
      clear hc0 hfx hxd hst e0 e1 hm hA1 hr1 hag hbase eA
      subst EA
      go_wp2_with fail
      clear x0 x1
      go_loopw [5, 6] (fun v2 i2 wr => ∃ (k : Nat) (s2 : List ByteArray), k ≤ m ∧ i2 = .int .i64 k ∧ Hid (OwnR wr base v2 s2 ∧ s2.map bL = (x.args.map argTxt).take k ∧ OwnR wr w.heap.size HOW.out.val ss ∧ Below w.heap.size w wr ∧ base ≤ wr.heap.size)) (fun _ i2 _ => m - (intOf i2).toNat)
      case atStart => exact ⟨0, [], Nat.zero_le _, rfl, Lib.hid ⟨OwnR.nil _ _, by simp, HOW.out, HB.out, HBS.out⟩⟩
      case round =>
        obtain ⟨k, s2, hk, rfl, hr2⟩ := hrel
        obtain ⟨hown2, hss2, hout2, hb2, hbs2⟩ := hr2.out
        have HOW2 := Lib.hid hown2
        have HSS2 := Lib.hid hss2
        have HOUT2 := Lib.hid hout2
        have HB2 := Lib.hid hb2
        have HBS2 := Lib.hid hbs2
        clear hown2 hss2 hout2 hb2 hbs2 hr2
        have x1 := HC1.out _ HB2.out
        by_cases hlt2 : k < m
        · have hlt2' : (k : Int) < m := by omega
          obtain ⟨y, hyi⟩ : ∃ y, x.args[k]? = some y := ⟨_, List.getElem?_eq_getElem (by rw [HM.out]; exact hlt2)⟩
          obtain ⟨ai, eAi, hai, hk0⟩ := HA1.out (by omega)
          obtain ⟨k', n1, s1, VA, vli, vci, VK, vlk, vck, e1, e2, e3, e4, e5⟩ := Rd.form (HR1.out k y hyi).val
          have E1 := Lib.hid e1; have E2 := Lib.hid e2; have E3 := Lib.hid e3; have E4 := Lib.hid e4; have E5 := Lib.hid e5
          have en := (HR1.out k y hyi).name
          have HK0 : Hid (∀ W, Below w.heap.size w W → W.cell? (ai.add (k * 6)) = some (.string y.1)) := Lib.hid fun W hb => by
            rw [← en]; exact ((hb.mono HBB.out).cell (by rw [add_block]; exact hai)).trans (hk0 k hlt2 0 (by omega))
          have HKC : Hid (∀ W, Below w.heap.size w W → ∀ q, q < 6 → ∀ z, V1 k q = z → W.cell? (at_ (ai.add (k * 6)) q) = some z) := Lib.hid fun W hb q hq z hz => by
            rw [← hz]; exact ((hb.mono HBB.out).cell (by rw [at_block, add_block]; exact hai)).trans (hk0 k hlt2 q hq)
          have HXV : Hid (∀ W, Below w.heap.size w W → Rd W B (.agg #[.int .i64 k', .int .i64 n1, .string s1, .slice VA vli vci, .slice VK vlk vck]) y.2) := Lib.hid fun W hb => by
            have h1 := (HR1.out k y hyi).val
            rw [e1, e2, e3, e4, e5] at h1
            exact h1.kept (hb.mono HBB.out)
          have hal := arg_len x hyi
          have hdl := HDL.out
          have hxm : (x.args.map argTxt)[k]? = some (argTxt y) := by rw [List.getElem?_map, hyi]; rfl
          have HXS2 : Hid ((x.args.map argTxt).take (k + 1) = (x.args.map argTxt).take k ++ [argTxt y]) := Lib.hid (take_sn hxm)
          have hfy := HFX.out y (List.mem_of_getElem? hyi)
          obtain ⟨o, hob⟩ : ∃ o : ByteArray, bL o = y.2.src := ⟨⟨y.2.src.toArray⟩, bL_mk _⟩
          have hoz : o.size = y.2.src.length := by rw [← bL_len, hob]
          obtain ⟨u1, hu1, hadd1⟩ := cat_ex y.1 ⟨#[58, 32]⟩ (by show y.1.size + 2 ≤ _; omega)
          have hu1z : u1.size = y.1.size + 2 := by rw [← bL_len, hu1, List.length_append, bL_len]; rfl
          obtain ⟨u2, hu2, hadd2⟩ := cat_ex u1 o (by rw [hu1z, hoz]; omega)
          have HU2 : Hid (bL u2 = argTxt y) := Lib.hid (by rw [hu2, hu1, hob, List.append_assoc]; rfl)
          have HAD1 := Lib.hid hadd1
          have HAD2 := Lib.hid hadd2
          have CALL : Hid (∀ W, Below w.heap.size w W → Calls Tryz.prog 13 #[.agg #[.int .i64 k', .int .i64 n1, .string s1, .slice VA vli vci, .slice VK vlk vck]] W fun e w' => e = .returned (.string o) ∧ Below W.heap.size W w') := Lib.hid fun W hW => by
            have h1 := rvalue_any y.2 W B _ (HXV.out W hW) (Nat.le_trans HBB.out hW.size) hfy (by omega)
            refine h1.mono ?_
            rintro e w' ⟨⟨o', rfl, ho'⟩, hb⟩
            exact ⟨by rw [bL_inj (ho'.trans hob.symm)], hb⟩
          have HSL : Hid (s2.length = k) := Lib.hid (by have := congrArg List.length HSS2.out; rw [List.length_map, List.length_take, List.length_map, HM.out] at this; omega)
          have HEA := Lib.hid eAi
          clear hk0 e1 e2 e3 e4 e5 en hal hdl hxm hyi hob hoz hu1 hu1z hadd1 hu2 hadd2 eAi hfy
          subst HEA
          go_wp2_with fail
          clear x1
          obtain ⟨W, hW⟩ : ∃ W, wr.drew = W := ⟨_, rfl⟩
          have HBW : Hid (Below w.heap.size w W) := Lib.hid (hW ▸ HB2.out.trans (Below.drew (Below.refl _ _)))
          have HOW3 : Hid (OwnR W base HOW2.out.val s2) := Lib.hid (hW ▸ HOW2.out.stay (Below.drew (Below.refl _ _)))
          have HOUT3 : Hid (OwnR W w.heap.size HOW.out.val ss) := Lib.hid (hW ▸ HOUT2.out.stay (Below.drew (Below.refl _ _)))
          have hzW : base ≤ W.heap.size := by rw [← hW]; exact HBS2.out
          refine wp_region_puts (pv := pvD HOW2.out.val (.slice (some a) n c) j (a.add (j * 2)) (.slice (some ai) m ci) k (ai.add (k * 6)) y.1 u1 (.agg #[.int .i64 k', .int .i64 n1, .string s1, .slice VA vli vci, .slice VK vlk vck]) o u2) (b := 20) (c := 22) (e := 23) (x := 24) (C := fun w1 => Below W.heap.size W w1)
            (G := fun u w2 => ∃ w1, Below W.heap.size W w1 ∧ u = .slice (some ⟨w1.heap.size, 0, none⟩) 1 1 ∧ w2 = w1.alloc (.cells #[.string u2] 9 (0, 0)))
            (E := fun u w3 => OwnR w3 base u (s2 ++ [u2]) ∧ OwnR w3 w.heap.size HOW.out.val ss ∧ Below w.heap.size w w3 ∧ base ≤ w3.heap.size) (by kernel_rfl) (by kernel_rfl) (by kernel_rfl) ⟨by decide, by decide, by decide, by decide, by decide, by decide, rfl, rfl, rfl, by decide, by decide, by decide⟩ ?_ ?_ ?_ ?_ ?_ ?_ ?_ ?_ ?_
          · intro o ho d hcl hall; cases ho; exact hcl 21 _ rfl (hall ⟨21, .data⟩ (by simp) rfl) ⟨20, .data⟩ (by simp) rfl
          · intro o ho; cases ho; exact ⟨⟨22, .data⟩, by simp, rfl, rfl⟩
          · intro o ho; cases ho; exact ⟨⟨23, .data⟩, by simp, rfl, rfl⟩
          · intro i oo ho q1 q2 q3 q4 d a2 w2 hf hcl hdi hx0 had hw
            rw [hW] at hw
            have hi : i < 25 := (Array.getElem?_eq_some_iff.1 ho).1
            have hbx : (d 5 = false ∨ d 9 = false ∨ d 15 = false ∨ d 19 = false) → Below w.heap.size w w2 := by
              intro hd
              rcases hw with rfl | hb | ⟨u, w1, hb, _, rfl⟩ | ⟨hde, _⟩
              · exact HBW.out
              · exact HBW.out.trans (hb.mono HBW.out.size)
              · exact (HBW.out.trans (hb.mono HBW.out.size)).trans ((below_new w1 _).mono (Nat.le_trans HBW.out.size hb.size))
              · have d22 : d 22 = true := hcl 23 _ rfl hde ⟨22, .data⟩ (by simp) rfl
                have d21 : d 21 = true := hcl 22 _ rfl d22 ⟨21, .data⟩ (by simp) rfl
                have d10 : d 10 = true := hcl 21 _ rfl d21 ⟨10, .data⟩ (by simp) rfl
                have d20 : d 20 = true := hcl 21 _ rfl d21 ⟨20, .data⟩ (by simp) rfl
                have d9 : d 9 = true := hcl 10 _ rfl d10 ⟨9, .data⟩ (by simp) rfl
                have d8 : d 8 = true := hcl 9 _ rfl d9 ⟨8, .data⟩ (by simp) rfl
                have d7 : d 7 = true := hcl 8 _ rfl d8 ⟨7, .data⟩ (by simp) rfl
                have d5 : d 5 = true := hcl 7 _ rfl d7 ⟨5, .data⟩ (by simp) rfl
                have d19 : d 19 = true := hcl 20 _ rfl d20 ⟨19, .data⟩ (by simp) rfl
                have d18 : d 18 = true := hcl 19 _ rfl d19 ⟨18, .data⟩ (by simp) rfl
                have d17 : d 17 = true := hcl 18 _ rfl d18 ⟨17, .data⟩ (by simp) rfl
                have d15 : d 15 = true := hcl 17 _ rfl d17 ⟨15, .data⟩ (by simp) rfl
                rw [d5, d9, d15, d19] at hd
                simp at hd
            have hc : i = 0 ∨ i = 1 ∨ i = 2 ∨ i = 3 ∨ i = 4 ∨ i = 5 ∨ i = 6 ∨ i = 7 ∨ i = 8 ∨ i = 9 ∨ i = 10 ∨ i = 11 ∨ i = 12 ∨ i = 13 ∨ i = 14 ∨ i = 15 ∨ i = 16 ∨ i = 17 ∨ i = 18 ∨ i = 19 ∨ i = 21 := by omega
            rcases hc with rfl | rfl | rfl | rfl | rfl | rfl | rfl | rfl | rfl | rfl | rfl | rfl | rfl | rfl | rfl | rfl | rfl | rfl | rfl | rfl | rfl
            · cases ho
              have d24 : d 24 = false := by
                cases q : d 24 with
                | false => rfl
                | true =>
                  have d23 : d 23 = true := hcl 24 _ rfl q ⟨23, .data⟩ (by simp) rfl
                  have d0 : d 0 = true := hcl 23 _ rfl d23 ⟨0, .data⟩ (by simp) rfl
                  rw [d0] at hdi; cases hdi
              exact op_move rfl (.tmp 5) rfl (hx0 d24) ⟨rfl, fun z hz => by cases hz; rfl⟩
            · cases ho
              exact op_move rfl (.tmp 0) rfl (K.Fr.slot hf 0 (by kernel_rfl)) ⟨rfl, fun z hz => by cases hz; rfl⟩
            · cases ho
              exact op_move rfl (.tmp 4) rfl (K.Fr.slot hf 4 (by kernel_rfl)) ⟨rfl, fun z hz => by cases hz; rfl⟩
            · cases ho
              have hx : a2.eval (.tmp 25) = .slice (some a) n c := had ⟨1, .data⟩ (by simp) rfl _ rfl
              have hy : a2.eval (.tmp 26) = .int .i64 j := had ⟨2, .data⟩ (by simp) rfl _ rfl
              exact op_ixD rfl (.tmp 25) (.tmp 26) rfl hx hy hlt ⟨rfl, fun z hz => by cases hz; rfl⟩
            · cases ho
              have hx : a2.eval (.tmp 27) = .pointer (some (a.add (j * 2))) := had ⟨3, .data⟩ (by simp) rfl _ rfl
              exact op_faD1 rfl (.tmp 27) rfl hx ⟨rfl, fun z hz => by cases hz; rfl⟩
            · cases ho
              have hx : a2.eval (.tmp 28) = .pointer (some ⟨(a.add (j * 2)).block, (a.add (j * 2)).off + 1, none⟩) := had ⟨4, .data⟩ (by simp) rfl _ rfl
              exact op_ldLA rfl (.tmp 28) rfl hx (HC1.out _ (hbx (by simp [hdi]))) ⟨rfl, fun z hz => by cases hz; rfl⟩
            · cases ho
              exact op_move rfl (.tmp 6) rfl (K.Fr.slot hf 6 (by kernel_rfl)) ⟨rfl, fun z hz => by cases hz; rfl⟩
            · cases ho
              have hx : a2.eval (.tmp 29) = .slice (some ai) m ci := had ⟨5, .data⟩ (by simp) rfl _ rfl
              have hy : a2.eval (.tmp 30) = .int .i64 k := had ⟨6, .data⟩ (by simp) rfl _ rfl
              exact op_ixA rfl (.tmp 29) (.tmp 30) rfl hx hy hlt2 ⟨rfl, fun z hz => by cases hz; rfl⟩
            · cases ho
              have hx : a2.eval (.tmp 31) = .pointer (some (ai.add (k * 6))) := had ⟨7, .data⟩ (by simp) rfl _ rfl
              exact op_faA0 rfl (.tmp 31) rfl hx ⟨rfl, fun z hz => by cases hz; rfl⟩
            · cases ho
              have hx : a2.eval (.tmp 32) = .pointer (some (ai.add (k * 6))) := had ⟨8, .data⟩ (by simp) rfl _ rfl
              exact op_ldS rfl (.tmp 32) rfl hx (HK0.out _ (hbx (by simp [hdi]))) ⟨rfl, fun z hz => by cases hz; rfl⟩
            · cases ho
              have hx : a2.eval (.tmp 33) = .string y.1 := had ⟨9, .data⟩ (by simp) rfl _ rfl
              exact op_cat rfl (.tmp 33) (.const (.string ⟨#[58, 32]⟩)) rfl hx rfl HAD1.out ⟨rfl, fun z hz => by cases hz; rfl⟩
            · cases ho
              exact op_move rfl (.tmp 0) rfl (K.Fr.slot hf 0 (by kernel_rfl)) ⟨rfl, fun z hz => by cases hz; rfl⟩
            · cases ho
              exact op_move rfl (.tmp 4) rfl (K.Fr.slot hf 4 (by kernel_rfl)) ⟨rfl, fun z hz => by cases hz; rfl⟩
            · cases ho
              have hx : a2.eval (.tmp 35) = .slice (some a) n c := had ⟨11, .data⟩ (by simp) rfl _ rfl
              have hy : a2.eval (.tmp 36) = .int .i64 j := had ⟨12, .data⟩ (by simp) rfl _ rfl
              exact op_ixD rfl (.tmp 35) (.tmp 36) rfl hx hy hlt ⟨rfl, fun z hz => by cases hz; rfl⟩
            · cases ho
              have hx : a2.eval (.tmp 37) = .pointer (some (a.add (j * 2))) := had ⟨13, .data⟩ (by simp) rfl _ rfl
              exact op_faD1 rfl (.tmp 37) rfl hx ⟨rfl, fun z hz => by cases hz; rfl⟩
            · cases ho
              have hx : a2.eval (.tmp 38) = .pointer (some ⟨(a.add (j * 2)).block, (a.add (j * 2)).off + 1, none⟩) := had ⟨14, .data⟩ (by simp) rfl _ rfl
              exact op_ldLA rfl (.tmp 38) rfl hx (HC1.out _ (hbx (by simp [hdi]))) ⟨rfl, fun z hz => by cases hz; rfl⟩
            · cases ho
              exact op_move rfl (.tmp 6) rfl (K.Fr.slot hf 6 (by kernel_rfl)) ⟨rfl, fun z hz => by cases hz; rfl⟩
            · cases ho
              have hx : a2.eval (.tmp 39) = .slice (some ai) m ci := had ⟨15, .data⟩ (by simp) rfl _ rfl
              have hy : a2.eval (.tmp 40) = .int .i64 k := had ⟨16, .data⟩ (by simp) rfl _ rfl
              exact op_ixA rfl (.tmp 39) (.tmp 40) rfl hx hy hlt2 ⟨rfl, fun z hz => by cases hz; rfl⟩
            · cases ho
              have hx : a2.eval (.tmp 41) = .pointer (some (ai.add (k * 6))) := had ⟨17, .data⟩ (by simp) rfl _ rfl
              exact op_faA1 rfl (.tmp 41) rfl hx ⟨rfl, fun z hz => by cases hz; rfl⟩
            · cases ho
              have hx : a2.eval (.tmp 42) = .pointer (some ⟨(ai.add (k * 6)).block, (ai.add (k * 6)).off + 1, none⟩) := had ⟨18, .data⟩ (by simp) rfl _ rfl
              have hcc := HKC.out _ (hbx (by simp [hdi]))
              exact op_ldV rfl (.tmp 42) rfl hx (hcc 1 (by omega) _ E1.out) (hcc 2 (by omega) _ E2.out) (hcc 3 (by omega) _ E3.out) (hcc 4 (by omega) _ E4.out) (hcc 5 (by omega) _ E5.out) ⟨rfl, fun z hz => by cases hz; rfl⟩
            · cases ho
              have hx : a2.eval (.tmp 34) = .string u1 := had ⟨10, .data⟩ (by simp) rfl _ rfl
              have hy : a2.eval (.tmp 44) = .string o := had ⟨20, .data⟩ (by simp) rfl _ rfl
              exact op_cat rfl (.tmp 34) (.tmp 44) rfl hx hy HAD2.out ⟨rfl, fun z hz => by cases hz; rfl⟩
          · intro oo ho a2 hf had
            cases ho
            rw [hW]
            have hx : a2.eval (.tmp 43) = .agg #[.int .i64 k', .int .i64 n1, .string s1, .slice VA vli vci, .slice VK vlk vck] := had ⟨19, .data⟩ (by simp) rfl _ rfl
            refine runs_calls rfl _ _ _ rfl en_rvalue #[.agg #[.int .i64 k', .int .i64 n1, .string s1, .slice VA vli vci, .slice VK vlk vck]] (by rw [K.map1, hx]) ?_
            refine (CALL.out _ HBW.out).mono ?_
            rintro e w4 ⟨rfl, hb⟩
            exact ⟨_, rfl, hb, fun z hz => by cases hz; rfl⟩
          · intro oo ho a2 w2 hf had hb
            cases ho
            have hx : a2.eval (.tmp 45) = .string u2 := had ⟨21, .data⟩ (by simp) rfl _ rfl
            exact op_mk1 rfl (.tmp 45) rfl hx ⟨w2, hb, rfl, rfl⟩
          · intro oo ho a2 w2 hf had ⟨w1, hb, hu, hw⟩
            cases ho
            subst hw
            refine op_app rfl (.tmp 24) (.tmp 46) rfl base HOW2.out.val s2 (had ⟨0, .data⟩ (by simp) rfl _ rfl) ((HOW3.out.stay hb).stay (below_new _ _)) w1.heap.size u2 hu ((Bk.new w1 #[.string u2] 9).cell 0 _ rfl) (by have := HSL.out; have := HMG.out; omega) (by have := hb.size; simp; omega) ?_
            intro v' w' ho' hg'
            have hbs : Below w.heap.size w (w1.alloc (.cells #[.string u2] 9 (0, 0))) := (HBW.out.trans (hb.mono HBW.out.size)).trans ((below_new w1 _).mono (Nat.le_trans HBW.out.size hb.size))
            have how := (HOW3.out.stay hb).stay (below_new w1 (.cells #[.string u2] 9 (0, 0)))
            have hou := (HOUT3.out.stay hb).stay (below_new w1 (.cells #[.string u2] 9 (0, 0)))
            exact ⟨ho', hou.other hg' (fun g hg e => by have h1 := HBASE.out.2 g hg; have h2 := (how.lt g e).1; omega), hbs.grown hg' hbs.size (fun k hk => by have h1 := (how.lt k hk).1; have h2 := HBASE.out.1; omega), by have h1 := hg'.size; have h2 := hb.size; simp at h1; omega⟩
          · intro oo ho a2 w2 hf
            cases ho
            exact op_assign rfl (.tmp 47) rfl rfl ⟨rfl, rfl⟩
          intro a2 w3 hf hE hx16
          have h5 : a2.tmps.getD 5 undef = a2.tmps.getD 47 undef := hx16 (by decide)
          obtain ⟨hown3, hout3, hb3, hk3⟩ := hE
          have hown3 : OwnR w3 base (a2.tmps.getD 47 undef) (s2 ++ [u2]) := hown3
          rw [← h5] at hown3
          have hfa := _root_.Go.Proofs.YtbacimfbjpimbaaGreatDoor.K.over_ofB hf [24, 25, 26, 27, 28, 29, 30, 31, 32, 33, 34, 35, 36, 37, 38, 39, 40, 41, 42, 43, 44, 45, 46, 47, 5] (by kernel_rfl)
          have HO3 : Hid (OwnR w3 base ((fun d => a2.tmps.getD d undef) 5) (s2 ++ [u2])) := Lib.hid hown3
          have HOU3 := Lib.hid hout3
          have HB3 := Lib.hid hb3
          have HK3 := Lib.hid hk3
          clear hown3 hb3 hk3 hx16 h5 hf hout3
          generalize (fun d => a2.tmps.getD d undef) = f9 at hfa HO3
          subst hfa
          simp only [K.over, List.foldl_cons, List.foldl_nil, Act.put, List.setIfInBounds_toArray, List.set_cons_succ, List.set_cons_zero]
          generalize f9 24 = t24
          generalize f9 25 = t25
          generalize f9 26 = t26
          generalize f9 27 = t27
          generalize f9 28 = t28
          generalize f9 29 = t29
          generalize f9 30 = t30
          generalize f9 31 = t31
          generalize f9 32 = t32
          generalize f9 33 = t33
          generalize f9 34 = t34
          generalize f9 35 = t35
          generalize f9 36 = t36
          generalize f9 37 = t37
          generalize f9 38 = t38
          generalize f9 39 = t39
          generalize f9 40 = t40
          generalize f9 41 = t41
          generalize f9 42 = t42
          generalize f9 43 = t43
          generalize f9 44 = t44
          generalize f9 45 = t45
          generalize f9 46 = t46
          generalize f9 47 = t47
          generalize f9 5 = t5 at HO3 ⊢
          go_wp2_with fail
          go_roundw
          case rel => exact ⟨k + 1, s2 ++ [u2], by omega, by go_num, Lib.hid ⟨HO3.out, by rw [HXS2.out, List.map_append, HSS2.out, List.map_cons, List.map_nil, HU2.out], HOU3.out, HB3.out, HK3.out⟩⟩
          case measure => simp [intOf]; omega
        · have : k = m := by omega
          subst this
          have x0 := HC0.out _ HB2.out
          obtain ⟨A2, c2, hv2, hst2⟩ := HOW2.out.strs
          have HST2 := Lib.hid hst2
          have HFS : Hid (s2.map bL = x.args.map argTxt) := Lib.hid (by have := HSS2.out; rwa [List.take_of_length_le (by rw [List.length_map, HM.out]; exact Nat.le_refl _)] at this)
          have hsl : s2.length = k := by have := congrArg List.length HFS.out; rw [List.length_map, List.length_map, HM.out] at this; exact this
          subst hv2
          rw [hsl]
          have HSL2 := Lib.hid hsl
          have HSL1 : Hid (ss.length = j) := Lib.hid (by have := congrArg List.length HSS.out; rw [List.length_map, List.length_take, List.length_map, HN.out] at this; omega)
          have hdt : dirTxt x = [64] ++ (bL x.name ++ (if k = 0 then [] else [40] ++ (jn [44, 32] (x.args.map argTxt) ++ [41]))) := by unfold dirTxt; rw [HM.out]
          have hdl := HDL.out
          rw [hdt] at hdl
          simp only [List.length_append, List.length_cons, List.length_nil, bL_len] at hdl
          obtain ⟨q0, hq0, hadd0⟩ := cat_ex ⟨#[64]⟩ x.name (by show 1 + x.name.size ≤ _; omega)
          have hq0z : q0.size = x.name.size + 1 := by rw [← bL_len, hq0, List.length_append, bL_len x.name]; show 1 + x.name.size = _; omega
          have hq0' : bL q0 = [64] ++ bL x.name := hq0
          have HOUT4 : Hid (OwnR (wr.alloc (.cells #[.string q0] 9 (0, 0))) w.heap.size HOW.out.val ss) := Lib.hid (HOUT2.out.stay (below_new _ _))
          have HB4 : Hid (Below w.heap.size w (wr.alloc (.cells #[.string q0] 9 (0, 0)))) := Lib.hid (HB2.out.trans ((below_new wr _).mono HB2.out.size))
          by_cases hk0 : k = 0
          · have hk0' : ¬ (k : Int) > 0 := by omega
            rw [if_pos hk0] at hdt
            have HTX : Hid (bL q0 = dirTxt x) := Lib.hid (by rw [hq0', hdt, List.append_nil])
            clear hdt hdl hq0 hq0z hq0' hk0 hst2 hsl
            go_wp2_with (at_builtin; refine append_R rfl _ _ rfl w.heap.size _ ss rfl HOUT4.out wr.heap.size 1 q0 rfl ((Bk.new wr #[.string q0] 9).cell 0 _ rfl) (by have := HSL1.out; have := HBG.out; omega) (by have := HB2.out.size; simp; omega) ?_)
            intro v' w6 ho6 hg6
            have HB6 := Lib.hid (HB4.out.grown hg6 HB4.out.size (fun k hk => (HOUT4.out.lt k hk).1))
            have HO6 := Lib.hid ho6
            clear ho6 hg6
            go_wp2_with fail
            go_roundw
            case rel => exact ⟨j + 1, ss ++ [q0], by omega, by go_num, Lib.hid ⟨HO6.out, by rw [HXS.out, List.map_append, HSS.out, List.map_cons, List.map_nil, HTX.out], HB6.out⟩⟩
            case measure => simp [intOf]; omega
          · have hk0' : (k : Int) > 0 := by omega
            rw [if_neg hk0] at hdt hdl
            simp only [List.length_append, List.length_cons, List.length_nil] at hdl
            have HJ := Lib.hid (rjoin_any s2 A2 k c2 ⟨#[44, 32]⟩ wr HST2.out hsl (by have := HMG.out; omega) (by rw [HFS.out, show bL ⟨#[44, 32]⟩ = [44, 32] from rfl]; omega))
            obtain ⟨o, hob⟩ : ∃ o : ByteArray, bL o = jn [44, 32] (x.args.map argTxt) := ⟨⟨(jn [44, 32] (x.args.map argTxt)).toArray⟩, bL_mk _⟩
            have hoz : o.size = (jn [44, 32] (x.args.map argTxt)).length := by rw [← bL_len, hob]
            have HJ2 : Hid (Calls Tryz.prog 32 #[.slice A2 k c2, .string ⟨#[44, 32]⟩] wr fun e w' => e = .returned (.string o) ∧ wr = w') := Lib.hid (HJ.out.mono (by
              rintro e w' ⟨⟨o', rfl, ho'⟩, rfl⟩
              rw [HFS.out, show bL ⟨#[44, 32]⟩ = [44, 32] from rfl] at ho'
              exact ⟨by rw [bL_inj (ho'.trans hob.symm)], rfl⟩))
            obtain ⟨q1, hq1, hadd1⟩ := cat_ex q0 ⟨#[40]⟩ (by show q0.size + 1 ≤ _; omega)
            have hq1z : q1.size = q0.size + 1 := by rw [← bL_len, hq1, List.length_append, bL_len q0]; rfl
            obtain ⟨q2, hq2, hadd2⟩ := cat_ex q1 o (by omega)
            have hq2z : q2.size = q1.size + o.size := by rw [← bL_len, hq2, List.length_append, bL_len, bL_len]
            obtain ⟨q3, hq3, hadd3⟩ := cat_ex q2 ⟨#[41]⟩ (by show q2.size + 1 ≤ _; omega)
            have HTX : Hid (bL q3 = dirTxt x) := Lib.hid (by rw [hq3, hq2, hq1, hq0', hob, hdt]; simp only [List.append_assoc]; rfl)
            replace HOUT4 : Hid (OwnR (wr.alloc (.cells #[.string q3] 9 (0, 0))) w.heap.size HOW.out.val ss) := Lib.hid (HOUT2.out.stay (below_new _ _))
            replace HB4 : Hid (Below w.heap.size w (wr.alloc (.cells #[.string q3] 9 (0, 0)))) := Lib.hid (HB2.out.trans ((below_new wr _).mono HB2.out.size))
            clear hdt hdl hq0 hq0z hq0' hk0 hst2 hsl hob hoz hq1 hq1z hq2 hq2z hq3 HJ
            go_wp2_with fail
            refine HJ2.out.mono ?_
            rintro e w7 ⟨rfl, rfl⟩
            go_wp2_with (at_builtin; refine append_R rfl _ _ rfl w.heap.size _ ss rfl HOUT4.out wr.heap.size 1 q3 rfl ((Bk.new wr #[.string q3] 9).cell 0 _ rfl) (by have := HSL1.out; have := HBG.out; omega) (by have := HB2.out.size; simp; omega) ?_)
            intro v' w6 ho6 hg6
            have HB6 := Lib.hid (HB4.out.grown hg6 HB4.out.size (fun k hk => (HOUT4.out.lt k hk).1))
            have HO6 := Lib.hid ho6
            clear ho6 hg6
            go_wp2_with fail
            go_roundw
            case rel => exact ⟨j + 1, ss ++ [q3], by omega, by go_num, Lib.hid ⟨HO6.out, by rw [HXS.out, List.map_append, HSS.out, List.map_cons, List.map_nil, HTX.out], HB6.out⟩⟩
            case measure => simp [intOf]; omega
    · have : j = n := by omega
      subst this
      obtain ⟨A2, c2, hv2, hst2⟩ := HOW.out.strs
      have HST2 := Lib.hid hst2
      have HFS : Hid (ss.map bL = xs.map dirTxt) := Lib.hid (by have := HSS.out; rwa [List.take_of_length_le (by rw [List.length_map, HN.out]; exact Nat.le_refl _)] at this)
      have hsl : ss.length = j := by have := congrArg List.length HFS.out; rw [List.length_map, List.length_map, HN.out] at this; exact this
      subst hv2
      rw [hsl]
      have HJ := Lib.hid (rjoin_any ss A2 j c2 ⟨#[32]⟩ wr HST2.out hsl (by have := HBG.out; omega) (by rw [HFS.out, show bL ⟨#[32]⟩ = [32] from rfl]; exact HLL.out))
      clear hst2 hsl HOW
      go_wp2_with fail
      refine HJ.out.mono ?_
      rintro e w7 ⟨⟨o, rfl, ho⟩, rfl⟩
      rw [HFS.out, show bL ⟨#[32]⟩ = [32] from rfl] at ho
      have HU : Hid (bL o = dirsTxt xs) := Lib.hid ho
      clear ho
      go_wp2_with fail
      go_ret
      exact ⟨⟨o, rfl, HU.out⟩, HB.out⟩
end Go.Proofs.YtbacimfbjpimbaaGreatDoor
namespace Go.Proofs.YtbacimfbjpimbaaGreatDoor
open Go.RowKit
set_option maxRecDepth 100000 in
set_option maxHeartbeats 8000000 in
theorem large_any (xs : List DefT) (u : Value) (w : World) (B : Nat) (h : DefsR w B u xs) (hB : B ≤ w.heap.size) : Calls Tryz.prog 14 #[.agg #[u]] w fun e w' => (∃ b, e = .returned (.bool b)) ∧ Below w.heap.size w w' := by
  obtain ⟨A, c, rfl, hc, hbg, V, hA, hr⟩ := h
  unfold big at hbg
  obtain ⟨n, hn⟩ : ∃ n, xs.length = n := ⟨_, rfl⟩
  rw [hn] at hA hbg ⊢
  have hnm : (n : Int) ≤ 140737488351232 := by omega
  have HN := Lib.hid hn
  have HA := Lib.hid hA
  have HR := Lib.hid hr
  have HBB := Lib.hid hB
  have HB0 := Lib.hid (below_new w (.cells #[.slice A n c] 32 (0, 0)))
  have HK0 := Lib.hid (Bk.new w #[.slice A n c] 32)
  clear hn hA hr hc hbg
  have y0 := HK0.out.cell 0 _ rfl
  by_cases h70 : n > 70
  · have h70' : (n : Int) > 70 := by omega
    go_enter Tryz.func14, Tryz.ntmps14
    go_wp2_with fail
    go_ret
    exact ⟨⟨_, rfl⟩, HB0.out⟩
  have h70' : ¬ (n : Int) > 70 := by omega
  clear h70
  go_enter Tryz.func14, Tryz.ntmps14
  go_wp2_with fail
  clear y0
  go_loopw [3, 4] (fun v i wr => ∃ (j : Nat) (x : Int), j ≤ n ∧ i = .int .i64 j ∧ v = .int .i64 x ∧ Hid (Below w.heap.size w wr ∧ Bk wr w.heap.size #[.slice A n c] 32)) (fun _ i _ => n - (intOf i).toNat)
  case atStart => exact ⟨0, 0, Nat.zero_le _, rfl, rfl, Lib.hid ⟨HB0.out, HK0.out⟩⟩
  case round =>
    obtain ⟨j, z, hj, rfl, rfl, hr⟩ := hrel
    have HB := Lib.hid hr.out.1
    have HK := Lib.hid hr.out.2
    clear hr
    have y0 := HK.out.cell 0 _ rfl
    by_cases hlt : j < n
    · have hlt' : (j : Int) < n := by omega
      obtain ⟨x, hxi⟩ : ∃ x, xs[j]? = some x := ⟨_, List.getElem?_eq_getElem (by rw [HN.out]; exact hlt)⟩
      obtain ⟨a, rfl, ha, hc0⟩ := HA.out (by omega)
      have hx : DefR wr B (V j) x := DefR.stays.kept (HR.out j x hxi) (HB.out.mono HBB.out)
      have hcc : ∀ q, q < 7 → wr.cell? (at_ (a.add (j * 7)) q) = some (V j q) := fun q hq => ((HB.out.mono HBB.out).cell (by rw [at_block, add_block]; exact ha)).trans (hc0 j hlt q hq)
      have k0 : wr.cell? (a.add (j * 7)) = some (V j 0) := hcc 0 (by omega)
      have k1 : wr.cell? ⟨(a.add (j * 7)).block, (a.add (j * 7)).off + 1, none⟩ = some (V j 1) := hcc 1 (by omega)
      have k2 : wr.cell? ⟨(a.add (j * 7)).block, (a.add (j * 7)).off + 2, none⟩ = some (V j 2) := hcc 2 (by omega)
      have k3 : wr.cell? ⟨(a.add (j * 7)).block, (a.add (j * 7)).off + 3, none⟩ = some (V j 3) := hcc 3 (by omega)
      have k4 : wr.cell? ⟨(a.add (j * 7)).block, (a.add (j * 7)).off + 4, none⟩ = some (V j 4) := hcc 4 (by omega)
      have k5 : wr.cell? ⟨(a.add (j * 7)).block, (a.add (j * 7)).off + 5, none⟩ = some (V j 5) := hcc 5 (by omega)
      have k6 : wr.cell? ⟨(a.add (j * 7)).block, (a.add (j * 7)).off + 6, none⟩ = some (V j 6) := hcc 6 (by omega)
      obtain ⟨A2, c2, e2, _, g2⟩ := hx.impl.form
      obtain ⟨A3, c3, e3, _, g3⟩ := hx.dirs.form
      obtain ⟨A5, c5, e5, _, g5⟩ := hx.members.form
      obtain ⟨A6, c6, e6, _, g6⟩ := hx.inputs.form
      obtain ⟨A4, c4, e4, _, g4, V4, hA4, hr4⟩ := (HR.out j x hxi).fields
      rw [hx.kind] at k0
      rw [hx.name] at k1
      rw [e2] at k2
      rw [e3] at k3
      rw [e4] at k4
      rw [e5] at k5
      rw [e6] at k6
      unfold big at g2 g3 g4 g5 g6
      generalize x.impl.length = n2 at k2 g2
      generalize x.dirs.length = n3 at k3 g3
      generalize x.members.length = n5 at k5 g5
      generalize x.inputs.length = n6 at k6 g6
      generalize x.kind = kd at k0
      generalize x.name = nm at k1
      obtain ⟨n4, hn4⟩ : ∃ n4, x.fields.length = n4 := ⟨_, rfl⟩
      rw [hn4] at k4 g4 hA4
      have m4 : (n4 : Int) ≤ 140737488351232 := by omega
      have HA4 := Lib.hid hA4
      have HN4 := Lib.hid hn4
      have HR4 : Hid (∀ i y, x.fields[i]? = some y → ∃ (p1 p3 : Option Addr) (l1 q1 l3 q3 : Nat), V4 i 1 = .slice p1 l1 q1 ∧ V4 i 4 = .slice p3 l3 q3) := Lib.hid fun i y hy => by
        obtain ⟨p1, q1, f1, _, _⟩ := (hr4 i y hy).args.form
        obtain ⟨p3, q3, f3, _, _⟩ := (hr4 i y hy).dirs.form
        exact ⟨p1, p3, _, q1, _, q3, f1, f3⟩
      obtain ⟨tb, htb⟩ : ∃ tb, wr.heap.size = tb := ⟨_, rfl⟩
      have HT : Hid (Bk (wr.alloc (.cells #[.int .i64 kd, .string nm, .slice A2 n2 c2, .slice A3 n3 c3, .slice A4 n4 c4, .slice A5 n5 c5, .slice A6 n6 c6] 39 (0, 0))) tb #[.int .i64 kd, .string nm, .slice A2 n2 c2, .slice A3 n3 c3, .slice A4 n4 c4, .slice A5 n5 c5, .slice A6 n6 c6] 39) := Lib.hid (by rw [← htb]; exact Bk.new _ _ _)
      have HB2 : Hid (Below w.heap.size w (wr.alloc (.cells #[.int .i64 kd, .string nm, .slice A2 n2 c2, .slice A3 n3 c3, .slice A4 n4 c4, .slice A5 n5 c5, .slice A6 n6 c6] 39 (0, 0)))) := Lib.hid (HB.out.trans ((below_new wr _).mono HB.out.size))
      have HK2 : Hid (Bk (wr.alloc (.cells #[.int .i64 kd, .string nm, .slice A2 n2 c2, .slice A3 n3 c3, .slice A4 n4 c4, .slice A5 n5 c5, .slice A6 n6 c6] 39 (0, 0))) w.heap.size #[.slice (some a) n c] 32) := Lib.hid (HK.out.stay (below_new _ _))
      have HX4 : Hid (∀ k, k < n4 → ∃ b4, A4 = some b4 ∧ ∀ W, Below w.heap.size w W → ∀ q, q < 5 → W.cell? (at_ (b4.add (k * 5)) q) = some (V4 k q)) := Lib.hid fun k hk => by
        obtain ⟨b4, e, hb4, hcells⟩ := hA4 (by omega)
        exact ⟨b4, e, fun W hW q hq => ((hW.mono HBB.out).cell (by rw [at_block, add_block]; exact hb4)).trans (hcells k hk q hq)⟩
      clear hx hc0 hcc e2 e3 e4 e5 e6 hr4 hA4 hn4 hxi
      go_wp2_with fail
      clear htb
      clear y0 k0 k1 k2 k3 k4 k5 k6
      go_loopw [3, 6] (fun v2 i2 wr => ∃ (k : Nat) (z2 : Int), k ≤ n4 ∧ i2 = .int .i64 k ∧ v2 = .int .i64 z2 ∧ Hid (Below w.heap.size w wr ∧ Bk wr w.heap.size #[.slice (some a) n c] 32 ∧ Bk wr tb #[.int .i64 kd, .string nm, .slice A2 n2 c2, .slice A3 n3 c3, .slice A4 n4 c4, .slice A5 n5 c5, .slice A6 n6 c6] 39)) (fun _ i2 _ => n4 - (intOf i2).toNat)
      case atStart => exact ⟨0, _, Nat.zero_le _, rfl, rfl, Lib.hid ⟨HB2.out, HK2.out, HT.out⟩⟩
      case round =>
        obtain ⟨k, z2, hk, rfl, rfl, hr2⟩ := hrel
        have HB3 := Lib.hid hr2.out.1
        have HK3 := Lib.hid hr2.out.2.1
        have HT3 := Lib.hid hr2.out.2.2
        clear hr2
        have t4 := HT3.out.cell 4 _ rfl
        by_cases hlt2 : k < n4
        · have hlt2' : (k : Int) < n4 := by omega
          obtain ⟨y, hyi⟩ : ∃ y, x.fields[k]? = some y := ⟨_, List.getElem?_eq_getElem (by rw [HN4.out]; exact hlt2)⟩
          obtain ⟨p1, p3, l1, q1, l3, q3, f1, f3⟩ := HR4.out k y hyi
          obtain ⟨b4, e4b, hcells⟩ := HX4.out k hlt2
          subst e4b
          have HCL := Lib.hid hcells
          clear hcells hyi
          go_wp2_with fail
          refine wp_region_past (fun W => Below w.heap.size w W ∧ Bk W w.heap.size #[.slice (some a) n c] 32 ∧ Bk W tb #[.int .i64 kd, .string nm, .slice A2 n2 c2, .slice A3 n3 c3, .slice (some b4) n4 c4, .slice A5 n5 c5, .slice A6 n6 c6] 39) ⟨HB3.out, HK3.out, HT3.out⟩ (by kernel_rfl) ?_
          intro W ⟨hW, hW0, hW1⟩ _
          have p0 : ∀ q : Past W, q.w.cell? ⟨tb, 4, none⟩ = some (.slice (some b4) n4 c4) := fun q => (q.b.cell (p := ⟨tb, 4, none⟩) hW1.lt).trans (hW1.cell 4 _ rfl)
          have hp : ∀ q : Past W, Below w.heap.size w q.w := fun q => hW.trans (q.b.mono hW.size)
          have r1 : ∀ q : Past W, q.w.cell? ⟨(b4.add (k * 5)).block, (b4.add (k * 5)).off + 1, none⟩ = some (.slice p1 l1 q1) := fun q => (HCL.out _ (hp q) 1 (by omega)).trans (congrArg some f1)
          have r3 : ∀ q : Past W, q.w.cell? ⟨(b4.add (k * 5)).block, (b4.add (k * 5)).off + 4, none⟩ = some (.slice p3 l3 q3) := fun q => (HCL.out _ (hp q) 4 (by omega)).trans (congrArg some f3)
          have HWW := Lib.hid hW
          have HW0 := Lib.hid hW0
          have HW1 := Lib.hid hW1
          clear hW hW0 hW1 hp f1 f3
          repeat (go_big_quiet_step (fail))
          refine wpQuiet_nil ?_
          intro _ hw'
          obtain ⟨q, rfl⟩ := hw'
          go_wp2_with fail
          go_roundw
          case rel => exact ⟨k + 1, _, by omega, by go_num, rfl, Lib.hid ⟨HWW.out.trans (q.b.mono HWW.out.size), HW0.out.stay q.b, HW1.out.stay q.b⟩⟩
          case measure => simp [intOf]; omega
        · have : k = n4 := by omega
          subst this
          go_wp2_with fail
          go_roundw
          case rel => exact ⟨j + 1, z2, by omega, by go_num, rfl, Lib.hid ⟨HB3.out, HK3.out⟩⟩
          case measure => simp [intOf]; omega
    · have : j = n := by omega
      subst this
      go_wp2_with fail
      go_ret
      exact ⟨⟨_, rfl⟩, HB.out⟩
end Go.Proofs.YtbacimfbjpimbaaGreatDoor
namespace Go.Proofs.YtbacimfbjpimbaaGreatDoor
open Go.RowKit
set_option maxRecDepth 100000 in
set_option maxHeartbeats 1000000 in
theorem eqStr_nil (A A2 : Option Addr) (c c2 : Nat) (w : World) : Calls Tryz.prog 107 #[.slice A 0 c, .slice A2 0 c2] w fun e w' => e = .returned (.bool true) ∧ w = w' := by
  go_enter Tryz.func107, Tryz.ntmps107
  go_wp2_with fail
  go_loopw [13] (fun u wr => u = .int .i64 0 ∧ w = wr) (fun _ _ => 0)
  case atStart => exact ⟨rfl, rfl⟩
  case round =>
    obtain ⟨rfl, rfl⟩ := hrel
    go_wp2_with fail
    go_ret
    exact ⟨rfl, rfl⟩
set_option maxRecDepth 100000 in
set_option maxHeartbeats 1000000 in
theorem eqDir_nil (A A2 : Option Addr) (c c2 : Nat) (G : Value) (w : World) : Calls Tryz.prog 174 #[.slice A 0 c, .slice A2 0 c2, G] w fun e w' => e = .returned (.bool true) ∧ w = w' := by
  go_enter Tryz.func174, Tryz.ntmps174
  go_wp2_with fail
  go_loopw [17] (fun u wr => u = .int .i64 0 ∧ w = wr) (fun _ _ => 0)
  case atStart => exact ⟨rfl, rfl⟩
  case round =>
    obtain ⟨rfl, rfl⟩ := hrel
    go_wp2_with fail
    go_ret
    exact ⟨rfl, rfl⟩
set_option maxRecDepth 100000 in
set_option maxHeartbeats 1000000 in
theorem eqMem_nil (A A2 : Option Addr) (c c2 : Nat) (G : Value) (w : World) : Calls Tryz.prog 111 #[.slice A 0 c, .slice A2 0 c2, G] w fun e w' => e = .returned (.bool true) ∧ w = w' := by
  go_enter Tryz.func111, Tryz.ntmps111
  go_wp2_with fail
  go_loopw [17] (fun u wr => u = .int .i64 0 ∧ w = wr) (fun _ _ => 0)
  case atStart => exact ⟨rfl, rfl⟩
  case round =>
    obtain ⟨rfl, rfl⟩ := hrel
    go_wp2_with fail
    go_ret
    exact ⟨rfl, rfl⟩
set_option maxRecDepth 100000 in
set_option maxHeartbeats 1000000 in
theorem eqInp_nil (A A2 : Option Addr) (c c2 : Nat) (G : Value) (w : World) : Calls Tryz.prog 113 #[.slice A 0 c, .slice A2 0 c2, G] w fun e w' => e = .returned (.bool true) ∧ w = w' := by
  go_enter Tryz.func113, Tryz.ntmps113
  go_wp2_with fail
  go_loopw [17] (fun u wr => u = .int .i64 0 ∧ w = wr) (fun _ _ => 0)
  case atStart => exact ⟨rfl, rfl⟩
  case round =>
    obtain ⟨rfl, rfl⟩ := hrel
    go_wp2_with fail
    go_ret
    exact ⟨rfl, rfl⟩
set_option maxRecDepth 100000 in
set_option maxHeartbeats 4000000 in
theorem eqFld_one (s0 s2 : ByteArray) (A1 A3 A4 : Option Addr) (l1 z1 l3 z3 l4 z4 : Nat) (g c : Nat) (w : World) (hk : Bk w g #[.string s0, .slice A1 l1 z1, .string s2, .slice A3 l3 z3, .slice A4 l4 z4] 45)
    (hC : ∀ W, Below w.heap.size w W → Calls Tryz.prog 110 #[.agg #[.string s0, .slice A1 l1 z1, .string s2, .slice A3 l3 z3, .slice A4 l4 z4], .agg #[.string s0, .slice A1 l1 z1, .string s2, .slice A3 l3 z3, .slice A4 l4 z4]] W fun e w' => e = .returned (.bool true) ∧ Below W.heap.size W w') :
    Calls Tryz.prog 109 #[.slice (some ⟨g, 0, none⟩) 1 c, .slice (some ⟨g, 0, none⟩) 1 c, .func (.func 110) #[] #[]] w fun e w' => e = .returned (.bool true) ∧ Below w.heap.size w w' := by
  have HK := Lib.hid hk
  have HC := Lib.hid hC
  clear hk hC
  go_enter Tryz.func109, Tryz.ntmps109
  go_wp2_with fail
  go_loopw [17] (fun u wr => ∃ i : Nat, i ≤ 1 ∧ u = .int .i64 i ∧ Hid (Below w.heap.size w wr)) (fun u _ => 1 - (intOf u).toNat)
  case atStart => exact ⟨0, Nat.zero_le _, rfl, Lib.hid (Below.refl _ _)⟩
  case round =>
    obtain ⟨i, hi, rfl, hr⟩ := hrel
    by_cases h0 : i = 0
    · subst h0
      have hk1 := HK.out.stay hr.out
      have y0 := hk1.cell 0 _ rfl
      have y1 := hk1.cell 1 _ rfl
      have y2 := hk1.cell 2 _ rfl
      have y3 := hk1.cell 3 _ rfl
      have y4 := hk1.cell 4 _ rfl
      have hk2 := hk1.stay (below_new wr (.cells #[.string s0, .slice A1 l1 z1, .string s2, .slice A3 l3 z3, .slice A4 l4 z4] 45 (0, 0)))
      have q0 := hk2.cell 0 _ rfl
      have q1 := hk2.cell 1 _ rfl
      have q2 := hk2.cell 2 _ rfl
      have q3 := hk2.cell 3 _ rfl
      have q4 := hk2.cell 4 _ rfl
      have CALL := Lib.hid (fun W (hW : Below wr.heap.size wr W) => HC.out W (hr.out.trans (hW.mono hr.out.size)))
      clear hk1 hk2
      go_wp2_with fail
      refine (CALL.out _ (((below_new wr _).alloc (by simp) _))).mono ?_
      rintro e w5 ⟨rfl, hb⟩
      have HB5 := Lib.hid (hr.out.trans ((((below_new wr _).alloc (by simp) _).trans (hb.mono (by simp; omega))).mono hr.out.size))
      clear hb CALL y0 q0 y1 q1 y2 q2 y3 q3 y4 q4
      go_wp2_with fail
      go_roundw
      case rel => exact ⟨1, by omega, by go_num, Lib.hid HB5.out⟩
      case measure => simp [intOf]
    · have : i = 1 := by omega
      subst this
      go_wp2_with fail
      go_ret
      exact ⟨rfl, hr.out⟩
set_option maxRecDepth 100000 in
set_option maxHeartbeats 4000000 in
theorem eqDef_one (k0 : Int) (s1 : ByteArray) (A2 A3 A4 A5 A6 : Option Addr) (l2 z2 l3 z3 l4 z4 l5 z5 l6 z6 : Nat) (g c : Nat) (w : World) (hk : Bk w g #[.int .i64 k0, .string s1, .slice A2 l2 z2, .slice A3 l3 z3, .slice A4 l4 z4, .slice A5 l5 z5, .slice A6 l6 z6] 39)
    (hC : ∀ W, Below w.heap.size w W → Calls Tryz.prog 53 #[.agg #[.int .i64 k0, .string s1, .slice A2 l2 z2, .slice A3 l3 z3, .slice A4 l4 z4, .slice A5 l5 z5, .slice A6 l6 z6], .agg #[.int .i64 k0, .string s1, .slice A2 l2 z2, .slice A3 l3 z3, .slice A4 l4 z4, .slice A5 l5 z5, .slice A6 l6 z6]] W fun e w' => e = .returned (.bool true) ∧ Below W.heap.size W w') :
    Calls Tryz.prog 52 #[.slice (some ⟨g, 0, none⟩) 1 c, .slice (some ⟨g, 0, none⟩) 1 c, .func (.func 53) #[] #[]] w fun e w' => e = .returned (.bool true) ∧ Below w.heap.size w w' := by
  have HK := Lib.hid hk
  have HC := Lib.hid hC
  clear hk hC
  go_enter Tryz.func52, Tryz.ntmps52
  go_wp2_with fail
  go_loopw [17] (fun u wr => ∃ i : Nat, i ≤ 1 ∧ u = .int .i64 i ∧ Hid (Below w.heap.size w wr)) (fun u _ => 1 - (intOf u).toNat)
  case atStart => exact ⟨0, Nat.zero_le _, rfl, Lib.hid (Below.refl _ _)⟩
  case round =>
    obtain ⟨i, hi, rfl, hr⟩ := hrel
    by_cases h0 : i = 0
    · subst h0
      have hk1 := HK.out.stay hr.out
      have y0 := hk1.cell 0 _ rfl
      have y1 := hk1.cell 1 _ rfl
      have y2 := hk1.cell 2 _ rfl
      have y3 := hk1.cell 3 _ rfl
      have y4 := hk1.cell 4 _ rfl
      have y5 := hk1.cell 5 _ rfl
      have y6 := hk1.cell 6 _ rfl
      have hk2 := hk1.stay (below_new wr (.cells #[.int .i64 k0, .string s1, .slice A2 l2 z2, .slice A3 l3 z3, .slice A4 l4 z4, .slice A5 l5 z5, .slice A6 l6 z6] 39 (0, 0)))
      have q0 := hk2.cell 0 _ rfl
      have q1 := hk2.cell 1 _ rfl
      have q2 := hk2.cell 2 _ rfl
      have q3 := hk2.cell 3 _ rfl
      have q4 := hk2.cell 4 _ rfl
      have q5 := hk2.cell 5 _ rfl
      have q6 := hk2.cell 6 _ rfl
      have CALL := Lib.hid (fun W (hW : Below wr.heap.size wr W) => HC.out W (hr.out.trans (hW.mono hr.out.size)))
      clear hk1 hk2
      go_wp2_with fail
      refine (CALL.out _ (((below_new wr _).alloc (by simp) _))).mono ?_
      rintro e w5 ⟨rfl, hb⟩
      have HB5 := Lib.hid (hr.out.trans ((((below_new wr _).alloc (by simp) _).trans (hb.mono (by simp; omega))).mono hr.out.size))
      clear hb CALL y0 q0 y1 q1 y2 q2 y3 q3 y4 q4 y5 q5 y6 q6
      go_wp2_with fail
      go_roundw
      case rel => exact ⟨1, by omega, by go_num, Lib.hid HB5.out⟩
      case measure => simp [intOf]
    · have : i = 1 := by omega
      subst this
      go_wp2_with fail
      go_ret
      exact ⟨rfl, hr.out⟩
end Go.Proofs.YtbacimfbjpimbaaGreatDoor
namespace Go.Proofs.YtbacimfbjpimbaaGreatDoor
open Go.RowKit
theorem sameDirs_nil (A A2 : Option Addr) (c c2 : Nat) (w : World) : Calls Tryz.prog 108 #[.slice A 0 c, .slice A2 0 c2] w fun e w' => e = .returned (.bool true) ∧ w = w' := by
  go_enter Tryz.func108, Tryz.ntmps108
  go_wp2_with fail
  refine (eqDir_nil A A2 c c2 _ w).mono ?_
  rintro e w1 ⟨rfl, rfl⟩
  go_wp2_with fail
  go_ret
  exact ⟨rfl, rfl⟩
set_option maxRecDepth 100000 in
set_option maxHeartbeats 4000000 in
theorem sameField_ex (w : World) : Calls Tryz.prog 110 #[.agg #[.string ⟨#[120]⟩, .slice none 0 0, .string ⟨#[73, 110, 116]⟩, .slice none 0 0, .slice none 0 0], .agg #[.string ⟨#[120]⟩, .slice none 0 0, .string ⟨#[73, 110, 116]⟩, .slice none 0 0, .slice none 0 0]] w fun e w' => e = .returned (.bool true) ∧ Below w.heap.size w w' := by
  have HA : Hid (Bk ((w.alloc (.cells #[.string ⟨#[120]⟩, .slice none 0 0, .string ⟨#[73, 110, 116]⟩, .slice none 0 0, .slice none 0 0] 45 (0, 0))).alloc (.cells #[.string ⟨#[120]⟩, .slice none 0 0, .string ⟨#[73, 110, 116]⟩, .slice none 0 0, .slice none 0 0] 45 (0, 0))) w.heap.size #[.string ⟨#[120]⟩, .slice none 0 0, .string ⟨#[73, 110, 116]⟩, .slice none 0 0, .slice none 0 0] 45) := Lib.hid ((Bk.new w #[.string ⟨#[120]⟩, .slice none 0 0, .string ⟨#[73, 110, 116]⟩, .slice none 0 0, .slice none 0 0] 45).stay (below_new _ _))
  have HB : Hid (Bk ((w.alloc (.cells #[.string ⟨#[120]⟩, .slice none 0 0, .string ⟨#[73, 110, 116]⟩, .slice none 0 0, .slice none 0 0] 45 (0, 0))).alloc (.cells #[.string ⟨#[120]⟩, .slice none 0 0, .string ⟨#[73, 110, 116]⟩, .slice none 0 0, .slice none 0 0] 45 (0, 0))) (w.heap.size + 1) #[.string ⟨#[120]⟩, .slice none 0 0, .string ⟨#[73, 110, 116]⟩, .slice none 0 0, .slice none 0 0] 45) := Lib.hid (by
    have h := Bk.new (w.alloc (.cells #[.string ⟨#[120]⟩, .slice none 0 0, .string ⟨#[73, 110, 116]⟩, .slice none 0 0, .slice none 0 0] 45 (0, 0))) #[.string ⟨#[120]⟩, .slice none 0 0, .string ⟨#[73, 110, 116]⟩, .slice none 0 0, .slice none 0 0] 45
    rwa [show (w.alloc (.cells #[.string ⟨#[120]⟩, .slice none 0 0, .string ⟨#[73, 110, 116]⟩, .slice none 0 0, .slice none 0 0] 45 (0, 0))).heap.size = w.heap.size + 1 by simp] at h)
  have HW : Hid (Below w.heap.size w ((w.alloc (.cells #[.string ⟨#[120]⟩, .slice none 0 0, .string ⟨#[73, 110, 116]⟩, .slice none 0 0, .slice none 0 0] 45 (0, 0))).alloc (.cells #[.string ⟨#[120]⟩, .slice none 0 0, .string ⟨#[73, 110, 116]⟩, .slice none 0 0, .slice none 0 0] 45 (0, 0)))) := Lib.hid ((below_new w _).alloc (by simp) _)
  have y0 := HA.out.cell 0 _ rfl
  have y1 := HA.out.cell 1 _ rfl
  have y2 := HA.out.cell 2 _ rfl
  have y3 := HA.out.cell 3 _ rfl
  have y4 := HA.out.cell 4 _ rfl
  have z0 := HB.out.cell 0 _ rfl
  have z1 := HB.out.cell 1 _ rfl
  have z2 := HB.out.cell 2 _ rfl
  have z3 := HB.out.cell 3 _ rfl
  have z4 := HB.out.cell 4 _ rfl
  have CALL := fun W => K.tsame2_any ⟨#[73, 110, 116]⟩ ⟨#[73, 110, 116]⟩ [] [] (.agg #[.string ⟨#[73, 110, 116]⟩, .slice none 0 0]) (.agg #[.string ⟨#[73, 110, 116]⟩, .slice none 0 0]) W ⟨none, 0, rfl, Nat.le_refl _, fun h => absurd h (by simp)⟩ ⟨none, 0, rfl, Nat.le_refl _, fun h => absurd h (by simp)⟩ (by simp)
  rw [show decide ((⟨#[73, 110, 116]⟩ : ByteArray) = ⟨#[73, 110, 116]⟩ ∧ ([] : K.Ws) = []) = true by simp] at CALL
  go_enter Tryz.func110, Tryz.ntmps110
  go_wp2_with fail
  refine (CALL _).mono ?_
  rintro e w1 ⟨rfl, hb⟩
  have HW1 := Lib.hid (HW.out.trans (hb.mono HW.out.size))
  have ha := HA.out.stay hb
  have hb2 := HB.out.stay hb
  clear hb CALL y0 z0 y1 z1 y2 z2 y3 z3 y4 z4
  have y0 := ha.cell 0 _ rfl
  have y1 := ha.cell 1 _ rfl
  have y2 := ha.cell 2 _ rfl
  have y3 := ha.cell 3 _ rfl
  have y4 := ha.cell 4 _ rfl
  have z0 := hb2.cell 0 _ rfl
  have z1 := hb2.cell 1 _ rfl
  have z2 := hb2.cell 2 _ rfl
  have z3 := hb2.cell 3 _ rfl
  have z4 := hb2.cell 4 _ rfl
  clear ha hb2
  go_wp2_with fail
  refine (eqInp_nil none none 0 0 _ _).mono ?_
  rintro e w2 ⟨rfl, rfl⟩
  go_wp2_with fail
  refine (sameDirs_nil none none 0 0 _).mono ?_
  rintro e w2 ⟨rfl, rfl⟩
  go_wp2_with fail
  go_ret
  exact ⟨rfl, HW1.out⟩
set_option maxRecDepth 100000 in
set_option maxHeartbeats 4000000 in
theorem sameDef_ex (g : Nat) (w : World) (hg : Bk w g #[.string ⟨#[120]⟩, .slice none 0 0, .string ⟨#[73, 110, 116]⟩, .slice none 0 0, .slice none 0 0] 45) : Calls Tryz.prog 53 #[.agg #[.int .i64 1, .string ⟨#[84]⟩, .slice none 0 0, .slice none 0 0, .slice (some ⟨g, 0, none⟩) 1 1, .slice none 0 0, .slice none 0 0], .agg #[.int .i64 1, .string ⟨#[84]⟩, .slice none 0 0, .slice none 0 0, .slice (some ⟨g, 0, none⟩) 1 1, .slice none 0 0, .slice none 0 0]] w fun e w' => e = .returned (.bool true) ∧ Below w.heap.size w w' := by
  have HA : Hid (Bk ((w.alloc (.cells #[.int .i64 1, .string ⟨#[84]⟩, .slice none 0 0, .slice none 0 0, .slice (some ⟨g, 0, none⟩) 1 1, .slice none 0 0, .slice none 0 0] 39 (0, 0))).alloc (.cells #[.int .i64 1, .string ⟨#[84]⟩, .slice none 0 0, .slice none 0 0, .slice (some ⟨g, 0, none⟩) 1 1, .slice none 0 0, .slice none 0 0] 39 (0, 0))) w.heap.size #[.int .i64 1, .string ⟨#[84]⟩, .slice none 0 0, .slice none 0 0, .slice (some ⟨g, 0, none⟩) 1 1, .slice none 0 0, .slice none 0 0] 39) := Lib.hid ((Bk.new w #[.int .i64 1, .string ⟨#[84]⟩, .slice none 0 0, .slice none 0 0, .slice (some ⟨g, 0, none⟩) 1 1, .slice none 0 0, .slice none 0 0] 39).stay (below_new _ _))
  have HB : Hid (Bk ((w.alloc (.cells #[.int .i64 1, .string ⟨#[84]⟩, .slice none 0 0, .slice none 0 0, .slice (some ⟨g, 0, none⟩) 1 1, .slice none 0 0, .slice none 0 0] 39 (0, 0))).alloc (.cells #[.int .i64 1, .string ⟨#[84]⟩, .slice none 0 0, .slice none 0 0, .slice (some ⟨g, 0, none⟩) 1 1, .slice none 0 0, .slice none 0 0] 39 (0, 0))) (w.heap.size + 1) #[.int .i64 1, .string ⟨#[84]⟩, .slice none 0 0, .slice none 0 0, .slice (some ⟨g, 0, none⟩) 1 1, .slice none 0 0, .slice none 0 0] 39) := Lib.hid (by
    have h := Bk.new (w.alloc (.cells #[.int .i64 1, .string ⟨#[84]⟩, .slice none 0 0, .slice none 0 0, .slice (some ⟨g, 0, none⟩) 1 1, .slice none 0 0, .slice none 0 0] 39 (0, 0))) #[.int .i64 1, .string ⟨#[84]⟩, .slice none 0 0, .slice none 0 0, .slice (some ⟨g, 0, none⟩) 1 1, .slice none 0 0, .slice none 0 0] 39
    rwa [show (w.alloc (.cells #[.int .i64 1, .string ⟨#[84]⟩, .slice none 0 0, .slice none 0 0, .slice (some ⟨g, 0, none⟩) 1 1, .slice none 0 0, .slice none 0 0] 39 (0, 0))).heap.size = w.heap.size + 1 by simp] at h)
  have HW : Hid (Below w.heap.size w ((w.alloc (.cells #[.int .i64 1, .string ⟨#[84]⟩, .slice none 0 0, .slice none 0 0, .slice (some ⟨g, 0, none⟩) 1 1, .slice none 0 0, .slice none 0 0] 39 (0, 0))).alloc (.cells #[.int .i64 1, .string ⟨#[84]⟩, .slice none 0 0, .slice none 0 0, .slice (some ⟨g, 0, none⟩) 1 1, .slice none 0 0, .slice none 0 0] 39 (0, 0)))) := Lib.hid ((below_new w _).alloc (by simp) _)
  have y0 := HA.out.cell 0 _ rfl
  have y1 := HA.out.cell 1 _ rfl
  have y2 := HA.out.cell 2 _ rfl
  have y3 := HA.out.cell 3 _ rfl
  have y4 := HA.out.cell 4 _ rfl
  have y5 := HA.out.cell 5 _ rfl
  have y6 := HA.out.cell 6 _ rfl
  have z0 := HB.out.cell 0 _ rfl
  have z1 := HB.out.cell 1 _ rfl
  have z2 := HB.out.cell 2 _ rfl
  have z3 := HB.out.cell 3 _ rfl
  have z4 := HB.out.cell 4 _ rfl
  have z5 := HB.out.cell 5 _ rfl
  have z6 := HB.out.cell 6 _ rfl
  have CALL := Lib.hid (eqFld_one ⟨#[120]⟩ ⟨#[73, 110, 116]⟩ none none none 0 0 0 0 0 0 g 1 _ (hg.stay HW.out) (fun W _ => sameField_ex W))
  go_enter Tryz.func53, Tryz.ntmps53
  go_wp2_with fail
  refine (eqStr_nil none none 0 0 _).mono ?_
  rintro e w2 ⟨rfl, rfl⟩
  go_wp2_with fail
  refine (sameDirs_nil none none 0 0 _).mono ?_
  rintro e w2 ⟨rfl, rfl⟩
  go_wp2_with fail
  refine CALL.out.mono ?_
  rintro e w1 ⟨rfl, hb⟩
  have HW1 := Lib.hid (HW.out.trans (hb.mono HW.out.size))
  have ha := HA.out.stay hb
  have hb2 := HB.out.stay hb
  clear hb CALL y0 z0 y1 z1 y2 z2 y3 z3 y4 z4 y5 z5 y6 z6
  have y0 := ha.cell 0 _ rfl
  have y1 := ha.cell 1 _ rfl
  have y2 := ha.cell 2 _ rfl
  have y3 := ha.cell 3 _ rfl
  have y4 := ha.cell 4 _ rfl
  have y5 := ha.cell 5 _ rfl
  have y6 := ha.cell 6 _ rfl
  have z0 := hb2.cell 0 _ rfl
  have z1 := hb2.cell 1 _ rfl
  have z2 := hb2.cell 2 _ rfl
  have z3 := hb2.cell 3 _ rfl
  have z4 := hb2.cell 4 _ rfl
  have z5 := hb2.cell 5 _ rfl
  have z6 := hb2.cell 6 _ rfl
  clear ha hb2
  go_wp2_with fail
  refine (eqMem_nil none none 0 0 _ _).mono ?_
  rintro e w2 ⟨rfl, rfl⟩
  go_wp2_with fail
  refine (eqInp_nil none none 0 0 _ _).mono ?_
  rintro e w2 ⟨rfl, rfl⟩
  go_wp2_with fail
  go_ret
  exact ⟨rfl, HW1.out⟩
set_option maxRecDepth 100000 in
set_option maxHeartbeats 4000000 in
theorem same_ex (g d : Nat) (w : World) (hg : Bk w g #[.string ⟨#[120]⟩, .slice none 0 0, .string ⟨#[73, 110, 116]⟩, .slice none 0 0, .slice none 0 0] 45) (hd : Bk w d #[.int .i64 1, .string ⟨#[84]⟩, .slice none 0 0, .slice none 0 0, .slice (some ⟨g, 0, none⟩) 1 1, .slice none 0 0, .slice none 0 0] 39) : Calls Tryz.prog 24 #[.agg #[.slice (some ⟨d, 0, none⟩) 1 1], .agg #[.slice (some ⟨d, 0, none⟩) 1 1]] w fun e w' => e = .returned (.bool true) ∧ Below w.heap.size w w' := by
  have HA : Hid (Bk ((w.alloc (.cells #[.slice (some ⟨d, 0, none⟩) 1 1] 32 (0, 0))).alloc (.cells #[.slice (some ⟨d, 0, none⟩) 1 1] 32 (0, 0))) w.heap.size #[.slice (some ⟨d, 0, none⟩) 1 1] 32) := Lib.hid ((Bk.new w #[.slice (some ⟨d, 0, none⟩) 1 1] 32).stay (below_new _ _))
  have HB : Hid (Bk ((w.alloc (.cells #[.slice (some ⟨d, 0, none⟩) 1 1] 32 (0, 0))).alloc (.cells #[.slice (some ⟨d, 0, none⟩) 1 1] 32 (0, 0))) (w.heap.size + 1) #[.slice (some ⟨d, 0, none⟩) 1 1] 32) := Lib.hid (by
    have h := Bk.new (w.alloc (.cells #[.slice (some ⟨d, 0, none⟩) 1 1] 32 (0, 0))) #[.slice (some ⟨d, 0, none⟩) 1 1] 32
    rwa [show (w.alloc (.cells #[.slice (some ⟨d, 0, none⟩) 1 1] 32 (0, 0))).heap.size = w.heap.size + 1 by simp] at h)
  have HW : Hid (Below w.heap.size w ((w.alloc (.cells #[.slice (some ⟨d, 0, none⟩) 1 1] 32 (0, 0))).alloc (.cells #[.slice (some ⟨d, 0, none⟩) 1 1] 32 (0, 0)))) := Lib.hid ((below_new w _).alloc (by simp) _)
  have y0 := HA.out.cell 0 _ rfl
  have z0 := HB.out.cell 0 _ rfl
  have CALL := Lib.hid (eqDef_one 1 ⟨#[84]⟩ none none (some ⟨g, 0, none⟩) none none 0 0 0 0 1 1 0 0 0 0 d 1 _ (hd.stay HW.out) (fun W hW => sameDef_ex g W ((hg.stay HW.out).stay hW)))
  go_enter Tryz.func24, Tryz.ntmps24
  go_wp2_with fail
  refine CALL.out.mono ?_
  rintro e w1 ⟨rfl, hb⟩
  have HW1 := Lib.hid (HW.out.trans (hb.mono HW.out.size))
  clear hb CALL y0 z0
  go_wp2_with fail
  go_ret
  exact ⟨rfl, HW1.out⟩
end Go.Proofs.YtbacimfbjpimbaaGreatDoor
