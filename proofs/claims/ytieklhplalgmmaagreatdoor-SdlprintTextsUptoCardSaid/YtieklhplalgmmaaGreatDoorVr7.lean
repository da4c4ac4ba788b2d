
/-
  Texts joined: NW N5.
-/
import Derived.Test.YtieklhplalgmmaaGreatDoorVr5
import Derived.Test.YtieklhplalgmmaaGreatDoorVr6
namespace Go.Proofs.YtieklhplalgmmaaGreatDoor
open Go.RowKit
theorem en_rvalue : ∀ (args : Array Value) (w : World), (callFunc 91 args).run Tryz.prog w = .ok (.enter 91 args) w := enters_of Tryz.func91 (by kernel_rfl) rfl
def pvO (row : Value) (g : Nat) (K : Value) (j : Nat) (ka : Addr) (y u1 : ByteArray) (A : Value) (ia : Addr) (it : Value) (o u2 : ByteArray) : Nat → Option Value
  | 0 => some row
  | 1 => some (.pointer (some ⟨g, 4, none⟩))
  | 2 => some K
  | 3 => some (.int .i64 j)
  | 4 => some (.pointer (some ka))
  | 5 => some (.string y)
  | 6 => some (.string u1)
  | 7 => some (.pointer (some ⟨g, 3, none⟩))
  | 8 => some A
  | 9 => some (.int .i64 j)
  | 10 => some (.pointer (some ia))
  | 11 => some it
  | 12 => some (.string o)
  | 13 => some (.string u2)
  | _ => none
set_option maxRecDepth 100000 in
set_option maxHeartbeats 8000000 in
theorem rvobj_any (n' : Int) (s' : ByteArray) (items : List VT) (keys : List ByteArray) (hkl : keys.length = items.length) (ih : ∀ (i : Nat) (t : VT), items[i]? = some t → t.fit ∧ RValAt t) (A : Option Addr) (li ci : Nat) (KQ : Option Addr) (lk ck : Nat) (w : World) (B : Nat)
    (h : Rd w B (.agg #[.int .i64 6, .int .i64 n', .string s', .slice A li ci, .slice KQ lk ck]) (.mk 6 n' s' items keys)) (hB : B ≤ w.heap.size) (hl : (123 :: (jn [44, 32] (objTxt keys items) ++ [125])).length ≤ 140737488355328) :
    Calls Tryz.prog 91 #[.agg #[.int .i64 6, .int .i64 n', .string s', .slice A li ci, .slice KQ lk ck]] w (SP (123 :: (jn [44, 32] (objTxt keys items) ++ [125])) w) := by
  obtain ⟨hlk, hli0, hbi, _, _, hK⟩ := h.keysOf
  obtain ⟨A', c', e', _, _, V, hA, hr⟩ := h.vals
  cases e'
  clear hli0
  rw [← hkl] at hbi hA
  rw [← hkl]
  obtain ⟨L, hL0⟩ : ∃ L, keys.length = L := ⟨_, rfl⟩
  rw [hL0] at hlk hbi hA ⊢
  subst hlk
  have hlm : (L : Int) ≤ 140737488351232 := by omega
  have HA := Lib.hid hA
  have HR := Lib.hid hr
  have HK := Lib.hid hK
  have IH := Lib.hid ih
  have HL0 := Lib.hid hL0
  have HKL := Lib.hid hkl
  have HLL := Lib.hid hl
  have HBB := Lib.hid hB
  have HBI := Lib.hid hbi
  have HB0 : Hid (Below w.heap.size w (w.alloc (.cells #[.int .i64 6, .int .i64 n', .string s', .slice A L ci, .slice KQ L ck] 45 (0, 0)))) := Lib.hid (below_new _ _)
  have HK0 := Lib.hid (Bk.new w #[.int .i64 6, .int .i64 n', .string s', .slice A L ci, .slice KQ L ck] 45)
  have HOL : Hid ((objTxt keys items).length = L) := Lib.hid (by unfold objTxt; rw [List.length_zipWith, List.length_map, ← HKL.out, HL0.out, Nat.min_self])
  clear hA hr ih hL0 hl hbi h hkl hK
  have y0 := HK0.out.cell 0 _ rfl
  have y1 := HK0.out.cell 1 _ rfl
  have y2 := HK0.out.cell 2 _ rfl
  have y3 := HK0.out.cell 3 _ rfl
  have y4 := HK0.out.cell 4 _ rfl
  go_enter Tryz.func91, Tryz.ntmps91
  go_wp2_with fail
  clear y0 y1 y2 y3 y4
  go_loopw [5, 6] (fun v i wr => ∃ (j : Nat) (ss : List ByteArray), j ≤ L ∧ i = .int .i64 j ∧ Hid (OwnR wr (w.heap.size + 1) v ss ∧ ss.map bL = (objTxt keys items).take j ∧ Below w.heap.size w wr ∧ Bk wr w.heap.size #[.int .i64 6, .int .i64 n', .string s', .slice A L ci, .slice KQ L ck] 45)) (fun _ i _ => L - (intOf i).toNat)
  case atStart => exact ⟨0, [], Nat.zero_le _, rfl, Lib.hid ⟨OwnR.nil _ _, by simp, HB0.out, HK0.out⟩⟩
  case round =>
    obtain ⟨j, ss, hj, rfl, hr⟩ := hrel
    obtain ⟨hown, hss, hb, hk⟩ := hr.out
    have HOW := Lib.hid hown
    have HSS := Lib.hid hss
    have HB := Lib.hid hb
    have HKB := Lib.hid hk
    have hwl := hk.lt
    clear hown hss hb hk hr
    have y0 := HKB.out.cell 0 _ rfl
    have y1 := HKB.out.cell 1 _ rfl
    have y2 := HKB.out.cell 2 _ rfl
    have y3 := HKB.out.cell 3 _ rfl
    have y4 := HKB.out.cell 4 _ rfl
    by_cases hlt : j < L
    · have hlt' : (j : Int) < L := by omega
      obtain ⟨x, hxi⟩ : ∃ x, items[j]? = some x := ⟨_, List.getElem?_eq_getElem (by rw [← HKL.out, HL0.out]; exact hlt)⟩
      obtain ⟨y, hyi⟩ : ∃ y, keys[j]? = some y := ⟨_, List.getElem?_eq_getElem (by rw [HL0.out]; exact hlt)⟩
      obtain ⟨a, eA, ha, hc0⟩ := HA.out (by omega)
      obtain ⟨a', eK, ha', hk0⟩ := HK.out (by rw [HL0.out]; omega)
      have EA := Lib.hid eA
      have EK := Lib.hid eK
      clear eA eK
      have HCC : Hid (∀ W, Below w.heap.size w W → ∀ q, q < 5 → W.cell? (at_ (a.add (j * 5)) q) = some (V j q)) := Lib.hid fun W hb q hq => ((hb.mono HBB.out).cell (by rw [at_block, add_block]; exact ha)).trans (hc0 j hlt q hq)
      have HKC : Hid (∀ W, Below w.heap.size w W → W.cell? (a'.add j) = some (.string y)) := Lib.hid fun W hb => ((hb.mono HBB.out).cell (by rw [add_block]; exact ha')).trans (hk0 j y hyi)
      have HXV : Hid (∀ W, Below w.heap.size w W → ValR W B (V j) x) := Lib.hid fun W hb => ValR.stays.kept (HR.out j x hxi) (hb.mono HBB.out)
      obtain ⟨k', n1, s1, VA, vli, vci, VK, vlk, vck, e0, e1, e2, e3, e4⟩ := Rd.form (HR.out j x hxi)
      have E0 := Lib.hid e0; have E1 := Lib.hid e1; have E2 := Lib.hid e2; have E3 := Lib.hid e3; have E4 := Lib.hid e4
      have hT : (objTxt keys items)[j]? = some (bL y ++ (58 :: 32 :: x.src)) := by unfold objTxt; rw [List.getElem?_zipWith, hyi, List.getElem?_map, hxi]; rfl
      have hst := jn_step_le [44, 32] hT
      have hll := HLL.out
      simp only [List.length_cons, List.length_append, bL_len] at hst hll
      have HXS : Hid ((objTxt keys items).take (j + 1) = (objTxt keys items).take j ++ [bL y ++ (58 :: 32 :: x.src)]) := Lib.hid (take_sn hT)
      obtain ⟨o, hob⟩ : ∃ o : ByteArray, bL o = x.src := ⟨⟨x.src.toArray⟩, bL_mk _⟩
      have hoz : o.size = x.src.length := by rw [← bL_len, hob]
      obtain ⟨u1, hu1, hadd1⟩ := cat_ex y ⟨#[58, 32]⟩ (by show y.size + 2 ≤ _; omega)
      have hu1z : u1.size = y.size + 2 := by rw [← bL_len, hu1, List.length_append, bL_len]; rfl
      obtain ⟨u2, hu2, hadd2⟩ := cat_ex u1 o (by rw [hu1z, hoz]; omega)
      have HU2 : Hid (bL u2 = bL y ++ (58 :: 32 :: x.src)) := Lib.hid (by rw [hu2, hu1, hob, List.append_assoc]; rfl)
      have HAD1 := Lib.hid hadd1
      have HAD2 := Lib.hid hadd2
      have CALL : Hid (∀ W, Below w.heap.size w W → Calls Tryz.prog 91 #[.agg #[.int .i64 k', .int .i64 n1, .string s1, .slice VA vli vci, .slice VK vlk vck]] W fun e w' => e = .returned (.string o) ∧ Below W.heap.size W w') := Lib.hid fun W hW => by
        have h1 := (IH.out j x hxi).2 W B _ (HXV.out W hW) (Nat.le_trans HBB.out hW.size) (IH.out j x hxi).1 (by omega)
        rw [E0.out, E1.out, E2.out, E3.out, E4.out] at h1
        refine h1.mono ?_
        rintro e w' ⟨⟨o', rfl, ho'⟩, hb⟩
        exact ⟨by rw [bL_inj (ho'.trans hob.symm)], hb⟩
      have HSL : Hid (ss.length = j) := Lib.hid (by have := congrArg List.length HSS.out; rw [List.length_map, List.length_take, HOL.out] at this; omega)
      clear hc0 hk0 e0 e1 e2 e3 e4 hxi hyi hT hst hll hob hoz hu1 hu1z hadd1 hu2 hadd2
      go_wp2_with fail
      clear y0 y1 y2 y3 y4
      obtain ⟨W, hW⟩ : ∃ W, wr.drew = W := ⟨_, rfl⟩
      have HBW : Hid (Below w.heap.size w W) := Lib.hid (hW ▸ HB.out.trans (Below.drew (Below.refl _ _)))
      have HKW : Hid (Bk W w.heap.size #[.int .i64 6, .int .i64 n', .string s', .slice A L ci, .slice KQ L ck] 45) := Lib.hid (hW ▸ HKB.out)
      have HOW2 : Hid (OwnR W (w.heap.size + 1) HOW.out.val ss) := Lib.hid (hW ▸ HOW.out.stay (Below.drew (Below.refl _ _)))
      have hzW : W.heap.size = wr.heap.size := by rw [← hW]; rfl
      refine wp_region_puts (pv := pvO HOW.out.val w.heap.size (.slice KQ L ck) j (a'.add j) y u1 (.slice A L ci) (a.add (j * 5)) (.agg #[.int .i64 k', .int .i64 n1, .string s1, .slice VA vli vci, .slice VK vlk vck]) o u2) (b := 12) (c := 14) (e := 15) (x := 16) (C := fun w1 => Below W.heap.size W w1)
        (G := fun u w2 => ∃ w1, Below W.heap.size W w1 ∧ u = .slice (some ⟨w1.heap.size, 0, none⟩) 1 1 ∧ w2 = w1.alloc (.cells #[.string u2] 9 (0, 0)))
        (E := fun u w3 => OwnR w3 (w.heap.size + 1) u (ss ++ [u2]) ∧ Below w.heap.size w w3 ∧ Bk w3 w.heap.size #[.int .i64 6, .int .i64 n', .string s', .slice A L ci, .slice KQ L ck] 45) (by kernel_rfl) (by kernel_rfl) (by kernel_rfl) ⟨by decide, by decide, by decide, by decide, by decide, by decide, rfl, rfl, rfl, by decide, by decide, by decide⟩ ?_ ?_ ?_ ?_ ?_ ?_ ?_ ?_ ?_
      · intro o ho d hcl hall; cases ho; exact hcl 13 _ rfl (hall ⟨13, .data⟩ (by simp) rfl) ⟨12, .data⟩ (by simp) rfl
      · intro o ho; cases ho; exact ⟨⟨14, .data⟩, by simp, rfl, rfl⟩
      · intro o ho; cases ho; exact ⟨⟨15, .data⟩, by simp, rfl, rfl⟩
      · intro i oo ho q1 q2 q3 q4 d a2 w2 hf hcl hdi hx0 had hw
        rw [hW] at hw
        have hi : i < 17 := (Array.getElem?_eq_some_iff.1 ho).1
        have hbx : (d 2 = false ∨ d 5 = false ∨ d 8 = false ∨ d 11 = false) → Below w.heap.size w w2 ∧ Bk w2 w.heap.size #[.int .i64 6, .int .i64 n', .string s', .slice A L ci, .slice KQ L ck] 45 := by
          intro hd
          rcases hw with rfl | hb | ⟨u, w1, hb, _, rfl⟩ | ⟨hde, _⟩
          · exact ⟨HBW.out, HKW.out⟩
          · exact ⟨HBW.out.trans (hb.mono HBW.out.size), HKW.out.stay hb⟩
          · exact ⟨(HBW.out.trans (hb.mono HBW.out.size)).trans ((below_new w1 _).mono (Nat.le_trans HBW.out.size hb.size)), (HKW.out.stay hb).stay (below_new _ _)⟩
          · have d14 : d 14 = true := hcl 15 _ rfl hde ⟨14, .data⟩ (by simp) rfl
            have d13 : d 13 = true := hcl 14 _ rfl d14 ⟨13, .data⟩ (by simp) rfl
            have d6 : d 6 = true := hcl 13 _ rfl d13 ⟨6, .data⟩ (by simp) rfl
            have d12 : d 12 = true := hcl 13 _ rfl d13 ⟨12, .data⟩ (by simp) rfl
            have d5 : d 5 = true := hcl 6 _ rfl d6 ⟨5, .data⟩ (by simp) rfl
            have d4 : d 4 = true := hcl 5 _ rfl d5 ⟨4, .data⟩ (by simp) rfl
            have d2 : d 2 = true := hcl 4 _ rfl d4 ⟨2, .data⟩ (by simp) rfl
            have d11 : d 11 = true := hcl 12 _ rfl d12 ⟨11, .data⟩ (by simp) rfl
            have d10 : d 10 = true := hcl 11 _ rfl d11 ⟨10, .data⟩ (by simp) rfl
            have d8 : d 8 = true := hcl 10 _ rfl d10 ⟨8, .data⟩ (by simp) rfl
            rw [d2, d5, d8, d11] at hd
            simp at hd
        have hc : i = 0 ∨ i = 1 ∨ i = 2 ∨ i = 3 ∨ i = 4 ∨ i = 5 ∨ i = 6 ∨ i = 7 ∨ i = 8 ∨ i = 9 ∨ i = 10 ∨ i = 11 ∨ i = 13 := by omega
        rcases hc with rfl | rfl | rfl | rfl | rfl | rfl | rfl | rfl | rfl | rfl | rfl | rfl | rfl
        · cases ho
          have d16 : d 16 = false := by
            cases q : d 16 with
            | false => rfl
            | true =>
              have d15 : d 15 = true := hcl 16 _ rfl q ⟨15, .data⟩ (by simp) rfl
              have d0 : d 0 = true := hcl 15 _ rfl d15 ⟨0, .data⟩ (by simp) rfl
              rw [d0] at hdi; cases hdi
          exact op_move rfl (.tmp 5) rfl (hx0 d16) ⟨rfl, fun z hz => by cases hz; rfl⟩
        · cases ho
          exact op_faV4 rfl (.tmp 1) rfl (K.Fr.slot hf 1 (by kernel_rfl)) ⟨rfl, fun z hz => by cases hz; rfl⟩
        · cases ho
          have hx : a2.eval (.tmp 72) = .pointer (some ⟨w.heap.size, 4, none⟩) := had ⟨1, .data⟩ (by simp) rfl _ rfl
          exact op_ldLS rfl (.tmp 72) rfl hx ((hbx (.inl hdi)).2.cell 4 _ rfl) ⟨rfl, fun z hz => by cases hz; rfl⟩
        · cases ho
          exact op_move rfl (.tmp 6) rfl (K.Fr.slot hf 6 (by kernel_rfl)) ⟨rfl, fun z hz => by cases hz; rfl⟩
        · cases ho
          have hx : a2.eval (.tmp 73) = .slice KQ L ck := had ⟨2, .data⟩ (by simp) rfl _ rfl
          have hy : a2.eval (.tmp 74) = .int .i64 j := had ⟨3, .data⟩ (by simp) rfl _ rfl
          rw [EK.out] at hx
          exact op_ixS rfl (.tmp 73) (.tmp 74) rfl hx hy hlt ⟨rfl, fun z hz => by cases hz; rfl⟩
        · cases ho
          have hx : a2.eval (.tmp 75) = .pointer (some (a'.add j)) := had ⟨4, .data⟩ (by simp) rfl _ rfl
          exact op_ldS rfl (.tmp 75) rfl hx (HKC.out _ (hbx (.inr (.inl hdi))).1) ⟨rfl, fun z hz => by cases hz; rfl⟩
        · cases ho
          have hx : a2.eval (.tmp 76) = .string y := had ⟨5, .data⟩ (by simp) rfl _ rfl
          exact op_cat rfl (.tmp 76) (.const (.string ⟨#[58, 32]⟩)) rfl hx rfl HAD1.out ⟨rfl, fun z hz => by cases hz; rfl⟩
        · cases ho
          exact op_faV3 rfl (.tmp 1) rfl (K.Fr.slot hf 1 (by kernel_rfl)) ⟨rfl, fun z hz => by cases hz; rfl⟩
        · cases ho
          have hx : a2.eval (.tmp 78) = .pointer (some ⟨w.heap.size, 3, none⟩) := had ⟨7, .data⟩ (by simp) rfl _ rfl
          exact op_ldLV rfl (.tmp 78) rfl hx ((hbx (.inr (.inr (.inl hdi)))).2.cell 3 _ rfl) ⟨rfl, fun z hz => by cases hz; rfl⟩
        · cases ho
          exact op_move rfl (.tmp 6) rfl (K.Fr.slot hf 6 (by kernel_rfl)) ⟨rfl, fun z hz => by cases hz; rfl⟩
        · cases ho
          have hx : a2.eval (.tmp 79) = .slice A L ci := had ⟨8, .data⟩ (by simp) rfl _ rfl
          have hy : a2.eval (.tmp 80) = .int .i64 j := had ⟨9, .data⟩ (by simp) rfl _ rfl
          rw [EA.out] at hx
          exact op_ixV rfl (.tmp 79) (.tmp 80) rfl hx hy hlt ⟨rfl, fun z hz => by cases hz; rfl⟩
        · cases ho
          have hx : a2.eval (.tmp 81) = .pointer (some (a.add (j * 5))) := had ⟨10, .data⟩ (by simp) rfl _ rfl
          have hcc := HCC.out _ (hbx (.inr (.inr (.inr hdi)))).1
          exact op_ldV rfl (.tmp 81) rfl hx ((hcc 0 (by omega)).trans (congrArg some E0.out)) ((hcc 1 (by omega)).trans (congrArg some E1.out)) ((hcc 2 (by omega)).trans (congrArg some E2.out)) ((hcc 3 (by omega)).trans (congrArg some E3.out)) ((hcc 4 (by omega)).trans (congrArg some E4.out)) ⟨rfl, fun z hz => by cases hz; rfl⟩
        · cases ho
          have hx : a2.eval (.tmp 77) = .string u1 := had ⟨6, .data⟩ (by simp) rfl _ rfl
          have hy : a2.eval (.tmp 83) = .string o := had ⟨12, .data⟩ (by simp) rfl _ rfl
          exact op_cat rfl (.tmp 77) (.tmp 83) rfl hx hy HAD2.out ⟨rfl, fun z hz => by cases hz; rfl⟩
      · intro oo ho a2 hf had
        cases ho
        rw [hW]
        have hx : a2.eval (.tmp 82) = .agg #[.int .i64 k', .int .i64 n1, .string s1, .slice VA vli vci, .slice VK vlk vck] := had ⟨11, .data⟩ (by simp) rfl _ rfl
        refine runs_calls rfl _ _ _ rfl en_rvalue #[.agg #[.int .i64 k', .int .i64 n1, .string s1, .slice VA vli vci, .slice VK vlk vck]] (by rw [K.map1, hx]) ?_
        refine (CALL.out _ HBW.out).mono ?_
        rintro e w4 ⟨rfl, hb⟩
        exact ⟨_, rfl, hb, fun z hz => by cases hz; rfl⟩
      · intro oo ho a2 w2 hf had hb
        cases ho
        have hx : a2.eval (.tmp 84) = .string u2 := had ⟨13, .data⟩ (by simp) rfl _ rfl
        exact op_mk1 rfl (.tmp 84) rfl hx ⟨w2, hb, rfl, rfl⟩
      · intro oo ho a2 w2 hf had ⟨w1, hb, hu, hw⟩
        cases ho
        subst hw
        refine op_app rfl (.tmp 71) (.tmp 85) rfl (w.heap.size + 1) HOW.out.val ss (had ⟨0, .data⟩ (by simp) rfl _ rfl) ((HOW2.out.stay hb).stay (below_new _ _)) w1.heap.size u2 hu ((Bk.new w1 #[.string u2] 9).cell 0 _ rfl) (by have := HSL.out; have := HBI.out; omega) (by have := hb.size; have := hzW; simp; omega) ?_
        intro v' w' ho' hg'
        have hbs : Below w.heap.size w (w1.alloc (.cells #[.string u2] 9 (0, 0))) := (HBW.out.trans (hb.mono HBW.out.size)).trans ((below_new w1 _).mono (Nat.le_trans HBW.out.size hb.size))
        have how := (HOW2.out.stay hb).stay (below_new w1 (.cells #[.string u2] 9 (0, 0)))
        exact ⟨ho', hbs.grown hg' hbs.size (fun k hk => by have := (how.lt k hk).1; omega), ((HKW.out.stay hb).stay (below_new _ _)).grown hg' (fun k hk => by have := (how.lt k hk).1; omega)⟩
      · intro oo ho a2 w2 hf
        cases ho
        exact op_assign rfl (.tmp 86) rfl rfl ⟨rfl, rfl⟩
      intro a2 w3 hf hE hx16
      have h5 : a2.tmps.getD 5 undef = a2.tmps.getD 86 undef := hx16 (by decide)
      obtain ⟨hown3, hb3, hk3⟩ := hE
      have hown3 : OwnR w3 (w.heap.size + 1) (a2.tmps.getD 86 undef) (ss ++ [u2]) := hown3
      rw [← h5] at hown3
      have hfa := _root_.Go.Proofs.YtieklhplalgmmaaGreatDoor.K.over_ofB hf [71, 72, 73, 74, 75, 76, 77, 78, 79, 80, 81, 82, 83, 84, 85, 86, 5] (by kernel_rfl)
      have HO3 : Hid (OwnR w3 (w.heap.size + 1) ((fun d => a2.tmps.getD d undef) 5) (ss ++ [u2])) := Lib.hid hown3
      have HB3 := Lib.hid hb3
      have HK3 := Lib.hid hk3
      clear hown3 hb3 hk3 hx16 h5 hf
      generalize (fun d => a2.tmps.getD d undef) = f9 at hfa HO3
      subst hfa
      simp only [K.over, List.foldl_cons, List.foldl_nil, Act.put, List.setIfInBounds_toArray, List.set_cons_succ, List.set_cons_zero]
      generalize f9 71 = t71
      generalize f9 72 = t72
      generalize f9 73 = t73
      generalize f9 74 = t74
      generalize f9 75 = t75
      generalize f9 76 = t76
      generalize f9 77 = t77
      generalize f9 78 = t78
      generalize f9 79 = t79
      generalize f9 80 = t80
      generalize f9 81 = t81
      generalize f9 82 = t82
      generalize f9 83 = t83
      generalize f9 84 = t84
      generalize f9 85 = t85
      generalize f9 86 = t86
      generalize f9 5 = t5 at HO3 ⊢
      go_wp2_with fail
      go_roundw
      case rel => exact ⟨j + 1, ss ++ [u2], by omega, by go_num, Lib.hid ⟨HO3.out, by rw [HXS.out, List.map_append, HSS.out, List.map_cons, List.map_nil, HU2.out], HB3.out, HK3.out⟩⟩
      case measure => simp [intOf]; omega
    · have : j = L := by omega
      subst this
      obtain ⟨A2, c2, hv2, hst2⟩ := HOW.out.strs
      have HST2 := Lib.hid hst2
      have HFS : Hid (ss.map bL = objTxt keys items) := Lib.hid (by have := HSS.out; rwa [List.take_of_length_le (by rw [HOL.out]; exact Nat.le_refl _)] at this)
      have hsl : ss.length = j := by have := congrArg List.length HFS.out; rw [List.length_map, HOL.out] at this; exact this
      subst hv2
      rw [hsl]
      have HJ := Lib.hid (rjoin_any ss A2 j c2 ⟨#[44, 32]⟩ wr HST2.out hsl (by have := HBI.out; omega) (by rw [HFS.out, lit_bL]; have := HLL.out; simp only [List.length_cons, List.length_append] at this; omega))
      clear hst2 hsl HOW
      go_wp2_with fail
      refine HJ.out.mono ?_
      rintro e w7 ⟨⟨o, rfl, ho⟩, rfl⟩
      rw [HFS.out, show bL ⟨#[44, 32]⟩ = [44, 32] from rfl] at ho
      have hol : o.size = (jn [44, 32] (objTxt keys items)).length := by rw [← bL_len, ho]
      have hll := HLL.out
      simp only [List.length_cons, List.length_append, List.length_nil] at hll
      obtain ⟨q, hq, hadd1⟩ := cat_ex ⟨#[123]⟩ o (by show 1 + o.size ≤ _; omega)
      have hql : q.size = o.size + 1 := by rw [← bL_len, hq, List.length_append, bL_len o]; show 1 + o.size = _; omega
      obtain ⟨u, hu, hadd2⟩ := cat_ex q ⟨#[125]⟩ (by show q.size + 1 ≤ _; omega)
      have HU : Hid (bL u = 123 :: (jn [44, 32] (objTxt keys items) ++ [125])) := Lib.hid (by rw [hu, hq, ho]; rfl)
      clear hu hq hol hll hql ho
      go_wp2_with fail
      go_ret
      exact ⟨⟨u, rfl, HU.out⟩, HB.out⟩
end Go.Proofs.YtieklhplalgmmaaGreatDoor
namespace Go.Proofs.YtieklhplalgmmaaGreatDoor
open Go.RowKit
theorem Rd.same {w : World} {B : Nat} {k' n' k n : Int} {s' s : ByteArray} {A : Option Addr} {li ci : Nat} {K : Option Addr} {lk ck : Nat} {items : List VT} {keys : List ByteArray}
    (h : Rd w B (.agg #[.int .i64 k', .int .i64 n', .string s', .slice A li ci, .slice K lk ck]) (.mk k n s items keys)) : k' = k ∧ n' = n ∧ s' = s ∧ small n ∧ s.size ≤ 140737488351232 := by
  cases h with
  | mk V hk hn hs => exact ⟨rfl, rfl, rfl, hn, hs⟩
theorem fb1_t (w : World) : Calls Tryz.prog 81 #[.bool true] w fun e w' => e = .returned (.string ⟨#[116, 114, 117, 101]⟩) ∧ w = w' := by
  go_enter Tryz.func81, Tryz.ntmps81
  go_wp2_with fail
  go_ret
  exact ⟨rfl, rfl⟩
theorem fb_t (w : World) : Calls Tryz.prog 58 #[.bool true] w fun e w' => e = .returned (.string ⟨#[116, 114, 117, 101]⟩) ∧ w = w' := by
  go_enter Tryz.func58, Tryz.ntmps58
  go_wp2_with fail
  refine (fb1_t w).mono ?_
  rintro e w1 ⟨rfl, rfl⟩
  go_wp2_with fail
  go_ret
  exact ⟨rfl, rfl⟩
theorem fb1_f (w : World) : Calls Tryz.prog 81 #[.bool false] w fun e w' => e = .returned (.string ⟨#[102, 97, 108, 115, 101]⟩) ∧ w = w' := by
  go_enter Tryz.func81, Tryz.ntmps81
  go_wp2_with fail
  go_ret
  exact ⟨rfl, rfl⟩
theorem fb_f (w : World) : Calls Tryz.prog 58 #[.bool false] w fun e w' => e = .returned (.string ⟨#[102, 97, 108, 115, 101]⟩) ∧ w = w' := by
  go_enter Tryz.func58, Tryz.ntmps58
  go_wp2_with fail
  refine (fb1_f w).mono ?_
  rintro e w1 ⟨rfl, rfl⟩
  go_wp2_with fail
  go_ret
  exact ⟨rfl, rfl⟩
set_option maxRecDepth 100000 in
set_option maxHeartbeats 4000000 in
theorem value_any (B b : Nat) : ValOk B b := by
  intro t
  induction t using VT.ind with
  | h k n s items keys ih =>
  intro hf f w h l hp hL hl hB
  obtain ⟨k', n', s', A, li, ci, K, lk, ck, e0, e1, e2, e3, e4⟩ := Rd.form h
  have hv : Rd w B (.agg #[f 0, f 1, f 2, f 3, f 4]) (.mk k n s items keys) := h
  rw [e0, e1, e2, e3, e4] at hv ⊢
  clear e0 e1 e2 e3 e4 h
  obtain ⟨rfl, rfl, rfl, hn, hsz⟩ := hv.same
  rw [VT.fit] at hf
  obtain ⟨hk, hf1, hf6, _, hs40, hfi⟩ := hf
  have IH : Hid (∀ (i : Nat) (t : VT), items[i]? = some t → ∀ (f : Nat → Value) (W : World), ValR W B f t → Prints B b W 28 (.agg #[f 0, f 1, f 2, f 3, f 4]) t.src) := Lib.hid fun i t hi f W => ih i t hi (fits_at hfi hi) f W
  clear ih hfi
  have HR0 := Lib.hid (hv.kept (below_new w (.cells #[.int .i64 k', .int .i64 n', .string s', .slice A li ci, .slice K lk ck] 45 (0, 0)) |>.mono hB))
  clear hv
  have HW0 : Hid (Wr B b w (w.alloc (.cells #[.int .i64 k', .int .i64 n', .string s', .slice A li ci, .slice K lk ck] 45 (0, 0)))) := Lib.hid ((Wr.refl B b w).alloc hB _)
  have HP0 := Lib.hid (hp.alloc (.cells #[.int .i64 k', .int .i64 n', .string s', .slice A li ci, .slice K lk ck] 45 (0, 0)))
  have HK0 := Lib.hid (Bk.new w #[.int .i64 k', .int .i64 n', .string s', .slice A li ci, .slice K lk ck] 45)
  have HL := Lib.hid hL
  have HLL := Lib.hid hl
  have HBB := Lib.hid hB
  have hbw := hp.lt
  clear hL hl hB hp
  by_cases hk0 : k' = 0
  · subst hk0
    have hsrc : (VT.mk 0 n' s' items keys).src = [110, 117, 108, 108] := by rw [src_eq]; rfl
    rw [hsrc] at HLL ⊢
    clear hsrc hf1 hf6 hk
    go_enter Tryz.func28, Tryz.ntmps28
    have y0 := HK0.out.cell 0 _ rfl
    have y1 := HK0.out.cell 1 _ rfl
    have y2 := HK0.out.cell 2 _ rfl
    have y3 := HK0.out.cell 3 _ rfl
    have y4 := HK0.out.cell 4 _ rfl
    go_wp2_with fail
    refine (put1 _ B b _ _ _ (by simp) HP0.out (by have h1 := HLL.out; (try simp only [lit_bL] at h1 ⊢); (try simp only [List.length_append] at h1 ⊢); (try simp only [List.length_cons] at h1 ⊢); (try simp only [List.length_append] at h1 ⊢); (try simp only [List.length_nil] at h1 ⊢); (try simp only [bL_len] at h1 ⊢); (try simp only [lit_size] at h1 ⊢); (try simp only [List.length_cons] at h1 ⊢); (try simp only [List.length_nil] at h1 ⊢); omega) (Nat.le_trans HBB.out HW0.out.below.size)).mono ?_
    rintro e w1 ⟨rfl, hp, hw⟩
    have HP1 := Lib.hid hp
    have HW1 := Lib.hid (HW0.out.trans hw)
    have HK1 := Lib.hid (HK0.out.wr hw (by omega) (by decide))
    have HR1 := Lib.hid (Rd.kept HR0.out hw.below)
    clear hp hw
    clear y0 y1 y2 y3 y4
    have y0 := HK1.out.cell 0 _ rfl
    have y1 := HK1.out.cell 1 _ rfl
    have y2 := HK1.out.cell 2 _ rfl
    have y3 := HK1.out.cell 3 _ rfl
    have y4 := HK1.out.cell 4 _ rfl
    go_wp2_with fail
    go_end0
    exact ⟨rfl, by have h1 := HP1.out; (try simp only [List.append_assoc] at h1); (try simp only [List.append_nil] at h1); (try simp only [List.append_assoc]); (try simp only [List.append_nil]); exact h1, HW1.out⟩
  by_cases hk1 : k' = 1
  · subst hk1
    by_cases hn0 : n' = 0
    · subst hn0
      have hsrc : (VT.mk 1 0 s' items keys).src = [102, 97, 108, 115, 101] := by rw [src_eq]; rfl
      rw [hsrc] at HLL ⊢
      clear hsrc hf1 hf6 hk
      go_enter Tryz.func28, Tryz.ntmps28
      have y0 := HK0.out.cell 0 _ rfl
      have y1 := HK0.out.cell 1 _ rfl
      have y2 := HK0.out.cell 2 _ rfl
      have y3 := HK0.out.cell 3 _ rfl
      have y4 := HK0.out.cell 4 _ rfl
      go_wp2_with fail
      refine (fb_f _).mono ?_
      rintro e w' ⟨rfl, rfl⟩
      go_wp2_with fail
      refine (put1 _ B b _ _ _ (by simp) HP0.out (by have h1 := HLL.out; (try simp only [lit_bL] at h1 ⊢); (try simp only [List.length_append] at h1 ⊢); (try simp only [List.length_cons] at h1 ⊢); (try simp only [List.length_append] at h1 ⊢); (try simp only [List.length_nil] at h1 ⊢); (try simp only [bL_len] at h1 ⊢); (try simp only [lit_size] at h1 ⊢); (try simp only [List.length_cons] at h1 ⊢); (try simp only [List.length_nil] at h1 ⊢); omega) (Nat.le_trans HBB.out HW0.out.below.size)).mono ?_
      rintro e w1 ⟨rfl, hp, hw⟩
      have HP1 := Lib.hid hp
      have HW1 := Lib.hid (HW0.out.trans hw)
      have HK1 := Lib.hid (HK0.out.wr hw (by omega) (by decide))
      have HR1 := Lib.hid (Rd.kept HR0.out hw.below)
      clear hp hw
      clear y0 y1 y2 y3 y4
      have y0 := HK1.out.cell 0 _ rfl
      have y1 := HK1.out.cell 1 _ rfl
      have y2 := HK1.out.cell 2 _ rfl
      have y3 := HK1.out.cell 3 _ rfl
      have y4 := HK1.out.cell 4 _ rfl
      go_wp2_with fail
      go_end0
      exact ⟨rfl, by have h1 := HP1.out; (try simp only [List.append_assoc] at h1); (try simp only [List.append_nil] at h1); (try simp only [List.append_assoc]); (try simp only [List.append_nil]); exact h1, HW1.out⟩
    · have hn0' : (n' != 0) = true := by simp [hn0]
      have hsrc : (VT.mk 1 n' s' items keys).src = [116, 114, 117, 101] := by rw [src_eq]; simp [hn0, trueB]
      rw [hsrc] at HLL ⊢
      clear hsrc hf1 hf6 hk hn0
      go_enter Tryz.func28, Tryz.ntmps28
      have y0 := HK0.out.cell 0 _ rfl
      have y1 := HK0.out.cell 1 _ rfl
      have y2 := HK0.out.cell 2 _ rfl
      have y3 := HK0.out.cell 3 _ rfl
      have y4 := HK0.out.cell 4 _ rfl
      go_wp2_with fail
      refine (fb_t _).mono ?_
      rintro e w' ⟨rfl, rfl⟩
      go_wp2_with fail
      refine (put1 _ B b _ _ _ (by simp) HP0.out (by have h1 := HLL.out; (try simp only [lit_bL] at h1 ⊢); (try simp only [List.length_append] at h1 ⊢); (try simp only [List.length_cons] at h1 ⊢); (try simp only [List.length_append] at h1 ⊢); (try simp only [List.length_nil] at h1 ⊢); (try simp only [bL_len] at h1 ⊢); (try simp only [lit_size] at h1 ⊢); (try simp only [List.length_cons] at h1 ⊢); (try simp only [List.length_nil] at h1 ⊢); omega) (Nat.le_trans HBB.out HW0.out.below.size)).mono ?_
      rintro e w1 ⟨rfl, hp, hw⟩
      have HP1 := Lib.hid hp
      have HW1 := Lib.hid (HW0.out.trans hw)
      have HK1 := Lib.hid (HK0.out.wr hw (by omega) (by decide))
      have HR1 := Lib.hid (Rd.kept HR0.out hw.below)
      clear hp hw
      clear y0 y1 y2 y3 y4
      have y0 := HK1.out.cell 0 _ rfl
      have y1 := HK1.out.cell 1 _ rfl
      have y2 := HK1.out.cell 2 _ rfl
      have y3 := HK1.out.cell 3 _ rfl
      have y4 := HK1.out.cell 4 _ rfl
      go_wp2_with fail
      go_end0
      exact ⟨rfl, by have h1 := HP1.out; (try simp only [List.append_assoc] at h1); (try simp only [List.append_nil] at h1); (try simp only [List.append_assoc]); (try simp only [List.append_nil]); exact h1, HW1.out⟩
  by_cases hk2 : k' = 2
  · subst hk2
    have hsrc : (VT.mk 2 n' s' items keys).src = Lib.itoa n' := by rw [src_eq]; rfl
    rw [hsrc] at HLL ⊢
    clear hsrc hf1 hf6 hk
    go_enter Tryz.func28, Tryz.ntmps28
    have y0 := HK0.out.cell 0 _ rfl
    have y1 := HK0.out.cell 1 _ rfl
    have y2 := HK0.out.cell 2 _ rfl
    have y3 := HK0.out.cell 3 _ rfl
    have y4 := HK0.out.cell 4 _ rfl
    go_wp2_with fail
    refine (T1.decimal_any n' _ (HL.out.kept HW0.out.below).is hn.1 hn.2).mono ?_
    rintro e w1 ⟨rfl, hb1⟩
    have HP1 := Lib.hid (HP0.out.kept hb1)
    have HW1 : Hid (Wr B b w w1) := Lib.hid (HW0.out.trans (Wr.of (Nat.le_trans HBB.out HW0.out.below.size) hb1))
    have HK1 := Lib.hid (HK0.out.stay hb1)
    clear hb1
    clear y0 y1 y2 y3 y4
    have y0 := HK1.out.cell 0 _ rfl
    have y1 := HK1.out.cell 1 _ rfl
    have y2 := HK1.out.cell 2 _ rfl
    have y3 := HK1.out.cell 3 _ rfl
    have y4 := HK1.out.cell 4 _ rfl
    go_wp2_with fail
    refine (put1 _ B b _ _ _ (by simp) HP1.out (by have h1 := HLL.out; (try simp only [lit_bL] at h1 ⊢); (try simp only [List.length_append] at h1 ⊢); (try simp only [List.length_cons] at h1 ⊢); (try simp only [List.length_append] at h1 ⊢); (try simp only [List.length_nil] at h1 ⊢); (try simp only [bL_len] at h1 ⊢); (try simp only [lit_size] at h1 ⊢); (try simp only [List.length_cons] at h1 ⊢); (try simp only [List.length_nil] at h1 ⊢); omega) (Nat.le_trans HBB.out HW1.out.below.size)).mono ?_
    rintro e w2 ⟨rfl, hp, hw⟩
    have HP2 := Lib.hid hp
    have HW2 := Lib.hid (HW1.out.trans hw)
    have HK2 := Lib.hid (HK1.out.wr hw (by omega) (by decide))
    clear hp hw
    clear y0 y1 y2 y3 y4
    have y0 := HK2.out.cell 0 _ rfl
    have y1 := HK2.out.cell 1 _ rfl
    have y2 := HK2.out.cell 2 _ rfl
    have y3 := HK2.out.cell 3 _ rfl
    have y4 := HK2.out.cell 4 _ rfl
    go_wp2_with fail
    go_end0
    exact ⟨rfl, by have h1 := HP2.out; (try simp only [List.append_assoc] at h1); (try simp only [List.append_nil] at h1); (try simp only [List.append_assoc]); (try simp only [List.append_nil]); exact h1, HW2.out⟩
  by_cases hk3 : k' = 3
  · subst hk3
    have hsrc : (VT.mk 3 n' s' items keys).src = T1.quoteL s'.data.toList := by rw [src_eq]; rfl
    rw [hsrc] at HLL ⊢
    clear hsrc hf1 hf6 hk
    go_enter Tryz.func28, Tryz.ntmps28
    have y0 := HK0.out.cell 0 _ rfl
    have y1 := HK0.out.cell 1 _ rfl
    have y2 := HK0.out.cell 2 _ rfl
    have y3 := HK0.out.cell 3 _ rfl
    have y4 := HK0.out.cell 4 _ rfl
    go_wp2_with fail
    refine (T1.quote_any s' _ hs40).mono ?_
    rintro e w1 ⟨rfl, hb1⟩
    have HP1 := Lib.hid (HP0.out.kept hb1)
    have HW1 : Hid (Wr B b w w1) := Lib.hid (HW0.out.trans (Wr.of (Nat.le_trans HBB.out HW0.out.below.size) hb1))
    have HK1 := Lib.hid (HK0.out.stay hb1)
    clear hb1
    clear y0 y1 y2 y3 y4
    have y0 := HK1.out.cell 0 _ rfl
    have y1 := HK1.out.cell 1 _ rfl
    have y2 := HK1.out.cell 2 _ rfl
    have y3 := HK1.out.cell 3 _ rfl
    have y4 := HK1.out.cell 4 _ rfl
    go_wp2_with fail
    refine (put1 _ B b _ _ _ (by simp) HP1.out (by have h1 := HLL.out; (try simp only [lit_bL] at h1 ⊢); (try simp only [List.length_append] at h1 ⊢); (try simp only [List.length_cons] at h1 ⊢); (try simp only [List.length_append] at h1 ⊢); (try simp only [List.length_nil] at h1 ⊢); (try simp only [bL_len] at h1 ⊢); (try simp only [lit_size] at h1 ⊢); (try simp only [List.length_cons] at h1 ⊢); (try simp only [List.length_nil] at h1 ⊢); omega) (Nat.le_trans HBB.out HW1.out.below.size)).mono ?_
    rintro e w2 ⟨rfl, hp, hw⟩
    have HP2 := Lib.hid hp
    have HW2 := Lib.hid (HW1.out.trans hw)
    have HK2 := Lib.hid (HK1.out.wr hw (by omega) (by decide))
    clear hp hw
    clear y0 y1 y2 y3 y4
    have y0 := HK2.out.cell 0 _ rfl
    have y1 := HK2.out.cell 1 _ rfl
    have y2 := HK2.out.cell 2 _ rfl
    have y3 := HK2.out.cell 3 _ rfl
    have y4 := HK2.out.cell 4 _ rfl
    go_wp2_with fail
    go_end0
    exact ⟨rfl, by have h1 := HP2.out; (try simp only [List.append_assoc] at h1); (try simp only [List.append_nil] at h1); (try simp only [List.append_assoc]); (try simp only [List.append_nil]); exact h1, HW2.out⟩
  by_cases hk4 : k' = 4
  · subst hk4
    have hsrc : (VT.mk 4 n' s' items keys).src = bL s' := by rw [src_eq]; rfl
    rw [hsrc] at HLL ⊢
    clear hsrc hf1 hf6 hk
    go_enter Tryz.func28, Tryz.ntmps28
    have y0 := HK0.out.cell 0 _ rfl
    have y1 := HK0.out.cell 1 _ rfl
    have y2 := HK0.out.cell 2 _ rfl
    have y3 := HK0.out.cell 3 _ rfl
    have y4 := HK0.out.cell 4 _ rfl
    go_wp2_with fail
    refine (put1 _ B b _ _ _ (by simp) HP0.out (by have h1 := HLL.out; (try simp only [lit_bL] at h1 ⊢); (try simp only [List.length_append] at h1 ⊢); (try simp only [List.length_cons] at h1 ⊢); (try simp only [List.length_append] at h1 ⊢); (try simp only [List.length_nil] at h1 ⊢); (try simp only [bL_len] at h1 ⊢); (try simp only [lit_size] at h1 ⊢); (try simp only [List.length_cons] at h1 ⊢); (try simp only [List.length_nil] at h1 ⊢); omega) (Nat.le_trans HBB.out HW0.out.below.size)).mono ?_
    rintro e w1 ⟨rfl, hp, hw⟩
    have HP1 := Lib.hid hp
    have HW1 := Lib.hid (HW0.out.trans hw)
    have HK1 := Lib.hid (HK0.out.wr hw (by omega) (by decide))
    have HR1 := Lib.hid (Rd.kept HR0.out hw.below)
    clear hp hw
    clear y0 y1 y2 y3 y4
    have y0 := HK1.out.cell 0 _ rfl
    have y1 := HK1.out.cell 1 _ rfl
    have y2 := HK1.out.cell 2 _ rfl
    have y3 := HK1.out.cell 3 _ rfl
    have y4 := HK1.out.cell 4 _ rfl
    go_wp2_with fail
    go_end0
    exact ⟨rfl, by have h1 := HP1.out; (try simp only [List.append_assoc] at h1); (try simp only [List.append_nil] at h1); (try simp only [List.append_assoc]); (try simp only [List.append_nil]); exact h1, HW1.out⟩
  by_cases hk7 : k' = 7
  · subst hk7
    have hsrc : (VT.mk 7 n' s' items keys).src = 36 :: bL s' := by rw [src_eq]; rfl
    rw [hsrc] at HLL ⊢
    clear hsrc hf1 hf6 hk
    go_enter Tryz.func28, Tryz.ntmps28
    have y0 := HK0.out.cell 0 _ rfl
    have y1 := HK0.out.cell 1 _ rfl
    have y2 := HK0.out.cell 2 _ rfl
    have y3 := HK0.out.cell 3 _ rfl
    have y4 := HK0.out.cell 4 _ rfl
    go_wp2_with fail
    refine (put2 _ _ B b _ _ _ (by simp) HP0.out (by have h1 := HLL.out; (try simp only [lit_bL] at h1 ⊢); (try simp only [List.length_append] at h1 ⊢); (try simp only [List.length_cons] at h1 ⊢); (try simp only [List.length_append] at h1 ⊢); (try simp only [List.length_nil] at h1 ⊢); (try simp only [bL_len] at h1 ⊢); (try simp only [lit_size] at h1 ⊢); (try simp only [List.length_cons] at h1 ⊢); (try simp only [List.length_nil] at h1 ⊢); omega) (Nat.le_trans HBB.out HW0.out.below.size)).mono ?_
    rintro e w1 ⟨rfl, hp, hw⟩
    have HP1 := Lib.hid hp
    have HW1 := Lib.hid (HW0.out.trans hw)
    have HK1 := Lib.hid (HK0.out.wr hw (by omega) (by decide))
    have HR1 := Lib.hid (Rd.kept HR0.out hw.below)
    clear hp hw
    clear y0 y1 y2 y3 y4
    have y0 := HK1.out.cell 0 _ rfl
    have y1 := HK1.out.cell 1 _ rfl
    have y2 := HK1.out.cell 2 _ rfl
    have y3 := HK1.out.cell 3 _ rfl
    have y4 := HK1.out.cell 4 _ rfl
    go_wp2_with fail
    go_end0
    exact ⟨rfl, by have h1 := HP1.out; (try simp only [List.append_assoc] at h1); (try simp only [List.append_nil] at h1); (try simp only [List.append_assoc]); (try simp only [List.append_nil]); exact h1, HW1.out⟩
  by_cases hk5 : k' = 5
  · subst hk5
    have hsrc : (VT.mk 5 n' s' items keys).src = 91 :: (jn [44, 32] (items.map VT.src) ++ [93]) := by rw [src_eq]; rfl
    rw [hsrc] at HLL ⊢
    clear hsrc hf1 hf6 hk
    go_enter Tryz.func28, Tryz.ntmps28
    have y0 := HK0.out.cell 0 _ rfl
    have y1 := HK0.out.cell 1 _ rfl
    have y2 := HK0.out.cell 2 _ rfl
    have y3 := HK0.out.cell 3 _ rfl
    have y4 := HK0.out.cell 4 _ rfl
    go_wp2_with fail
    refine (put1 _ B b _ _ _ (by simp) HP0.out (by have h1 := HLL.out; (try simp only [lit_bL] at h1 ⊢); (try simp only [List.length_append] at h1 ⊢); (try simp only [List.length_cons] at h1 ⊢); (try simp only [List.length_append] at h1 ⊢); (try simp only [List.length_nil] at h1 ⊢); (try simp only [bL_len] at h1 ⊢); (try simp only [lit_size] at h1 ⊢); (try simp only [List.length_cons] at h1 ⊢); (try simp only [List.length_nil] at h1 ⊢); omega) (Nat.le_trans HBB.out HW0.out.below.size)).mono ?_
    rintro e w1 ⟨rfl, hp, hw⟩
    have HP1 := Lib.hid hp
    have HW1 := Lib.hid (HW0.out.trans hw)
    have HK1 := Lib.hid (HK0.out.wr hw (by omega) (by decide))
    have HR1 := Lib.hid (Rd.kept HR0.out hw.below)
    clear hp hw
    clear y0 y1 y2 y3 y4
    have y0 := HK1.out.cell 0 _ rfl
    have y1 := HK1.out.cell 1 _ rfl
    have y2 := HK1.out.cell 2 _ rfl
    have y3 := HK1.out.cell 3 _ rfl
    have y4 := HK1.out.cell 4 _ rfl
    go_wp2_with fail
    refine (sepVal_any B b items VT.src (fun y hy f W hR => by obtain ⟨i, hi⟩ := List.mem_iff_getElem?.1 hy; exact IH.out i y hi f W hR) _ _ _ _ HR1.out.vals HP1.out (HL.out.kept HW1.out.below) (by have h1 := HLL.out; (try simp only [lit_bL] at h1 ⊢); (try simp only [List.length_append] at h1 ⊢); (try simp only [List.length_cons] at h1 ⊢); (try simp only [List.length_append] at h1 ⊢); (try simp only [List.length_nil] at h1 ⊢); (try simp only [bL_len] at h1 ⊢); (try simp only [lit_size] at h1 ⊢); (try simp only [List.length_cons] at h1 ⊢); (try simp only [List.length_nil] at h1 ⊢); omega) (Nat.le_trans HBB.out HW1.out.below.size)).mono ?_
    rintro e w2 ⟨rfl, hp, hw⟩
    have HP2 := Lib.hid hp
    have HW2 := Lib.hid (HW1.out.trans hw)
    have HK2 := Lib.hid (HK1.out.wr hw (by omega) (by decide))
    have HR2 := Lib.hid (Rd.kept HR1.out hw.below)
    clear hp hw
    clear y0 y1 y2 y3 y4
    have y0 := HK2.out.cell 0 _ rfl
    have y1 := HK2.out.cell 1 _ rfl
    have y2 := HK2.out.cell 2 _ rfl
    have y3 := HK2.out.cell 3 _ rfl
    have y4 := HK2.out.cell 4 _ rfl
    go_wp2_with fail
    refine (put1 _ B b _ _ _ (by simp) HP2.out (by have h1 := HLL.out; (try simp only [lit_bL] at h1 ⊢); (try simp only [List.length_append] at h1 ⊢); (try simp only [List.length_cons] at h1 ⊢); (try simp only [List.length_append] at h1 ⊢); (try simp only [List.length_nil] at h1 ⊢); (try simp only [bL_len] at h1 ⊢); (try simp only [lit_size] at h1 ⊢); (try simp only [List.length_cons] at h1 ⊢); (try simp only [List.length_nil] at h1 ⊢); omega) (Nat.le_trans HBB.out HW2.out.below.size)).mono ?_
    rintro e w3 ⟨rfl, hp, hw⟩
    have HP3 := Lib.hid hp
    have HW3 := Lib.hid (HW2.out.trans hw)
    have HK3 := Lib.hid (HK2.out.wr hw (by omega) (by decide))
    have HR3 := Lib.hid (Rd.kept HR2.out hw.below)
    clear hp hw
    clear y0 y1 y2 y3 y4
    have y0 := HK3.out.cell 0 _ rfl
    have y1 := HK3.out.cell 1 _ rfl
    have y2 := HK3.out.cell 2 _ rfl
    have y3 := HK3.out.cell 3 _ rfl
    have y4 := HK3.out.cell 4 _ rfl
    go_wp2_with fail
    go_end0
    exact ⟨rfl, by have h1 := HP3.out; (try simp only [List.append_assoc] at h1); (try simp only [List.append_nil] at h1); (try simp only [List.append_assoc]); (try simp only [List.append_nil]); exact h1, HW3.out⟩
  by_cases hk6 : k' = 6
  · subst hk6
    have HKL := Lib.hid (hf6 rfl)
    have hsrc : (VT.mk 6 n' s' items keys).src = 123 :: (jn [44, 32] (objTxt keys items) ++ [125]) := by rw [src_eq]; rfl
    rw [hsrc] at HLL ⊢
    clear hsrc hf1 hf6 hk
    go_enter Tryz.func28, Tryz.ntmps28
    have y0 := HK0.out.cell 0 _ rfl
    have y1 := HK0.out.cell 1 _ rfl
    have y2 := HK0.out.cell 2 _ rfl
    have y3 := HK0.out.cell 3 _ rfl
    have y4 := HK0.out.cell 4 _ rfl
    go_wp2_with fail
    refine (object_any B b _ _ _ _ _ HKL.out IH.out _ _ _ _ _ _ _ HR0.out _ HP0.out (HL.out.kept HW0.out.below) (by have h1 := HLL.out; (try simp only [lit_bL] at h1 ⊢); (try simp only [List.length_append] at h1 ⊢); (try simp only [List.length_cons] at h1 ⊢); (try simp only [List.length_append] at h1 ⊢); (try simp only [List.length_nil] at h1 ⊢); (try simp only [bL_len] at h1 ⊢); (try simp only [lit_size] at h1 ⊢); (try simp only [List.length_cons] at h1 ⊢); (try simp only [List.length_nil] at h1 ⊢); omega) (Nat.le_trans HBB.out HW0.out.below.size)).mono ?_
    rintro e w1 ⟨rfl, hp, hw⟩
    have HP1 := Lib.hid hp
    have HW1 := Lib.hid (HW0.out.trans hw)
    have HK1 := Lib.hid (HK0.out.wr hw (by omega) (by decide))
    have HR1 := Lib.hid (Rd.kept HR0.out hw.below)
    clear hp hw
    clear y0 y1 y2 y3 y4
    have y0 := HK1.out.cell 0 _ rfl
    have y1 := HK1.out.cell 1 _ rfl
    have y2 := HK1.out.cell 2 _ rfl
    have y3 := HK1.out.cell 3 _ rfl
    have y4 := HK1.out.cell 4 _ rfl
    go_wp2_with fail
    go_end0
    exact ⟨rfl, by have h1 := HP1.out; (try simp only [List.append_assoc] at h1); (try simp only [List.append_nil] at h1); (try simp only [List.append_assoc]); (try simp only [List.append_nil]); exact h1, HW1.out⟩
  exfalso; omega
end Go.Proofs.YtieklhplalgmmaaGreatDoor
