
/-
  Texts joined: NW N5 YMem YIter.
-/
import Derived.Test.YtbacimfbjpimbaaGreatDoorVp5
import Derived.Test.YtbacimfbjpimbaaGreatDoorVp4
import Derived.Test.YtbacimfbjpimbaaGreatDoorVp1
import Derived.Test.YtbacimfbjpimbaaGreatDoorVp2
import Derived.ArgAppend
import Derived.DataElems
import Derived.RangeFuncBox
import Derived.RangeFuncLeaves
import Derived.RangeFuncWrites
import Derived.RangeFuncBound
import Derived.RangeFuncCalls
import Derived.Shelf.Abstract
import Derived.Shelf.RegionOpen
import Derived.OwnWalkIn
import Derived.TacticsInMore
import Derived.LoopNIn
import Derived.LoopIn
namespace Go.Proofs.YtbacimfbjpimbaaGreatDoor
open Go.RowKit
theorem en_rvalue : ∀ (args : Array Value) (w : World), (callFunc 13 args).run Tryz.prog w = .ok (.enter 13 args) w := enters_of Tryz.func13 (by kernel_rfl) rfl
def pvO (row : Value) (g : Nat) (K : Value) (j : Nat) (ka : Addr) (y u1 : ByteArray) (A : Value) (ia : Addr) (it : Value) (o u2 : ByteArray) : Nat → Option Value
  | 0 => some row
  | 1 => some (.pointer (some ⟨g, 4, none⟩))
  | 2 => some K
  | 3 => some (.int .i64 j)
  | 4 => some (.pointer (some ka))
  | 5 => some (.string y)
  | 6 => some (.string u1)
  | 7 => some (.pointer (some ⟨g, 3, none⟩))
  | 8 => some A
  | 9 => some (.int .i64 j)
  | 10 => some (.pointer (some ia))
  | 11 => some it
  | 12 => some (.string o)
  | 13 => some (.string u2)
  | _ => none
set_option maxRecDepth 100000 in
set_option maxHeartbeats 8000000 in
theorem rvobj_any (n' : Int) (s' : ByteArray) (items : List VT) (keys : List ByteArray) (hkl : keys.length = items.length) (ih : ∀ (i : Nat) (t : VT), items[i]? = some t → t.fit ∧ RValAt t) (A : Option Addr) (li ci : Nat) (KQ : Option Addr) (lk ck : Nat) (w : World) (B : Nat)
    (h : Rd w B (.agg #[.int .i64 6, .int .i64 n', .string s', .slice A li ci, .slice KQ lk ck]) (.mk 6 n' s' items keys)) (hB : B ≤ w.heap.size) (hl : (123 :: (jn [44, 32] (objTxt keys items) ++ [125])).length ≤ 140737488355328) :
    Calls Tryz.prog 13 #[.agg #[.int .i64 6, .int .i64 n', .string s', .slice A li ci, .slice KQ lk ck]] w (SP (123 :: (jn [44, 32] (objTxt keys items) ++ [125])) w) := by
  obtain ⟨hlk, hli0, hbi, _, _, hK⟩ := h.keysOf
  obtain ⟨A', c', e', _, _, V, hA, hr⟩ := h.vals
  cases e'
  clear hli0
  rw [← hkl] at hbi hA
  rw [← hkl]
  obtain ⟨L, hL0⟩ : ∃ L, keys.length = L := ⟨_, rfl⟩
  rw [hL0] at hlk hbi hA ⊢
  subst hlk
  have hlm : (L : Int) ≤ 140737488351232 := by omega
  have HA := Lib.hid hA
  have HR := Lib.hid hr
  have HK := Lib.hid hK
  have IH := Lib.hid ih
  have HL0 := Lib.hid hL0
  have HKL := Lib.hid hkl
  have HLL := Lib.hid hl
  have HBB := Lib.hid hB
  have HBI := Lib.hid hbi
  have HB0 : Hid (Below w.heap.size w (w.alloc (.cells #[.int .i64 6, .int .i64 n', .string s', .slice A L ci, .slice KQ L ck] 25 (0, 0)))) := Lib.hid (below_new _ _)
  have HK0 := Lib.hid (Bk.new w #[.int .i64 6, .int .i64 n', .string s', .slice A L ci, .slice KQ L ck] 25)
  have HOL : Hid ((objTxt keys items).length = L) := Lib.hid (by unfold objTxt; rw [List.length_zipWith, List.length_map, ← HKL.out, HL0.out, Nat.min_self])
  clear hA hr ih hL0 hl hbi h hkl hK
  have y0 := HK0.out.cell 0 _ rfl
  have y1 := HK0.out.cell 1 _ rfl
  have y2 := HK0.out.cell 2 _ rfl
  have y3 := HK0.out.cell 3 _ rfl
  have y4 := HK0.out.cell 4 _ rfl
  go_enter Tryz.func13, Tryz.ntmps13
  go_wp2_with fail
  clear y0 y1 y2 y3 y4
  go_loopw [5, 6] (fun v i wr => ∃ (j : Nat) (ss : List ByteArray), j ≤ L ∧ i = .int .i64 j ∧ Hid (OwnR wr (w.heap.size + 1) v ss ∧ ss.map bL = (objTxt keys items).take j ∧ Below w.heap.size w wr ∧ Bk wr w.heap.size #[.int .i64 6, .int .i64 n', .string s', .slice A L ci, .slice KQ L ck] 25)) (fun _ i _ => L - (intOf i).toNat)
  case atStart => exact ⟨0, [], Nat.zero_le _, rfl, Lib.hid ⟨OwnR.nil _ _, by simp, HB0.out, HK0.out⟩⟩
  case round =>
    obtain ⟨j, ss, hj, rfl, hr⟩ := hrel
    obtain ⟨hown, hss, hb, hk⟩ := hr.out
    have HOW := Lib.hid hown
    have HSS := Lib.hid hss
    have HB := Lib.hid hb
    have HKB := Lib.hid hk
    have hwl := hk.lt
    clear hown hss hb hk hr
    have y0 := HKB.out.cell 0 _ rfl
    have y1 := HKB.out.cell 1 _ rfl
    have y2 := HKB.out.cell 2 _ rfl
    have y3 := HKB.out.cell 3 _ rfl
    have y4 := HKB.out.cell 4 _ rfl
    by_cases hlt : j < L
    · have hlt' : (j : Int) < L := by omega
      obtain ⟨x, hxi⟩ : ∃ x, items[j]? = some x := ⟨_, List.getElem?_eq_getElem (by rw [← HKL.out, HL0.out]; exact hlt)⟩
      obtain ⟨y, hyi⟩ : ∃ y, keys[j]? = some y := ⟨_, List.getElem?_eq_getElem (by rw [HL0.out]; exact hlt)⟩
      obtain ⟨a, eA, ha, hc0⟩ := HA.out (by omega)
      obtain ⟨a', eK, ha', hk0⟩ := HK.out (by rw [HL0.out]; omega)
      have EA := Lib.hid eA
      have EK := Lib.hid eK
      clear eA eK
      have HCC : Hid (∀ W, Below w.heap.size w W → ∀ q, q < 5 → W.cell? (at_ (a.add (j * 5)) q) = some (V j q)) := Lib.hid fun W hb q hq => ((hb.mono HBB.out).cell (by rw [at_block, add_block]; exact ha)).trans (hc0 j hlt q hq)
      have HKC : Hid (∀ W, Below w.heap.size w W → W.cell? (a'.add j) = some (.string y)) := Lib.hid fun W hb => ((hb.mono HBB.out).cell (by rw [add_block]; exact ha')).trans (hk0 j y hyi)
      have HXV : Hid (∀ W, Below w.heap.size w W → ValR W B (V j) x) := Lib.hid fun W hb => ValR.stays.kept (HR.out j x hxi) (hb.mono HBB.out)
      obtain ⟨k', n1, s1, VA, vli, vci, VK, vlk, vck, e0, e1, e2, e3, e4⟩ := Rd.form (HR.out j x hxi)
      have E0 := Lib.hid e0; have E1 := Lib.hid e1; have E2 := Lib.hid e2; have E3 := Lib.hid e3; have E4 := Lib.hid e4
      have hT : (objTxt keys items)[j]? = some (bL y ++ (58 :: 32 :: x.src)) := by unfold objTxt; rw [List.getElem?_zipWith, hyi, List.getElem?_map, hxi]; rfl
      have hst := jn_step_le [44, 32] hT
      have hll := HLL.out
      simp only [List.length_cons, List.length_append, bL_len] at hst hll
      have HXS : Hid ((objTxt keys items).take (j + 1) = (objTxt keys items).take j ++ [bL y ++ (58 :: 32 :: x.src)]) := Lib.hid (take_sn hT)
      obtain ⟨o, hob⟩ : ∃ o : ByteArray, bL o = x.src := ⟨⟨x.src.toArray⟩, bL_mk _⟩
      have hoz : o.size = x.src.length := by rw [← bL_len, hob]
      obtain ⟨u1, hu1, hadd1⟩ := cat_ex y ⟨#[58, 32]⟩ (by show y.size + 2 ≤ _; omega)
      have hu1z : u1.size = y.size + 2 := by rw [← bL_len, hu1, List.length_append, bL_len]; rfl
      obtain ⟨u2, hu2, hadd2⟩ := cat_ex u1 o (by rw [hu1z, hoz]; omega)
      have HU2 : Hid (bL u2 = bL y ++ (58 :: 32 :: x.src)) := Lib.hid (by rw [hu2, hu1, hob, List.append_assoc]; rfl)
      have HAD1 := Lib.hid hadd1
      have HAD2 := Lib.hid hadd2
      have CALL : Hid (∀ W, Below w.heap.size w W → Calls Tryz.prog 13 #[.agg #[.int .i64 k', .int .i64 n1, .string s1, .slice VA vli vci, .slice VK vlk vck]] W fun e w' => e = .returned (.string o) ∧ Below W.heap.size W w') := Lib.hid fun W hW => by
        have h1 := (IH.out j x hxi).2 W B _ (HXV.out W hW) (Nat.le_trans HBB.out hW.size) (IH.out j x hxi).1 (by omega)
        rw [E0.out, E1.out, E2.out, E3.out, E4.out] at h1
        refine h1.mono ?_
        rintro e w' ⟨⟨o', rfl, ho'⟩, hb⟩
        exact ⟨by rw [bL_inj (ho'.trans hob.symm)], hb⟩
      have HSL : Hid (ss.length = j) := Lib.hid (by have := congrArg List.length HSS.out; rw [List.length_map, List.length_take, HOL.out] at this; omega)
      clear hc0 hk0 e0 e1 e2 e3 e4 hxi hyi hT hst hll hob hoz hu1 hu1z hadd1 hu2 hadd2
      go_wp2_with fail
      clear y0 y1 y2 y3 y4
      obtain ⟨W, hW⟩ : ∃ W, wr.drew = W := ⟨_, rfl⟩
      have HBW : Hid (Below w.heap.size w W) := Lib.hid (hW ▸ HB.out.trans (Below.drew (Below.refl _ _)))
      have HKW : Hid (Bk W w.heap.size #[.int .i64 6, .int .i64 n', .string s', .slice A L ci, .slice KQ L ck] 25) := Lib.hid (hW ▸ HKB.out)
      have HOW2 : Hid (OwnR W (w.heap.size + 1) HOW.out.val ss) := Lib.hid (hW ▸ HOW.out.stay (Below.drew (Below.refl _ _)))
      have hzW : W.heap.size = wr.heap.size := by rw [← hW]; rfl
      refine wp_region_puts (pv := pvO HOW.out.val w.heap.size (.slice KQ L ck) j (a'.add j) y u1 (.slice A L ci) (a.add (j * 5)) (.agg #[.int .i64 k', .int .i64 n1, .string s1, .slice VA vli vci, .slice VK vlk vck]) o u2) (b := 12) (c := 14) (e := 15) (x := 16) (C := fun w1 => Below W.heap.size W w1)
        (G := fun u w2 => ∃ w1, Below W.heap.size W w1 ∧ u = .slice (some ⟨w1.heap.size, 0, none⟩) 1 1 ∧ w2 = w1.alloc (.cells #[.string u2] 9 (0, 0)))
        (E := fun u w3 => OwnR w3 (w.heap.size + 1) u (ss ++ [u2]) ∧ Below w.heap.size w w3 ∧ Bk w3 w.heap.size #[.int .i64 6, .int .i64 n', .string s', .slice A L ci, .slice KQ L ck] 25) (by kernel_rfl) (by kernel_rfl) (by kernel_rfl) ⟨by decide, by decide, by decide, by decide, by decide, by decide, rfl, rfl, rfl, by decide, by decide, by decide⟩ ?_ ?_ ?_ ?_ ?_ ?_ ?_ ?_ ?_
      · intro o ho d hcl hall; cases ho; exact hcl 13 _ rfl (hall ⟨13, .data⟩ (by simp) rfl) ⟨12, .data⟩ (by simp) rfl
      · intro o ho; cases ho; exact ⟨⟨14, .data⟩, by simp, rfl, rfl⟩
      · intro o ho; cases ho; exact ⟨⟨15, .data⟩, by simp, rfl, rfl⟩
      · intro i oo ho q1 q2 q3 q4 d a2 w2 hf hcl hdi hx0 had hw
        rw [hW] at hw
        have hi : i < 17 := (Array.getElem?_eq_some_iff.1 ho).1
        have hbx : (d 2 = false ∨ d 5 = false ∨ d 8 = false ∨ d 11 = false) → Below w.heap.size w w2 ∧ Bk w2 w.heap.size #[.int .i64 6, .int .i64 n', .string s', .slice A L ci, .slice KQ L ck] 25 := by
          intro hd
          rcases hw with rfl | hb | ⟨u, w1, hb, _, rfl⟩ | ⟨hde, _⟩
          · exact ⟨HBW.out, HKW.out⟩
          · exact ⟨HBW.out.trans (hb.mono HBW.out.size), HKW.out.stay hb⟩
          · exact ⟨(HBW.out.trans (hb.mono HBW.out.size)).trans ((below_new w1 _).mono (Nat.le_trans HBW.out.size hb.size)), (HKW.out.stay hb).stay (below_new _ _)⟩
          · have d14 : d 14 = true := hcl 15 _ rfl hde ⟨14, .data⟩ (by simp) rfl
            have d13 : d 13 = true := hcl 14 _ rfl d14 ⟨13, .data⟩ (by simp) rfl
            have d6 : d 6 = true := hcl 13 _ rfl d13 ⟨6, .data⟩ (by simp) rfl
            have d12 : d 12 = true := hcl 13 _ rfl d13 ⟨12, .data⟩ (by simp) rfl
            have d5 : d 5 = true := hcl 6 _ rfl d6 ⟨5, .data⟩ (by simp) rfl
            have d4 : d 4 = true := hcl 5 _ rfl d5 ⟨4, .data⟩ (by simp) rfl
            have d2 : d 2 = true := hcl 4 _ rfl d4 ⟨2, .data⟩ (by simp) rfl
            have d11 : d 11 = true := hcl 12 _ rfl d12 ⟨11, .data⟩ (by simp) rfl
            have d10 : d 10 = true := hcl 11 _ rfl d11 ⟨10, .data⟩ (by simp) rfl
            have d8 : d 8 = true := hcl 10 _ rfl d10 ⟨8, .data⟩ (by simp) rfl
            rw [d2, d5, d8, d11] at hd
            simp at hd
        have hc : i = 0 ∨ i = 1 ∨ i = 2 ∨ i = 3 ∨ i = 4 ∨ i = 5 ∨ i = 6 ∨ i = 7 ∨ i = 8 ∨ i = 9 ∨ i = 10 ∨ i = 11 ∨ i = 13 := by omega
        rcases hc with rfl | rfl | rfl | rfl | rfl | rfl | rfl | rfl | rfl | rfl | rfl | rfl | rfl
        · cases ho
          have d16 : d 16 = false := by
            cases q : d 16 with
            | false => rfl
            | true =>
              have d15 : d 15 = true := hcl 16 _ rfl q ⟨15, .data⟩ (by simp) rfl
              have d0 : d 0 = true := hcl 15 _ rfl d15 ⟨0, .data⟩ (by simp) rfl
              rw [d0] at hdi; cases hdi
          exact op_move rfl (.tmp 5) rfl (hx0 d16) ⟨rfl, fun z hz => by cases hz; rfl⟩
        · cases ho
          exact op_faV4 rfl (.tmp 1) rfl (K.Fr.slot hf 1 (by kernel_rfl)) ⟨rfl, fun z hz => by cases hz; rfl⟩
        · cases ho
          have hx : a2.eval (.tmp 72) = .pointer (some ⟨w.heap.size, 4, none⟩) := had ⟨1, .data⟩ (by simp) rfl _ rfl
          exact op_ldLS rfl (.tmp 72) rfl hx ((hbx (.inl hdi)).2.cell 4 _ rfl) ⟨rfl, fun z hz => by cases hz; rfl⟩
        · cases ho
          exact op_move rfl (.tmp 6) rfl (K.Fr.slot hf 6 (by kernel_rfl)) ⟨rfl, fun z hz => by cases hz; rfl⟩
        · cases ho
          have hx : a2.eval (.tmp 73) = .slice KQ L ck := had ⟨2, .data⟩ (by simp) rfl _ rfl
          have hy : a2.eval (.tmp 74) = .int .i64 j := had ⟨3, .data⟩ (by simp) rfl _ rfl
          rw [EK.out] at hx
          exact op_ixS rfl (.tmp 73) (.tmp 74) rfl hx hy hlt ⟨rfl, fun z hz => by cases hz; rfl⟩
        · cases ho
          have hx : a2.eval (.tmp 75) = .pointer (some (a'.add j)) := had ⟨4, .data⟩ (by simp) rfl _ rfl
          exact op_ldS rfl (.tmp 75) rfl hx (HKC.out _ (hbx (.inr (.inl hdi))).1) ⟨rfl, fun z hz => by cases hz; rfl⟩
        · cases ho
          have hx : a2.eval (.tmp 76) = .string y := had ⟨5, .data⟩ (by simp) rfl _ rfl
          exact op_cat rfl (.tmp 76) (.const (.string ⟨#[58, 32]⟩)) rfl hx rfl HAD1.out ⟨rfl, fun z hz => by cases hz; rfl⟩
        · cases ho
          exact op_faV3 rfl (.tmp 1) rfl (K.Fr.slot hf 1 (by kernel_rfl)) ⟨rfl, fun z hz => by cases hz; rfl⟩
        · cases ho
          have hx : a2.eval (.tmp 78) = .pointer (some ⟨w.heap.size, 3, none⟩) := had ⟨7, .data⟩ (by simp) rfl _ rfl
          exact op_ldLV rfl (.tmp 78) rfl hx ((hbx (.inr (.inr (.inl hdi)))).2.cell 3 _ rfl) ⟨rfl, fun z hz => by cases hz; rfl⟩
        · cases ho
          exact op_move rfl (.tmp 6) rfl (K.Fr.slot hf 6 (by kernel_rfl)) ⟨rfl, fun z hz => by cases hz; rfl⟩
        · cases ho
          have hx : a2.eval (.tmp 79) = .slice A L ci := had ⟨8, .data⟩ (by simp) rfl _ rfl
          have hy : a2.eval (.tmp 80) = .int .i64 j := had ⟨9, .data⟩ (by simp) rfl _ rfl
          rw [EA.out] at hx
          exact op_ixV rfl (.tmp 79) (.tmp 80) rfl hx hy hlt ⟨rfl, fun z hz => by cases hz; rfl⟩
        · cases ho
          have hx : a2.eval (.tmp 81) = .pointer (some (a.add (j * 5))) := had ⟨10, .data⟩ (by simp) rfl _ rfl
          have hcc := HCC.out _ (hbx (.inr (.inr (.inr hdi)))).1
          exact op_ldV rfl (.tmp 81) rfl hx ((hcc 0 (by omega)).trans (congrArg some E0.out)) ((hcc 1 (by omega)).trans (congrArg some E1.out)) ((hcc 2 (by omega)).trans (congrArg some E2.out)) ((hcc 3 (by omega)).trans (congrArg some E3.out)) ((hcc 4 (by omega)).trans (congrArg some E4.out)) ⟨rfl, fun z hz => by cases hz; rfl⟩
        · cases ho
          have hx : a2.eval (.tmp 77) = .string u1 := had ⟨6, .data⟩ (by simp) rfl _ rfl
          have hy : a2.eval (.tmp 83) = .string o := had ⟨12, .data⟩ (by simp) rfl _ rfl
          exact op_cat rfl (.tmp 77) (.tmp 83) rfl hx hy HAD2.out ⟨rfl, fun z hz => by cases hz; rfl⟩
      · intro oo ho a2 hf had
        cases ho
        rw [hW]
        have hx : a2.eval (.tmp 82) = .agg #[.int .i64 k', .int .i64 n1, .string s1, .slice VA vli vci, .slice VK vlk vck] := had ⟨11, .data⟩ (by simp) rfl _ rfl
        refine runs_calls rfl _ _ _ rfl en_rvalue #[.agg #[.int .i64 k', .int .i64 n1, .string s1, .slice VA vli vci, .slice VK vlk vck]] (by rw [K.map1, hx]) ?_
        refine (CALL.out _ HBW.out).mono ?_
        rintro e w4 ⟨rfl, hb⟩
        exact ⟨_, rfl, hb, fun z hz => by cases hz; rfl⟩
      · intro oo ho a2 w2 hf had hb
        cases ho
        have hx : a2.eval (.tmp 84) = .string u2 := had ⟨13, .data⟩ (by simp) rfl _ rfl
        exact op_mk1 rfl (.tmp 84) rfl hx ⟨w2, hb, rfl, rfl⟩
      · intro oo ho a2 w2 hf had ⟨w1, hb, hu, hw⟩
        cases ho
        subst hw
        refine op_app rfl (.tmp 71) (.tmp 85) rfl (w.heap.size + 1) HOW.out.val ss (had ⟨0, .data⟩ (by simp) rfl _ rfl) ((HOW2.out.stay hb).stay (below_new _ _)) w1.heap.size u2 hu ((Bk.new w1 #[.string u2] 9).cell 0 _ rfl) (by have := HSL.out; have := HBI.out; omega) (by have := hb.size; have := hzW; simp; omega) ?_
        intro v' w' ho' hg'
        have hbs : Below w.heap.size w (w1.alloc (.cells #[.string u2] 9 (0, 0))) := (HBW.out.trans (hb.mono HBW.out.size)).trans ((below_new w1 _).mono (Nat.le_trans HBW.out.size hb.size))
        have how := (HOW2.out.stay hb).stay (below_new w1 (.cells #[.string u2] 9 (0, 0)))
        exact ⟨ho', hbs.grown hg' hbs.size (fun k hk => by have := (how.lt k hk).1; omega), ((HKW.out.stay hb).stay (below_new _ _)).grown hg' (fun k hk => by have := (how.lt k hk).1; omega)⟩
      · intro oo ho a2 w2 hf
        cases ho
        exact op_assign rfl (.tmp 86) rfl rfl ⟨rfl, rfl⟩
      intro a2 w3 hf hE hx16
      have h5 : a2.tmps.getD 5 undef = a2.tmps.getD 86 undef := hx16 (by decide)
      obtain ⟨hown3, hb3, hk3⟩ := hE
      have hown3 : OwnR w3 (w.heap.size + 1) (a2.tmps.getD 86 undef) (ss ++ [u2]) := hown3
      rw [← h5] at hown3
      have hfa := _root_.Go.Proofs.YtbacimfbjpimbaaGreatDoor.K.over_ofB hf [71, 72, 73, 74, 75, 76, 77, 78, 79, 80, 81, 82, 83, 84, 85, 86, 5] (by kernel_rfl)
      have HO3 : Hid (OwnR w3 (w.heap.size + 1) ((fun d => a2.tmps.getD d undef) 5) (ss ++ [u2])) := Lib.hid hown3
      have HB3 := Lib.hid hb3
      have HK3 := Lib.hid hk3
      clear hown3 hb3 hk3 hx16 h5 hf
      generalize (fun d => a2.tmps.getD d undef) = f9 at hfa HO3
      subst hfa
      simp only [K.over, List.foldl_cons, List.foldl_nil, Act.put, List.setIfInBounds_toArray, List.set_cons_succ, List.set_cons_zero]
      generalize f9 71 = t71
      generalize f9 72 = t72
      generalize f9 73 = t73
      generalize f9 74 = t74
      generalize f9 75 = t75
      generalize f9 76 = t76
      generalize f9 77 = t77
      generalize f9 78 = t78
      generalize f9 79 = t79
      generalize f9 80 = t80
      generalize f9 81 = t81
      generalize f9 82 = t82
      generalize f9 83 = t83
      generalize f9 84 = t84
      generalize f9 85 = t85
      generalize f9 86 = t86
      generalize f9 5 = t5 at HO3 ⊢
      go_wp2_with fail
      go_roundw
      case rel => exact ⟨j + 1, ss ++ [u2], by omega, by go_num, Lib.hid ⟨HO3.out, by rw [HXS.out, List.map_append, HSS.out, List.map_cons, List.map_nil, HU2.out], HB3.out, HK3.out⟩⟩
      case measure => simp [intOf]; omega
    · have : j = L := by omega
      subst this
      obtain ⟨A2, c2, hv2, hst2⟩ := HOW.out.strs
      have HST2 := Lib.hid hst2
      have HFS : Hid (ss.map bL = objTxt keys items) := Lib.hid (by have := HSS.out; rwa [List.take_of_length_le (by rw [HOL.out]; exact Nat.le_refl _)] at this)
      have hsl : ss.length = j := by have := congrArg List.length HFS.out; rw [List.length_map, HOL.out] at this; exact this
      subst hv2
      rw [hsl]
      have HJ := Lib.hid (rjoin_any ss A2 j c2 ⟨#[44, 32]⟩ wr HST2.out hsl (by have := HBI.out; omega) (by rw [HFS.out, lit_bL]; have := HLL.out; simp only [List.length_cons, List.length_append] at this; omega))
      clear hst2 hsl HOW
      go_wp2_with fail
      refine HJ.out.mono ?_
      rintro e w7 ⟨⟨o, rfl, ho⟩, rfl⟩
      rw [HFS.out, show bL ⟨#[44, 32]⟩ = [44, 32] from rfl] at ho
      have hol : o.size = (jn [44, 32] (objTxt keys items)).length := by rw [← bL_len, ho]
      have hll := HLL.out
      simp only [List.length_cons, List.length_append, List.length_nil] at hll
      obtain ⟨q, hq, hadd1⟩ := cat_ex ⟨#[123]⟩ o (by show 1 + o.size ≤ _; omega)
      have hql : q.size = o.size + 1 := by rw [← bL_len, hq, List.length_append, bL_len o]; show 1 + o.size = _; omega
      obtain ⟨u, hu, hadd2⟩ := cat_ex q ⟨#[125]⟩ (by show q.size + 1 ≤ _; omega)
      have HU : Hid (bL u = 123 :: (jn [44, 32] (objTxt keys items) ++ [125])) := Lib.hid (by rw [hu, hq, ho]; rfl)
      clear hu hq hol hll hql ho
      go_wp2_with fail
      go_ret
      exact ⟨⟨u, rfl, HU.out⟩, HB.out⟩
end Go.Proofs.YtbacimfbjpimbaaGreatDoor
namespace Go.Proofs.YtbacimfbjpimbaaGreatDoor
open Go.RowKit
theorem Rd.same {w : World} {B : Nat} {k' n' k n : Int} {s' s : ByteArray} {A : Option Addr} {li ci : Nat} {K : Option Addr} {lk ck : Nat} {items : List VT} {keys : List ByteArray}
    (h : Rd w B (.agg #[.int .i64 k', .int .i64 n', .string s', .slice A li ci, .slice K lk ck]) (.mk k n s items keys)) : k' = k ∧ n' = n ∧ s' = s ∧ small n ∧ s.size ≤ 140737488351232 := by
  cases h with
  | mk V hk hn hs => exact ⟨rfl, rfl, rfl, hn, hs⟩
theorem fb1_t (w : World) : Calls Tryz.prog 119 #[.bool true] w fun e w' => e = .returned (.string ⟨#[116, 114, 117, 101]⟩) ∧ w = w' := by
  go_enter Tryz.func119, Tryz.ntmps119
  go_wp2_with fail
  go_ret
  exact ⟨rfl, rfl⟩
theorem fb_t (w : World) : Calls Tryz.prog 57 #[.bool true] w fun e w' => e = .returned (.string ⟨#[116, 114, 117, 101]⟩) ∧ w = w' := by
  go_enter Tryz.func57, Tryz.ntmps57
  go_wp2_with fail
  refine (fb1_t w).mono ?_
  rintro e w1 ⟨rfl, rfl⟩
  go_wp2_with fail
  go_ret
  exact ⟨rfl, rfl⟩
theorem fb1_f (w : World) : Calls Tryz.prog 119 #[.bool false] w fun e w' => e = .returned (.string ⟨#[102, 97, 108, 115, 101]⟩) ∧ w = w' := by
  go_enter Tryz.func119, Tryz.ntmps119
  go_wp2_with fail
  go_ret
  exact ⟨rfl, rfl⟩
theorem fb_f (w : World) : Calls Tryz.prog 57 #[.bool false] w fun e w' => e = .returned (.string ⟨#[102, 97, 108, 115, 101]⟩) ∧ w = w' := by
  go_enter Tryz.func57, Tryz.ntmps57
  go_wp2_with fail
  refine (fb1_f w).mono ?_
  rintro e w1 ⟨rfl, rfl⟩
  go_wp2_with fail
  go_ret
  exact ⟨rfl, rfl⟩
set_option maxRecDepth 100000 in
set_option maxHeartbeats 4000000 in
theorem value_any (B b : Nat) : ValOk B b := by
  intro t
  induction t using VT.ind with
  | h k n s items keys ih =>
  intro hf f w h l hp hL hl hB
  obtain ⟨k', n', s', A, li, ci, K, lk, ck, e0, e1, e2, e3, e4⟩ := Rd.form h
  have hv : Rd w B (.agg #[f 0, f 1, f 2, f 3, f 4]) (.mk k n s items keys) := h
  rw [e0, e1, e2, e3, e4] at hv ⊢
  clear e0 e1 e2 e3 e4 h
  obtain ⟨rfl, rfl, rfl, hn, hsz⟩ := hv.same
  rw [VT.fit] at hf
  obtain ⟨hk, hf1, hf6, _, hs40, hfi⟩ := hf
  have IH : Hid (∀ (i : Nat) (t : VT), items[i]? = some t → ∀ (f : Nat → Value) (W : World), ValR W B f t → Prints B b W 28 (.agg #[f 0, f 1, f 2, f 3, f 4]) t.src) := Lib.hid fun i t hi f W => ih i t hi (fits_at hfi hi) f W
  clear ih hfi
  have HR0 := Lib.hid (hv.kept (below_new w (.cells #[.int .i64 k', .int .i64 n', .string s', .slice A li ci, .slice K lk ck] 25 (0, 0)) |>.mono hB))
  clear hv
  have HW0 : Hid (Wr B b w (w.alloc (.cells #[.int .i64 k', .int .i64 n', .string s', .slice A li ci, .slice K lk ck] 25 (0, 0)))) := Lib.hid ((Wr.refl B b w).alloc hB _)
  have HP0 := Lib.hid (hp.alloc (.cells #[.int .i64 k', .int .i64 n', .string s', .slice A li ci, .slice K lk ck] 25 (0, 0)))
  have HK0 := Lib.hid (Bk.new w #[.int .i64 k', .int .i64 n', .string s', .slice A li ci, .slice K lk ck] 25)
  have HL := Lib.hid hL
  have HLL := Lib.hid hl
  have HBB := Lib.hid hB
  have hbw := hp.lt
  clear hL hl hB hp
  by_cases hk0 : k' = 0
  · subst hk0
    have hsrc : (VT.mk 0 n' s' items keys).src = [110, 117, 108, 108] := by rw [src_eq]; rfl
    rw [hsrc] at HLL ⊢
    clear hsrc hf1 hf6 hk
    go_enter Tryz.func28, Tryz.ntmps28
    have y0 := HK0.out.cell 0 _ rfl
    have y1 := HK0.out.cell 1 _ rfl
    have y2 := HK0.out.cell 2 _ rfl
    have y3 := HK0.out.cell 3 _ rfl
    have y4 := HK0.out.cell 4 _ rfl
    go_wp2_with fail
    refine (put1 _ B b _ _ _ (by simp) HP0.out (by have h1 := HLL.out; (try simp only [lit_bL] at h1 ⊢); (try simp only [List.length_append] at h1 ⊢); (try simp only [List.length_cons] at h1 ⊢); (try simp only [List.length_append] at h1 ⊢); (try simp only [List.length_nil] at h1 ⊢); (try simp only [bL_len] at h1 ⊢); (try simp only [lit_size] at h1 ⊢); (try simp only [List.length_cons] at h1 ⊢); (try simp only [List.length_nil] at h1 ⊢); omega) (Nat.le_trans HBB.out HW0.out.below.size)).mono ?_
    rintro e w1 ⟨rfl, hp, hw⟩
    have HP1 := Lib.hid hp
    have HW1 := Lib.hid (HW0.out.trans hw)
    have HK1 := Lib.hid (HK0.out.wr hw (by omega) (by decide))
    have HR1 := Lib.hid (Rd.kept HR0.out hw.below)
    clear hp hw
    clear y0 y1 y2 y3 y4
    have y0 := HK1.out.cell 0 _ rfl
    have y1 := HK1.out.cell 1 _ rfl
    have y2 := HK1.out.cell 2 _ rfl
    have y3 := HK1.out.cell 3 _ rfl
    have y4 := HK1.out.cell 4 _ rfl
    go_wp2_with fail
    go_end0
    exact ⟨rfl, by have h1 := HP1.out; (try simp only [List.append_assoc] at h1); (try simp only [List.append_nil] at h1); (try simp only [List.append_assoc]); (try simp only [List.append_nil]); exact h1, HW1.out⟩
  by_cases hk1 : k' = 1
  · subst hk1
    by_cases hn0 : n' = 0
    · subst hn0
      have hsrc : (VT.mk 1 0 s' items keys).src = [102, 97, 108, 115, 101] := by rw [src_eq]; rfl
      rw [hsrc] at HLL ⊢
      clear hsrc hf1 hf6 hk
      go_enter Tryz.func28, Tryz.ntmps28
      have y0 := HK0.out.cell 0 _ rfl
      have y1 := HK0.out.cell 1 _ rfl
      have y2 := HK0.out.cell 2 _ rfl
      have y3 := HK0.out.cell 3 _ rfl
      have y4 := HK0.out.cell 4 _ rfl
      go_wp2_with fail
      refine (fb_f _).mono ?_
      rintro e w' ⟨rfl, rfl⟩
      go_wp2_with fail
      refine (put1 _ B b _ _ _ (by simp) HP0.out (by have h1 := HLL.out; (try simp only [lit_bL] at h1 ⊢); (try simp only [List.length_append] at h1 ⊢); (try simp only [List.length_cons] at h1 ⊢); (try simp only [List.length_append] at h1 ⊢); (try simp only [List.length_nil] at h1 ⊢); (try simp only [bL_len] at h1 ⊢); (try simp only [lit_size] at h1 ⊢); (try simp only [List.length_cons] at h1 ⊢); (try simp only [List.length_nil] at h1 ⊢); omega) (Nat.le_trans HBB.out HW0.out.below.size)).mono ?_
      rintro e w1 ⟨rfl, hp, hw⟩
      have HP1 := Lib.hid hp
      have HW1 := Lib.hid (HW0.out.trans hw)
      have HK1 := Lib.hid (HK0.out.wr hw (by omega) (by decide))
      have HR1 := Lib.hid (Rd.kept HR0.out hw.below)
      clear hp hw
      clear y0 y1 y2 y3 y4
      have y0 := HK1.out.cell 0 _ rfl
      have y1 := HK1.out.cell 1 _ rfl
      have y2 := HK1.out.cell 2 _ rfl
      have y3 := HK1.out.cell 3 _ rfl
      have y4 := HK1.out.cell 4 _ rfl
      go_wp2_with fail
      go_end0
      exact ⟨rfl, by have h1 := HP1.out; (try simp only [List.append_assoc] at h1); (try simp only [List.append_nil] at h1); (try simp only [List.append_assoc]); (try simp only [List.append_nil]); exact h1, HW1.out⟩
    · have hn0' : (n' != 0) = true := by simp [hn0]
      have hsrc : (VT.mk 1 n' s' items keys).src = [116, 114, 117, 101] := by rw [src_eq]; simp [hn0, trueB]
      rw [hsrc] at HLL ⊢
      clear hsrc hf1 hf6 hk hn0
      go_enter Tryz.func28, Tryz.ntmps28
      have y0 := HK0.out.cell 0 _ rfl
      have y1 := HK0.out.cell 1 _ rfl
      have y2 := HK0.out.cell 2 _ rfl
      have y3 := HK0.out.cell 3 _ rfl
      have y4 := HK0.out.cell 4 _ rfl
      go_wp2_with fail
      refine (fb_t _).mono ?_
      rintro e w' ⟨rfl, rfl⟩
      go_wp2_with fail
      refine (put1 _ B b _ _ _ (by simp) HP0.out (by have h1 := HLL.out; (try simp only [lit_bL] at h1 ⊢); (try simp only [List.length_append] at h1 ⊢); (try simp only [List.length_cons] at h1 ⊢); (try simp only [List.length_append] at h1 ⊢); (try simp only [List.length_nil] at h1 ⊢); (try simp only [bL_len] at h1 ⊢); (try simp only [lit_size] at h1 ⊢); (try simp only [List.length_cons] at h1 ⊢); (try simp only [List.length_nil] at h1 ⊢); omega) (Nat.le_trans HBB.out HW0.out.below.size)).mono ?_
      rintro e w1 ⟨rfl, hp, hw⟩
      have HP1 := Lib.hid hp
      have HW1 := Lib.hid (HW0.out.trans hw)
      have HK1 := Lib.hid (HK0.out.wr hw (by omega) (by decide))
      have HR1 := Lib.hid (Rd.kept HR0.out hw.below)
      clear hp hw
      clear y0 y1 y2 y3 y4
      have y0 := HK1.out.cell 0 _ rfl
      have y1 := HK1.out.cell 1 _ rfl
      have y2 := HK1.out.cell 2 _ rfl
      have y3 := HK1.out.cell 3 _ rfl
      have y4 := HK1.out.cell 4 _ rfl
      go_wp2_with fail
      go_end0
      exact ⟨rfl, by have h1 := HP1.out; (try simp only [List.append_assoc] at h1); (try simp only [List.append_nil] at h1); (try simp only [List.append_assoc]); (try simp only [List.append_nil]); exact h1, HW1.out⟩
  by_cases hk2 : k' = 2
  · subst hk2
    have hsrc : (VT.mk 2 n' s' items keys).src = Lib.itoa n' := by rw [src_eq]; rfl
    rw [hsrc] at HLL ⊢
    clear hsrc hf1 hf6 hk
    go_enter Tryz.func28, Tryz.ntmps28
    have y0 := HK0.out.cell 0 _ rfl
    have y1 := HK0.out.cell 1 _ rfl
    have y2 := HK0.out.cell 2 _ rfl
    have y3 := HK0.out.cell 3 _ rfl
    have y4 := HK0.out.cell 4 _ rfl
    go_wp2_with fail
    refine (T1.decimal_any n' _ (HL.out.kept HW0.out.below).is hn.1 hn.2).mono ?_
    rintro e w1 ⟨rfl, hb1⟩
    have HP1 := Lib.hid (HP0.out.kept hb1)
    have HW1 : Hid (Wr B b w w1) := Lib.hid (HW0.out.trans (Wr.of (Nat.le_trans HBB.out HW0.out.below.size) hb1))
    have HK1 := Lib.hid (HK0.out.stay hb1)
    clear hb1
    clear y0 y1 y2 y3 y4
    have y0 := HK1.out.cell 0 _ rfl
    have y1 := HK1.out.cell 1 _ rfl
    have y2 := HK1.out.cell 2 _ rfl
    have y3 := HK1.out.cell 3 _ rfl
    have y4 := HK1.out.cell 4 _ rfl
    go_wp2_with fail
    refine (put1 _ B b _ _ _ (by simp) HP1.out (by have h1 := HLL.out; (try simp only [lit_bL] at h1 ⊢); (try simp only [List.length_append] at h1 ⊢); (try simp only [List.length_cons] at h1 ⊢); (try simp only [List.length_append] at h1 ⊢); (try simp only [List.length_nil] at h1 ⊢); (try simp only [bL_len] at h1 ⊢); (try simp only [lit_size] at h1 ⊢); (try simp only [List.length_cons] at h1 ⊢); (try simp only [List.length_nil] at h1 ⊢); omega) (Nat.le_trans HBB.out HW1.out.below.size)).mono ?_
    rintro e w2 ⟨rfl, hp, hw⟩
    have HP2 := Lib.hid hp
    have HW2 := Lib.hid (HW1.out.trans hw)
    have HK2 := Lib.hid (HK1.out.wr hw (by omega) (by decide))
    clear hp hw
    clear y0 y1 y2 y3 y4
    have y0 := HK2.out.cell 0 _ rfl
    have y1 := HK2.out.cell 1 _ rfl
    have y2 := HK2.out.cell 2 _ rfl
    have y3 := HK2.out.cell 3 _ rfl
    have y4 := HK2.out.cell 4 _ rfl
    go_wp2_with fail
    go_end0
    exact ⟨rfl, by have h1 := HP2.out; (try simp only [List.append_assoc] at h1); (try simp only [List.append_nil] at h1); (try simp only [List.append_assoc]); (try simp only [List.append_nil]); exact h1, HW2.out⟩
  by_cases hk3 : k' = 3
  · subst hk3
    have hsrc : (VT.mk 3 n' s' items keys).src = T1.quoteL s'.data.toList := by rw [src_eq]; rfl
    rw [hsrc] at HLL ⊢
    clear hsrc hf1 hf6 hk
    go_enter Tryz.func28, Tryz.ntmps28
    have y0 := HK0.out.cell 0 _ rfl
    have y1 := HK0.out.cell 1 _ rfl
    have y2 := HK0.out.cell 2 _ rfl
    have y3 := HK0.out.cell 3 _ rfl
    have y4 := HK0.out.cell 4 _ rfl
    go_wp2_with fail
    refine (T1.quote_any s' _ hs40).mono ?_
    rintro e w1 ⟨rfl, hb1⟩
    have HP1 := Lib.hid (HP0.out.kept hb1)
    have HW1 : Hid (Wr B b w w1) := Lib.hid (HW0.out.trans (Wr.of (Nat.le_trans HBB.out HW0.out.below.size) hb1))
    have HK1 := Lib.hid (HK0.out.stay hb1)
    clear hb1
    clear y0 y1 y2 y3 y4
    have y0 := HK1.out.cell 0 _ rfl
    have y1 := HK1.out.cell 1 _ rfl
    have y2 := HK1.out.cell 2 _ rfl
    have y3 := HK1.out.cell 3 _ rfl
    have y4 := HK1.out.cell 4 _ rfl
    go_wp2_with fail
    refine (put1 _ B b _ _ _ (by simp) HP1.out (by have h1 := HLL.out; (try simp only [lit_bL] at h1 ⊢); (try simp only [List.length_append] at h1 ⊢); (try simp only [List.length_cons] at h1 ⊢); (try simp only [List.length_append] at h1 ⊢); (try simp only [List.length_nil] at h1 ⊢); (try simp only [bL_len] at h1 ⊢); (try simp only [lit_size] at h1 ⊢); (try simp only [List.length_cons] at h1 ⊢); (try simp only [List.length_nil] at h1 ⊢); omega) (Nat.le_trans HBB.out HW1.out.below.size)).mono ?_
    rintro e w2 ⟨rfl, hp, hw⟩
    have HP2 := Lib.hid hp
    have HW2 := Lib.hid (HW1.out.trans hw)
    have HK2 := Lib.hid (HK1.out.wr hw (by omega) (by decide))
    clear hp hw
    clear y0 y1 y2 y3 y4
    have y0 := HK2.out.cell 0 _ rfl
    have y1 := HK2.out.cell 1 _ rfl
    have y2 := HK2.out.cell 2 _ rfl
    have y3 := HK2.out.cell 3 _ rfl
    have y4 := HK2.out.cell 4 _ rfl
    go_wp2_with fail
    go_end0
    exact ⟨rfl, by have h1 := HP2.out; (try simp only [List.append_assoc] at h1); (try simp only [List.append_nil] at h1); (try simp only [List.append_assoc]); (try simp only [List.append_nil]); exact h1, HW2.out⟩
  by_cases hk4 : k' = 4
  · subst hk4
    have hsrc : (VT.mk 4 n' s' items keys).src = bL s' := by rw [src_eq]; rfl
    rw [hsrc] at HLL ⊢
    clear hsrc hf1 hf6 hk
    go_enter Tryz.func28, Tryz.ntmps28
    have y0 := HK0.out.cell 0 _ rfl
    have y1 := HK0.out.cell 1 _ rfl
    have y2 := HK0.out.cell 2 _ rfl
    have y3 := HK0.out.cell 3 _ rfl
    have y4 := HK0.out.cell 4 _ rfl
    go_wp2_with fail
    refine (put1 _ B b _ _ _ (by simp) HP0.out (by have h1 := HLL.out; (try simp only [lit_bL] at h1 ⊢); (try simp only [List.length_append] at h1 ⊢); (try simp only [List.length_cons] at h1 ⊢); (try simp only [List.length_append] at h1 ⊢); (try simp only [List.length_nil] at h1 ⊢); (try simp only [bL_len] at h1 ⊢); (try simp only [lit_size] at h1 ⊢); (try simp only [List.length_cons] at h1 ⊢); (try simp only [List.length_nil] at h1 ⊢); omega) (Nat.le_trans HBB.out HW0.out.below.size)).mono ?_
    rintro e w1 ⟨rfl, hp, hw⟩
    have HP1 := Lib.hid hp
    have HW1 := Lib.hid (HW0.out.trans hw)
    have HK1 := Lib.hid (HK0.out.wr hw (by omega) (by decide))
    have HR1 := Lib.hid (Rd.kept HR0.out hw.below)
    clear hp hw
    clear y0 y1 y2 y3 y4
    have y0 := HK1.out.cell 0 _ rfl
    have y1 := HK1.out.cell 1 _ rfl
    have y2 := HK1.out.cell 2 _ rfl
    have y3 := HK1.out.cell 3 _ rfl
    have y4 := HK1.out.cell 4 _ rfl
    go_wp2_with fail
    go_end0
    exact ⟨rfl, by have h1 := HP1.out; (try simp only [List.append_assoc] at h1); (try simp only [List.append_nil] at h1); (try simp only [List.append_assoc]); (try simp only [List.append_nil]); exact h1, HW1.out⟩
  by_cases hk7 : k' = 7
  · subst hk7
    have hsrc : (VT.mk 7 n' s' items keys).src = 36 :: bL s' := by rw [src_eq]; rfl
    rw [hsrc] at HLL ⊢
    clear hsrc hf1 hf6 hk
    go_enter Tryz.func28, Tryz.ntmps28
    have y0 := HK0.out.cell 0 _ rfl
    have y1 := HK0.out.cell 1 _ rfl
    have y2 := HK0.out.cell 2 _ rfl
    have y3 := HK0.out.cell 3 _ rfl
    have y4 := HK0.out.cell 4 _ rfl
    go_wp2_with fail
    refine (put2 _ _ B b _ _ _ (by simp) HP0.out (by have h1 := HLL.out; (try simp only [lit_bL] at h1 ⊢); (try simp only [List.length_append] at h1 ⊢); (try simp only [List.length_cons] at h1 ⊢); (try simp only [List.length_append] at h1 ⊢); (try simp only [List.length_nil] at h1 ⊢); (try simp only [bL_len] at h1 ⊢); (try simp only [lit_size] at h1 ⊢); (try simp only [List.length_cons] at h1 ⊢); (try simp only [List.length_nil] at h1 ⊢); omega) (Nat.le_trans HBB.out HW0.out.below.size)).mono ?_
    rintro e w1 ⟨rfl, hp, hw⟩
    have HP1 := Lib.hid hp
    have HW1 := Lib.hid (HW0.out.trans hw)
    have HK1 := Lib.hid (HK0.out.wr hw (by omega) (by decide))
    have HR1 := Lib.hid (Rd.kept HR0.out hw.below)
    clear hp hw
    clear y0 y1 y2 y3 y4
    have y0 := HK1.out.cell 0 _ rfl
    have y1 := HK1.out.cell 1 _ rfl
    have y2 := HK1.out.cell 2 _ rfl
    have y3 := HK1.out.cell 3 _ rfl
    have y4 := HK1.out.cell 4 _ rfl
    go_wp2_with fail
    go_end0
    exact ⟨rfl, by have h1 := HP1.out; (try simp only [List.append_assoc] at h1); (try simp only [List.append_nil] at h1); (try simp only [List.append_assoc]); (try simp only [List.append_nil]); exact h1, HW1.out⟩
  by_cases hk5 : k' = 5
  · subst hk5
    have hsrc : (VT.mk 5 n' s' items keys).src = 91 :: (jn [44, 32] (items.map VT.src) ++ [93]) := by rw [src_eq]; rfl
    rw [hsrc] at HLL ⊢
    clear hsrc hf1 hf6 hk
    go_enter Tryz.func28, Tryz.ntmps28
    have y0 := HK0.out.cell 0 _ rfl
    have y1 := HK0.out.cell 1 _ rfl
    have y2 := HK0.out.cell 2 _ rfl
    have y3 := HK0.out.cell 3 _ rfl
    have y4 := HK0.out.cell 4 _ rfl
    go_wp2_with fail
    refine (put1 _ B b _ _ _ (by simp) HP0.out (by have h1 := HLL.out; (try simp only [lit_bL] at h1 ⊢); (try simp only [List.length_append] at h1 ⊢); (try simp only [List.length_cons] at h1 ⊢); (try simp only [List.length_append] at h1 ⊢); (try simp only [List.length_nil] at h1 ⊢); (try simp only [bL_len] at h1 ⊢); (try simp only [lit_size] at h1 ⊢); (try simp only [List.length_cons] at h1 ⊢); (try simp only [List.length_nil] at h1 ⊢); omega) (Nat.le_trans HBB.out HW0.out.below.size)).mono ?_
    rintro e w1 ⟨rfl, hp, hw⟩
    have HP1 := Lib.hid hp
    have HW1 := Lib.hid (HW0.out.trans hw)
    have HK1 := Lib.hid (HK0.out.wr hw (by omega) (by decide))
    have HR1 := Lib.hid (Rd.kept HR0.out hw.below)
    clear hp hw
    clear y0 y1 y2 y3 y4
    have y0 := HK1.out.cell 0 _ rfl
    have y1 := HK1.out.cell 1 _ rfl
    have y2 := HK1.out.cell 2 _ rfl
    have y3 := HK1.out.cell 3 _ rfl
    have y4 := HK1.out.cell 4 _ rfl
    go_wp2_with fail
    refine (sepVal_any B b items VT.src (fun y hy f W hR => by obtain ⟨i, hi⟩ := List.mem_iff_getElem?.1 hy; exact IH.out i y hi f W hR) _ _ _ _ HR1.out.vals HP1.out (HL.out.kept HW1.out.below) (by have h1 := HLL.out; (try simp only [lit_bL] at h1 ⊢); (try simp only [List.length_append] at h1 ⊢); (try simp only [List.length_cons] at h1 ⊢); (try simp only [List.length_append] at h1 ⊢); (try simp only [List.length_nil] at h1 ⊢); (try simp only [bL_len] at h1 ⊢); (try simp only [lit_size] at h1 ⊢); (try simp only [List.length_cons] at h1 ⊢); (try simp only [List.length_nil] at h1 ⊢); omega) (Nat.le_trans HBB.out HW1.out.below.size)).mono ?_
    rintro e w2 ⟨rfl, hp, hw⟩
    have HP2 := Lib.hid hp
    have HW2 := Lib.hid (HW1.out.trans hw)
    have HK2 := Lib.hid (HK1.out.wr hw (by omega) (by decide))
    have HR2 := Lib.hid (Rd.kept HR1.out hw.below)
    clear hp hw
    clear y0 y1 y2 y3 y4
    have y0 := HK2.out.cell 0 _ rfl
    have y1 := HK2.out.cell 1 _ rfl
    have y2 := HK2.out.cell 2 _ rfl
    have y3 := HK2.out.cell 3 _ rfl
    have y4 := HK2.out.cell 4 _ rfl
    go_wp2_with fail
    refine (put1 _ B b _ _ _ (by simp) HP2.out (by have h1 := HLL.out; (try simp only [lit_bL] at h1 ⊢); (try simp only [List.length_append] at h1 ⊢); (try simp only [List.length_cons] at h1 ⊢); (try simp only [List.length_append] at h1 ⊢); (try simp only [List.length_nil] at h1 ⊢); (try simp only [bL_len] at h1 ⊢); (try simp only [lit_size] at h1 ⊢); (try simp only [List.length_cons] at h1 ⊢); (try simp only [List.length_nil] at h1 ⊢); omega) (Nat.le_trans HBB.out HW2.out.below.size)).mono ?_
    rintro e w3 ⟨rfl, hp, hw⟩
    have HP3 := Lib.hid hp
    have HW3 := Lib.hid (HW2.out.trans hw)
    have HK3 := Lib.hid (HK2.out.wr hw (by omega) (by decide))
    have HR3 := Lib.hid (Rd.kept HR2.out hw.below)
    clear hp hw
    clear y0 y1 y2 y3 y4
    have y0 := HK3.out.cell 0 _ rfl
    have y1 := HK3.out.cell 1 _ rfl
    have y2 := HK3.out.cell 2 _ rfl
    have y3 := HK3.out.cell 3 _ rfl
    have y4 := HK3.out.cell 4 _ rfl
    go_wp2_with fail
    go_end0
    exact ⟨rfl, by have h1 := HP3.out; (try simp only [List.append_assoc] at h1); (try simp only [List.append_nil] at h1); (try simp only [List.append_assoc]); (try simp only [List.append_nil]); exact h1, HW3.out⟩
  by_cases hk6 : k' = 6
  · subst hk6
    have HKL := Lib.hid (hf6 rfl)
    have hsrc : (VT.mk 6 n' s' items keys).src = 123 :: (jn [44, 32] (objTxt keys items) ++ [125]) := by rw [src_eq]; rfl
    rw [hsrc] at HLL ⊢
    clear hsrc hf1 hf6 hk
    go_enter Tryz.func28, Tryz.ntmps28
    have y0 := HK0.out.cell 0 _ rfl
    have y1 := HK0.out.cell 1 _ rfl
    have y2 := HK0.out.cell 2 _ rfl
    have y3 := HK0.out.cell 3 _ rfl
    have y4 := HK0.out.cell 4 _ rfl
    go_wp2_with fail
    refine (object_any B b _ _ _ _ _ HKL.out IH.out _ _ _ _ _ _ _ HR0.out _ HP0.out (HL.out.kept HW0.out.below) (by have h1 := HLL.out; (try simp only [lit_bL] at h1 ⊢); (try simp only [List.length_append] at h1 ⊢); (try simp only [List.length_cons] at h1 ⊢); (try simp only [List.length_append] at h1 ⊢); (try simp only [List.length_nil] at h1 ⊢); (try simp only [bL_len] at h1 ⊢); (try simp only [lit_size] at h1 ⊢); (try simp only [List.length_cons] at h1 ⊢); (try simp only [List.length_nil] at h1 ⊢); omega) (Nat.le_trans HBB.out HW0.out.below.size)).mono ?_
    rintro e w1 ⟨rfl, hp, hw⟩
    have HP1 := Lib.hid hp
    have HW1 := Lib.hid (HW0.out.trans hw)
    have HK1 := Lib.hid (HK0.out.wr hw (by omega) (by decide))
    have HR1 := Lib.hid (Rd.kept HR0.out hw.below)
    clear hp hw
    clear y0 y1 y2 y3 y4
    have y0 := HK1.out.cell 0 _ rfl
    have y1 := HK1.out.cell 1 _ rfl
    have y2 := HK1.out.cell 2 _ rfl
    have y3 := HK1.out.cell 3 _ rfl
    have y4 := HK1.out.cell 4 _ rfl
    go_wp2_with fail
    go_end0
    exact ⟨rfl, by have h1 := HP1.out; (try simp only [List.append_assoc] at h1); (try simp only [List.append_nil] at h1); (try simp only [List.append_assoc]); (try simp only [List.append_nil]); exact h1, HW1.out⟩
  exfalso; omega
end Go.Proofs.YtbacimfbjpimbaaGreatDoor
namespace Go.Proofs.YtbacimfbjpimbaaGreatDoor.K
open Go.RowKit
def IntsAt (w : World) (B : Nat) (A : Option Addr) (xs : Ws) : Prop := 0 < xs.length → ∃ a, A = some a ∧ a.block < B ∧ ∀ (i : Nat) (x : Int), xs[i]? = some x → w.cell? (a.add i) = some (.int .i64 x)
theorem IntsAt.kept {w w' : World} {B : Nat} {A : Option Addr} {xs : Ws} (h : IntsAt w B A xs) (hb : Below B w w') : IntsAt w' B A xs := fun h0 => by
  obtain ⟨a, e, ha, hc⟩ := h h0
  exact ⟨a, e, ha, fun i x hx => (World.cell?_of_block (w := w) (hb.block _ (by rw [add_block]; exact ha))).trans (hc i x hx)⟩
theorem IntsAt.mono {w : World} {B B' : Nat} {A : Option Addr} {xs : Ws} (h : IntsAt w B A xs) (hB : B ≤ B') : IntsAt w B' A xs := fun h0 => by
  obtain ⟨a, e, ha, hc⟩ := h h0
  exact ⟨a, e, Nat.lt_of_lt_of_le ha hB, hc⟩
theorem IntsAt.stay {w w' : World} {A : Option Addr} {xs : Ws} (h : IntsAt w w.heap.size A xs) (hb : Below w.heap.size w w') : IntsAt w' w'.heap.size A xs := (h.kept hb).mono hb.size
theorem IntsAt.nil (w : World) (B : Nat) (A : Option Addr) : IntsAt w B A [] := fun h => absurd h (Nat.lt_irrefl _)
def subA (A : Option Addr) (k c : Nat) : Option Addr := A.map fun a => if c = k then a else a.add k
theorem IntsAt.drop {w : World} {B : Nat} {A : Option Addr} {xs : Ws} (h : IntsAt w B A xs) (k c : Nat) (hc : xs.length ≤ c) : IntsAt w B (subA A k c) (xs.drop k) := fun h0 => by
  rw [List.length_drop] at h0
  obtain ⟨a, rfl, ha, hx⟩ := h (by omega)
  refine ⟨a.add k, by unfold subA; simp only [Option.map_some, Option.some.injEq]; exact if_neg (by omega), by rw [add_block]; exact ha, fun i x hi => ?_⟩
  rw [Addr.add_add]
  exact hx _ _ (by rw [← hi, List.getElem?_drop])
def SlV (w : World) (B : Nat) (v : Value) (xs : Ws) : Prop := ∃ A c, v = .slice A xs.length c ∧ xs.length ≤ c ∧ IntsAt w B A xs
def RefV (w : World) (B : Nat) (v : Value) (n : ByteArray) (xs : Ws) : Prop := ∃ A c, v = .agg #[.string n, .slice A xs.length c] ∧ xs.length ≤ c ∧ IntsAt w B A xs
theorem SlV.kept {w w' : World} {B : Nat} {v : Value} {xs : Ws} (h : SlV w B v xs) (hb : Below B w w') : SlV w' B v xs := by
  obtain ⟨A, c, e, hc, h⟩ := h; exact ⟨A, c, e, hc, h.kept hb⟩
theorem SlV.mono {w : World} {B B' : Nat} {v : Value} {xs : Ws} (h : SlV w B v xs) (hB : B ≤ B') : SlV w B' v xs := by
  obtain ⟨A, c, e, hc, h⟩ := h; exact ⟨A, c, e, hc, h.mono hB⟩
theorem RefV.kept {w w' : World} {B : Nat} {v : Value} {n : ByteArray} {xs : Ws} (h : RefV w B v n xs) (hb : Below B w w') : RefV w' B v n xs := by
  obtain ⟨A, c, e, hc, h⟩ := h; exact ⟨A, c, e, hc, h.kept hb⟩
theorem RefV.mono {w : World} {B B' : Nat} {v : Value} {n : ByteArray} {xs : Ws} (h : RefV w B v n xs) (hB : B ≤ B') : RefV w B' v n xs := by
  obtain ⟨A, c, e, hc, h⟩ := h; exact ⟨A, c, e, hc, h.mono hB⟩
theorem RefV.stay {w w' : World} {v : Value} {n : ByteArray} {xs : Ws} (h : RefV w w.heap.size v n xs) (hb : Below w.heap.size w w') : RefV w' w'.heap.size v n xs := (h.kept hb).mono hb.size
theorem SlV.stay {w w' : World} {v : Value} {xs : Ws} (h : SlV w w.heap.size v xs) (hb : Below w.heap.size w w') : SlV w' w'.heap.size v xs := (h.kept hb).mono hb.size
def SlPost (xs : Ws) (w : World) (e : Ending) (w' : World) : Prop := (∃ u, e = .returned u ∧ SlV w' w'.heap.size u xs) ∧ Below w.heap.size w w'
def BxR (W : World) (b : Nat) (c0 c1 : Value) : Prop := W.heap[b]? = some (.cells #[c0, c1] 43 (0, 0))
theorem BxR.cells {W : World} {b : Nat} {c0 c1 : Value} (h : BxR W b c0 c1) : W.cell? ⟨b, 0, none⟩ = some c0 ∧ W.cell? ⟨b, 1, none⟩ = some c1 := by
  refine ⟨?_, ?_⟩ <;> rw [cell_of_row _ _ _ _ _ _ h] <;> rfl
theorem BxR.frz {W : World} {b : Nat} {c0 c1 : Value} (h : BxR W b c0 c1) (i : Nat) : W.frozen? ⟨b, i, none⟩ = false := by
  unfold BxR at h; simp [World.frozen?, h]
theorem BxR.s0 {W : World} {b : Nat} {c0 c1 : Value} (h : BxR W b c0 c1) (u : Value) : BxR (W.setCell ⟨b, 0, none⟩ u) b u c1 := by
  unfold BxR at h ⊢; simp [World.setCell, Array.getElem?_modify, h]
theorem BxR.s1 {W : World} {b : Nat} {c0 c1 : Value} (h : BxR W b c0 c1) (u : Value) : BxR (W.setCell ⟨b, 1, none⟩ u) b c0 u := by
  unfold BxR at h ⊢; simp [World.setCell, Array.getElem?_modify, h]
theorem BxR.two {W : World} {b : Nat} {c0 c1 : Value} (h : BxR W b c0 c1) (u0 u1 : Value) : BxR ((W.setCell ⟨b, 0, none⟩ u0).setCell ⟨b, 1, none⟩ u1) b u0 u1 := (h.s0 u0).s1 u1
theorem BxR.lt {W : World} {b : Nat} {c0 c1 : Value} (h : BxR W b c0 c1) : b < W.heap.size := by
  unfold BxR at h
  rcases Nat.lt_or_ge b W.heap.size with h' | h'
  · exact h'
  · rw [Array.getElem?_eq_none h'] at h; cases h
theorem BxR.kept {W W' : World} {b : Nat} {c0 c1 : Value} (h : BxR W b c0 c1) (hb : W'.heap[b]? = W.heap[b]?) : BxR W' b c0 c1 := hb.trans h
theorem BxR.stay {W W' : World} {b : Nat} {c0 c1 : Value} (h : BxR W b c0 c1) (hb : Below W.heap.size W W') : BxR W' b c0 c1 := h.kept (hb.block b h.lt)
theorem BxR.new (W : World) (c0 c1 : Value) : BxR (W.alloc (.cells #[c0, c1] 43 (0, 0))) W.heap.size c0 c1 := heap_alloc_new _ _
theorem BxR.alloc {W : World} {b : Nat} {c0 c1 : Value} (h : BxR W b c0 c1) (o : Obj) : BxR (W.alloc o) b c0 c1 := h.stay ((Below.refl _ _).alloc (Nat.le_refl _) _)
theorem BxR.args (w : World) (c0 c1 : Value) : let W := (w.alloc (.cells #[c0, c1] 43 (0, 0))).alloc (.cells #[.string ⟨#[]⟩, .slice none 0 0] 43 (0, 0))
    BxR W w.heap.size c0 c1 ∧ BxR W (w.heap.size + 1) (.string ⟨#[]⟩) (.slice none 0 0) ∧ Below w.heap.size w W ∧ W.heap.size = w.heap.size + 2 := by
  refine ⟨(BxR.new _ _ _).alloc _, ?_, ((Below.refl _ _).alloc (Nat.le_refl _) _).alloc (by simp) _, by simp⟩
  have := BxR.new (w.alloc (.cells #[c0, c1] 43 (0, 0))) (.string ⟨#[]⟩) (.slice none 0 0)
  simpa using this
theorem BxR.both (w : World) (c0 c1 d0 d1 : Value) : let W := (w.alloc (.cells #[c0, c1] 43 (0, 0))).alloc (.cells #[d0, d1] 43 (0, 0))
    BxR W w.heap.size c0 c1 ∧ BxR W (w.heap.size + 1) d0 d1 ∧ Below w.heap.size w W ∧ W.heap.size = w.heap.size + 2 := by
  refine ⟨(BxR.new _ _ _).alloc _, ?_, ((Below.refl _ _).alloc (Nat.le_refl _) _).alloc (by simp) _, by simp⟩
  have := BxR.new (w.alloc (.cells #[c0, c1] 43 (0, 0))) d0 d1
  simpa using this
theorem infoI : (Tryz.prog.info? 3).map (fun i => (i.zero, i.size, i.bytes)) = some (some (.int .i64 0), 1, 8) := by kernel_rfl
theorem infoIp : ∃ i, Tryz.prog.info? 3 = some i ∧ i.zero = some (.int .i64 0) ∧ i.size = 1 ∧ i.bytes = 8 := by
  have h := infoI
  cases hi : Tryz.prog.info? 3 with
  | none => rw [hi] at h; simp at h
  | some i => rw [hi] at h; simp at h; exact ⟨i, rfl, h.1, h.2.1, h.2.2⟩
def inC (xs : Ws) : List Value := xs.map (Value.int .i64)
def OwnI (w : World) (base : Nat) (v : Value) (xs : Ws) : Prop := w.ownsRow base 3 1 v xs.length (inC xs)
theorem row_kept {w w' : World} {base : Nat} {e : TypeId} {size : Nat} {v : Value} {n : Nat} {xs : List Value} (h : w.ownsRow base e size v n xs) (hb : ∀ g, base ≤ g → g < w.heap.size → v.ownBlock = some g → w'.heap[g]? = w.heap[g]?) : w'.ownsRow base e size v n xs := by
  refine ⟨h.1, h.2.imp id ?_⟩
  rintro ⟨g, cap, cur, rfl, e2, e3, r⟩
  have hg : g < w.heap.size := by
    rcases Nat.lt_or_ge g w.heap.size with h' | h'
    · exact h'
    · rw [Array.getElem?_eq_none h'] at e3; cases e3
  exact ⟨g, cap, cur, rfl, e2, (hb g e2 hg rfl).trans e3, r⟩
theorem OwnI.stay {w w' : World} {base : Nat} {v : Value} {xs : Ws} (h : OwnI w base v xs) (hb : Below w.heap.size w w') : OwnI w' base v xs := row_kept h fun g _ hg _ => hb.block g hg
theorem OwnI.nil (w : World) (base : Nat) : OwnI w base (.slice none 0 0) [] := ⟨rfl, .inl ⟨rfl, rfl⟩⟩
theorem OwnI.lt {w : World} {base : Nat} {v : Value} {xs : Ws} (h : OwnI w base v xs) : ∀ k, v.ownBlock = some k → base ≤ k ∧ k < w.heap.size := World.ownsRow.lt h
theorem OwnI.zero (w : World) : OwnI (w.alloc (.cells #[] 3 (0, 0))) w.heap.size (.slice (some ⟨w.heap.size, 0, none⟩) 0 0) [] := by
  refine ⟨rfl, .inr ⟨w.heap.size, 0, #[], rfl, Nat.le_refl _, heap_alloc_new _ _, Nat.le_refl _, by decide, rfl, rfl⟩⟩
theorem OwnI.sl {w : World} {base : Nat} {v : Value} {xs : Ws} (h : OwnI w base v xs) : SlV w w.heap.size v xs := by
  have hh : w.ownsRow base 3 1 v xs.length (inC xs) := h
  rcases hh.2 with ⟨rfl, hz⟩ | ⟨g, cap, cur, rfl, h1, h2, h3⟩
  · have : xs = [] := List.eq_nil_of_length_eq_zero hz
    subst this
    exact ⟨none, 0, rfl, Nat.le_refl _, IntsAt.nil _ _ _⟩
  · have hlt := (World.ownsRow.lt hh g rfl).2
    refine ⟨some ⟨g, 0, none⟩, cap, rfl, h3.1, fun _ => ⟨_, rfl, hlt, fun i x hx => ?_⟩⟩
    exact hh.cells (g := g) rfl i (.int .i64 x) (by unfold inC; simp [hx])
theorem inC_app (a b : Ws) : inC (a ++ b) = inC a ++ inC b := List.map_append
def Full (v : Value) : Prop := v = .slice none 0 0 ∨ ∃ g n, v = .slice (some ⟨g, 0, none⟩) n n
def Fact.sl (xs : Ws) : Fact := ⟨fun u w => SlV w w.heap.size u xs, fun _ _ _ h hb => h.stay hb⟩
def Fact.row (base : Nat) (xs : Ws) : Fact := ⟨fun u w => (OwnI w base u xs ∧ base ≤ w.heap.size) ∧ Full u, fun _ _ _ h hb => ⟨⟨h.1.1.stay hb, Nat.le_trans h.1.2 hb.size⟩, h.2⟩⟩
section
variable {ops : Array Oper} {Q : Exit → Act → World → Prop} {o : Oper} {a : Act} {w : World} {R : Value → World → Prop}
def RefB (w : World) (b : Nat) (n : ByteArray) (xs : Ws) : Prop := ∃ A c, BxR w b (.string n) (.slice A xs.length c) ∧ xs.length ≤ c ∧ IntsAt w w.heap.size A xs
theorem RefB.stay {w w' : World} {b : Nat} {n : ByteArray} {xs : Ws} (h : RefB w b n xs) (hb : Below w.heap.size w w') : RefB w' b n xs := by
  obtain ⟨A, c, h1, h2, h3⟩ := h; exact ⟨A, c, h1.stay hb, h2, h3.stay hb⟩
theorem RefB.v {w : World} {b : Nat} {n : ByteArray} {xs : Ws} (h : RefB w b n xs) : ∃ c0 c1, BxR w b c0 c1 ∧ RefV w w.heap.size (.agg #[c0, c1]) n xs := by
  obtain ⟨A, c, h1, h2, h3⟩ := h; exact ⟨_, _, h1, A, c, rfl, h2, h3⟩
theorem IntsAt.off {w : World} {B g : Nat} {A : Option Addr} {xs : Ws} (h : IntsAt w B A xs) {s : ByteArray} {A' : Option Addr} {l c : Nat} (hb : BxR w g (.string s) (.slice A' l c)) (j : Nat) (u : Value) : IntsAt (w.setCell ⟨g, j, none⟩ u) B A xs := fun h0 => by
  obtain ⟨a, e, ha, hc⟩ := h h0
  refine ⟨a, e, ha, fun i x hx => ?_⟩
  have hx' := hc i x hx
  by_cases hg : (a.add i).block = g
  · exfalso
    rw [show a.add i = ⟨g, (a.add i).off, (a.add i).spot⟩ by rw [← hg]] at hx'
    unfold BxR at hb
    generalize (a.add i).off = k at hx'
    generalize (a.add i).spot = sp at hx'
    unfold World.cell? at hx'
    rw [hb] at hx'
    match k, hx' with
    | 0, h => simp at h
    | 1, h => simp at h
    | k + 2, h => simp at h
  · exact (World.cell?_of_block (w := w) (Below.heap_setCell w _ _ _ hg)).trans hx'
theorem RefB.put {w : World} {g : Nat} {s : ByteArray} {A' : Option Addr} {l c : Nat} (hb : BxR w g (.string s) (.slice A' l c)) {n : ByteArray} {xs : Ws} {A : Option Addr} {d : Nat} (hd : xs.length ≤ d) (h : IntsAt w w.heap.size A xs) :
    RefB ((w.setCell ⟨g, 0, none⟩ (.string n)).setCell ⟨g, 1, none⟩ (.slice A xs.length d)) g n xs := by
  refine ⟨A, d, hb.two _ _, hd, ?_⟩
  have h1 := (h.off hb 0 (.string n)).off (hb.s0 (.string n)) 1 (.slice A xs.length d)
  simpa using h1
theorem RefB.off {w : World} {g b : Nat} {s : ByteArray} {A' : Option Addr} {l c : Nat} (hb : BxR w g (.string s) (.slice A' l c)) {n : ByteArray} {xs : Ws} (h : RefB w b n xs) (hn : b ≠ g) (j : Nat) (u : Value) : RefB (w.setCell ⟨g, j, none⟩ u) b n xs := by
  obtain ⟨A, d, h1, h2, h3⟩ := h
  exact ⟨A, d, h1.kept (Below.heap_setCell w _ _ _ hn), h2, by simpa using h3.off hb j u⟩
theorem str_eq (n m : ByteArray) : (n.toList == m.toList) = decide (n = m) := by
  rw [Lib.toList_data, Lib.toList_data]
  by_cases h : n = m
  · subst h; simp
  · have : ¬ n.data = m.data := fun e => h (by cases n; cases m; simp at e; rw [e])
    simp [h, this]
end
end Go.Proofs.YtbacimfbjpimbaaGreatDoor.K
namespace Go.Proofs.YtbacimfbjpimbaaGreatDoor.K
open Go.RowKit Go.Shelf
attribute [local go_sem] Oper.semAt_some
def bwL (xs : Ws) (k : Nat) : List (Int × Int) := (List.range k).map fun j => (((xs.length - 1 - j : Nat) : Int), xs.getD (xs.length - 1 - j) 0)
theorem bw_succ (xs : Ws) (k : Nat) : bwL xs (k + 1) = bwL xs k ++ [(((xs.length - 1 - k : Nat) : Int), xs.getD (xs.length - 1 - k) 0)] := by simp [bwL, List.range_succ]
theorem bw_len (xs : Ws) (k : Nat) : (bwL xs k).length = k := by simp [bwL]
theorem bw_all (xs : Ws) : (bwL xs xs.length).map (fun p => p.2) = xs.reverse := by
  apply List.ext_getElem
  · simp [bwL]
  · intro i h1 h2
    have hi : i < xs.length := by simpa [bwL] using h1
    have h3 : xs.length - 1 - i < xs.length := by omega
    simp [bwL, h3]
def KpB (n0 b : Nat) (W W' : World) : Prop := Below n0 W W' ∧ W'.heap[b]? = W.heap[b]?
theorem KpB.trans {n0 b : Nat} {A B C : World} (h : KpB n0 b A B) (k : KpB n0 b B C) : KpB n0 b A C := ⟨h.1.trans k.1, k.2.trans h.2⟩
theorem KpB.refl (n0 b : Nat) (W : World) : KpB n0 b W W := ⟨Below.refl _ _, rfl⟩
set_option maxRecDepth 100000 in
set_option maxHeartbeats 2000000 in
theorem bwd1_in (F : Fence) (n : Nat) (h7 : F.fn 240) (hro : F.round = none) (hn : 1 ≤ n) (l Bs n0 : Nat) (A : Option Addr) (c : Nat) (xs : Ws) (hl : xs.length ≤ 1000000) (J Jx : List (Int × Int) → World → Prop)
    (hY : ∀ pre x W, J pre W → pre.length < xs.length → YieldAt F (n - 1) Tryz.prog l #[.int .i64 x.1, .int .i64 x.2] W fun e W' =>
      (e = .returned (.bool true) ∧ J (pre ++ [x]) W' ∧ KpB n0 Bs W W') ∨ (e = .returned (.bool false) ∧ Jx (pre ++ [x]) W'))
    (W : World) (hBs : W.cell? ⟨Bs, 0, none⟩ = some (.slice A xs.length c)) (hc : IntsAt W n0 A xs) (h0 : J [] W) :
    CallsIn F n Tryz.prog 240 #[.func (.yield l) #[] #[], .pointer (some ⟨Bs, 0, none⟩)] W fun e W' => (∃ v, e = .returned v) ∧
      ((∃ ys, ys = bwL xs xs.length ∧ J ys W') ∨ (∃ pre, (∃ k, k ≤ xs.length ∧ pre = bwL xs k) ∧ Jx pre W')) := by
  refine callsIn_of_wp Tryz.func240 rfl h7 ?_ hro
  simp only [Tryz.ntmps240, List.size_toArray, List.length_cons, List.length_nil, Nat.reduceAdd, Nat.reduceSub, Array.replicate_succ, Array.replicate_zero, List.push_toArray, List.append_toArray, List.nil_append, List.cons_append]
  have hlm : ((xs.length : Int) ≤ 1000000) := by omega
  gi_wp2
  gi_loopw [3] (fun i wr => ∃ m : Nat, m ≤ xs.length ∧ i = .int .i64 ((m : Int) - 1) ∧ J (bwL xs (xs.length - m)) wr ∧ KpB n0 Bs W wr)
    (fun i _ => (intOf i + 1).toNat)
  case atStart => exact ⟨xs.length, Nat.le_refl _, rfl, by rw [Nat.sub_self]; exact h0, KpB.refl _ _ _⟩
  case round =>
    obtain ⟨m, hm, rfl, hJs, hnx⟩ := hrel
    have hbs : wr.cell? ⟨Bs, 0, none⟩ = some (.slice A xs.length c) := (World.cell?_of_block (w := W) hnx.2).trans hBs
    cases m with
    | zero =>
      gi_wp2
      go_end0
      exact ⟨⟨_, rfl⟩, .inl ⟨_, rfl, hJs⟩⟩
    | succ j =>
      obtain ⟨a, ea, ha, hcell⟩ := hc.kept hnx.1 (by omega)
      subst ea
      have hj : j < xs.length := by omega
      have hcx := hcell j _ (List.getElem?_eq_getElem hj)
      have e1 : xs.length - 1 - (xs.length - (j + 1)) = j := by omega
      have e2 : xs.length - (j + 1) + 1 = xs.length - j := by omega
      have e3 : xs.getD j 0 = xs[j] := by simp [hj]
      have hbw := bw_succ xs (xs.length - (j + 1))
      rw [e1, e2, e3] at hbw
      generalize xs[j] = x at *
      have hjl : (j : Int) < xs.length := by omega
      obtain ⟨fn, tmps, assign, body, hy, hR⟩ := hY _ ((j : Int), x) wr hJs (by rw [bw_len]; omega)
      dsimp only at hy
      have HBW := Lib.hid hbw
      have HNX := Lib.hid hnx
      clear hbw hnx e1 e2 e3 hcell hj
      gi_wp2
      refine hR.mono ?_
      rintro e W3 (⟨rfl, hJ3, hk3⟩ | ⟨rfl, hJx3⟩)
      · have HJ3 := Lib.hid hJ3
        have HK3 := Lib.hid hk3
        clear hJ3 hk3
        gi_wp2
        go_roundw
        case rel => exact ⟨j, by omega, by go_num, by rw [HBW.out]; exact HJ3.out, HNX.out.trans HK3.out⟩
        case measure => simp [intOf]
      · have HJ3 := Lib.hid hJx3
        clear hJx3
        gi_wp2
        refine bodyPost_ret (results_none rfl _ _ _) rfl ?_
        exact ⟨⟨_, rfl⟩, .inr ⟨_, ⟨_, by omega, HBW.out.symm⟩, HJ3.out⟩⟩
set_option maxHeartbeats 1000000 in
theorem bwd_in (F : Fence) (n : Nat) (h5 : F.fn 184) (hro : F.round = none) (a : Option Addr) (len cap : Nat) (w : World) :
    CallsIn F n Tryz.prog 184 #[.slice a len cap] w fun e w' => e = .returned (.func (.func 240) #[] #[.pointer (some ⟨w.heap.size, 0, none⟩)]) ∧ w' = w.alloc (.cells #[.slice a len cap] 41) := by
  refine callsIn_of_wp Tryz.func184 rfl h5 ?_ hro
  simp only [Tryz.ntmps184, List.size_toArray, List.length_cons, List.length_nil, Nat.reduceAdd, Nat.reduceSub, Array.replicate_succ, Array.replicate_zero, List.push_toArray, List.append_toArray, List.nil_append, List.cons_append]
  gi_wp2
  go_ret
  exact ⟨rfl, rfl⟩
theorem bwd_stops (F : Fence) (n : Nat) (h7 : F.fn 240) (hro : F.round = none) (hn : 1 ≤ n) (Bs n0 : Nat) (A : Option Addr) (c : Nat) (xs : Ws) (hl : xs.length ≤ 1000000) (w : World) (hBs : Bs < w.heap.size) (hn0 : n0 ≤ w.heap.size)
    (hc : w.cell? ⟨Bs, 0, none⟩ = some (.slice A xs.length c)) (hI : IntsAt w n0 A xs) :
    SeqStopsK F n Tryz.prog 240 #[.pointer (some ⟨Bs, 0, none⟩)] (fun x : Int × Int => #[Value.int .i64 x.1, Value.int .i64 x.2]) (KpB n0 Bs) (fun ys => ys = bwL xs xs.length)
      (fun pre => ∃ k, k ≤ xs.length ∧ pre = bwL xs k) xs.length w := fun l J Jx W hW _ _ hY h0 =>
  bwd1_in F n h7 hro hn l Bs n0 A c xs hl J Jx hY W ((hW.cell (p := ⟨Bs, 0, none⟩) hBs).trans hc) (hI.kept (hW.mono hn0)) h0
end Go.Proofs.YtbacimfbjpimbaaGreatDoor.K
