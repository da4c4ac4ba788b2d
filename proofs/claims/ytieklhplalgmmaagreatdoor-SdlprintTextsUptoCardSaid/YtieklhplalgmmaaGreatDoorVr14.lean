
/-
  Texts joined: NT6 NT7 NT8 NT9 NZ NE.
-/
import Derived.Test.YtieklhplalgmmaaGreatDoorVr13
import Derived.Test.YtieklhplalgmmaaGreatDoorVr1
import Derived.Test.YtieklhplalgmmaaGreatDoorVr12
import Derived.Test.YtieklhplalgmmaaGreatDoorVr11
import Derived.Test.YtieklhplalgmmaaGreatDoorVr8
namespace Go.Proofs.YtieklhplalgmmaaGreatDoor
open Go.RowKit
set_option maxRecDepth 100000 in
set_option maxHeartbeats 8000000 in
theorem rblock3 (nm : ByteArray) (ds : List DirT) (hfd : dirsFit ds) (xs : List MemT) (w : World) (B : Nat) (c2 c4 c6 u v : Value) (hd : DirsR w B u ds) (hx : MemsR w B v xs) (hB : B ≤ w.heap.size)
    (hl : (wUnion ++ (bL nm ++ (tailTxt ds ++ ([32, 61, 32] ++ (jn [32, 124, 32] (xs.map (fun x : MemT => bL x.name)) ++ [10]))))).length ≤ 140737488355328) : Calls Tryz.prog 18 #[.agg #[.int .i64 3, .string nm, c2, u, c4, v, c6]] w (SP (wUnion ++ (bL nm ++ (tailTxt ds ++ ([32, 61, 32] ++ (jn [32, 124, 32] (xs.map (fun x : MemT => bL x.name)) ++ [10]))))) w) := by
  obtain ⟨A9, c9, rfl, _, _⟩ := hd.form
  obtain ⟨A, c, rfl, _, hg, V, hA, hr⟩ := hx
  unfold big at hg
  obtain ⟨n, hn⟩ : ∃ n, xs.length = n := ⟨_, rfl⟩
  rw [hn] at hA hg ⊢
  have hnm : (n : Int) ≤ 140737488351232 := by omega
  have HN := Lib.hid hn
  have HG := Lib.hid hg
  have HA := Lib.hid hA
  have HR := Lib.hid hr
  have HDD0 := Lib.hid hd
  have HFD := Lib.hid hfd
  have HBB := Lib.hid hB
  have hwl : (wUnion).length = 6 := rfl
  have hll : 6 + nm.size + (tailTxt ds).length + 3 + (jn [32, 124, 32] (xs.map (fun x : MemT => bL x.name))).length + 1 ≤ 140737488355328 := by
    have h1 := hl
    simp only [List.length_append, List.length_cons, List.length_nil, bL_len] at h1
    omega
  obtain ⟨u1, hu1, hadd1⟩ := cat_ex ⟨#[117, 110, 105, 111, 110, 32]⟩ nm (by show 6 + nm.size ≤ _; omega)
  have hu1z : u1.size = 6 + nm.size := by rw [← bL_len, hu1, List.length_append, bL_len nm]; rfl
  obtain ⟨o9, ho9⟩ : ∃ o : ByteArray, bL o = tailTxt ds := ⟨⟨(tailTxt ds).toArray⟩, bL_mk _⟩
  have ho9z : o9.size = (tailTxt ds).length := by rw [← bL_len, ho9]
  obtain ⟨u2, hu2, hadd2⟩ := cat_ex u1 o9 (by omega)
  have hu2z : u2.size = u1.size + o9.size := by rw [← bL_len, hu2, List.length_append, bL_len, bL_len]
  obtain ⟨u3, hu3, hadd3⟩ := cat_ex u2 ⟨#[32, 61, 32]⟩ (by show u2.size + 3 ≤ _; omega)
  have hu3z : u3.size = u2.size + 3 := by rw [← bL_len, hu3, List.length_append, bL_len]; rfl
  obtain ⟨oj, hoj⟩ : ∃ o : ByteArray, bL o = jn [32, 124, 32] (xs.map (fun x : MemT => bL x.name)) := ⟨⟨(jn [32, 124, 32] (xs.map (fun x : MemT => bL x.name))).toArray⟩, bL_mk _⟩
  have hojz : oj.size = (jn [32, 124, 32] (xs.map (fun x : MemT => bL x.name))).length := by rw [← bL_len, hoj]
  obtain ⟨u4, hu4, hadd4⟩ := cat_ex u3 oj (by omega)
  have hu4z : u4.size = u3.size + oj.size := by rw [← bL_len, hu4, List.length_append, bL_len, bL_len]
  obtain ⟨u5, hu5, hadd5⟩ := cat_ex u4 ⟨#[10]⟩ (by show u4.size + 1 ≤ _; omega)
  have HU5 : Hid (bL u5 = wUnion ++ (bL nm ++ (tailTxt ds ++ ([32, 61, 32] ++ (jn [32, 124, 32] (xs.map (fun x : MemT => bL x.name)) ++ [10]))))) := Lib.hid (by rw [hu5, hu4, hu3, hu2, hu1, ho9, hoj]; simp only [List.append_assoc]; rfl)
  have HOJ := Lib.hid hoj
  have HJL : Hid ((jn [32, 124, 32] (xs.map (fun x : MemT => bL x.name))).length ≤ 140737488355328) := Lib.hid (by omega)
  have CALT : Hid (∀ W, Below w.heap.size w W → Calls Tryz.prog 38 #[.slice A9 ds.length c9] W fun e w' => e = .returned (.string o9) ∧ Below W.heap.size W w') := Lib.hid fun W hW => by
    refine (rtail_any ds HFD.out _ W B (HDD0.out.kept (hW.mono HBB.out)) (Nat.le_trans HBB.out hW.size) (by omega)).mono ?_
    rintro e w' ⟨⟨o', rfl, ho'⟩, hb⟩
    exact ⟨by rw [bL_inj (ho'.trans ho9.symm)], hb⟩
  clear hu1 hu1z ho9 ho9z hu2 hu2z hu3 hu3z hu4 hu4z hu5 hll hwl hl hd hfd hB HDD0 hoj hojz hn hg hA hr
  generalize ds.length = n9 at *
  have HB2 : Hid (Below w.heap.size w ((w.alloc (.cells #[.int .i64 3, .string nm, c2, .slice A9 n9 c9, c4, .slice A n c, c6] 35 (0, 0))).alloc (.cells #[.string ⟨#[]⟩, .string ⟨#[116, 121, 112, 101, 32]⟩, .string ⟨#[105, 110, 116, 101, 114, 102, 97, 99, 101, 32]⟩, .string ⟨#[117, 110, 105, 111, 110, 32]⟩, .string ⟨#[101, 110, 117, 109, 32]⟩, .string ⟨#[105, 110, 112, 117, 116, 32]⟩] 9 (0, 0)))) := Lib.hid ((below_new _ _).trans ((below_new _ _).mono (by simp)))
  have HK2 : Hid (Bk ((w.alloc (.cells #[.int .i64 3, .string nm, c2, .slice A9 n9 c9, c4, .slice A n c, c6] 35 (0, 0))).alloc (.cells #[.string ⟨#[]⟩, .string ⟨#[116, 121, 112, 101, 32]⟩, .string ⟨#[105, 110, 116, 101, 114, 102, 97, 99, 101, 32]⟩, .string ⟨#[117, 110, 105, 111, 110, 32]⟩, .string ⟨#[101, 110, 117, 109, 32]⟩, .string ⟨#[105, 110, 112, 117, 116, 32]⟩] 9 (0, 0))) w.heap.size #[.int .i64 3, .string nm, c2, .slice A9 n9 c9, c4, .slice A n c, c6] 35) := Lib.hid ((Bk.new w #[.int .i64 3, .string nm, c2, .slice A9 n9 c9, c4, .slice A n c, c6] 35).stay (below_new _ _))
  have hz2 : ((w.alloc (.cells #[.int .i64 3, .string nm, c2, .slice A9 n9 c9, c4, .slice A n c, c6] 35 (0, 0))).alloc (.cells #[.string ⟨#[]⟩, .string ⟨#[116, 121, 112, 101, 32]⟩, .string ⟨#[105, 110, 116, 101, 114, 102, 97, 99, 101, 32]⟩, .string ⟨#[117, 110, 105, 111, 110, 32]⟩, .string ⟨#[101, 110, 117, 109, 32]⟩, .string ⟨#[105, 110, 112, 117, 116, 32]⟩] 9 (0, 0))).heap.size = w.heap.size + 2 := by simp
  have y0 := HK2.out.cell 0 _ rfl
  have y1 := HK2.out.cell 1 _ rfl
  have y2 := HK2.out.cell 2 _ rfl
  have y3 := HK2.out.cell 3 _ rfl
  have z1 := (Bk.new (w.alloc (.cells #[.int .i64 3, .string nm, c2, .slice A9 n9 c9, c4, .slice A n c, c6] 35 (0, 0))) #[.string ⟨#[]⟩, .string ⟨#[116, 121, 112, 101, 32]⟩, .string ⟨#[105, 110, 116, 101, 114, 102, 97, 99, 101, 32]⟩, .string ⟨#[117, 110, 105, 111, 110, 32]⟩, .string ⟨#[101, 110, 117, 109, 32]⟩, .string ⟨#[105, 110, 112, 117, 116, 32]⟩] 9).cell 3 _ rfl
  go_enter Tryz.func18, Tryz.ntmps18
  go_wp2_with fail
  refine (CALT.out _ HB2.out).mono ?_
  rintro e w5 ⟨rfl, hb5⟩
  have HB5 := Lib.hid (HB2.out.trans (hb5.mono HB2.out.size))
  have HK5 := Lib.hid (HK2.out.stay hb5)
  have HZ5 : Hid (w.heap.size + 2 ≤ w5.heap.size) := Lib.hid (by have := hb5.size; omega)
  clear y0 y1 y2 y3 z1 hb5 hz2
  have y0 := HK5.out.cell 0 _ rfl
  go_wp2_with fail
  clear y0
  go_loopw [5, 6] (fun v i wr => ∃ (j : Nat) (ss : List ByteArray), j ≤ n ∧ i = .int .i64 j ∧ Hid (OwnR wr (w.heap.size + 1) v ss ∧ ss.map bL = (xs.map (fun x : MemT => bL x.name)).take j ∧ Below w.heap.size w wr ∧ Bk wr w.heap.size #[.int .i64 3, .string nm, c2, .slice A9 n9 c9, c4, .slice A n c, c6] 35)) (fun _ i _ => n - (intOf i).toNat)
  case atStart => exact ⟨0, [], Nat.zero_le _, rfl, Lib.hid ⟨OwnR.nil _ _, by simp, HB5.out, HK5.out⟩⟩
  case round =>
    obtain ⟨j, ss, hj, rfl, hr⟩ := hrel
    obtain ⟨hown, hss, hb, hk⟩ := hr.out
    have HOW := Lib.hid hown
    have HSS := Lib.hid hss
    have HB := Lib.hid hb
    have HKB := Lib.hid hk
    have hwl := hk.lt
    clear hown hss hb hk hr
    have y1 := HKB.out.cell 5 _ rfl
    by_cases hlt : j < n
    · have hlt' : (j : Int) < n := by omega
      obtain ⟨z, hzi⟩ : ∃ z, xs[j]? = some z := ⟨_, List.getElem?_eq_getElem (by rw [HN.out]; exact hlt)⟩
      obtain ⟨a, rfl, ha, hc0⟩ := HA.out (by omega)
      have k0 : wr.cell? (a.add (j * 2)) = some (.string z.name) := (((HB.out.mono HBB.out).cell (by rw [at_block, add_block]; exact ha)).trans (hc0 j hlt 0 (by omega))).trans (by rw [(HR.out j z hzi).name])
      have hxm : (xs.map (fun x : MemT => bL x.name))[j]? = some (bL z.name) := by rw [List.getElem?_map, hzi]; rfl
      have HXS : Hid ((xs.map (fun x : MemT => bL x.name)).take (j + 1) = (xs.map (fun x : MemT => bL x.name)).take j ++ [bL z.name]) := Lib.hid (take_sn hxm)
      clear hc0 hzi hxm
      generalize z.name = oi at *
      have hbn := below_new wr (.cells #[.string oi] 9 (0, 0))
      have HOW5 := Lib.hid (HOW.out.stay hbn)
      have HB6 := Lib.hid (HB.out.trans (hbn.mono HB.out.size))
      have HK6 := Lib.hid (HKB.out.stay hbn)
      have HN5 := Lib.hid (Bk.new wr #[.string oi] 9)
      have HSL : Hid (ss.length = j) := Lib.hid (by have := congrArg List.length HSS.out; rw [List.length_map, List.length_take, List.length_map, HN.out] at this; omega)
      clear hbn
      go_wp2_with (at_builtin; refine append_R rfl _ _ rfl (w.heap.size + 1) _ ss rfl HOW5.out wr.heap.size 1 oi rfl (HN5.out.cell 0 _ rfl) (by have := HSL.out; have := HG.out; omega) (by simp; omega) ?_)
      intro v' w6 ho6 hg6
      have HK7 := Lib.hid (HK6.out.grown hg6 (fun k hk => by have := (HOW5.out.lt k hk).1; omega))
      have HB7 := Lib.hid (HB6.out.grown hg6 HB6.out.size (fun k hk => by have := (HOW5.out.lt k hk).1; omega))
      have HO6 := Lib.hid ho6
      clear ho6 hg6 k0 y1
      go_wp2_with fail
      go_roundw
      case rel => exact ⟨j + 1, ss ++ [oi], by omega, by go_num, Lib.hid ⟨HO6.out, by rw [HXS.out, List.map_append, HSS.out, List.map_cons, List.map_nil], HB7.out, HK7.out⟩⟩
      case measure => simp [intOf]; omega
    · have : j = n := by omega
      subst this
      obtain ⟨A3, c3, hv2, hst2⟩ := HOW.out.strs
      have HST2 := Lib.hid hst2
      have HFS : Hid (ss.map bL = xs.map (fun x : MemT => bL x.name)) := Lib.hid (by have := HSS.out; rwa [List.take_of_length_le (by rw [List.length_map, HN.out]; exact Nat.le_refl _)] at this)
      have hsl : ss.length = j := by have := congrArg List.length HFS.out; rw [List.length_map, List.length_map, HN.out] at this; exact this
      subst hv2
      rw [hsl]
      have HJ := Lib.hid (rjoin_any ss A3 j c3 ⟨#[32, 124, 32]⟩ wr HST2.out hsl (by have := HG.out; omega) (by rw [HFS.out, show bL ⟨#[32, 124, 32]⟩ = [32, 124, 32] from rfl]; exact HJL.out))
      clear hst2 hsl HOW
      go_wp2_with fail
      refine HJ.out.mono ?_
      rintro e w7 ⟨⟨o', rfl, ho'⟩, rfl⟩
      rw [HFS.out, show bL ⟨#[32, 124, 32]⟩ = [32, 124, 32] from rfl] at ho'
      obtain rfl : o' = oj := bL_inj (ho'.trans HOJ.out.symm)
      clear ho' y1
      go_wp2_with fail
      go_ret
      exact ⟨⟨u5, rfl, HU5.out⟩, HB.out⟩
end Go.Proofs.YtieklhplalgmmaaGreatDoor
namespace Go.Proofs.YtieklhplalgmmaaGreatDoor
open Go.RowKit
theorem names_strs {w : World} {B : Nat} {A : Option Addr} {n c : Nat} {is : List ByteArray} (h : NamesR w B (.slice A n c) is) {W : World} (hb : Below B w W) : StrsV W A is := by
  obtain ⟨A', c', e, _, _, V, hA, hr⟩ := h.kept hb
  cases e
  intro h0
  obtain ⟨a, e, _, hx⟩ := hA h0
  refine ⟨a, e, fun j s hs => ?_⟩
  have h1 := hx j (List.getElem?_eq_some_iff.1 hs).1 0 (by omega)
  rw [Nat.mul_one] at h1
  have h2 : W.cell? (a.add j) = some (V j 0) := h1
  rw [h2]
  exact congrArg some (hr j s hs).1
theorem mem_txts (l : List MemT) (h : ∀ y ∈ l, y.dirs = []) : l.map memTxt = l.map (fun x : MemT => bL x.name) := by
  refine List.map_congr_left fun y hy => ?_
  unfold memTxt tailTxt
  rw [h y hy]
  simp
set_option maxRecDepth 100000 in
set_option maxHeartbeats 4000000 in
theorem rblock_any (x : DefT) (hf : defFit x) (hm : x.kind = 3 → ∀ y ∈ x.members, y.dirs = []) (hi : x.impl.length ≤ 64) (f : Nat → Value) (w : World) (B : Nat) (h : DefR w B f x) (hB : B ≤ w.heap.size) (hl : (defTxt x).length ≤ 140737488355328) :
    Calls Tryz.prog 18 #[.agg #[f 0, f 1, f 2, f 3, f 4, f 5, f 6]] w (SP (defTxt x) w) := by
  rw [h.kind, h.name]
  have hk := hf.1
  by_cases h2 : x.kind = 2
  · rw [h2]
    have ht : defTxt x = wInterface ++ (bL x.name ++ blkTxt x.dirs (x.fields.map fldTxt)) := by unfold defTxt; rw [if_neg (by omega), if_pos h2]
    rw [ht] at hl ⊢
    have hlL : ((x.fields.map fldTxt).map lineTxt).flatten.length ≤ 140737488355328 := by
      unfold blkTxt at hl; simp only [List.length_append] at hl; omega
    obtain ⟨oL, hoL⟩ : ∃ o : ByteArray, bL o = ((x.fields.map fldTxt).map lineTxt).flatten := ⟨⟨(((x.fields.map fldTxt).map lineTxt).flatten).toArray⟩, bL_mk _⟩
    refine rblock2 x.name x.dirs hf.2.1 _ w B _ _ _ _ _ h.dirs hB oL hoL (fun W hW => ?_) hl
    refine (rlines_ifc x.fields hf.2.2.1 _ _ _ _ _ _ W B (h.fields.kept (hW.mono hB)) (Nat.le_trans hB hW.size) hlL).mono ?_
    rintro e w' ⟨⟨o', rfl, ho'⟩, hb⟩
    exact ⟨by rw [bL_inj (ho'.trans hoL.symm)], hb⟩
  by_cases h3 : x.kind = 3
  · rw [h3]
    have ht : defTxt x = wUnion ++ (bL x.name ++ uniTxt x.dirs x.members) := by unfold defTxt; rw [if_neg (by omega), if_neg (by omega), if_pos h3]
    rw [ht] at hl ⊢
    unfold uniTxt at hl ⊢
    rw [mem_txts x.members (hm h3)] at hl ⊢
    exact rblock3 x.name x.dirs hf.2.1 x.members w B _ _ _ _ _ h.dirs h.members hB hl
  by_cases h4 : x.kind = 4
  · rw [h4]
    have ht : defTxt x = wEnum ++ (bL x.name ++ blkTxt x.dirs (x.members.map memTxt)) := by unfold defTxt; rw [if_neg (by omega), if_neg (by omega), if_neg (by omega), if_pos h4]
    rw [ht] at hl ⊢
    have hlL : ((x.members.map memTxt).map lineTxt).flatten.length ≤ 140737488355328 := by
      unfold blkTxt at hl; simp only [List.length_append] at hl; omega
    obtain ⟨oL, hoL⟩ : ∃ o : ByteArray, bL o = ((x.members.map memTxt).map lineTxt).flatten := ⟨⟨(((x.members.map memTxt).map lineTxt).flatten).toArray⟩, bL_mk _⟩
    refine rblock4 x.name x.dirs hf.2.1 _ w B _ _ _ _ _ h.dirs hB oL hoL (fun W hW => ?_) hl
    refine (rlines_enum x.members hf.2.2.2.1 _ _ _ _ _ _ W B (h.members.kept (hW.mono hB)) (Nat.le_trans hB hW.size) hlL).mono ?_
    rintro e w' ⟨⟨o', rfl, ho'⟩, hb⟩
    exact ⟨by rw [bL_inj (ho'.trans hoL.symm)], hb⟩
  by_cases h5 : x.kind = 5
  · rw [h5]
    have ht : defTxt x = wInput ++ (bL x.name ++ blkTxt x.dirs (x.inputs.map inpTxt)) := by unfold defTxt; rw [if_neg (by omega), if_neg (by omega), if_neg (by omega), if_neg (by omega), if_pos h5]
    rw [ht] at hl ⊢
    have hlL : ((x.inputs.map inpTxt).map lineTxt).flatten.length ≤ 140737488355328 := by
      unfold blkTxt at hl; simp only [List.length_append] at hl; omega
    obtain ⟨oL, hoL⟩ : ∃ o : ByteArray, bL o = ((x.inputs.map inpTxt).map lineTxt).flatten := ⟨⟨(((x.inputs.map inpTxt).map lineTxt).flatten).toArray⟩, bL_mk _⟩
    refine rblock5 x.name x.dirs hf.2.1 _ w B _ _ _ _ _ h.dirs hB oL hoL (fun W hW => ?_) hl
    refine (rlines_inp x.inputs hf.2.2.2.2 _ _ _ _ _ _ W B (h.inputs.kept (hW.mono hB)) (Nat.le_trans hB hW.size) hlL).mono ?_
    rintro e w' ⟨⟨o', rfl, ho'⟩, hb⟩
    exact ⟨by rw [bL_inj (ho'.trans hoL.symm)], hb⟩
  have h1 : x.kind = 1 := by omega
  rw [h1]
  have ht : defTxt x = wType ++ (bL x.name ++ (implTxt x.impl ++ blkTxt x.dirs (x.fields.map fldTxt))) := by unfold defTxt; rw [if_pos h1]
  rw [ht] at hl ⊢
  have hlL : ((x.fields.map fldTxt).map lineTxt).flatten.length ≤ 140737488355328 := by
    unfold blkTxt at hl; simp only [List.length_append] at hl; omega
  obtain ⟨oL, hoL⟩ : ∃ o : ByteArray, bL o = ((x.fields.map fldTxt).map lineTxt).flatten := ⟨⟨(((x.fields.map fldTxt).map lineTxt).flatten).toArray⟩, bL_mk _⟩
  obtain ⟨A2, c2, e2, _, _⟩ := h.impl.form
  have him := h.impl
  rw [e2] at him ⊢
  by_cases h0 : x.impl.length = 0
  · have hit : implTxt x.impl = [] := by unfold implTxt; rw [if_pos h0]
    rw [hit, List.nil_append] at hl ⊢
    rw [h0] at him ⊢
    refine rblock1n x.name x.dirs hf.2.1 _ w B _ _ _ _ _ _ h.dirs hB oL hoL (fun W hW => ?_) hl
    refine (rlines_obj x.fields hf.2.2.1 _ _ _ _ _ _ W B (h.fields.kept (hW.mono hB)) (Nat.le_trans hB hW.size) hlL).mono ?_
    rintro e w' ⟨⟨o', rfl, ho'⟩, hb⟩
    exact ⟨by rw [bL_inj (ho'.trans hoL.symm)], hb⟩
  · refine rblock1y x.name x.dirs hf.2.1 _ w B _ _ _ _ _ _ _ h.dirs hB x.impl rfl (by omega) hi (fun W hW => names_strs him (hW.mono hB)) oL hoL (fun W hW => ?_) hl
    refine (rlines_obj x.fields hf.2.2.1 _ _ _ _ _ _ W B (h.fields.kept (hW.mono hB)) (Nat.le_trans hB hW.size) hlL).mono ?_
    rintro e w' ⟨⟨o', rfl, ho'⟩, hb⟩
    exact ⟨by rw [bL_inj (ho'.trans hoL.symm)], hb⟩
end Go.Proofs.YtieklhplalgmmaaGreatDoor
namespace Go.Proofs.YtieklhplalgmmaaGreatDoor
open Go.RowKit
set_option maxRecDepth 100000 in
set_option maxHeartbeats 8000000 in
theorem rprintdoc_any (xs : List DefT) (hf : ∀ x ∈ xs, defFit x ∧ (x.kind = 3 → ∀ y ∈ x.members, y.dirs = []) ∧ x.impl.length ≤ 64) (u : Value) (w : World) (B : Nat) (h : DefsR w B u xs) (hB : B ≤ w.heap.size) (hl : (docTxt xs).length ≤ 140737488355328) :
    Calls Tryz.prog 9 #[.agg #[u]] w (SP (docTxt xs) w) := by
  obtain ⟨A, c, rfl, _, hg, V, hA, hr⟩ := h
  unfold big at hg
  obtain ⟨n, hn⟩ : ∃ n, xs.length = n := ⟨_, rfl⟩
  rw [hn] at hA hg ⊢
  have hnm : (n : Int) ≤ 140737488351232 := by omega
  have HN := Lib.hid hn
  have HG := Lib.hid hg
  have HA := Lib.hid hA
  have HR := Lib.hid hr
  have HF := Lib.hid hf
  have HBB := Lib.hid hB
  have HLL : Hid ((jn [10] (xs.map defTxt)).length ≤ 140737488355328) := Lib.hid hl
  have HB0 : Hid (Below w.heap.size w (w.alloc (.cells #[.slice A n c] 24 (0, 0)))) := Lib.hid (below_new _ _)
  have HK0 := Lib.hid (Bk.new w #[.slice A n c] 24)
  clear hn hA hr hf hB hl hg
  have y0 := HK0.out.cell 0 _ rfl
  go_enter Tryz.func9, Tryz.ntmps9
  go_wp2_with fail
  clear y0
  go_loopw [3, 4] (fun v i wr => ∃ (j : Nat) (ss : List ByteArray), j ≤ n ∧ i = .int .i64 j ∧ Hid (OwnR wr (w.heap.size + 1) v ss ∧ ss.map bL = (xs.map defTxt).take j ∧ Below w.heap.size w wr ∧ Bk wr w.heap.size #[.slice A n c] 24)) (fun _ i _ => n - (intOf i).toNat)
  case atStart => exact ⟨0, [], Nat.zero_le _, rfl, Lib.hid ⟨OwnR.nil _ _, by simp, HB0.out, HK0.out⟩⟩
  case round =>
    obtain ⟨j, ss, hj, rfl, hr⟩ := hrel
    obtain ⟨hown, hss, hb, hk⟩ := hr.out
    have HOW := Lib.hid hown
    have HSS := Lib.hid hss
    have HB := Lib.hid hb
    have HKB := Lib.hid hk
    have hwl := hk.lt
    clear hown hss hb hk hr
    have y0 := HKB.out.cell 0 _ rfl
    by_cases hlt : j < n
    · have hlt' : (j : Int) < n := by omega
      obtain ⟨z, hzi⟩ : ∃ z, xs[j]? = some z := ⟨_, List.getElem?_eq_getElem (by rw [HN.out]; exact hlt)⟩
      obtain ⟨a, rfl, ha, hc0⟩ := HA.out (by omega)
      have hcc : ∀ q, q < 7 → wr.cell? (at_ (a.add (j * 7)) q) = some (V j q) := fun q hq => ((HB.out.mono HBB.out).cell (by rw [at_block, add_block]; exact ha)).trans (hc0 j hlt q hq)
      have k0 : wr.cell? (a.add (j * 7)) = some (V j 0) := hcc 0 (by omega)
      have k1 : wr.cell? ⟨(a.add (j * 7)).block, (a.add (j * 7)).off + 1, none⟩ = some (V j 1) := hcc 1 (by omega)
      have k2 : wr.cell? ⟨(a.add (j * 7)).block, (a.add (j * 7)).off + 2, none⟩ = some (V j 2) := hcc 2 (by omega)
      have k3 : wr.cell? ⟨(a.add (j * 7)).block, (a.add (j * 7)).off + 3, none⟩ = some (V j 3) := hcc 3 (by omega)
      have k4 : wr.cell? ⟨(a.add (j * 7)).block, (a.add (j * 7)).off + 4, none⟩ = some (V j 4) := hcc 4 (by omega)
      have k5 : wr.cell? ⟨(a.add (j * 7)).block, (a.add (j * 7)).off + 5, none⟩ = some (V j 5) := hcc 5 (by omega)
      have k6 : wr.cell? ⟨(a.add (j * 7)).block, (a.add (j * 7)).off + 6, none⟩ = some (V j 6) := hcc 6 (by omega)
      have hxm : (xs.map defTxt)[j]? = some (defTxt z) := by rw [List.getElem?_map, hzi]; rfl
      have hst := jn_step_le [10] hxm
      have hfz := HF.out z (List.mem_of_getElem? hzi)
      have CALI := Lib.hid (rblock_any z hfz.1 hfz.2.1 hfz.2.2 (V j) wr B (DefR.stays.kept (HR.out j z hzi) (HB.out.mono HBB.out)) (Nat.le_trans HBB.out HB.out.size) (by have h2 := HLL.out; omega))
      have HXS : Hid ((xs.map defTxt).take (j + 1) = (xs.map defTxt).take j ++ [defTxt z]) := Lib.hid (take_sn hxm)
      clear hc0 hcc hzi hxm hst hfz
      go_wp2_with fail
      refine CALI.out.mono ?_
      rintro e w5 ⟨⟨oi, rfl, ho⟩, hb5⟩
      have HO := Lib.hid ho
      have hbn := below_new w5 (.cells #[.string oi] 9 (0, 0))
      have HOW5 := Lib.hid ((HOW.out.stay hb5).stay hbn)
      have HB5 := Lib.hid (HB.out.trans ((hb5.trans (hbn.mono hb5.size)).mono HB.out.size))
      have HK5 := Lib.hid ((HKB.out.stay hb5).stay hbn)
      have HN5 := Lib.hid (Bk.new w5 #[.string oi] 9)
      have hz5 : w.heap.size + 1 ≤ w5.heap.size := by have := hb5.size; omega
      have HSL : Hid (ss.length = j) := Lib.hid (by have := congrArg List.length HSS.out; rw [List.length_map, List.length_take, List.length_map, HN.out] at this; omega)
      clear ho hb5 hbn CALI k0 k1 k2 k3 k4 k5 k6 y0
      go_wp2_with (at_builtin; refine append_R rfl _ _ rfl (w.heap.size + 1) _ ss rfl HOW5.out w5.heap.size 1 oi rfl (HN5.out.cell 0 _ rfl) (by have := HSL.out; have := HG.out; omega) (by simp; omega) ?_)
      intro v' w6 ho6 hg6
      have HK6 := Lib.hid (HK5.out.grown hg6 (fun k hk => by have := (HOW5.out.lt k hk).1; omega))
      have HB6 := Lib.hid (HB5.out.grown hg6 HB5.out.size (fun k hk => by have := (HOW5.out.lt k hk).1; omega))
      have HO6 := Lib.hid ho6
      clear ho6 hg6
      go_wp2_with fail
      go_roundw
      case rel => exact ⟨j + 1, ss ++ [oi], by omega, by go_num, Lib.hid ⟨HO6.out, by rw [HXS.out, List.map_append, HSS.out, List.map_cons, List.map_nil, HO.out], HB6.out, HK6.out⟩⟩
      case measure => simp [intOf]; omega
    · have : j = n := by omega
      subst this
      obtain ⟨A3, c3, hv2, hst2⟩ := HOW.out.strs
      have HST2 := Lib.hid hst2
      have HFS : Hid (ss.map bL = xs.map defTxt) := Lib.hid (by have := HSS.out; rwa [List.take_of_length_le (by rw [List.length_map, HN.out]; exact Nat.le_refl _)] at this)
      have hsl : ss.length = j := by have := congrArg List.length HFS.out; rw [List.length_map, List.length_map, HN.out] at this; exact this
      subst hv2
      rw [hsl]
      have HJ := Lib.hid (rjoin_any ss A3 j c3 ⟨#[10]⟩ wr HST2.out hsl (by have := HG.out; omega) (by rw [HFS.out, show bL ⟨#[10]⟩ = [10] from rfl]; exact HLL.out))
      clear hst2 hsl HOW
      go_wp2_with fail
      refine HJ.out.mono ?_
      rintro e w7 ⟨⟨o', rfl, ho'⟩, rfl⟩
      rw [HFS.out, show bL ⟨#[10]⟩ = [10] from rfl] at ho'
      have HOO := Lib.hid ho'
      clear ho'
      go_wp2_with fail
      go_ret
      exact ⟨⟨o', rfl, HOO.out⟩, HB.out⟩
end Go.Proofs.YtieklhplalgmmaaGreatDoor
namespace Go.Proofs.YtieklhplalgmmaaGreatDoor
open Go.RowKit
def cntF (y : FldT) : Nat := y.args.length + y.dirs.length
def cntD (x : DefT) : Nat := 1 + x.fields.length + x.members.length + x.inputs.length + x.dirs.length + x.impl.length + (x.fields.map cntF).sum
def smallD (x : DefT) : Prop := x.impl.length ≤ 64 ∧ x.dirs.length ≤ 64 ∧ x.members.length ≤ 64 ∧ x.inputs.length ≤ 64 ∧ x.fields.length ≤ 64 ∧ ∀ y ∈ x.fields, y.args.length ≤ 64 ∧ y.dirs.length ≤ 64
theorem take_sum {l : List Nat} {j a : Nat} (h : l[j]? = some a) : (l.take (j + 1)).sum = (l.take j).sum + a := by
  rw [take_sn h, List.sum_append]; simp
set_option maxRecDepth 100000 in
set_option maxHeartbeats 8000000 in
theorem large_ok (xs : List DefT) (hs : ∀ x ∈ xs, smallD x) (u : Value) (w : World) (B : Nat) (h : DefsR w B u xs) (hB : B ≤ w.heap.size) : Calls Tryz.prog 5 #[.agg #[u]] w fun e w' => (∃ b, e = .returned (.bool b) ∧ (b = false → xs.length ≤ 70 ∧ (xs.map cntD).sum ≤ 1000)) ∧ Below w.heap.size w w' := by
  obtain ⟨A, c, rfl, hc, hbg, V, hA, hr⟩ := h
  unfold big at hbg
  obtain ⟨n, hn⟩ : ∃ n, xs.length = n := ⟨_, rfl⟩
  rw [hn] at hA hbg ⊢
  have hnm : (n : Int) ≤ 140737488351232 := by omega
  have HN := Lib.hid hn
  have HA := Lib.hid hA
  have HR := Lib.hid hr
  have HBB := Lib.hid hB
  have HS := Lib.hid hs
  clear hs
  have HB0 := Lib.hid (below_new w (.cells #[.slice A n c] 24 (0, 0)))
  have HK0 := Lib.hid (Bk.new w #[.slice A n c] 24)
  clear hn hA hr hc hbg
  have y0 := HK0.out.cell 0 _ rfl
  by_cases h70 : n > 70
  · have h70' : (n : Int) > 70 := by omega
    go_enter Tryz.func5, Tryz.ntmps5
    go_wp2_with fail
    go_ret
    exact ⟨⟨_, rfl, fun hb => by simp at hb⟩, HB0.out⟩
  have h70' : ¬ (n : Int) > 70 := by omega
  clear h70
  go_enter Tryz.func5, Tryz.ntmps5
  go_wp2_with fail
  clear y0
  go_loopw [3, 4] (fun v i wr => ∃ (j z : Nat), j ≤ n ∧ i = .int .i64 j ∧ v = .int .i64 z ∧ z ≤ j * 8513 ∧ Hid (z = ((xs.map cntD).take j).sum ∧ Below w.heap.size w wr ∧ Bk wr w.heap.size #[.slice A n c] 24)) (fun _ i _ => n - (intOf i).toNat)
  case atStart => exact ⟨0, 0, Nat.zero_le _, rfl, rfl, by omega, Lib.hid ⟨rfl, HB0.out, HK0.out⟩⟩
  case round =>
    obtain ⟨j, z, hj, rfl, rfl, hzj, hr⟩ := hrel
    have HZ := Lib.hid hr.out.1
    have HB := Lib.hid hr.out.2.1
    have HK := Lib.hid hr.out.2.2
    clear hr
    have y0 := HK.out.cell 0 _ rfl
    by_cases hlt : j < n
    · have hlt' : (j : Int) < n := by omega
      obtain ⟨x, hxi⟩ : ∃ x, xs[j]? = some x := ⟨_, List.getElem?_eq_getElem (by rw [HN.out]; exact hlt)⟩
      obtain ⟨a, rfl, ha, hc0⟩ := HA.out (by omega)
      have hx : DefR wr B (V j) x := DefR.stays.kept (HR.out j x hxi) (HB.out.mono HBB.out)
      have hcc : ∀ q, q < 7 → wr.cell? (at_ (a.add (j * 7)) q) = some (V j q) := fun q hq => ((HB.out.mono HBB.out).cell (by rw [at_block, add_block]; exact ha)).trans (hc0 j hlt q hq)
      have k0 : wr.cell? (a.add (j * 7)) = some (V j 0) := hcc 0 (by omega)
      have k1 : wr.cell? ⟨(a.add (j * 7)).block, (a.add (j * 7)).off + 1, none⟩ = some (V j 1) := hcc 1 (by omega)
      have k2 : wr.cell? ⟨(a.add (j * 7)).block, (a.add (j * 7)).off + 2, none⟩ = some (V j 2) := hcc 2 (by omega)
      have k3 : wr.cell? ⟨(a.add (j * 7)).block, (a.add (j * 7)).off + 3, none⟩ = some (V j 3) := hcc 3 (by omega)
      have k4 : wr.cell? ⟨(a.add (j * 7)).block, (a.add (j * 7)).off + 4, none⟩ = some (V j 4) := hcc 4 (by omega)
      have k5 : wr.cell? ⟨(a.add (j * 7)).block, (a.add (j * 7)).off + 5, none⟩ = some (V j 5) := hcc 5 (by omega)
      have k6 : wr.cell? ⟨(a.add (j * 7)).block, (a.add (j * 7)).off + 6, none⟩ = some (V j 6) := hcc 6 (by omega)
      obtain ⟨A2, c2, e2, _, g2⟩ := hx.impl.form
      obtain ⟨A3, c3, e3, _, g3⟩ := hx.dirs.form
      obtain ⟨A5, c5, e5, _, g5⟩ := hx.members.form
      obtain ⟨A6, c6, e6, _, g6⟩ := hx.inputs.form
      obtain ⟨A4, c4, e4, _, g4, V4, hA4, hr4⟩ := (HR.out j x hxi).fields
      rw [hx.kind] at k0
      rw [hx.name] at k1
      rw [e2] at k2
      rw [e3] at k3
      rw [e4] at k4
      rw [e5] at k5
      rw [e6] at k6
      obtain ⟨s2, s3, s5, s6, s4, hsf⟩ := HS.out x (List.mem_of_getElem? hxi)
      have hcd : (xs.map cntD)[j]? = some (cntD x) := by rw [List.getElem?_map, hxi]; rfl
      have HTS := Lib.hid (take_sum hcd)
      have HCD : Hid (cntD x = 1 + x.fields.length + x.members.length + x.inputs.length + x.dirs.length + x.impl.length + (x.fields.map cntF).sum) := Lib.hid rfl
      have HSF := Lib.hid hsf
      clear hcd hsf
      unfold big at g2 g3 g4 g5 g6
      generalize x.impl.length = n2 at k2 g2 s2 HCD
      generalize x.dirs.length = n3 at k3 g3 s3 HCD
      generalize x.members.length = n5 at k5 g5 s5 HCD
      generalize x.inputs.length = n6 at k6 g6 s6 HCD
      generalize x.kind = kd at k0
      generalize x.name = nm at k1
      obtain ⟨n4, hn4⟩ : ∃ n4, x.fields.length = n4 := ⟨_, rfl⟩
      rw [hn4] at k4 g4 hA4 s4 HCD
      have m4 : (n4 : Int) ≤ 140737488351232 := by omega
      have HA4 := Lib.hid hA4
      have HN4 := Lib.hid hn4
      have HR4 : Hid (∀ i y, x.fields[i]? = some y → ∃ (p1 p3 : Option Addr) (l1 q1 l3 q3 : Nat), V4 i 1 = .slice p1 l1 q1 ∧ V4 i 4 = .slice p3 l3 q3 ∧ l1 ≤ 64 ∧ l3 ≤ 64 ∧ cntF y = l1 + l3) := Lib.hid fun i y hy => by
        obtain ⟨p1, q1, f1, _, _⟩ := (hr4 i y hy).args.form
        obtain ⟨p3, q3, f3, _, _⟩ := (hr4 i y hy).dirs.form
        exact ⟨p1, p3, _, q1, _, q3, f1, f3, (HSF.out y (List.mem_of_getElem? hy)).1, (HSF.out y (List.mem_of_getElem? hy)).2, rfl⟩
      obtain ⟨tb, htb⟩ : ∃ tb, wr.heap.size = tb := ⟨_, rfl⟩
      have HT : Hid (Bk (wr.alloc (.cells #[.int .i64 kd, .string nm, .slice A2 n2 c2, .slice A3 n3 c3, .slice A4 n4 c4, .slice A5 n5 c5, .slice A6 n6 c6] 35 (0, 0))) tb #[.int .i64 kd, .string nm, .slice A2 n2 c2, .slice A3 n3 c3, .slice A4 n4 c4, .slice A5 n5 c5, .slice A6 n6 c6] 35) := Lib.hid (by rw [← htb]; exact Bk.new _ _ _)
      have HB2 : Hid (Below w.heap.size w (wr.alloc (.cells #[.int .i64 kd, .string nm, .slice A2 n2 c2, .slice A3 n3 c3, .slice A4 n4 c4, .slice A5 n5 c5, .slice A6 n6 c6] 35 (0, 0)))) := Lib.hid (HB.out.trans ((below_new wr _).mono HB.out.size))
      have HK2 : Hid (Bk (wr.alloc (.cells #[.int .i64 kd, .string nm, .slice A2 n2 c2, .slice A3 n3 c3, .slice A4 n4 c4, .slice A5 n5 c5, .slice A6 n6 c6] 35 (0, 0))) w.heap.size #[.slice (some a) n c] 24) := Lib.hid (HK.out.stay (below_new _ _))
      have HX4 : Hid (∀ k, k < n4 → ∃ b4, A4 = some b4 ∧ ∀ W, Below w.heap.size w W → ∀ q, q < 5 → W.cell? (at_ (b4.add (k * 5)) q) = some (V4 k q)) := Lib.hid fun k hk => by
        obtain ⟨b4, e, hb4, hcells⟩ := hA4 (by omega)
        exact ⟨b4, e, fun W hW q hq => ((hW.mono HBB.out).cell (by rw [at_block, add_block]; exact hb4)).trans (hcells k hk q hq)⟩
      clear hx hc0 hcc e2 e3 e4 e5 e6 hr4 hA4 hn4 hxi
      go_wp2_with fail
      clear htb
      clear y0 k0 k1 k2 k3 k4 k5 k6
      go_loopw [3, 6] (fun v2 i2 wr => ∃ (k z2 : Nat), k ≤ n4 ∧ i2 = .int .i64 k ∧ v2 = .int .i64 z2 ∧ z2 ≤ z + (1 + n4 + n5 + n6 + n3 + n2) + k * 128 ∧ Hid (z2 = z + (1 + n4 + n5 + n6 + n3 + n2) + ((x.fields.map cntF).take k).sum ∧ Below w.heap.size w wr ∧ Bk wr w.heap.size #[.slice (some a) n c] 24 ∧ Bk wr tb #[.int .i64 kd, .string nm, .slice A2 n2 c2, .slice A3 n3 c3, .slice A4 n4 c4, .slice A5 n5 c5, .slice A6 n6 c6] 35)) (fun _ i2 _ => n4 - (intOf i2).toNat)
      case atStart => exact ⟨0, z + (1 + n4 + n5 + n6 + n3 + n2), Nat.zero_le _, rfl, by go_num, by omega, Lib.hid ⟨rfl, HB2.out, HK2.out, HT.out⟩⟩
      case round =>
        obtain ⟨k, z2, hk, rfl, rfl, hz2, hr2⟩ := hrel
        have HZ2 := Lib.hid hr2.out.1
        have HB3 := Lib.hid hr2.out.2.1
        have HK3 := Lib.hid hr2.out.2.2.1
        have HT3 := Lib.hid hr2.out.2.2.2
        clear hr2
        have t4 := HT3.out.cell 4 _ rfl
        by_cases hlt2 : k < n4
        · have hlt2' : (k : Int) < n4 := by omega
          obtain ⟨y, hyi⟩ : ∃ y, x.fields[k]? = some y := ⟨_, List.getElem?_eq_getElem (by rw [HN4.out]; exact hlt2)⟩
          obtain ⟨p1, p3, l1, q1, l3, q3, f1, f3, b1, b3, hcf⟩ := HR4.out k y hyi
          have hcy : (x.fields.map cntF)[k]? = some (l1 + l3) := by rw [List.getElem?_map, hyi, ← hcf]; rfl
          have HTF := Lib.hid (take_sum hcy)
          clear hcf hcy
          obtain ⟨b4, e4b, hcells⟩ := HX4.out k hlt2
          subst e4b
          have HCL := Lib.hid hcells
          clear hcells hyi
          go_wp2_with fail
          refine wp_region_past (fun W => Below w.heap.size w W ∧ Bk W w.heap.size #[.slice (some a) n c] 24 ∧ Bk W tb #[.int .i64 kd, .string nm, .slice A2 n2 c2, .slice A3 n3 c3, .slice (some b4) n4 c4, .slice A5 n5 c5, .slice A6 n6 c6] 35) ⟨HB3.out, HK3.out, HT3.out⟩ (by kernel_rfl) ?_
          intro W ⟨hW, hW0, hW1⟩ _
          have p0 : ∀ q : Past W, q.w.cell? ⟨tb, 4, none⟩ = some (.slice (some b4) n4 c4) := fun q => (q.b.cell (p := ⟨tb, 4, none⟩) hW1.lt).trans (hW1.cell 4 _ rfl)
          have hp : ∀ q : Past W, Below w.heap.size w q.w := fun q => hW.trans (q.b.mono hW.size)
          have r1 : ∀ q : Past W, q.w.cell? ⟨(b4.add (k * 5)).block, (b4.add (k * 5)).off + 1, none⟩ = some (.slice p1 l1 q1) := fun q => (HCL.out _ (hp q) 1 (by omega)).trans (congrArg some f1)
          have r3 : ∀ q : Past W, q.w.cell? ⟨(b4.add (k * 5)).block, (b4.add (k * 5)).off + 4, none⟩ = some (.slice p3 l3 q3) := fun q => (HCL.out _ (hp q) 4 (by omega)).trans (congrArg some f3)
          have HWW := Lib.hid hW
          have HW0 := Lib.hid hW0
          have HW1 := Lib.hid hW1
          clear hW hW0 hW1 hp f1 f3
          repeat (go_big_quiet_step (fail))
          refine wpQuiet_nil ?_
          intro _ hw'
          obtain ⟨q, rfl⟩ := hw'
          go_wp2_with fail
          go_roundw
          case rel => exact ⟨k + 1, z2 + (l1 + l3), by omega, by go_num, by go_num, by omega, Lib.hid ⟨by rw [HTF.out]; have := HZ2.out; omega, HWW.out.trans (q.b.mono HWW.out.size), HW0.out.stay q.b, HW1.out.stay q.b⟩⟩
          case measure => simp [intOf]; omega
        · have : k = n4 := by omega
          subst this
          go_wp2_with fail
          go_roundw
          case rel => exact ⟨j + 1, z2, by omega, by go_num, rfl, by omega, Lib.hid ⟨by rw [HTS.out, HCD.out]; have h1 := HZ2.out; have h2 := HZ.out; rw [List.take_of_length_le (by rw [List.length_map, HN4.out]; exact Nat.le_refl _)] at h1; omega, HB3.out, HK3.out⟩⟩
          case measure => simp [intOf]; omega
    · have : j = n := by omega
      subst this
      go_wp2_with fail
      go_ret
      have HFZ : Hid (z = (xs.map cntD).sum) := Lib.hid (by have := HZ.out; rwa [List.take_of_length_le (by rw [List.length_map, HN.out]; exact Nat.le_refl _)] at this)
      exact ⟨⟨_, rfl, fun hb => ⟨by have := HN.out; omega, by have := HFZ.out; simp at hb; omega⟩⟩, HB.out⟩
end Go.Proofs.YtieklhplalgmmaaGreatDoor
namespace Go.Proofs.YtieklhplalgmmaaGreatDoor
open Go.RowKit
set_option maxRecDepth 100000 in
set_option maxHeartbeats 8000000 in
theorem large_any (xs : List DefT) (u : Value) (w : World) (B : Nat) (h : DefsR w B u xs) (hB : B ≤ w.heap.size) : Calls Tryz.prog 5 #[.agg #[u]] w fun e w' => (∃ b, e = .returned (.bool b)) ∧ Below w.heap.size w w' := by
  obtain ⟨A, c, rfl, hc, hbg, V, hA, hr⟩ := h
  unfold big at hbg
  obtain ⟨n, hn⟩ : ∃ n, xs.length = n := ⟨_, rfl⟩
  rw [hn] at hA hbg ⊢
  have hnm : (n : Int) ≤ 140737488351232 := by omega
  have HN := Lib.hid hn
  have HA := Lib.hid hA
  have HR := Lib.hid hr
  have HBB := Lib.hid hB
  have HB0 := Lib.hid (below_new w (.cells #[.slice A n c] 24 (0, 0)))
  have HK0 := Lib.hid (Bk.new w #[.slice A n c] 24)
  clear hn hA hr hc hbg
  have y0 := HK0.out.cell 0 _ rfl
  by_cases h70 : n > 70
  · have h70' : (n : Int) > 70 := by omega
    go_enter Tryz.func5, Tryz.ntmps5
    go_wp2_with fail
    go_ret
    exact ⟨⟨_, rfl⟩, HB0.out⟩
  have h70' : ¬ (n : Int) > 70 := by omega
  clear h70
  go_enter Tryz.func5, Tryz.ntmps5
  go_wp2_with fail
  clear y0
  go_loopw [3, 4] (fun v i wr => ∃ (j : Nat) (x : Int), j ≤ n ∧ i = .int .i64 j ∧ v = .int .i64 x ∧ Hid (Below w.heap.size w wr ∧ Bk wr w.heap.size #[.slice A n c] 24)) (fun _ i _ => n - (intOf i).toNat)
  case atStart => exact ⟨0, 0, Nat.zero_le _, rfl, rfl, Lib.hid ⟨HB0.out, HK0.out⟩⟩
  case round =>
    obtain ⟨j, z, hj, rfl, rfl, hr⟩ := hrel
    have HB := Lib.hid hr.out.1
    have HK := Lib.hid hr.out.2
    clear hr
    have y0 := HK.out.cell 0 _ rfl
    by_cases hlt : j < n
    · have hlt' : (j : Int) < n := by omega
      obtain ⟨x, hxi⟩ : ∃ x, xs[j]? = some x := ⟨_, List.getElem?_eq_getElem (by rw [HN.out]; exact hlt)⟩
      obtain ⟨a, rfl, ha, hc0⟩ := HA.out (by omega)
      have hx : DefR wr B (V j) x := DefR.stays.kept (HR.out j x hxi) (HB.out.mono HBB.out)
      have hcc : ∀ q, q < 7 → wr.cell? (at_ (a.add (j * 7)) q) = some (V j q) := fun q hq => ((HB.out.mono HBB.out).cell (by rw [at_block, add_block]; exact ha)).trans (hc0 j hlt q hq)
      have k0 : wr.cell? (a.add (j * 7)) = some (V j 0) := hcc 0 (by omega)
      have k1 : wr.cell? ⟨(a.add (j * 7)).block, (a.add (j * 7)).off + 1, none⟩ = some (V j 1) := hcc 1 (by omega)
      have k2 : wr.cell? ⟨(a.add (j * 7)).block, (a.add (j * 7)).off + 2, none⟩ = some (V j 2) := hcc 2 (by omega)
      have k3 : wr.cell? ⟨(a.add (j * 7)).block, (a.add (j * 7)).off + 3, none⟩ = some (V j 3) := hcc 3 (by omega)
      have k4 : wr.cell? ⟨(a.add (j * 7)).block, (a.add (j * 7)).off + 4, none⟩ = some (V j 4) := hcc 4 (by omega)
      have k5 : wr.cell? ⟨(a.add (j * 7)).block, (a.add (j * 7)).off + 5, none⟩ = some (V j 5) := hcc 5 (by omega)
      have k6 : wr.cell? ⟨(a.add (j * 7)).block, (a.add (j * 7)).off + 6, none⟩ = some (V j 6) := hcc 6 (by omega)
      obtain ⟨A2, c2, e2, _, g2⟩ := hx.impl.form
      obtain ⟨A3, c3, e3, _, g3⟩ := hx.dirs.form
      obtain ⟨A5, c5, e5, _, g5⟩ := hx.members.form
      obtain ⟨A6, c6, e6, _, g6⟩ := hx.inputs.form
      obtain ⟨A4, c4, e4, _, g4, V4, hA4, hr4⟩ := (HR.out j x hxi).fields
      rw [hx.kind] at k0
      rw [hx.name] at k1
      rw [e2] at k2
      rw [e3] at k3
      rw [e4] at k4
      rw [e5] at k5
      rw [e6] at k6
      unfold big at g2 g3 g4 g5 g6
      generalize x.impl.length = n2 at k2 g2
      generalize x.dirs.length = n3 at k3 g3
      generalize x.members.length = n5 at k5 g5
      generalize x.inputs.length = n6 at k6 g6
      generalize x.kind = kd at k0
      generalize x.name = nm at k1
      obtain ⟨n4, hn4⟩ : ∃ n4, x.fields.length = n4 := ⟨_, rfl⟩
      rw [hn4] at k4 g4 hA4
      have m4 : (n4 : Int) ≤ 140737488351232 := by omega
      have HA4 := Lib.hid hA4
      have HN4 := Lib.hid hn4
      have HR4 : Hid (∀ i y, x.fields[i]? = some y → ∃ (p1 p3 : Option Addr) (l1 q1 l3 q3 : Nat), V4 i 1 = .slice p1 l1 q1 ∧ V4 i 4 = .slice p3 l3 q3) := Lib.hid fun i y hy => by
        obtain ⟨p1, q1, f1, _, _⟩ := (hr4 i y hy).args.form
        obtain ⟨p3, q3, f3, _, _⟩ := (hr4 i y hy).dirs.form
        exact ⟨p1, p3, _, q1, _, q3, f1, f3⟩
      obtain ⟨tb, htb⟩ : ∃ tb, wr.heap.size = tb := ⟨_, rfl⟩
      have HT : Hid (Bk (wr.alloc (.cells #[.int .i64 kd, .string nm, .slice A2 n2 c2, .slice A3 n3 c3, .slice A4 n4 c4, .slice A5 n5 c5, .slice A6 n6 c6] 35 (0, 0))) tb #[.int .i64 kd, .string nm, .slice A2 n2 c2, .slice A3 n3 c3, .slice A4 n4 c4, .slice A5 n5 c5, .slice A6 n6 c6] 35) := Lib.hid (by rw [← htb]; exact Bk.new _ _ _)
      have HB2 : Hid (Below w.heap.size w (wr.alloc (.cells #[.int .i64 kd, .string nm, .slice A2 n2 c2, .slice A3 n3 c3, .slice A4 n4 c4, .slice A5 n5 c5, .slice A6 n6 c6] 35 (0, 0)))) := Lib.hid (HB.out.trans ((below_new wr _).mono HB.out.size))
      have HK2 : Hid (Bk (wr.alloc (.cells #[.int .i64 kd, .string nm, .slice A2 n2 c2, .slice A3 n3 c3, .slice A4 n4 c4, .slice A5 n5 c5, .slice A6 n6 c6] 35 (0, 0))) w.heap.size #[.slice (some a) n c] 24) := Lib.hid (HK.out.stay (below_new _ _))
      have HX4 : Hid (∀ k, k < n4 → ∃ b4, A4 = some b4 ∧ ∀ W, Below w.heap.size w W → ∀ q, q < 5 → W.cell? (at_ (b4.add (k * 5)) q) = some (V4 k q)) := Lib.hid fun k hk => by
        obtain ⟨b4, e, hb4, hcells⟩ := hA4 (by omega)
        exact ⟨b4, e, fun W hW q hq => ((hW.mono HBB.out).cell (by rw [at_block, add_block]; exact hb4)).trans (hcells k hk q hq)⟩
      clear hx hc0 hcc e2 e3 e4 e5 e6 hr4 hA4 hn4 hxi
      go_wp2_with fail
      clear htb
      clear y0 k0 k1 k2 k3 k4 k5 k6
      go_loopw [3, 6] (fun v2 i2 wr => ∃ (k : Nat) (z2 : Int), k ≤ n4 ∧ i2 = .int .i64 k ∧ v2 = .int .i64 z2 ∧ Hid (Below w.heap.size w wr ∧ Bk wr w.heap.size #[.slice (some a) n c] 24 ∧ Bk wr tb #[.int .i64 kd, .string nm, .slice A2 n2 c2, .slice A3 n3 c3, .slice A4 n4 c4, .slice A5 n5 c5, .slice A6 n6 c6] 35)) (fun _ i2 _ => n4 - (intOf i2).toNat)
      case atStart => exact ⟨0, _, Nat.zero_le _, rfl, rfl, Lib.hid ⟨HB2.out, HK2.out, HT.out⟩⟩
      case round =>
        obtain ⟨k, z2, hk, rfl, rfl, hr2⟩ := hrel
        have HB3 := Lib.hid hr2.out.1
        have HK3 := Lib.hid hr2.out.2.1
        have HT3 := Lib.hid hr2.out.2.2
        clear hr2
        have t4 := HT3.out.cell 4 _ rfl
        by_cases hlt2 : k < n4
        · have hlt2' : (k : Int) < n4 := by omega
          obtain ⟨y, hyi⟩ : ∃ y, x.fields[k]? = some y := ⟨_, List.getElem?_eq_getElem (by rw [HN4.out]; exact hlt2)⟩
          obtain ⟨p1, p3, l1, q1, l3, q3, f1, f3⟩ := HR4.out k y hyi
          obtain ⟨b4, e4b, hcells⟩ := HX4.out k hlt2
          subst e4b
          have HCL := Lib.hid hcells
          clear hcells hyi
          go_wp2_with fail
          refine wp_region_past (fun W => Below w.heap.size w W ∧ Bk W w.heap.size #[.slice (some a) n c] 24 ∧ Bk W tb #[.int .i64 kd, .string nm, .slice A2 n2 c2, .slice A3 n3 c3, .slice (some b4) n4 c4, .slice A5 n5 c5, .slice A6 n6 c6] 35) ⟨HB3.out, HK3.out, HT3.out⟩ (by kernel_rfl) ?_
          intro W ⟨hW, hW0, hW1⟩ _
          have p0 : ∀ q : Past W, q.w.cell? ⟨tb, 4, none⟩ = some (.slice (some b4) n4 c4) := fun q => (q.b.cell (p := ⟨tb, 4, none⟩) hW1.lt).trans (hW1.cell 4 _ rfl)
          have hp : ∀ q : Past W, Below w.heap.size w q.w := fun q => hW.trans (q.b.mono hW.size)
          have r1 : ∀ q : Past W, q.w.cell? ⟨(b4.add (k * 5)).block, (b4.add (k * 5)).off + 1, none⟩ = some (.slice p1 l1 q1) := fun q => (HCL.out _ (hp q) 1 (by omega)).trans (congrArg some f1)
          have r3 : ∀ q : Past W, q.w.cell? ⟨(b4.add (k * 5)).block, (b4.add (k * 5)).off + 4, none⟩ = some (.slice p3 l3 q3) := fun q => (HCL.out _ (hp q) 4 (by omega)).trans (congrArg some f3)
          have HWW := Lib.hid hW
          have HW0 := Lib.hid hW0
          have HW1 := Lib.hid hW1
          clear hW hW0 hW1 hp f1 f3
          repeat (go_big_quiet_step (fail))
          refine wpQuiet_nil ?_
          intro _ hw'
          obtain ⟨q, rfl⟩ := hw'
          go_wp2_with fail
          go_roundw
          case rel => exact ⟨k + 1, _, by omega, by go_num, rfl, Lib.hid ⟨HWW.out.trans (q.b.mono HWW.out.size), HW0.out.stay q.b, HW1.out.stay q.b⟩⟩
          case measure => simp [intOf]; omega
        · have : k = n4 := by omega
          subst this
          go_wp2_with fail
          go_roundw
          case rel => exact ⟨j + 1, z2, by omega, by go_num, rfl, Lib.hid ⟨HB3.out, HK3.out⟩⟩
          case measure => simp [intOf]; omega
    · have : j = n := by omega
      subst this
      go_wp2_with fail
      go_ret
      exact ⟨⟨_, rfl⟩, HB.out⟩
end Go.Proofs.YtieklhplalgmmaaGreatDoor
namespace Go.Proofs.YtieklhplalgmmaaGreatDoor
open Go.RowKit
set_option maxRecDepth 100000 in
set_option maxHeartbeats 1000000 in
theorem eqStr_nil (A A2 : Option Addr) (c c2 : Nat) (w : World) : Calls Tryz.prog 40 #[.slice A 0 c, .slice A2 0 c2] w fun e w' => e = .returned (.bool true) ∧ w = w' := by
  go_enter Tryz.func40, Tryz.ntmps40
  go_wp2_with fail
  go_loopw [13] (fun u wr => u = .int .i64 0 ∧ w = wr) (fun _ _ => 0)
  case atStart => exact ⟨rfl, rfl⟩
  case round =>
    obtain ⟨rfl, rfl⟩ := hrel
    go_wp2_with fail
    go_ret
    exact ⟨rfl, rfl⟩
set_option maxRecDepth 100000 in
set_option maxHeartbeats 1000000 in
theorem eqDir_nil (A A2 : Option Addr) (c c2 : Nat) (G : Value) (w : World) : Calls Tryz.prog 72 #[.slice A 0 c, .slice A2 0 c2, G] w fun e w' => e = .returned (.bool true) ∧ w = w' := by
  go_enter Tryz.func72, Tryz.ntmps72
  go_wp2_with fail
  go_loopw [17] (fun u wr => u = .int .i64 0 ∧ w = wr) (fun _ _ => 0)
  case atStart => exact ⟨rfl, rfl⟩
  case round =>
    obtain ⟨rfl, rfl⟩ := hrel
    go_wp2_with fail
    go_ret
    exact ⟨rfl, rfl⟩
set_option maxRecDepth 100000 in
set_option maxHeartbeats 1000000 in
theorem eqMem_nil (A A2 : Option Addr) (c c2 : Nat) (G : Value) (w : World) : Calls Tryz.prog 44 #[.slice A 0 c, .slice A2 0 c2, G] w fun e w' => e = .returned (.bool true) ∧ w = w' := by
  go_enter Tryz.func44, Tryz.ntmps44
  go_wp2_with fail
  go_loopw [17] (fun u wr => u = .int .i64 0 ∧ w = wr) (fun _ _ => 0)
  case atStart => exact ⟨rfl, rfl⟩
  case round =>
    obtain ⟨rfl, rfl⟩ := hrel
    go_wp2_with fail
    go_ret
    exact ⟨rfl, rfl⟩
set_option maxRecDepth 100000 in
set_option maxHeartbeats 1000000 in
theorem eqInp_nil (A A2 : Option Addr) (c c2 : Nat) (G : Value) (w : World) : Calls Tryz.prog 46 #[.slice A 0 c, .slice A2 0 c2, G] w fun e w' => e = .returned (.bool true) ∧ w = w' := by
  go_enter Tryz.func46, Tryz.ntmps46
  go_wp2_with fail
  go_loopw [17] (fun u wr => u = .int .i64 0 ∧ w = wr) (fun _ _ => 0)
  case atStart => exact ⟨rfl, rfl⟩
  case round =>
    obtain ⟨rfl, rfl⟩ := hrel
    go_wp2_with fail
    go_ret
    exact ⟨rfl, rfl⟩
set_option maxRecDepth 100000 in
set_option maxHeartbeats 4000000 in
theorem eqFld_one (s0 s2 : ByteArray) (A1 A3 A4 : Option Addr) (l1 z1 l3 z3 l4 z4 : Nat) (g c : Nat) (w : World) (hk : Bk w g #[.string s0, .slice A1 l1 z1, .string s2, .slice A3 l3 z3, .slice A4 l4 z4] 40)
    (hC : ∀ W, Below w.heap.size w W → Calls Tryz.prog 43 #[.agg #[.string s0, .slice A1 l1 z1, .string s2, .slice A3 l3 z3, .slice A4 l4 z4], .agg #[.string s0, .slice A1 l1 z1, .string s2, .slice A3 l3 z3, .slice A4 l4 z4]] W fun e w' => e = .returned (.bool true) ∧ Below W.heap.size W w') :
    Calls Tryz.prog 42 #[.slice (some ⟨g, 0, none⟩) 1 c, .slice (some ⟨g, 0, none⟩) 1 c, .func (.func 43) #[] #[]] w fun e w' => e = .returned (.bool true) ∧ Below w.heap.size w w' := by
  have HK := Lib.hid hk
  have HC := Lib.hid hC
  clear hk hC
  go_enter Tryz.func42, Tryz.ntmps42
  go_wp2_with fail
  go_loopw [17] (fun u wr => ∃ i : Nat, i ≤ 1 ∧ u = .int .i64 i ∧ Hid (Below w.heap.size w wr)) (fun u _ => 1 - (intOf u).toNat)
  case atStart => exact ⟨0, Nat.zero_le _, rfl, Lib.hid (Below.refl _ _)⟩
  case round =>
    obtain ⟨i, hi, rfl, hr⟩ := hrel
    by_cases h0 : i = 0
    · subst h0
      have hk1 := HK.out.stay hr.out
      have y0 := hk1.cell 0 _ rfl
      have y1 := hk1.cell 1 _ rfl
      have y2 := hk1.cell 2 _ rfl
      have y3 := hk1.cell 3 _ rfl
      have y4 := hk1.cell 4 _ rfl
      have hk2 := hk1.stay (below_new wr (.cells #[.string s0, .slice A1 l1 z1, .string s2, .slice A3 l3 z3, .slice A4 l4 z4] 40 (0, 0)))
      have q0 := hk2.cell 0 _ rfl
      have q1 := hk2.cell 1 _ rfl
      have q2 := hk2.cell 2 _ rfl
      have q3 := hk2.cell 3 _ rfl
      have q4 := hk2.cell 4 _ rfl
      have CALL := Lib.hid (fun W (hW : Below wr.heap.size wr W) => HC.out W (hr.out.trans (hW.mono hr.out.size)))
      clear hk1 hk2
      go_wp2_with fail
      refine (CALL.out _ (((below_new wr _).alloc (by simp) _))).mono ?_
      rintro e w5 ⟨rfl, hb⟩
      have HB5 := Lib.hid (hr.out.trans ((((below_new wr _).alloc (by simp) _).trans (hb.mono (by simp; omega))).mono hr.out.size))
      clear hb CALL y0 q0 y1 q1 y2 q2 y3 q3 y4 q4
      go_wp2_with fail
      go_roundw
      case rel => exact ⟨1, by omega, by go_num, Lib.hid HB5.out⟩
      case measure => simp [intOf]
    · have : i = 1 := by omega
      subst this
      go_wp2_with fail
      go_ret
      exact ⟨rfl, hr.out⟩
set_option maxRecDepth 100000 in
set_option maxHeartbeats 4000000 in
theorem eqDef_one (k0 : Int) (s1 : ByteArray) (A2 A3 A4 A5 A6 : Option Addr) (l2 z2 l3 z3 l4 z4 l5 z5 l6 z6 : Nat) (g c : Nat) (w : World) (hk : Bk w g #[.int .i64 k0, .string s1, .slice A2 l2 z2, .slice A3 l3 z3, .slice A4 l4 z4, .slice A5 l5 z5, .slice A6 l6 z6] 35)
    (hC : ∀ W, Below w.heap.size w W → Calls Tryz.prog 21 #[.agg #[.int .i64 k0, .string s1, .slice A2 l2 z2, .slice A3 l3 z3, .slice A4 l4 z4, .slice A5 l5 z5, .slice A6 l6 z6], .agg #[.int .i64 k0, .string s1, .slice A2 l2 z2, .slice A3 l3 z3, .slice A4 l4 z4, .slice A5 l5 z5, .slice A6 l6 z6]] W fun e w' => e = .returned (.bool true) ∧ Below W.heap.size W w') :
    Calls Tryz.prog 20 #[.slice (some ⟨g, 0, none⟩) 1 c, .slice (some ⟨g, 0, none⟩) 1 c, .func (.func 21) #[] #[]] w fun e w' => e = .returned (.bool true) ∧ Below w.heap.size w w' := by
  have HK := Lib.hid hk
  have HC := Lib.hid hC
  clear hk hC
  go_enter Tryz.func20, Tryz.ntmps20
  go_wp2_with fail
  go_loopw [17] (fun u wr => ∃ i : Nat, i ≤ 1 ∧ u = .int .i64 i ∧ Hid (Below w.heap.size w wr)) (fun u _ => 1 - (intOf u).toNat)
  case atStart => exact ⟨0, Nat.zero_le _, rfl, Lib.hid (Below.refl _ _)⟩
  case round =>
    obtain ⟨i, hi, rfl, hr⟩ := hrel
    by_cases h0 : i = 0
    · subst h0
      have hk1 := HK.out.stay hr.out
      have y0 := hk1.cell 0 _ rfl
      have y1 := hk1.cell 1 _ rfl
      have y2 := hk1.cell 2 _ rfl
      have y3 := hk1.cell 3 _ rfl
      have y4 := hk1.cell 4 _ rfl
      have y5 := hk1.cell 5 _ rfl
      have y6 := hk1.cell 6 _ rfl
      have hk2 := hk1.stay (below_new wr (.cells #[.int .i64 k0, .string s1, .slice A2 l2 z2, .slice A3 l3 z3, .slice A4 l4 z4, .slice A5 l5 z5, .slice A6 l6 z6] 35 (0, 0)))
      have q0 := hk2.cell 0 _ rfl
      have q1 := hk2.cell 1 _ rfl
      have q2 := hk2.cell 2 _ rfl
      have q3 := hk2.cell 3 _ rfl
      have q4 := hk2.cell 4 _ rfl
      have q5 := hk2.cell 5 _ rfl
      have q6 := hk2.cell 6 _ rfl
      have CALL := Lib.hid (fun W (hW : Below wr.heap.size wr W) => HC.out W (hr.out.trans (hW.mono hr.out.size)))
      clear hk1 hk2
      go_wp2_with fail
      refine (CALL.out _ (((below_new wr _).alloc (by simp) _))).mono ?_
      rintro e w5 ⟨rfl, hb⟩
      have HB5 := Lib.hid (hr.out.trans ((((below_new wr _).alloc (by simp) _).trans (hb.mono (by simp; omega))).mono hr.out.size))
      clear hb CALL y0 q0 y1 q1 y2 q2 y3 q3 y4 q4 y5 q5 y6 q6
      go_wp2_with fail
      go_roundw
      case rel => exact ⟨1, by omega, by go_num, Lib.hid HB5.out⟩
      case measure => simp [intOf]
    · have : i = 1 := by omega
      subst this
      go_wp2_with fail
      go_ret
      exact ⟨rfl, hr.out⟩
end Go.Proofs.YtieklhplalgmmaaGreatDoor
