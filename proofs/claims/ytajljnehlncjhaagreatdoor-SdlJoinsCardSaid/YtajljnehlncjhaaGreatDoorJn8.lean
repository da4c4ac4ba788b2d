
/-
  Texts joined: E5Arg E7 F2.
-/
import Derived.Test.YtajljnehlncjhaaGreatDoorJn6
import Derived.Test.YtajljnehlncjhaaGreatDoorJn7
namespace Go.Proofs.YtajljnehlncjhaaGreatDoor
open Go.RowKit
theorem infoArg : (Tryz.prog.info? 111).map (fun i => (i.zero, i.size, i.bytes)) = some (some (.agg #[.string ⟨#[]⟩, .int .i64 0, .int .i64 0, .string ⟨#[]⟩, .slice none 0 0, .slice none 0 0]), 6, 96) := by kernel_rfl
set_option maxRecDepth 100000 in
set_option maxHeartbeats 8000000 in
theorem blockArg_any (p : Nat) (el : List Tk → Except Er ((ByteArray × VT) × List Tk)) (hel : ∀ (W : World) (ts : List Tk) (m : Nat), PSt W p ts m → isNm ts = true → Calls Tryz.prog 163 #[pP p] W (WPost ArgV W p (el ts)))
    (hlt : ∀ (ts : List Tk) (x : (ByteArray × VT)) (ts' : List Tk), Good ts → isNm ts = true → el ts = .ok (x, ts') → ts'.length < ts.length) (w : World) (ts : List Tk) (n : Nat) (h : PSt w p ts n) (op cl : ByteArray) (most : Nat) (hm : most ≤ 64) (y : Int) (hy : y = most) :
    Calls Tryz.prog 162 #[pP p, .string op, .int .i64 y, .func (.func 163) #[pP p] #[], .string cl] w (WPost (SlS 6 96 ArgC) w p (blR op.data.toList cl.data.toList most el ts)) := by
  have HS := Lib.hid (psign_any h op)
  have HV : Hid (blR op.data.toList cl.data.toList most el ts = exB (sgR op.data.toList ts) fun ts1 => bls cl.data.toList most el (ts1.length + 1) [] ts1) := Lib.hid rfl
  have HEL := Lib.hid hel
  have HLT := Lib.hid hlt
  have HY := Lib.hid hy
  have hpw := h.lt
  clear h hel hlt hy
  generalize blR op.data.toList cl.data.toList most el ts = R at *
  go_enter Tryz.func162, Tryz.ntmps162
  go_wp2_with fail
  refine HS.out.mono ?_
  rintro e w1 (⟨ts1, hr, rfl, hp, ht⟩ | ⟨x, hr, rfl, ht⟩)
  rotate_left
  · have HV2 : Hid (R = .error x) := Lib.hid (by rw [HV.out, exB_er hr])
    have HT := Lib.hid ht
    clear hr ht
    exact ⟨rfl, .inr ⟨x, HV2.out, rfl, HT.out⟩⟩
  have HV2 : Hid (R = bls cl.data.toList most el (ts1.length + 1) [] ts1) := Lib.hid (by rw [HV.out, exB_ok hr])
  have HP1 := Lib.hid hp
  have HT1 := Lib.hid ht
  clear hr hp ht HV HS
  go_wp2_with fail
  go_loopw [11] (fun u wr => ∃ (l : List (ByteArray × VT)) (tr : List Tk) (cells : List Value) (f m : Nat), l.length ≤ most ∧ Hid (R = bls cl.data.toList most el f l tr ∧ tr.length < f ∧ Els 111 6 ArgC wr w.heap.size u cells l ∧ PSt wr p tr m ∧ Tw p w.heap.size w wr)) (fun _ wr => tlen p wr)
  case atStart => exact ⟨[], ts1, [], _, n, Nat.zero_le _, Lib.hid ⟨HV2.out, Nat.lt_succ_self _, Els.nil _ _ _ _ _, HP1.out, HT1.out⟩⟩
  case round =>
    obtain ⟨l, tr, cells, f, m, hlm, hr⟩ := hrel
    obtain ⟨AL, c, hu⟩ := hr.out.2.2.1.slice
    subst hu
    have hlb : (l.length : Int) ≤ 64 := by omega
    obtain ⟨f', hf'⟩ : ∃ f', f = f' + 1 := ⟨f - 1, by have := hr.out.2.1; omega⟩
    subst hf'
    obtain ⟨ll, hll⟩ : ∃ ll, ll = l.length := ⟨_, rfl⟩
    rw [← hll] at hlb
    have HLL := Lib.hid hll
    have hz : ll = 0 ∨ ll ≠ 0 := by omega
    by_cases hdone : ll ≠ 0 ∧ isSg cl.data.toList tr = true
    · obtain ⟨hz, hsg⟩ := hdone
      have hz0 : ((ll : Int) == 0) = false := by rw [beq_eq_false_iff_ne]; omega
      have HD : Hid (R = .ok (l, tr.tail)) := Lib.hid (hr.out.1.trans (by rw [bls_succ, if_pos ⟨by rw [← HLL.out]; exact hz, hsg⟩]))
      have HC := Lib.hid (ptakeSign_b hr.out.2.2.2.1 cl _ hsg)
      clear hz hsg hll
      rw [← HLL.out]
      go_wp2_with fail
      refine HC.out.mono ?_
      rintro e w2 ⟨rfl, hp2, ht2⟩
      have HP2 : Hid (PSt w2 p tr.tail m) := Lib.hid hp2
      have HT2 := Lib.hid (hr.out.2.2.2.2.step hr.out.2.2.2.2.size ht2)
      have HE2 := Lib.hid (hr.out.2.2.1.tw ArgC.stays hpw ht2)
      clear hp2 ht2
      go_wp2_with fail
      go_ret
      refine .inl ⟨l, _, _, m, HD.out, rfl, ?_, HP2.out, HT2.out⟩
      have := HE2.out.read (bytes := 96) ArgC.stays (by have := HLL.out; unfold big; omega)
      rw [HLL.out]
      exact this
    · have HD : Hid (R = exB (bgR (isNm tr) l.length most tr) fun _ => exB (el tr) fun q => bls cl.data.toList most el f' (l ++ [q.1]) q.2) := Lib.hid (hr.out.1.trans (by rw [bls_succ, if_neg (by rw [← HLL.out]; exact hdone)]))
      have hwalk : ∃ W, W = wr := ⟨_, rfl⟩
      have hcase : ll = 0 ∨ (ll ≠ 0 ∧ isSg cl.data.toList tr = false) := by
        by_cases h0 : ll = 0
        · exact .inl h0
        · exact .inr ⟨h0, by cases hh : isSg cl.data.toList tr with
            | true => exact absurd ⟨h0, hh⟩ hdone
            | false => rfl⟩
      rw [← hll]
      clear hz hdone hll hwalk
      rcases hcase with hz | ⟨hz, hsg⟩
      · skip
        have hz0 : ((ll : Int) == 0) = true := by rw [hz]; rfl
        have HPC := Lib.hid hr.out.2.2.2.1
        have HTC : Hid (Tw p wr.heap.size wr wr) := Lib.hid (.refl _ _ _)
        clear hz
        go_wp2_with fail
        refine (pisName_any HPC.out).mono ?_
        rintro e wb ⟨rfl, hb⟩
        have HPB := Lib.hid (HPC.out.stay hb)
        have HTB := Lib.hid (HTC.out.step HTC.out.size (.of hb))
        clear hb
        go_wp2_with fail
        refine (pbegin_any HPB.out (isNm tr) l.length most _ _ (by have := HLL.out; omega) HY.out).mono ?_
        rintro e wc (⟨hbg, rfl, hb⟩ | ⟨x, hbg, rfl, ht⟩)
        rotate_left
        · have HD2 : Hid (R = .error x) := Lib.hid (by rw [HD.out, exB_er hbg])
          have HT2 := Lib.hid (hr.out.2.2.2.2.step hr.out.2.2.2.2.size (HTB.out.step HTB.out.size ht))
          clear hbg ht
          exact ⟨rfl, .inr ⟨x, HD2.out, rfl, HT2.out⟩⟩
        obtain ⟨hnm, hlm2⟩ := bgR_lt hbg hlm
        have HD2 : Hid (R = exB (el tr) fun q => bls cl.data.toList most el f' (l ++ [q.1]) q.2) := Lib.hid (by rw [HD.out, exB_ok hbg])
        have HPB2 := Lib.hid (HPB.out.stay hb)
        have HTB2 := Lib.hid (HTB.out.step HTB.out.size (.of hb))
        have HNM := Lib.hid hnm
        clear hbg hb hnm
        go_wp2_with fail
        refine (HEL.out _ tr m HPB2.out HNM.out).mono ?_
        rintro e wd (⟨x, ts', v, m', hre, rfl, hx, hp, ht⟩ | ⟨x, hre, rfl, ht⟩)
        rotate_left
        · have HD3 : Hid (R = .error x) := Lib.hid (by rw [HD2.out, exB_er hre])
          have HT3 := Lib.hid (hr.out.2.2.2.2.step hr.out.2.2.2.2.size (HTB2.out.step HTB2.out.size ht))
          clear hre ht
          exact ⟨rfl, .inr ⟨x, HD3.out, rfl, HT3.out⟩⟩
        have HD3 : Hid (R = bls cl.data.toList most el f' (l ++ [x]) ts') := Lib.hid (by rw [HD2.out, exB_ok hre])
        have hlt3 := HLT.out tr x ts' HPB2.out.good HNM.out hre
        obtain ⟨A, KA, ci, ck, k, li, lk, s, z, rfl, hxc⟩ := hx.shape
        have HTD := Lib.hid (HTB2.out.step HTB2.out.size ht)
        have hE := hr.out.2.2.1.tw ArgC.stays hpw HTD.out
        have hws : w.heap.size ≤ wc.heap.size := Nat.le_trans hr.out.2.2.2.2.size HTB2.out.size
        have hwd : wc.heap.size ≤ wd.heap.size := ht.size
        have hxS := ArgC.stays.kept (w' := wd) (S' := fun b => w.heap.size ≤ b ∧ b < wd.heap.size ∧ (Value.slice AL l.length c).ownBlock ≠ some b) hxc (fun _ _ => rfl) (fun b hb => ⟨by have := hb.1; omega, hb.2, fun e => by have h8 := (hr.out.2.2.1.own).lt b e; have h9 := HTB2.out.size; have := hb.1; omega⟩)
        have HX := Lib.hid hxS
        have HPD := Lib.hid hp
        have HE := Lib.hid hE
        have b0 : Below wd.heap.size wd (wd.alloc (.cells #[.string x.1, .int .i64 k, .int .i64 z, .string s, .slice A li ci, .slice KA lk ck] 111 (0, 0))) := below_new _ _
        have HB0 := Lib.hid b0
        have HOWN : Hid ((wd.alloc (.cells #[.string x.1, .int .i64 k, .int .i64 z, .string s, .slice A li ci, .slice KA lk ck] 111 (0, 0))).ownsRow w.heap.size 111 6 (.slice AL ll c) ll cells) := Lib.hid (by
          have h8 := own_kept hE.own (fun g hg => b0.block g hg)
          rw [← HLL.out] at h8; exact h8)
        have HNEWS : Hid (∀ (j : Nat) (u : Value), ([.string x.1, .int .i64 k, .int .i64 z, .string s, .slice A li ci, .slice KA lk ck] : List Value)[j]? = some u → (wd.alloc (.cells #[.string x.1, .int .i64 k, .int .i64 z, .string s, .slice A li ci, .slice KA lk ck] 111 (0, 0))).cell? ((⟨wd.heap.size, 0, none⟩ : Addr).add j) = some u) := Lib.hid (cells_at wd [.string x.1, .int .i64 k, .int .i64 z, .string s, .slice A li ci, .slice KA lk ck] 111)
        have HONE : Hid (∀ u ∈ ([.string x.1, .int .i64 k, .int .i64 z, .string s, .slice A li ci, .slice KA lk ck] : List Value), u.oneCell' = true) := Lib.hid (by intro u hu; simp only [List.mem_cons, List.not_mem_nil, or_false] at hu; rcases hu with rfl | rfl | rfl | rfl | rfl | rfl <;> rfl)
        have HSZ : Hid (w.heap.size ≤ (wd.alloc (.cells #[.string x.1, .int .i64 k, .int .i64 z, .string s, .slice A li ci, .slice KA lk ck] 111 (0, 0))).heap.size) := Lib.hid (by rw [World.size_alloc]; omega)
        clear hre ht hx hxc hp hE hxS b0
        go_wp2_with (at_builtin; refine wpList_append_fresh _ rfl _ _ 106 rfl w.heap.size 111 _ 6 96 Tryz.underlying106 infoArg rfl (by decide) _ ll cells rfl HOWN.out ⟨wd.heap.size, 0, none⟩ 1 1 (by decide) [.string x.1, .int .i64 k, .int .i64 z, .string s, .slice A li ci, .slice KA lk ck] rfl rfl HNEWS.out HONE.out (by unfold maxLen; omega) (by omega) HSZ.out ?_; intro v' w' hown' hg' hf')
        have hpush := Els.push (x := x) ArgC.stays HE.out HB0.out (by have := HSZ.out; omega) HX.out (news := [.string x.1, .int .i64 k, .int .i64 z, .string s, .slice A li ci, .slice KA lk ck]) (fun j hj => rfl) (ArgV.cong (Nat.le_refl _)) (by rw [← HLL.out]; exact hown') (by rw [← HLL.out]; exact hg') (by rw [← HLL.out]; exact hf')
        have HE2 := Lib.hid hpush.1
        have HT2 : Hid (Tw p w.heap.size w w') := Lib.hid ((hr.out.2.2.2.2.trans (HTD.out.mono hr.out.2.2.2.2.size)).trans (.of hpush.2))
        have HP2 := Lib.hid (HPD.out.same (hpush.2.mono (by omega)))
        clear hpush hown' hg' hf'
        go_roundw
        case rel => exact ⟨l ++ [x], ts', _, f', m', by rw [List.length_append, List.length_singleton]; omega, Lib.hid ⟨HD3.out, by have := hr.out.2.1; omega, HE2.out, HP2.out, HT2.out⟩⟩
        case measure => rw [HP2.out.tlen, hr.out.2.2.2.1.tlen]; exact hlt3
      · skip
        have hz0 : ((ll : Int) == 0) = false := by rw [beq_eq_false_iff_ne]; omega
        have HC := Lib.hid (ptakeSign_b hr.out.2.2.2.1 cl _ hsg)
        clear hz hsg
        go_wp2_with fail
        refine HC.out.mono ?_
        rintro e wa ⟨rfl, hp2, ht2⟩
        have HPC : Hid (PSt wa p tr m) := Lib.hid hp2
        have HTC := Lib.hid ht2
        clear hp2 ht2 HC
        go_wp2_with fail
        refine (pisName_any HPC.out).mono ?_
        rintro e wb ⟨rfl, hb⟩
        have HPB := Lib.hid (HPC.out.stay hb)
        have HTB := Lib.hid (HTC.out.step HTC.out.size (.of hb))
        clear hb
        go_wp2_with fail
        refine (pbegin_any HPB.out (isNm tr) l.length most _ _ (by have := HLL.out; omega) HY.out).mono ?_
        rintro e wc (⟨hbg, rfl, hb⟩ | ⟨x, hbg, rfl, ht⟩)
        rotate_left
        · have HD2 : Hid (R = .error x) := Lib.hid (by rw [HD.out, exB_er hbg])
          have HT2 := Lib.hid (hr.out.2.2.2.2.step hr.out.2.2.2.2.size (HTB.out.step HTB.out.size ht))
          clear hbg ht
          exact ⟨rfl, .inr ⟨x, HD2.out, rfl, HT2.out⟩⟩
        obtain ⟨hnm, hlm2⟩ := bgR_lt hbg hlm
        have HD2 : Hid (R = exB (el tr) fun q => bls cl.data.toList most el f' (l ++ [q.1]) q.2) := Lib.hid (by rw [HD.out, exB_ok hbg])
        have HPB2 := Lib.hid (HPB.out.stay hb)
        have HTB2 := Lib.hid (HTB.out.step HTB.out.size (.of hb))
        have HNM := Lib.hid hnm
        clear hbg hb hnm
        go_wp2_with fail
        refine (HEL.out _ tr m HPB2.out HNM.out).mono ?_
        rintro e wd (⟨x, ts', v, m', hre, rfl, hx, hp, ht⟩ | ⟨x, hre, rfl, ht⟩)
        rotate_left
        · have HD3 : Hid (R = .error x) := Lib.hid (by rw [HD2.out, exB_er hre])
          have HT3 := Lib.hid (hr.out.2.2.2.2.step hr.out.2.2.2.2.size (HTB2.out.step HTB2.out.size ht))
          clear hre ht
          exact ⟨rfl, .inr ⟨x, HD3.out, rfl, HT3.out⟩⟩
        have HD3 : Hid (R = bls cl.data.toList most el f' (l ++ [x]) ts') := Lib.hid (by rw [HD2.out, exB_ok hre])
        have hlt3 := HLT.out tr x ts' HPB2.out.good HNM.out hre
        obtain ⟨A, KA, ci, ck, k, li, lk, s, z, rfl, hxc⟩ := hx.shape
        have HTD := Lib.hid (HTB2.out.step HTB2.out.size ht)
        have hE := hr.out.2.2.1.tw ArgC.stays hpw HTD.out
        have hws : w.heap.size ≤ wc.heap.size := Nat.le_trans hr.out.2.2.2.2.size HTB2.out.size
        have hwd : wc.heap.size ≤ wd.heap.size := ht.size
        have hxS := ArgC.stays.kept (w' := wd) (S' := fun b => w.heap.size ≤ b ∧ b < wd.heap.size ∧ (Value.slice AL l.length c).ownBlock ≠ some b) hxc (fun _ _ => rfl) (fun b hb => ⟨by have := hb.1; omega, hb.2, fun e => by have h8 := (hr.out.2.2.1.own).lt b e; have h9 := HTB2.out.size; have := hb.1; omega⟩)
        have HX := Lib.hid hxS
        have HPD := Lib.hid hp
        have HE := Lib.hid hE
        have b0 : Below wd.heap.size wd (wd.alloc (.cells #[.string x.1, .int .i64 k, .int .i64 z, .string s, .slice A li ci, .slice KA lk ck] 111 (0, 0))) := below_new _ _
        have HB0 := Lib.hid b0
        have HOWN : Hid ((wd.alloc (.cells #[.string x.1, .int .i64 k, .int .i64 z, .string s, .slice A li ci, .slice KA lk ck] 111 (0, 0))).ownsRow w.heap.size 111 6 (.slice AL ll c) ll cells) := Lib.hid (by
          have h8 := own_kept hE.own (fun g hg => b0.block g hg)
          rw [← HLL.out] at h8; exact h8)
        have HNEWS : Hid (∀ (j : Nat) (u : Value), ([.string x.1, .int .i64 k, .int .i64 z, .string s, .slice A li ci, .slice KA lk ck] : List Value)[j]? = some u → (wd.alloc (.cells #[.string x.1, .int .i64 k, .int .i64 z, .string s, .slice A li ci, .slice KA lk ck] 111 (0, 0))).cell? ((⟨wd.heap.size, 0, none⟩ : Addr).add j) = some u) := Lib.hid (cells_at wd [.string x.1, .int .i64 k, .int .i64 z, .string s, .slice A li ci, .slice KA lk ck] 111)
        have HONE : Hid (∀ u ∈ ([.string x.1, .int .i64 k, .int .i64 z, .string s, .slice A li ci, .slice KA lk ck] : List Value), u.oneCell' = true) := Lib.hid (by intro u hu; simp only [List.mem_cons, List.not_mem_nil, or_false] at hu; rcases hu with rfl | rfl | rfl | rfl | rfl | rfl <;> rfl)
        have HSZ : Hid (w.heap.size ≤ (wd.alloc (.cells #[.string x.1, .int .i64 k, .int .i64 z, .string s, .slice A li ci, .slice KA lk ck] 111 (0, 0))).heap.size) := Lib.hid (by rw [World.size_alloc]; omega)
        clear hre ht hx hxc hp hE hxS b0
        go_wp2_with (at_builtin; refine wpList_append_fresh _ rfl _ _ 106 rfl w.heap.size 111 _ 6 96 Tryz.underlying106 infoArg rfl (by decide) _ ll cells rfl HOWN.out ⟨wd.heap.size, 0, none⟩ 1 1 (by decide) [.string x.1, .int .i64 k, .int .i64 z, .string s, .slice A li ci, .slice KA lk ck] rfl rfl HNEWS.out HONE.out (by unfold maxLen; omega) (by omega) HSZ.out ?_; intro v' w' hown' hg' hf')
        have hpush := Els.push (x := x) ArgC.stays HE.out HB0.out (by have := HSZ.out; omega) HX.out (news := [.string x.1, .int .i64 k, .int .i64 z, .string s, .slice A li ci, .slice KA lk ck]) (fun j hj => rfl) (ArgV.cong (Nat.le_refl _)) (by rw [← HLL.out]; exact hown') (by rw [← HLL.out]; exact hg') (by rw [← HLL.out]; exact hf')
        have HE2 := Lib.hid hpush.1
        have HT2 : Hid (Tw p w.heap.size w w') := Lib.hid ((hr.out.2.2.2.2.trans (HTD.out.mono hr.out.2.2.2.2.size)).trans (.of hpush.2))
        have HP2 := Lib.hid (HPD.out.same (hpush.2.mono (by omega)))
        clear hpush hown' hg' hf'
        go_roundw
        case rel => exact ⟨l ++ [x], ts', _, f', m', by rw [List.length_append, List.length_singleton]; omega, Lib.hid ⟨HD3.out, by have := hr.out.2.1; omega, HE2.out, HP2.out, HT2.out⟩⟩
        case measure => rw [HP2.out.tlen, hr.out.2.2.2.1.tlen]; exact hlt3
end Go.Proofs.YtajljnehlncjhaaGreatDoor
namespace Go.Proofs.YtajljnehlncjhaaGreatDoor
open Go.RowKit
def drs (el : List Tk → Except Er (DirT × List Tk)) : Nat → List DirT → List Tk → Except Er (List DirT × List Tk)
  | 0, _, _ => .error (0, 99)
  | f + 1, l, ts => if isSg [64] ts = false then .ok (l, ts) else exB (bgR true l.length 16 ts) fun _ => exB (el ts) fun q => drs el f (l ++ [q.1]) q.2
theorem drs_succ (el : List Tk → Except Er (DirT × List Tk)) (f : Nat) (l : List DirT) (ts : List Tk) : drs el (f + 1) l ts = if isSg [64] ts = false then .ok (l, ts) else exB (bgR true l.length 16 ts) fun _ => exB (el ts) fun q => drs el f (l ++ [q.1]) q.2 := rfl
def drsR (el : List Tk → Except Er (DirT × List Tk)) (ts : List Tk) : Except Er (List DirT × List Tk) := drs el (ts.length + 1) [] ts
theorem infoDir : (Tryz.prog.info? 108).map (fun i => (i.zero, i.size, i.bytes)) = some (some (.agg #[.string ⟨#[]⟩, .slice none 0 0]), 2, 40) := by kernel_rfl
set_option maxRecDepth 100000 in
set_option maxHeartbeats 8000000 in
theorem pdirectives_any (p : Nat) (el : List Tk → Except Er (DirT × List Tk)) (hel : ∀ (W : World) (ts : List Tk) (m : Nat), PSt W p ts m → isSg [64] ts = true → Calls Tryz.prog 137 #[pP p] W (WPost DirV W p (el ts)))
    (hlt : ∀ (ts : List Tk) (x : DirT) (ts' : List Tk), Good ts → isSg [64] ts = true → el ts = .ok (x, ts') → ts'.length < ts.length) (w : World) (ts : List Tk) (n : Nat) (h : PSt w p ts n) :
    Calls Tryz.prog 89 #[pP p] w (WPost DirsC w p (drsR el ts)) := by
  have HV2 : Hid (drsR el ts = drs el (ts.length + 1) [] ts) := Lib.hid rfl
  have HP1 := Lib.hid h
  have hpw := h.lt
  have HEL := Lib.hid hel
  have HLT := Lib.hid hlt
  clear h hel hlt
  generalize drsR el ts = R at *
  go_enter Tryz.func89, Tryz.ntmps89
  go_wp2_with fail
  go_loopw [3] (fun u wr => ∃ (l : List DirT) (tr : List Tk) (cells : List Value) (f m : Nat), l.length ≤ 16 ∧ Hid (R = drs el f l tr ∧ tr.length < f ∧ Els 108 2 DirC wr w.heap.size u cells l ∧ PSt wr p tr m ∧ Tw p w.heap.size w wr)) (fun _ wr => tlen p wr)
  case atStart => exact ⟨[], ts, [], _, n, Nat.zero_le _, Lib.hid ⟨HV2.out, Nat.lt_succ_self _, Els.nil _ _ _ _ _, HP1.out, .refl _ _ _⟩⟩
  case round =>
    obtain ⟨l, tr, cells, f, m, hlm, hr⟩ := hrel
    obtain ⟨AL, c, hu⟩ := hr.out.2.2.1.slice
    subst hu
    have hlb : (l.length : Int) ≤ 16 := by omega
    obtain ⟨f', hf'⟩ : ∃ f', f = f' + 1 := ⟨f - 1, by have := hr.out.2.1; omega⟩
    subst hf'
    obtain ⟨ll, hll⟩ : ∃ ll, ll = l.length := ⟨_, rfl⟩
    rw [← hll] at hlb
    have HLL := Lib.hid hll
    have hc0 := pisSign_any hr.out.2.2.2.1 ⟨#[64]⟩
    cases hsg : isSg [64] tr with
    | false =>
      have HD : Hid (R = .ok (l, tr)) := Lib.hid (hr.out.1.trans (by rw [drs_succ, if_pos hsg]))
      rw [show isSg (⟨#[64]⟩ : ByteArray).data.toList tr = false from hsg] at hc0
      have HC := Lib.hid hc0
      clear hc0 hsg hll
      rw [← HLL.out]
      go_wp2_with fail
      refine HC.out.mono ?_
      rintro e w2 ⟨rfl, hb⟩
      have HP2 := Lib.hid (hr.out.2.2.2.1.stay hb)
      have HT2 := Lib.hid (hr.out.2.2.2.2.step hr.out.2.2.2.2.size (.of hb))
      have HE2 := Lib.hid (hr.out.2.2.1.tw DirC.stays hpw (.of hb))
      clear hb
      go_wp2_with fail
      go_ret
      refine .inl ⟨l, _, _, m, HD.out, rfl, ?_, HP2.out, HT2.out⟩
      have := HE2.out.read (bytes := 40) DirC.stays (by have := HLL.out; unfold big; omega)
      rw [HLL.out]
      exact this
    | true =>
      have HD : Hid (R = exB (bgR true l.length 16 tr) fun _ => exB (el tr) fun q => drs el f' (l ++ [q.1]) q.2) := Lib.hid (hr.out.1.trans (by rw [drs_succ, if_neg (by rw [hsg]; decide)]))
      rw [show isSg (⟨#[64]⟩ : ByteArray).data.toList tr = true from hsg] at hc0
      have HC := Lib.hid hc0
      have HNM := Lib.hid hsg
      clear hc0 hsg
      rw [← hll]
      clear hll
      go_wp2_with fail
      refine HC.out.mono ?_
      rintro e wb ⟨rfl, hb⟩
      have HPB := Lib.hid (hr.out.2.2.2.1.stay hb)
      have HTB : Hid (Tw p wr.heap.size wr wb) := Lib.hid (.of hb)
      clear hb
      go_wp2_with fail
      refine (pbegin_any HPB.out true l.length 16 _ _ (by have := HLL.out; omega) rfl).mono ?_
      rintro e wc (⟨hbg, rfl, hb⟩ | ⟨x, hbg, rfl, ht⟩)
      rotate_left
      · have HD2 : Hid (R = .error x) := Lib.hid (by rw [HD.out, exB_er hbg])
        have HT2 := Lib.hid (hr.out.2.2.2.2.step hr.out.2.2.2.2.size (HTB.out.step HTB.out.size ht))
        clear hbg ht
        exact ⟨rfl, .inr ⟨x, HD2.out, rfl, HT2.out⟩⟩
      obtain ⟨hnm, hlm2⟩ := bgR_lt hbg hlm
      have HD2 : Hid (R = exB (el tr) fun q => drs el f' (l ++ [q.1]) q.2) := Lib.hid (by rw [HD.out, exB_ok hbg])
      have HPB2 := Lib.hid (HPB.out.stay hb)
      have HTB2 := Lib.hid (HTB.out.step HTB.out.size (.of hb))
      clear hbg hb hnm
      go_wp2_with fail
      refine (HEL.out _ tr m HPB2.out HNM.out).mono ?_
      rintro e wd (⟨x, ts', v, m', hre, rfl, hx, hp, ht⟩ | ⟨x, hre, rfl, ht⟩)
      rotate_left
      · have HD3 : Hid (R = .error x) := Lib.hid (by rw [HD2.out, exB_er hre])
        have HT3 := Lib.hid (hr.out.2.2.2.2.step hr.out.2.2.2.2.size (HTB2.out.step HTB2.out.size ht))
        clear hre ht
        exact ⟨rfl, .inr ⟨x, HD3.out, rfl, HT3.out⟩⟩
      have HD3 : Hid (R = drs el f' (l ++ [x]) ts') := Lib.hid (by rw [HD2.out, exB_ok hre])
      have hlt3 := HLT.out tr x ts' HPB2.out.good HNM.out hre
      obtain ⟨A1, d1, rfl, hxc⟩ := hx.shape
      have HTD := Lib.hid (HTB2.out.step HTB2.out.size ht)
      have hE := hr.out.2.2.1.tw DirC.stays hpw HTD.out
      have hws : w.heap.size ≤ wc.heap.size := Nat.le_trans hr.out.2.2.2.2.size HTB2.out.size
      have hwd : wc.heap.size ≤ wd.heap.size := ht.size
      have hxS := DirC.stays.kept (w' := wd) (S' := fun b => w.heap.size ≤ b ∧ b < wd.heap.size ∧ (Value.slice AL l.length c).ownBlock ≠ some b) hxc (fun _ _ => rfl) (fun b hb => ⟨by have := hb.1; omega, hb.2, fun e => by have h8 := (hr.out.2.2.1.own).lt b e; have h9 := HTB2.out.size; have := hb.1; omega⟩)
      have HX := Lib.hid hxS
      have HPD := Lib.hid hp
      have HE := Lib.hid hE
      have b0 : Below wd.heap.size wd (wd.alloc (.cells #[.string x.name, .slice A1 x.args.length d1] 108 (0, 0))) := below_new _ _
      have HB0 := Lib.hid b0
      have HOWN : Hid ((wd.alloc (.cells #[.string x.name, .slice A1 x.args.length d1] 108 (0, 0))).ownsRow w.heap.size 108 2 (.slice AL ll c) ll cells) := Lib.hid (by
        have h8 := own_kept hE.own (fun g hg => b0.block g hg)
        rw [← HLL.out] at h8; exact h8)
      have HNEWS : Hid (∀ (j : Nat) (u : Value), ([.string x.name, .slice A1 x.args.length d1] : List Value)[j]? = some u → (wd.alloc (.cells #[.string x.name, .slice A1 x.args.length d1] 108 (0, 0))).cell? ((⟨wd.heap.size, 0, none⟩ : Addr).add j) = some u) := Lib.hid (cells_at wd [.string x.name, .slice A1 x.args.length d1] 108)
      have HONE : Hid (∀ u ∈ ([.string x.name, .slice A1 x.args.length d1] : List Value), u.oneCell' = true) := Lib.hid (by intro u hu; simp only [List.mem_cons, List.not_mem_nil, or_false] at hu; rcases hu with rfl | rfl <;> rfl)
      have HSZ : Hid (w.heap.size ≤ (wd.alloc (.cells #[.string x.name, .slice A1 x.args.length d1] 108 (0, 0))).heap.size) := Lib.hid (by rw [World.size_alloc]; omega)
      clear hre ht hx hxc hp hE hxS b0
      go_wp2_with (at_builtin; refine wpList_append_fresh _ rfl _ _ 40 rfl w.heap.size 108 _ 2 40 Tryz.underlying40 infoDir rfl (by decide) _ ll cells rfl HOWN.out ⟨wd.heap.size, 0, none⟩ 1 1 (by decide) [.string x.name, .slice A1 x.args.length d1] rfl rfl HNEWS.out HONE.out (by unfold maxLen; omega) (by omega) HSZ.out ?_; intro v' w' hown' hg' hf')
      have hpush := Els.push (x := x) DirC.stays HE.out HB0.out (by have := HSZ.out; omega) HX.out (news := [.string x.name, .slice A1 x.args.length d1]) (fun j hj => rfl) (DirV.cong (Nat.le_refl _)) (by rw [← HLL.out]; exact hown') (by rw [← HLL.out]; exact hg') (by rw [← HLL.out]; exact hf')
      have HE2 := Lib.hid hpush.1
      have HT2 : Hid (Tw p w.heap.size w w') := Lib.hid ((hr.out.2.2.2.2.trans (HTD.out.mono hr.out.2.2.2.2.size)).trans (.of hpush.2))
      have HP2 := Lib.hid (HPD.out.same (hpush.2.mono (by omega)))
      clear hpush hown' hg' hf'
      go_roundw
      case rel => exact ⟨l ++ [x], ts', _, f', m', by rw [List.length_append, List.length_singleton]; omega, Lib.hid ⟨HD3.out, by have := hr.out.2.1; omega, HE2.out, HP2.out, HT2.out⟩⟩
      case measure => rw [HP2.out.tlen, hr.out.2.2.2.1.tlen]; exact hlt3
end Go.Proofs.YtajljnehlncjhaaGreatDoor
namespace Go.Proofs.YtajljnehlncjhaaGreatDoor
open Go.RowKit
def ValW (w : World) (S : Nat → Prop) (v : Value) (t : VT) : Prop := RdS w S v t
def argP (vel : List Tk → Except Er (VT × List Tk)) (ts : List Tk) : Except Er ((ByteArray × VT) × List Tk) := exB (nmR ts) fun q => exB (sgR [58] q.2) fun ts1 => exB (vel ts1) fun r => .ok ((q.1, r.1), r.2)
def memP (del : List Tk → Except Er (DirT × List Tk)) (ts : List Tk) : Except Er (MemT × List Tk) := exB (nmR ts) fun q => exB (drsR del q.2) fun r => .ok (⟨q.1, r.1⟩, r.2)
set_option maxRecDepth 100000 in
set_option maxHeartbeats 8000000 in
theorem pargument_any (p : Nat) (vel : List Tk → Except Er (VT × List Tk)) (hvel : ∀ (W : World) (ts : List Tk) (m : Nat), PSt W p ts m → Calls Tryz.prog 141 #[pP p] W (WPost ValW W p (vel ts))) (w : World) (ts : List Tk) (n : Nat) (h : PSt w p ts n) :
    Calls Tryz.prog 163 #[pP p] w (WPost ArgV w p (argP vel ts)) := by
  have HVEL := Lib.hid hvel
  clear hvel
  have HD0 : Hid (argP vel ts = argP vel ts) := Lib.hid rfl
  have hpw := h.lt
  have hhp : p ≠ w.heap.size := by omega
  have HP0 : Hid (PSt (w.alloc (.cells #[.string ⟨#[]⟩, .int .i64 0, .int .i64 0, .string ⟨#[]⟩, .slice none 0 0, .slice none 0 0] 111 (0, 0))) p ts n) := Lib.hid (h.stay (below_new _ _))
  have HR0 : Hid (Bk (w.alloc (.cells #[.string ⟨#[]⟩, .int .i64 0, .int .i64 0, .string ⟨#[]⟩, .slice none 0 0, .slice none 0 0] 111 (0, 0))) w.heap.size #[.string ⟨#[]⟩, .int .i64 0, .int .i64 0, .string ⟨#[]⟩, .slice none 0 0, .slice none 0 0] 111) := Lib.hid (Bk.new _ _ _)
  have HT0 : Hid (Tw p w.heap.size w (w.alloc (.cells #[.string ⟨#[]⟩, .int .i64 0, .int .i64 0, .string ⟨#[]⟩, .slice none 0 0, .slice none 0 0] 111 (0, 0)))) := Lib.hid (.of (below_new _ _))
  have hsz0 : w.heap.size < (w.alloc (.cells #[.string ⟨#[]⟩, .int .i64 0, .int .i64 0, .string ⟨#[]⟩, .slice none 0 0, .slice none 0 0] 111 (0, 0))).heap.size := by simp
  clear h
  have HDU : Hid (argP vel ts = exB (nmR ts) fun q => exB (sgR [58] q.2) fun ts1 => exB (vel ts1) fun r => .ok ((q.1, r.1), r.2)) := Lib.hid rfl
  replace HD0 := HDU
  clear HDU
  generalize argP vel ts = R at *
  go_enter Tryz.func163, Tryz.ntmps163
  go_wp2_with fail
  refine (pname_any HP0.out).mono ?_
  rintro e w1 (⟨nm, ts1, v, hr, rfl, ⟨rfl, hnz⟩, hp, ht⟩ | ⟨x, hr, rfl, ht⟩)
  rotate_left
  · exact ⟨rfl, .inr ⟨_, HD0.out.trans (exB_er hr), rfl, HT0.out.step HT0.out.size ht⟩⟩
  have HD1 := Lib.hid (HD0.out.trans (exB_ok hr))
  have HT1 := Lib.hid (HT0.out.step HT0.out.size ht)
  have HR1 := Lib.hid (HR0.out.far ht (by omega))
  have hsz1 : w.heap.size < w1.heap.size := Nat.lt_of_lt_of_le hsz0 ht.size
  have HP1 := Lib.hid hp
  have HN := Lib.hid hnz
  clear hr hp ht hnz
  go_wp2_with fail
  have ht : Tw p w1.heap.size w1 (w1.alloc (.cells #[.string nm, .int .i64 0, .int .i64 0, .string ⟨#[]⟩, .slice none 0 0, .slice none 0 0] 111 (0, 0))) := .of (below_new _ _)
  have hlv : w.heap.size < w1.heap.size := hsz1
  have hlp : p ≠ w1.heap.size := by omega
  have hlv2 : w1.heap.size < (w1.alloc (.cells #[.string nm, .int .i64 0, .int .i64 0, .string ⟨#[]⟩, .slice none 0 0, .slice none 0 0] 111 (0, 0))).heap.size := by simp
  have HT2 := Lib.hid (HT1.out.step HT1.out.size ht)
  have HR2 := Lib.hid (HR1.out.far ht (by omega))
  have HV2 : Hid (Bk (w1.alloc (.cells #[.string nm, .int .i64 0, .int .i64 0, .string ⟨#[]⟩, .slice none 0 0, .slice none 0 0] 111 (0, 0))) w1.heap.size #[.string nm, .int .i64 0, .int .i64 0, .string ⟨#[]⟩, .slice none 0 0, .slice none 0 0] 111) := Lib.hid (Bk.new _ _ _)
  have HP2 := Lib.hid (HP1.out.stay (below_new w1 (.cells #[.string nm, .int .i64 0, .int .i64 0, .string ⟨#[]⟩, .slice none 0 0, .slice none 0 0] 111 (0, 0))))
  have hsz2 : w.heap.size < (w1.alloc (.cells #[.string nm, .int .i64 0, .int .i64 0, .string ⟨#[]⟩, .slice none 0 0, .slice none 0 0] 111 (0, 0))).heap.size := by simp; omega
  clear ht
  go_wp2_with fail
  refine (psign_any HP2.out ⟨#[58]⟩).mono ?_
  rintro e w3 (⟨ts3, hr, rfl, hp, ht⟩ | ⟨x, hr, rfl, ht⟩)
  rotate_left
  · exact ⟨rfl, .inr ⟨_, HD1.out.trans (exB_er hr), rfl, HT2.out.step HT2.out.size ht⟩⟩
  have HD2 := Lib.hid (HD1.out.trans (exB_ok hr))
  have HT3 := Lib.hid (HT2.out.step HT2.out.size ht)
  have HR3 := Lib.hid (HR2.out.far ht (by omega))
  have HV3 := Lib.hid (HV2.out.far ht (by have := hlv; omega))
  have hsz3 : w.heap.size < w3.heap.size := Nat.lt_of_lt_of_le hsz2 ht.size
  replace hlv2 := Nat.lt_of_lt_of_le hlv2 ht.size
  have HP3 := Lib.hid hp
  clear hr hp ht
  go_wp2_with fail
  have hlw4 : w1.heap.size < w3.heap.size := hlv2
  refine (HVEL.out _ _ _ HP3.out).mono ?_
  rintro e w4 (⟨val, ts4, v4, m4, hr, rfl, hx, hp, ht⟩ | ⟨x, hr, rfl, ht⟩)
  rotate_left
  · exact ⟨rfl, .inr ⟨_, HD2.out.trans (exB_er hr), rfl, HT3.out.step HT3.out.size ht⟩⟩
  have HD3 := Lib.hid (HD2.out.trans (exB_ok hr))
  have HT4 := Lib.hid (HT3.out.step HT3.out.size ht)
  have HR4 := Lib.hid (HR3.out.far ht (by omega))
  have HV4 := Lib.hid (HV3.out.far ht (by have := hlv; omega))
  have hsz4 : w.heap.size < w4.heap.size := Nat.lt_of_lt_of_le hsz3 ht.size
  replace hlv2 := Nat.lt_of_lt_of_le hlv2 ht.size
  have HP4 := Lib.hid hp
  have hlo4 : w3.heap.size ≤ w4.heap.size := ht.size
  obtain ⟨k, z, s, A, li, ci, KA, lk, ck, hv1⟩ := RdS.form hx
  subst hv1
  have HX := Lib.hid hx
  clear hr hp ht hx
  have x0 := HV4.out.cell 0 _ rfl
  have fx0 := HV4.out.frz 0
  have x1 := HV4.out.cell 1 _ rfl
  have fx1 := HV4.out.frz 1
  have x2 := HV4.out.cell 2 _ rfl
  have fx2 := HV4.out.frz 2
  have x3 := HV4.out.cell 3 _ rfl
  have fx3 := HV4.out.frz 3
  have x4 := HV4.out.cell 4 _ rfl
  have fx4 := HV4.out.frz 4
  have x5 := HV4.out.cell 5 _ rfl
  have fx5 := HV4.out.frz 5
  have y0 := HR4.out.cell 0 _ rfl
  have fy0 := HR4.out.frz 0
  have y1 := HR4.out.cell 1 _ rfl
  have fy1 := HR4.out.frz 1
  have y2 := HR4.out.cell 2 _ rfl
  have fy2 := HR4.out.frz 2
  have y3 := HR4.out.cell 3 _ rfl
  have fy3 := HR4.out.frz 3
  have y4 := HR4.out.cell 4 _ rfl
  have fy4 := HR4.out.frz 4
  have y5 := HR4.out.cell 5 _ rfl
  have fy5 := HR4.out.frz 5
  have hne : w.heap.size ≠ w1.heap.size := by omega
  have hne2 : w1.heap.size ≠ w.heap.size := by omega
  go_wp2_with fail
  clear x0 fx0 x1 fx1 x2 fx2 x3 fx3 x4 fx4 x5 fx5
  clear y0 fy0 y1 fy1 y2 fy2 y3 fy3 y4 fy4 y5 fy5
  have HT5 : Hid (Tw p w.heap.size w (((((w4.setCell ⟨w1.heap.size, 1, none⟩ (.int .i64 k)).setCell ⟨w1.heap.size, 2, none⟩ (.int .i64 z)).setCell ⟨w1.heap.size, 3, none⟩ (.string s)).setCell ⟨w1.heap.size, 4, none⟩ (.slice A li ci)).setCell ⟨w1.heap.size, 5, none⟩ (.slice KA lk ck))) := Lib.hid (((((HT4.out.setNew (by omega) 1 (.int .i64 k)).setNew (by omega) 2 (.int .i64 z)).setNew (by omega) 3 (.string s)).setNew (by omega) 4 (.slice A li ci)).setNew (by omega) 5 (.slice KA lk ck))
  have HR5 : Hid (Bk (((((w4.setCell ⟨w1.heap.size, 1, none⟩ (.int .i64 k)).setCell ⟨w1.heap.size, 2, none⟩ (.int .i64 z)).setCell ⟨w1.heap.size, 3, none⟩ (.string s)).setCell ⟨w1.heap.size, 4, none⟩ (.slice A li ci)).setCell ⟨w1.heap.size, 5, none⟩ (.slice KA lk ck)) w.heap.size #[.string ⟨#[]⟩, .int .i64 0, .int .i64 0, .string ⟨#[]⟩, .slice none 0 0, .slice none 0 0] 111) := Lib.hid (((((HR4.out.off (by omega) 1 (.int .i64 k)).off (by omega) 2 (.int .i64 z)).off (by omega) 3 (.string s)).off (by omega) 4 (.slice A li ci)).off (by omega) 5 (.slice KA lk ck))
  have HV5 : Hid (Bk (((((w4.setCell ⟨w1.heap.size, 1, none⟩ (.int .i64 k)).setCell ⟨w1.heap.size, 2, none⟩ (.int .i64 z)).setCell ⟨w1.heap.size, 3, none⟩ (.string s)).setCell ⟨w1.heap.size, 4, none⟩ (.slice A li ci)).setCell ⟨w1.heap.size, 5, none⟩ (.slice KA lk ck)) w1.heap.size #[.string nm, .int .i64 k, .int .i64 z, .string s, .slice A li ci, .slice KA lk ck] 111) := Lib.hid (((((HV4.out.set 1 (.int .i64 k)).set 2 (.int .i64 z)).set 3 (.string s)).set 4 (.slice A li ci)).set 5 (.slice KA lk ck))
  have HP5 := Lib.hid (HP4.out.same ((((((Below.refl (p + 1) w4).setCell (p := ⟨w1.heap.size, 1, none⟩) (by show p + 1 ≤ w1.heap.size; omega) (.int .i64 k)).setCell (p := ⟨w1.heap.size, 2, none⟩) (by show p + 1 ≤ w1.heap.size; omega) (.int .i64 z)).setCell (p := ⟨w1.heap.size, 3, none⟩) (by show p + 1 ≤ w1.heap.size; omega) (.string s)).setCell (p := ⟨w1.heap.size, 4, none⟩) (by show p + 1 ≤ w1.heap.size; omega) (.slice A li ci)).setCell (p := ⟨w1.heap.size, 5, none⟩) (by show p + 1 ≤ w1.heap.size; omega) (.slice KA lk ck)))
  have hsz5 : w.heap.size < (((((w4.setCell ⟨w1.heap.size, 1, none⟩ (.int .i64 k)).setCell ⟨w1.heap.size, 2, none⟩ (.int .i64 z)).setCell ⟨w1.heap.size, 3, none⟩ (.string s)).setCell ⟨w1.heap.size, 4, none⟩ (.slice A li ci)).setCell ⟨w1.heap.size, 5, none⟩ (.slice KA lk ck)).heap.size := by simp [World.setCell]; omega
  have hse5 : (((((w4.setCell ⟨w1.heap.size, 1, none⟩ (.int .i64 k)).setCell ⟨w1.heap.size, 2, none⟩ (.int .i64 z)).setCell ⟨w1.heap.size, 3, none⟩ (.string s)).setCell ⟨w1.heap.size, 4, none⟩ (.slice A li ci)).setCell ⟨w1.heap.size, 5, none⟩ (.slice KA lk ck)).heap.size = w4.heap.size := by simp [World.setCell]
  replace HX := Lib.hid (RdS.kept HX.out (w' := (((((w4.setCell ⟨w1.heap.size, 1, none⟩ (.int .i64 k)).setCell ⟨w1.heap.size, 2, none⟩ (.int .i64 z)).setCell ⟨w1.heap.size, 3, none⟩ (.string s)).setCell ⟨w1.heap.size, 4, none⟩ (.slice A li ci)).setCell ⟨w1.heap.size, 5, none⟩ (.slice KA lk ck))) (S' := fun b => w3.heap.size ≤ b ∧ b < (((((w4.setCell ⟨w1.heap.size, 1, none⟩ (.int .i64 k)).setCell ⟨w1.heap.size, 2, none⟩ (.int .i64 z)).setCell ⟨w1.heap.size, 3, none⟩ (.string s)).setCell ⟨w1.heap.size, 4, none⟩ (.slice A li ci)).setCell ⟨w1.heap.size, 5, none⟩ (.slice KA lk ck)).heap.size) (fun b hb => by rw [Below.heap_setCell _ _ _ _ (show b ≠ w1.heap.size by have := hb.1; omega), Below.heap_setCell _ _ _ _ (show b ≠ w1.heap.size by have := hb.1; omega), Below.heap_setCell _ _ _ _ (show b ≠ w1.heap.size by have := hb.1; omega), Below.heap_setCell _ _ _ _ (show b ≠ w1.heap.size by have := hb.1; omega), Below.heap_setCell _ _ _ _ (show b ≠ w1.heap.size by have := hb.1; omega)]) (fun b hb => ⟨hb.1, by rw [hse5]; exact hb.2⟩))
  generalize hW : (((((w4.setCell ⟨w1.heap.size, 1, none⟩ (.int .i64 k)).setCell ⟨w1.heap.size, 2, none⟩ (.int .i64 z)).setCell ⟨w1.heap.size, 3, none⟩ (.string s)).setCell ⟨w1.heap.size, 4, none⟩ (.slice A li ci)).setCell ⟨w1.heap.size, 5, none⟩ (.slice KA lk ck)) = wg5 at *
  clear hW
  have HZ : Hid (Bk ((((((wg5.setCell ⟨w.heap.size, 0, none⟩ (.string nm)).setCell ⟨w.heap.size, 1, none⟩ (.int .i64 k)).setCell ⟨w.heap.size, 2, none⟩ (.int .i64 z)).setCell ⟨w.heap.size, 3, none⟩ (.string s)).setCell ⟨w.heap.size, 4, none⟩ (.slice A li ci)).setCell ⟨w.heap.size, 5, none⟩ (.slice KA lk ck)) w.heap.size #[.string nm, .int .i64 k, .int .i64 z, .string s, .slice A li ci, .slice KA lk ck] 111) := Lib.hid ((((((HR5.out.set 0 (.string nm)).set 1 (.int .i64 k)).set 2 (.int .i64 z)).set 3 (.string s)).set 4 (.slice A li ci)).set 5 (.slice KA lk ck))
  have HTZ : Hid (Tw p w.heap.size w ((((((wg5.setCell ⟨w.heap.size, 0, none⟩ (.string nm)).setCell ⟨w.heap.size, 1, none⟩ (.int .i64 k)).setCell ⟨w.heap.size, 2, none⟩ (.int .i64 z)).setCell ⟨w.heap.size, 3, none⟩ (.string s)).setCell ⟨w.heap.size, 4, none⟩ (.slice A li ci)).setCell ⟨w.heap.size, 5, none⟩ (.slice KA lk ck))) := Lib.hid ((((((HT5.out.setNew (Nat.le_refl _) 0 (.string nm)).setNew (Nat.le_refl _) 1 (.int .i64 k)).setNew (Nat.le_refl _) 2 (.int .i64 z)).setNew (Nat.le_refl _) 3 (.string s)).setNew (Nat.le_refl _) 4 (.slice A li ci)).setNew (Nat.le_refl _) 5 (.slice KA lk ck))
  have HPZ := Lib.hid (HP5.out.same (((((((Below.refl (p + 1) wg5).setCell (p := ⟨w.heap.size, 0, none⟩) (by show p + 1 ≤ w.heap.size; omega) (.string nm)).setCell (p := ⟨w.heap.size, 1, none⟩) (by show p + 1 ≤ w.heap.size; omega) (.int .i64 k)).setCell (p := ⟨w.heap.size, 2, none⟩) (by show p + 1 ≤ w.heap.size; omega) (.int .i64 z)).setCell (p := ⟨w.heap.size, 3, none⟩) (by show p + 1 ≤ w.heap.size; omega) (.string s)).setCell (p := ⟨w.heap.size, 4, none⟩) (by show p + 1 ≤ w.heap.size; omega) (.slice A li ci)).setCell (p := ⟨w.heap.size, 5, none⟩) (by show p + 1 ≤ w.heap.size; omega) (.slice KA lk ck)))
  have hsez : ((((((wg5.setCell ⟨w.heap.size, 0, none⟩ (.string nm)).setCell ⟨w.heap.size, 1, none⟩ (.int .i64 k)).setCell ⟨w.heap.size, 2, none⟩ (.int .i64 z)).setCell ⟨w.heap.size, 3, none⟩ (.string s)).setCell ⟨w.heap.size, 4, none⟩ (.slice A li ci)).setCell ⟨w.heap.size, 5, none⟩ (.slice KA lk ck)).heap.size = wg5.heap.size := by simp [World.setCell]
  replace HX := Lib.hid (RdS.kept HX.out (w' := ((((((wg5.setCell ⟨w.heap.size, 0, none⟩ (.string nm)).setCell ⟨w.heap.size, 1, none⟩ (.int .i64 k)).setCell ⟨w.heap.size, 2, none⟩ (.int .i64 z)).setCell ⟨w.heap.size, 3, none⟩ (.string s)).setCell ⟨w.heap.size, 4, none⟩ (.slice A li ci)).setCell ⟨w.heap.size, 5, none⟩ (.slice KA lk ck))) (S' := fun b => w.heap.size ≤ b ∧ b < ((((((wg5.setCell ⟨w.heap.size, 0, none⟩ (.string nm)).setCell ⟨w.heap.size, 1, none⟩ (.int .i64 k)).setCell ⟨w.heap.size, 2, none⟩ (.int .i64 z)).setCell ⟨w.heap.size, 3, none⟩ (.string s)).setCell ⟨w.heap.size, 4, none⟩ (.slice A li ci)).setCell ⟨w.heap.size, 5, none⟩ (.slice KA lk ck)).heap.size) (fun b hb => by rw [Below.heap_setCell _ _ _ _ (show b ≠ w.heap.size by have := hb.1; omega), Below.heap_setCell _ _ _ _ (show b ≠ w.heap.size by have := hb.1; omega), Below.heap_setCell _ _ _ _ (show b ≠ w.heap.size by have := hb.1; omega), Below.heap_setCell _ _ _ _ (show b ≠ w.heap.size by have := hb.1; omega), Below.heap_setCell _ _ _ _ (show b ≠ w.heap.size by have := hb.1; omega), Below.heap_setCell _ _ _ _ (show b ≠ w.heap.size by have := hb.1; omega)]) (fun b hb => ⟨by have := hb.1; omega, by rw [hsez]; exact hb.2⟩))
  have z0 := HZ.out.cell 0 _ rfl
  have z1 := HZ.out.cell 1 _ rfl
  have z2 := HZ.out.cell 2 _ rfl
  have z3 := HZ.out.cell 3 _ rfl
  have z4 := HZ.out.cell 4 _ rfl
  have z5 := HZ.out.cell 5 _ rfl
  exact bodyPost_ret (v := .agg #[.string nm, .int .i64 k, .int .i64 z, .string s, .slice A li ci, .slice KA lk ck]) (by simp [results, Tryz.results163, go_sem, z0, z1, z2, z3, z4, z5]) rfl (.inl ⟨(nm, val), _, _, _, HD3.out, rfl, ⟨_, _, _, _, _, _, rfl, ⟨rfl, Nat.le_trans HN.out (by decide), HX.out⟩⟩, HPZ.out, HTZ.out⟩)
set_option maxRecDepth 100000 in
set_option maxHeartbeats 8000000 in
theorem pmember_any (p : Nat) (del : List Tk → Except Er (DirT × List Tk)) (hdel : ∀ (W : World) (ts : List Tk) (m : Nat), PSt W p ts m → isSg [64] ts = true → Calls Tryz.prog 137 #[pP p] W (WPost DirV W p (del ts))) (hdlt : ∀ (ts : List Tk) (x : DirT) (ts' : List Tk), Good ts → isSg [64] ts = true → del ts = .ok (x, ts') → ts'.length < ts.length) (w : World) (ts : List Tk) (n : Nat) (h : PSt w p ts n) :
    Calls Tryz.prog 94 #[pP p] w (WPost MemV w p (memP del ts)) := by
  have HDEL := Lib.hid hdel
  have HDLT := Lib.hid hdlt
  clear hdel hdlt
  have HD0 : Hid (memP del ts = memP del ts) := Lib.hid rfl
  have hpw := h.lt
  have hhp : p ≠ w.heap.size := by omega
  have HP0 : Hid (PSt (w.alloc (.cells #[.string ⟨#[]⟩, .slice none 0 0] 78 (0, 0))) p ts n) := Lib.hid (h.stay (below_new _ _))
  have HR0 : Hid (Bk (w.alloc (.cells #[.string ⟨#[]⟩, .slice none 0 0] 78 (0, 0))) w.heap.size #[.string ⟨#[]⟩, .slice none 0 0] 78) := Lib.hid (Bk.new _ _ _)
  have HT0 : Hid (Tw p w.heap.size w (w.alloc (.cells #[.string ⟨#[]⟩, .slice none 0 0] 78 (0, 0)))) := Lib.hid (.of (below_new _ _))
  have hsz0 : w.heap.size < (w.alloc (.cells #[.string ⟨#[]⟩, .slice none 0 0] 78 (0, 0))).heap.size := by simp
  clear h
  have HDU : Hid (memP del ts = exB (nmR ts) fun q => exB (drsR del q.2) fun r => .ok (⟨q.1, r.1⟩, r.2)) := Lib.hid rfl
  replace HD0 := HDU
  clear HDU
  generalize memP del ts = R at *
  go_enter Tryz.func94, Tryz.ntmps94
  go_wp2_with fail
  refine (pname_any HP0.out).mono ?_
  rintro e w1 (⟨nm, ts1, v, hr, rfl, ⟨rfl, hnz⟩, hp, ht⟩ | ⟨x, hr, rfl, ht⟩)
  rotate_left
  · exact ⟨rfl, .inr ⟨_, HD0.out.trans (exB_er hr), rfl, HT0.out.step HT0.out.size ht⟩⟩
  have HD1 := Lib.hid (HD0.out.trans (exB_ok hr))
  have HT1 := Lib.hid (HT0.out.step HT0.out.size ht)
  have HR1 := Lib.hid (HR0.out.far ht (by omega))
  have hsz1 : w.heap.size < w1.heap.size := Nat.lt_of_lt_of_le hsz0 ht.size
  have HP1 := Lib.hid hp
  have HN := Lib.hid hnz
  clear hr hp ht hnz
  go_wp2_with fail
  have ht : Tw p w1.heap.size w1 (w1.alloc (.cells #[.string nm, .slice none 0 0] 78 (0, 0))) := .of (below_new _ _)
  have hlv : w.heap.size < w1.heap.size := hsz1
  have hlp : p ≠ w1.heap.size := by omega
  have hlv2 : w1.heap.size < (w1.alloc (.cells #[.string nm, .slice none 0 0] 78 (0, 0))).heap.size := by simp
  have HT2 := Lib.hid (HT1.out.step HT1.out.size ht)
  have HR2 := Lib.hid (HR1.out.far ht (by omega))
  have HV2 : Hid (Bk (w1.alloc (.cells #[.string nm, .slice none 0 0] 78 (0, 0))) w1.heap.size #[.string nm, .slice none 0 0] 78) := Lib.hid (Bk.new _ _ _)
  have HP2 := Lib.hid (HP1.out.stay (below_new w1 (.cells #[.string nm, .slice none 0 0] 78 (0, 0))))
  have hsz2 : w.heap.size < (w1.alloc (.cells #[.string nm, .slice none 0 0] 78 (0, 0))).heap.size := by simp; omega
  clear ht
  go_wp2_with fail
  have hlw3 : w1.heap.size < (w1.alloc (.cells #[.string nm, .slice none 0 0] 78 (0, 0))).heap.size := hlv2
  refine (pdirectives_any p del HDEL.out HDLT.out _ _ _ HP2.out).mono ?_
  rintro e w3 (⟨dirs, ts3, v3, m3, hr, rfl, hx, hp, ht⟩ | ⟨x, hr, rfl, ht⟩)
  rotate_left
  · exact ⟨rfl, .inr ⟨_, HD1.out.trans (exB_er hr), rfl, HT2.out.step HT2.out.size ht⟩⟩
  have HD2 := Lib.hid (HD1.out.trans (exB_ok hr))
  have HT3 := Lib.hid (HT2.out.step HT2.out.size ht)
  have HR3 := Lib.hid (HR2.out.far ht (by omega))
  have HV3 := Lib.hid (HV2.out.far ht (by have := hlv; omega))
  have hsz3 : w.heap.size < w3.heap.size := Nat.lt_of_lt_of_le hsz2 ht.size
  replace hlv2 := Nat.lt_of_lt_of_le hlv2 ht.size
  have HP3 := Lib.hid hp
  have hlo3 : (w1.alloc (.cells #[.string nm, .slice none 0 0] 78 (0, 0))).heap.size ≤ w3.heap.size := ht.size
  obtain ⟨A1, d1, hv1, _, _⟩ := SlS.form hx
  subst hv1
  have HX := Lib.hid hx
  clear hr hp ht hx
  have x0 := HV3.out.cell 0 _ rfl
  have fx0 := HV3.out.frz 0
  have x1 := HV3.out.cell 1 _ rfl
  have fx1 := HV3.out.frz 1
  have y0 := HR3.out.cell 0 _ rfl
  have fy0 := HR3.out.frz 0
  have y1 := HR3.out.cell 1 _ rfl
  have fy1 := HR3.out.frz 1
  have hne : w.heap.size ≠ w1.heap.size := by omega
  have hne2 : w1.heap.size ≠ w.heap.size := by omega
  go_wp2_with fail
  clear x0 fx0 x1 fx1
  clear y0 fy0 y1 fy1
  have HT4 : Hid (Tw p w.heap.size w (w3.setCell ⟨w1.heap.size, 1, none⟩ (.slice A1 dirs.length d1))) := Lib.hid (HT3.out.setNew (by omega) 1 (.slice A1 dirs.length d1))
  have HR4 : Hid (Bk (w3.setCell ⟨w1.heap.size, 1, none⟩ (.slice A1 dirs.length d1)) w.heap.size #[.string ⟨#[]⟩, .slice none 0 0] 78) := Lib.hid (HR3.out.off (by omega) 1 (.slice A1 dirs.length d1))
  have HV4 : Hid (Bk (w3.setCell ⟨w1.heap.size, 1, none⟩ (.slice A1 dirs.length d1)) w1.heap.size #[.string nm, .slice A1 dirs.length d1] 78) := Lib.hid (HV3.out.set 1 (.slice A1 dirs.length d1))
  have HP4 := Lib.hid (HP3.out.same ((Below.refl (p + 1) w3).setCell (p := ⟨w1.heap.size, 1, none⟩) (by show p + 1 ≤ w1.heap.size; omega) (.slice A1 dirs.length d1)))
  have hsz4 : w.heap.size < (w3.setCell ⟨w1.heap.size, 1, none⟩ (.slice A1 dirs.length d1)).heap.size := by simp [World.setCell]; omega
  have hse4 : (w3.setCell ⟨w1.heap.size, 1, none⟩ (.slice A1 dirs.length d1)).heap.size = w3.heap.size := by simp [World.setCell]
  replace HX := Lib.hid (SlS.kept DirC.stays HX.out (w' := (w3.setCell ⟨w1.heap.size, 1, none⟩ (.slice A1 dirs.length d1))) (S' := fun b => (w1.alloc (.cells #[.string nm, .slice none 0 0] 78 (0, 0))).heap.size ≤ b ∧ b < (w3.setCell ⟨w1.heap.size, 1, none⟩ (.slice A1 dirs.length d1)).heap.size) (fun b hb => by rw [Below.heap_setCell _ _ _ _ (show b ≠ w1.heap.size by have := hb.1; omega)]) (fun b hb => ⟨hb.1, by rw [hse4]; exact hb.2⟩))
  generalize hW : (w3.setCell ⟨w1.heap.size, 1, none⟩ (.slice A1 dirs.length d1)) = wg4 at *
  clear hW
  have HZ : Hid (Bk ((wg4.setCell ⟨w.heap.size, 0, none⟩ (.string nm)).setCell ⟨w.heap.size, 1, none⟩ (.slice A1 dirs.length d1)) w.heap.size #[.string nm, .slice A1 dirs.length d1] 78) := Lib.hid ((HR4.out.set 0 (.string nm)).set 1 (.slice A1 dirs.length d1))
  have HTZ : Hid (Tw p w.heap.size w ((wg4.setCell ⟨w.heap.size, 0, none⟩ (.string nm)).setCell ⟨w.heap.size, 1, none⟩ (.slice A1 dirs.length d1))) := Lib.hid ((HT4.out.setNew (Nat.le_refl _) 0 (.string nm)).setNew (Nat.le_refl _) 1 (.slice A1 dirs.length d1))
  have HPZ := Lib.hid (HP4.out.same (((Below.refl (p + 1) wg4).setCell (p := ⟨w.heap.size, 0, none⟩) (by show p + 1 ≤ w.heap.size; omega) (.string nm)).setCell (p := ⟨w.heap.size, 1, none⟩) (by show p + 1 ≤ w.heap.size; omega) (.slice A1 dirs.length d1)))
  have hsez : ((wg4.setCell ⟨w.heap.size, 0, none⟩ (.string nm)).setCell ⟨w.heap.size, 1, none⟩ (.slice A1 dirs.length d1)).heap.size = wg4.heap.size := by simp [World.setCell]
  replace HX := Lib.hid (SlS.kept DirC.stays HX.out (w' := ((wg4.setCell ⟨w.heap.size, 0, none⟩ (.string nm)).setCell ⟨w.heap.size, 1, none⟩ (.slice A1 dirs.length d1))) (S' := fun b => w.heap.size ≤ b ∧ b < ((wg4.setCell ⟨w.heap.size, 0, none⟩ (.string nm)).setCell ⟨w.heap.size, 1, none⟩ (.slice A1 dirs.length d1)).heap.size) (fun b hb => by rw [Below.heap_setCell _ _ _ _ (show b ≠ w.heap.size by have := hb.1; omega), Below.heap_setCell _ _ _ _ (show b ≠ w.heap.size by have := hb.1; omega)]) (fun b hb => ⟨by have := hb.1; omega, by rw [hsez]; exact hb.2⟩))
  have z0 := HZ.out.cell 0 _ rfl
  have z1 := HZ.out.cell 1 _ rfl
  exact bodyPost_ret (v := .agg #[.string nm, .slice A1 dirs.length d1]) (by simp [results, Tryz.results94, go_sem, z0, z1]) rfl (.inl ⟨⟨nm, dirs⟩, _, _, _, HD2.out, rfl, ⟨_, _, rfl, ⟨rfl, Nat.le_trans HN.out (by decide), HX.out⟩⟩, HPZ.out, HTZ.out⟩)
end Go.Proofs.YtajljnehlncjhaaGreatDoor
