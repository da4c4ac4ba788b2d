
/-
  Texts joined: E5Mem F4 F5 E5Fld.
-/
import Derived.Test.YtajljnehlncjhaaGreatDoorJn6
import Derived.Test.YtajljnehlncjhaaGreatDoorJn12
import Derived.Test.YtajljnehlncjhaaGreatDoorJn7
namespace Go.Proofs.YtajljnehlncjhaaGreatDoor
open Go.RowKit
theorem infoMem : (Tryz.prog.info? 78).map (fun i => (i.zero, i.size, i.bytes)) = some (some (.agg #[.string ⟨#[]⟩, .slice none 0 0]), 2, 40) := by kernel_rfl
set_option maxRecDepth 100000 in
set_option maxHeartbeats 8000000 in
theorem blockMem_any (p : Nat) (el : List Tk → Except Er (MemT × List Tk)) (hel : ∀ (W : World) (ts : List Tk) (m : Nat), PSt W p ts m → isNm ts = true → Calls Tryz.prog 94 #[pP p] W (WPost MemV W p (el ts)))
    (hlt : ∀ (ts : List Tk) (x : MemT) (ts' : List Tk), Good ts → isNm ts = true → el ts = .ok (x, ts') → ts'.length < ts.length) (w : World) (ts : List Tk) (n : Nat) (h : PSt w p ts n) (op cl : ByteArray) (most : Nat) (hm : most ≤ 64) (y : Int) (hy : y = most) :
    Calls Tryz.prog 93 #[pP p, .string op, .int .i64 y, .func (.func 94) #[pP p] #[], .string cl] w (WPost (SlS 2 40 MemC) w p (blR op.data.toList cl.data.toList most el ts)) := by
  have HS := Lib.hid (psign_any h op)
  have HV : Hid (blR op.data.toList cl.data.toList most el ts = exB (sgR op.data.toList ts) fun ts1 => bls cl.data.toList most el (ts1.length + 1) [] ts1) := Lib.hid rfl
  have HEL := Lib.hid hel
  have HLT := Lib.hid hlt
  have HY := Lib.hid hy
  have hpw := h.lt
  clear h hel hlt hy
  generalize blR op.data.toList cl.data.toList most el ts = R at *
  go_enter Tryz.func93, Tryz.ntmps93
  go_wp2_with fail
  refine HS.out.mono ?_
  rintro e w1 (⟨ts1, hr, rfl, hp, ht⟩ | ⟨x, hr, rfl, ht⟩)
  rotate_left
  · have HV2 : Hid (R = .error x) := Lib.hid (by rw [HV.out, exB_er hr])
    have HT := Lib.hid ht
    clear hr ht
    exact ⟨rfl, .inr ⟨x, HV2.out, rfl, HT.out⟩⟩
  have HV2 : Hid (R = bls cl.data.toList most el (ts1.length + 1) [] ts1) := Lib.hid (by rw [HV.out, exB_ok hr])
  have HP1 := Lib.hid hp
  have HT1 := Lib.hid ht
  clear hr hp ht HV HS
  go_wp2_with fail
  go_loopw [11] (fun u wr => ∃ (l : List MemT) (tr : List Tk) (cells : List Value) (f m : Nat), l.length ≤ most ∧ Hid (R = bls cl.data.toList most el f l tr ∧ tr.length < f ∧ Els 78 2 MemC wr w.heap.size u cells l ∧ PSt wr p tr m ∧ Tw p w.heap.size w wr)) (fun _ wr => tlen p wr)
  case atStart => exact ⟨[], ts1, [], _, n, Nat.zero_le _, Lib.hid ⟨HV2.out, Nat.lt_succ_self _, Els.nil _ _ _ _ _, HP1.out, HT1.out⟩⟩
  case round =>
    obtain ⟨l, tr, cells, f, m, hlm, hr⟩ := hrel
    obtain ⟨AL, c, hu⟩ := hr.out.2.2.1.slice
    subst hu
    have hlb : (l.length : Int) ≤ 64 := by omega
    obtain ⟨f', hf'⟩ : ∃ f', f = f' + 1 := ⟨f - 1, by have := hr.out.2.1; omega⟩
    subst hf'
    obtain ⟨ll, hll⟩ : ∃ ll, ll = l.length := ⟨_, rfl⟩
    rw [← hll] at hlb
    have HLL := Lib.hid hll
    have hz : ll = 0 ∨ ll ≠ 0 := by omega
    by_cases hdone : ll ≠ 0 ∧ isSg cl.data.toList tr = true
    · obtain ⟨hz, hsg⟩ := hdone
      have hz0 : ((ll : Int) == 0) = false := by rw [beq_eq_false_iff_ne]; omega
      have HD : Hid (R = .ok (l, tr.tail)) := Lib.hid (hr.out.1.trans (by rw [bls_succ, if_pos ⟨by rw [← HLL.out]; exact hz, hsg⟩]))
      have HC := Lib.hid (ptakeSign_b hr.out.2.2.2.1 cl _ hsg)
      clear hz hsg hll
      rw [← HLL.out]
      go_wp2_with fail
      refine HC.out.mono ?_
      rintro e w2 ⟨rfl, hp2, ht2⟩
      have HP2 : Hid (PSt w2 p tr.tail m) := Lib.hid hp2
      have HT2 := Lib.hid (hr.out.2.2.2.2.step hr.out.2.2.2.2.size ht2)
      have HE2 := Lib.hid (hr.out.2.2.1.tw MemC.stays hpw ht2)
      clear hp2 ht2
      go_wp2_with fail
      go_ret
      refine .inl ⟨l, _, _, m, HD.out, rfl, ?_, HP2.out, HT2.out⟩
      have := HE2.out.read (bytes := 40) MemC.stays (by have := HLL.out; unfold big; omega)
      rw [HLL.out]
      exact this
    · have HD : Hid (R = exB (bgR (isNm tr) l.length most tr) fun _ => exB (el tr) fun q => bls cl.data.toList most el f' (l ++ [q.1]) q.2) := Lib.hid (hr.out.1.trans (by rw [bls_succ, if_neg (by rw [← HLL.out]; exact hdone)]))
      have hwalk : ∃ W, W = wr := ⟨_, rfl⟩
      have hcase : ll = 0 ∨ (ll ≠ 0 ∧ isSg cl.data.toList tr = false) := by
        by_cases h0 : ll = 0
        · exact .inl h0
        · exact .inr ⟨h0, by cases hh : isSg cl.data.toList tr with
            | true => exact absurd ⟨h0, hh⟩ hdone
            | false => rfl⟩
      rw [← hll]
      clear hz hdone hll hwalk
      rcases hcase with hz | ⟨hz, hsg⟩
      · skip
        have hz0 : ((ll : Int) == 0) = true := by rw [hz]; rfl
        have HPC := Lib.hid hr.out.2.2.2.1
        have HTC : Hid (Tw p wr.heap.size wr wr) := Lib.hid (.refl _ _ _)
        clear hz
        go_wp2_with fail
        refine (pisName_any HPC.out).mono ?_
        rintro e wb ⟨rfl, hb⟩
        have HPB := Lib.hid (HPC.out.stay hb)
        have HTB := Lib.hid (HTC.out.step HTC.out.size (.of hb))
        clear hb
        go_wp2_with fail
        refine (pbegin_any HPB.out (isNm tr) l.length most _ _ (by have := HLL.out; omega) HY.out).mono ?_
        rintro e wc (⟨hbg, rfl, hb⟩ | ⟨x, hbg, rfl, ht⟩)
        rotate_left
        · have HD2 : Hid (R = .error x) := Lib.hid (by rw [HD.out, exB_er hbg])
          have HT2 := Lib.hid (hr.out.2.2.2.2.step hr.out.2.2.2.2.size (HTB.out.step HTB.out.size ht))
          clear hbg ht
          exact ⟨rfl, .inr ⟨x, HD2.out, rfl, HT2.out⟩⟩
        obtain ⟨hnm, hlm2⟩ := bgR_lt hbg hlm
        have HD2 : Hid (R = exB (el tr) fun q => bls cl.data.toList most el f' (l ++ [q.1]) q.2) := Lib.hid (by rw [HD.out, exB_ok hbg])
        have HPB2 := Lib.hid (HPB.out.stay hb)
        have HTB2 := Lib.hid (HTB.out.step HTB.out.size (.of hb))
        have HNM := Lib.hid hnm
        clear hbg hb hnm
        go_wp2_with fail
        refine (HEL.out _ tr m HPB2.out HNM.out).mono ?_
        rintro e wd (⟨x, ts', v, m', hre, rfl, hx, hp, ht⟩ | ⟨x, hre, rfl, ht⟩)
        rotate_left
        · have HD3 : Hid (R = .error x) := Lib.hid (by rw [HD2.out, exB_er hre])
          have HT3 := Lib.hid (hr.out.2.2.2.2.step hr.out.2.2.2.2.size (HTB2.out.step HTB2.out.size ht))
          clear hre ht
          exact ⟨rfl, .inr ⟨x, HD3.out, rfl, HT3.out⟩⟩
        have HD3 : Hid (R = bls cl.data.toList most el f' (l ++ [x]) ts') := Lib.hid (by rw [HD2.out, exB_ok hre])
        have hlt3 := HLT.out tr x ts' HPB2.out.good HNM.out hre
        obtain ⟨A1, d1, rfl, hxc⟩ := hx.shape
        have HTD := Lib.hid (HTB2.out.step HTB2.out.size ht)
        have hE := hr.out.2.2.1.tw MemC.stays hpw HTD.out
        have hws : w.heap.size ≤ wc.heap.size := Nat.le_trans hr.out.2.2.2.2.size HTB2.out.size
        have hwd : wc.heap.size ≤ wd.heap.size := ht.size
        have hxS := MemC.stays.kept (w' := wd) (S' := fun b => w.heap.size ≤ b ∧ b < wd.heap.size ∧ (Value.slice AL l.length c).ownBlock ≠ some b) hxc (fun _ _ => rfl) (fun b hb => ⟨by have := hb.1; omega, hb.2, fun e => by have h8 := (hr.out.2.2.1.own).lt b e; have h9 := HTB2.out.size; have := hb.1; omega⟩)
        have HX := Lib.hid hxS
        have HPD := Lib.hid hp
        have HE := Lib.hid hE
        have b0 : Below wd.heap.size wd (wd.alloc (.cells #[.string x.name, .slice A1 x.dirs.length d1] 78 (0, 0))) := below_new _ _
        have HB0 := Lib.hid b0
        have HOWN : Hid ((wd.alloc (.cells #[.string x.name, .slice A1 x.dirs.length d1] 78 (0, 0))).ownsRow w.heap.size 78 2 (.slice AL ll c) ll cells) := Lib.hid (by
          have h8 := own_kept hE.own (fun g hg => b0.block g hg)
          rw [← HLL.out] at h8; exact h8)
        have HNEWS : Hid (∀ (j : Nat) (u : Value), ([.string x.name, .slice A1 x.dirs.length d1] : List Value)[j]? = some u → (wd.alloc (.cells #[.string x.name, .slice A1 x.dirs.length d1] 78 (0, 0))).cell? ((⟨wd.heap.size, 0, none⟩ : Addr).add j) = some u) := Lib.hid (cells_at wd [.string x.name, .slice A1 x.dirs.length d1] 78)
        have HONE : Hid (∀ u ∈ ([.string x.name, .slice A1 x.dirs.length d1] : List Value), u.oneCell' = true) := Lib.hid (by intro u hu; simp only [List.mem_cons, List.not_mem_nil, or_false] at hu; rcases hu with rfl | rfl <;> rfl)
        have HSZ : Hid (w.heap.size ≤ (wd.alloc (.cells #[.string x.name, .slice A1 x.dirs.length d1] 78 (0, 0))).heap.size) := Lib.hid (by rw [World.size_alloc]; omega)
        clear hre ht hx hxc hp hE hxS b0
        go_wp2_with (at_builtin; refine wpList_append_fresh _ rfl _ _ 42 rfl w.heap.size 78 _ 2 40 Tryz.underlying42 infoMem rfl (by decide) _ ll cells rfl HOWN.out ⟨wd.heap.size, 0, none⟩ 1 1 (by decide) [.string x.name, .slice A1 x.dirs.length d1] rfl rfl HNEWS.out HONE.out (by unfold maxLen; omega) (by omega) HSZ.out ?_; intro v' w' hown' hg' hf')
        have hpush := Els.push (x := x) MemC.stays HE.out HB0.out (by have := HSZ.out; omega) HX.out (news := [.string x.name, .slice A1 x.dirs.length d1]) (fun j hj => rfl) (MemV.cong (Nat.le_refl _)) (by rw [← HLL.out]; exact hown') (by rw [← HLL.out]; exact hg') (by rw [← HLL.out]; exact hf')
        have HE2 := Lib.hid hpush.1
        have HT2 : Hid (Tw p w.heap.size w w') := Lib.hid ((hr.out.2.2.2.2.trans (HTD.out.mono hr.out.2.2.2.2.size)).trans (.of hpush.2))
        have HP2 := Lib.hid (HPD.out.same (hpush.2.mono (by omega)))
        clear hpush hown' hg' hf'
        go_roundw
        case rel => exact ⟨l ++ [x], ts', _, f', m', by rw [List.length_append, List.length_singleton]; omega, Lib.hid ⟨HD3.out, by have := hr.out.2.1; omega, HE2.out, HP2.out, HT2.out⟩⟩
        case measure => rw [HP2.out.tlen, hr.out.2.2.2.1.tlen]; exact hlt3
      · skip
        have hz0 : ((ll : Int) == 0) = false := by rw [beq_eq_false_iff_ne]; omega
        have HC := Lib.hid (ptakeSign_b hr.out.2.2.2.1 cl _ hsg)
        clear hz hsg
        go_wp2_with fail
        refine HC.out.mono ?_
        rintro e wa ⟨rfl, hp2, ht2⟩
        have HPC : Hid (PSt wa p tr m) := Lib.hid hp2
        have HTC := Lib.hid ht2
        clear hp2 ht2 HC
        go_wp2_with fail
        refine (pisName_any HPC.out).mono ?_
        rintro e wb ⟨rfl, hb⟩
        have HPB := Lib.hid (HPC.out.stay hb)
        have HTB := Lib.hid (HTC.out.step HTC.out.size (.of hb))
        clear hb
        go_wp2_with fail
        refine (pbegin_any HPB.out (isNm tr) l.length most _ _ (by have := HLL.out; omega) HY.out).mono ?_
        rintro e wc (⟨hbg, rfl, hb⟩ | ⟨x, hbg, rfl, ht⟩)
        rotate_left
        · have HD2 : Hid (R = .error x) := Lib.hid (by rw [HD.out, exB_er hbg])
          have HT2 := Lib.hid (hr.out.2.2.2.2.step hr.out.2.2.2.2.size (HTB.out.step HTB.out.size ht))
          clear hbg ht
          exact ⟨rfl, .inr ⟨x, HD2.out, rfl, HT2.out⟩⟩
        obtain ⟨hnm, hlm2⟩ := bgR_lt hbg hlm
        have HD2 : Hid (R = exB (el tr) fun q => bls cl.data.toList most el f' (l ++ [q.1]) q.2) := Lib.hid (by rw [HD.out, exB_ok hbg])
        have HPB2 := Lib.hid (HPB.out.stay hb)
        have HTB2 := Lib.hid (HTB.out.step HTB.out.size (.of hb))
        have HNM := Lib.hid hnm
        clear hbg hb hnm
        go_wp2_with fail
        refine (HEL.out _ tr m HPB2.out HNM.out).mono ?_
        rintro e wd (⟨x, ts', v, m', hre, rfl, hx, hp, ht⟩ | ⟨x, hre, rfl, ht⟩)
        rotate_left
        · have HD3 : Hid (R = .error x) := Lib.hid (by rw [HD2.out, exB_er hre])
          have HT3 := Lib.hid (hr.out.2.2.2.2.step hr.out.2.2.2.2.size (HTB2.out.step HTB2.out.size ht))
          clear hre ht
          exact ⟨rfl, .inr ⟨x, HD3.out, rfl, HT3.out⟩⟩
        have HD3 : Hid (R = bls cl.data.toList most el f' (l ++ [x]) ts') := Lib.hid (by rw [HD2.out, exB_ok hre])
        have hlt3 := HLT.out tr x ts' HPB2.out.good HNM.out hre
        obtain ⟨A1, d1, rfl, hxc⟩ := hx.shape
        have HTD := Lib.hid (HTB2.out.step HTB2.out.size ht)
        have hE := hr.out.2.2.1.tw MemC.stays hpw HTD.out
        have hws : w.heap.size ≤ wc.heap.size := Nat.le_trans hr.out.2.2.2.2.size HTB2.out.size
        have hwd : wc.heap.size ≤ wd.heap.size := ht.size
        have hxS := MemC.stays.kept (w' := wd) (S' := fun b => w.heap.size ≤ b ∧ b < wd.heap.size ∧ (Value.slice AL l.length c).ownBlock ≠ some b) hxc (fun _ _ => rfl) (fun b hb => ⟨by have := hb.1; omega, hb.2, fun e => by have h8 := (hr.out.2.2.1.own).lt b e; have h9 := HTB2.out.size; have := hb.1; omega⟩)
        have HX := Lib.hid hxS
        have HPD := Lib.hid hp
        have HE := Lib.hid hE
        have b0 : Below wd.heap.size wd (wd.alloc (.cells #[.string x.name, .slice A1 x.dirs.length d1] 78 (0, 0))) := below_new _ _
        have HB0 := Lib.hid b0
        have HOWN : Hid ((wd.alloc (.cells #[.string x.name, .slice A1 x.dirs.length d1] 78 (0, 0))).ownsRow w.heap.size 78 2 (.slice AL ll c) ll cells) := Lib.hid (by
          have h8 := own_kept hE.own (fun g hg => b0.block g hg)
          rw [← HLL.out] at h8; exact h8)
        have HNEWS : Hid (∀ (j : Nat) (u : Value), ([.string x.name, .slice A1 x.dirs.length d1] : List Value)[j]? = some u → (wd.alloc (.cells #[.string x.name, .slice A1 x.dirs.length d1] 78 (0, 0))).cell? ((⟨wd.heap.size, 0, none⟩ : Addr).add j) = some u) := Lib.hid (cells_at wd [.string x.name, .slice A1 x.dirs.length d1] 78)
        have HONE : Hid (∀ u ∈ ([.string x.name, .slice A1 x.dirs.length d1] : List Value), u.oneCell' = true) := Lib.hid (by intro u hu; simp only [List.mem_cons, List.not_mem_nil, or_false] at hu; rcases hu with rfl | rfl <;> rfl)
        have HSZ : Hid (w.heap.size ≤ (wd.alloc (.cells #[.string x.name, .slice A1 x.dirs.length d1] 78 (0, 0))).heap.size) := Lib.hid (by rw [World.size_alloc]; omega)
        clear hre ht hx hxc hp hE hxS b0
        go_wp2_with (at_builtin; refine wpList_append_fresh _ rfl _ _ 42 rfl w.heap.size 78 _ 2 40 Tryz.underlying42 infoMem rfl (by decide) _ ll cells rfl HOWN.out ⟨wd.heap.size, 0, none⟩ 1 1 (by decide) [.string x.name, .slice A1 x.dirs.length d1] rfl rfl HNEWS.out HONE.out (by unfold maxLen; omega) (by omega) HSZ.out ?_; intro v' w' hown' hg' hf')
        have hpush := Els.push (x := x) MemC.stays HE.out HB0.out (by have := HSZ.out; omega) HX.out (news := [.string x.name, .slice A1 x.dirs.length d1]) (fun j hj => rfl) (MemV.cong (Nat.le_refl _)) (by rw [← HLL.out]; exact hown') (by rw [← HLL.out]; exact hg') (by rw [← HLL.out]; exact hf')
        have HE2 := Lib.hid hpush.1
        have HT2 : Hid (Tw p w.heap.size w w') := Lib.hid ((hr.out.2.2.2.2.trans (HTD.out.mono hr.out.2.2.2.2.size)).trans (.of hpush.2))
        have HP2 := Lib.hid (HPD.out.same (hpush.2.mono (by omega)))
        clear hpush hown' hg' hf'
        go_roundw
        case rel => exact ⟨l ++ [x], ts', _, f', m', by rw [List.length_append, List.length_singleton]; omega, Lib.hid ⟨HD3.out, by have := hr.out.2.1; omega, HE2.out, HP2.out, HT2.out⟩⟩
        case measure => rw [HP2.out.tlen, hr.out.2.2.2.1.tlen]; exact hlt3
end Go.Proofs.YtajljnehlncjhaaGreatDoor
namespace Go.Proofs.YtajljnehlncjhaaGreatDoor
open Go.RowKit
def implS : ByteArray := ⟨#[105, 109, 112, 108, 101, 109, 101, 110, 116, 115]⟩
def impP (ts : List Tk) : Except Er (List ByteArray × List Tk) := if isNm ts = true ∧ (⟨(hd ts).2.1.toArray⟩ : ByteArray) = implS then nmsR [38] ts.tail else .ok ([], ts)
set_option maxRecDepth 100000 in
set_option maxHeartbeats 4000000 in
theorem pimplements_any (p : Nat) (w : World) (ts : List Tk) (n : Nat) (h : PSt w p ts n) : Calls Tryz.prog 88 #[pP p] w (WPost NamesC w p (impP ts)) := by
  have hf1 := fld1
  obtain ⟨⟨k, tx, i⟩, r, rfl⟩ := h.good.ne
  have HP := Lib.hid h
  have HV : Hid (impP ((k, tx, i) :: r) = if isNm ((k, tx, i) :: r) = true ∧ (⟨tx.toArray⟩ : ByteArray) = implS then nmsR [38] r else .ok ([], (k, tx, i) :: r)) := Lib.hid rfl
  generalize impP ((k, tx, i) :: r) = R at *
  have hn := pisName_any h
  have hnx : ∀ W : World, Below w.heap.size w W → Calls Tryz.prog 38 #[pP p] W fun e w' => e = .returned (.agg #[.int .i64 k, .string ⟨tx.toArray⟩, .int .i64 i]) ∧ Below W.heap.size W w' := fun W hb => pnext_any (h.stay hb)
  have HNX := Lib.hid hnx
  clear h hnx
  generalize hx : (⟨tx.toArray⟩ : ByteArray) = x at *
  have e1 := list_eq x [105, 109, 112, 108, 101, 109, 101, 110, 116, 115]
  cases hs : isNm ((k, tx, i) :: r) with
  | false =>
    rw [hs] at hn
    have HC := Lib.hid hn
    have HV2 : Hid (R = .ok ([], (k, tx, i) :: r)) := Lib.hid (by rw [HV.out, if_neg (by rw [hs]; simp)])
    clear hn hs HV e1 hx
    go_enter Tryz.func88, Tryz.ntmps88
    go_wp2_with fail
    refine HC.out.mono ?_
    rintro e w1 ⟨rfl, hb⟩
    have HB := Lib.hid hb
    clear hb
    go_wp2_with fail
    go_ret
    exact .inl ⟨_, _, _, n, HV2.out, rfl, SlS.nil _ _, HP.out.stay HB.out, .of HB.out⟩
  | true =>
    have hne := isNm_ne hs
    rw [hs] at hn
    have HC := Lib.hid hn
    by_cases hx2 : x = implS
    · have HV2 : Hid (R = nmsR [38] r) := Lib.hid (by rw [HV.out, if_pos ⟨hs, hx2⟩])
      rw [decide_eq_true (show x = ⟨[105, 109, 112, 108, 101, 109, 101, 110, 116, 115].toArray⟩ from hx2)] at e1
      have HNE := Lib.hid hne
      clear hn hs HV hx hx2 hne
      go_enter Tryz.func88, Tryz.ntmps88
      go_wp2_with fail
      refine HC.out.mono ?_
      rintro e w1 ⟨rfl, hb⟩
      have HB := Lib.hid hb
      clear hb
      go_wp2_with fail
      refine (HNX.out _ HB.out).mono ?_
      rintro e w2 ⟨rfl, hb⟩
      have HB2 := Lib.hid (HB.out.trans (hb.mono HB.out.size))
      clear hb
      go_wp2_with fail
      refine (ptake_any (HP.out.stay HB2.out) HNE.out).mono ?_
      rintro e w3 ⟨rfl, hp, ht⟩
      have HP3 : Hid (PSt w3 p r n) := Lib.hid hp
      have HT3 := Lib.hid ((Tw.of HB2.out : Tw p _ w w2).step HB2.out.size ht)
      clear hp ht
      generalize tkV (hd ((k, tx, i) :: r)) = tv at *
      go_wp2_with fail
      refine (pnames_any p w3 r n HP3.out ⟨#[38]⟩).mono ?_
      rintro e w4 (⟨l, ts', v, m', hr, rfl, hv, hp, ht⟩ | ⟨x, hr, rfl, ht⟩)
      · have HD : Hid (R = .ok (l, ts')) := Lib.hid (HV2.out.trans hr)
        have HT4 := Lib.hid (HT3.out.step HT3.out.size ht)
        have hs3 := HT3.out.size
        have HX := Lib.hid (SlS.kept StrC.stays (w' := w4) (S' := fun b => w.heap.size ≤ b ∧ b < w4.heap.size) hv (fun _ _ => rfl) (fun b hb => ⟨by have := hb.1; omega, hb.2⟩))
        have HP4 := Lib.hid hp
        clear hr hv hp ht
        go_wp2_with fail
        go_ret
        exact .inl ⟨_, _, _, _, HD.out, rfl, HX.out, HP4.out, HT4.out⟩
      · have HD : Hid (R = .error x) := Lib.hid (HV2.out.trans hr)
        have HT4 := Lib.hid (HT3.out.step HT3.out.size ht)
        exact ⟨rfl, .inr ⟨x, HD.out, rfl, HT4.out⟩⟩
    · have HV2 : Hid (R = .ok ([], (k, tx, i) :: r)) := Lib.hid (by rw [HV.out, if_neg (fun h => hx2 h.2)])
      rw [decide_eq_false (show ¬ x = ⟨[105, 109, 112, 108, 101, 109, 101, 110, 116, 115].toArray⟩ from hx2)] at e1
      clear hn hs HV hx hx2 hne
      go_enter Tryz.func88, Tryz.ntmps88
      go_wp2_with fail
      refine HC.out.mono ?_
      rintro e w1 ⟨rfl, hb⟩
      have HB := Lib.hid hb
      clear hb
      go_wp2_with fail
      refine (HNX.out _ HB.out).mono ?_
      rintro e w2 ⟨rfl, hb⟩
      have HB2 := Lib.hid (HB.out.trans (hb.mono HB.out.size))
      clear hb
      have e2 : (x.toList != [105, 109, 112, 108, 101, 109, 101, 110, 116, 115]) = true := by rw [bne, e1]; rfl
      go_wp2_with fail
      go_ret
      exact .inl ⟨_, _, _, n, HV2.out, rfl, SlS.nil _ _, HP.out.stay HB2.out, .of HB2.out⟩
end Go.Proofs.YtajljnehlncjhaaGreatDoor
namespace Go.Proofs.YtajljnehlncjhaaGreatDoor
open Go.RowKit
theorem exB_inv {α β : Type} {r : Except Er α} {k : α → Except Er β} {y : β} (h : exB r k = .ok y) : ∃ x, r = .ok x ∧ k x = .ok y := by
  cases r with
  | error e => cases h
  | ok x => exact ⟨x, rfl, h⟩
theorem nms_len (sep : List UInt8) : ∀ (f : Nat) (l : List ByteArray) (ts : List Tk) (l' : List ByteArray) (ts' : List Tk), nms sep f l ts = .ok (l', ts') → l.length ≤ 64 → l'.length ≤ 64
  | 0, _, _, _, _, h, _ => by cases h
  | f + 1, l, ts, l', ts', h, hl => by
    rw [nms_succ] at h
    split at h
    · cases h; exact hl
    · obtain ⟨_, h1, h2⟩ := exB_inv h
      obtain ⟨q, h3, h4⟩ := exB_inv h2
      have := (bgR_lt h1 hl).2
      exact nms_len sep f _ _ _ _ h4 (by rw [List.length_append, List.length_singleton]; omega)
def memOf (x : ByteArray) : MemT := ⟨x, []⟩
def uniP (ts : List Tk) : Except Er (List MemT × List Tk) := exB (sgR [61] ts) fun ts1 => exB (nmsR [124] ts1) fun r => .ok (r.1.map memOf, r.2)
set_option maxRecDepth 100000 in
set_option maxHeartbeats 4000000 in
theorem punion_any (p : Nat) (w : World) (ts : List Tk) (n : Nat) (h : PSt w p ts n) : Calls Tryz.prog 92 #[pP p] w (WPost MemsC w p (uniP ts)) := by
  have HP := Lib.hid h
  have hpw := h.lt
  have HV : Hid (uniP ts = exB (sgR [61] ts) fun ts1 => exB (nmsR [124] ts1) fun r => .ok (r.1.map memOf, r.2)) := Lib.hid rfl
  clear h
  generalize uniP ts = R at *
  go_enter Tryz.func92, Tryz.ntmps92
  go_wp2_with fail
  refine (psign_any HP.out ⟨#[61]⟩).mono ?_
  rintro e w1 (⟨ts1, hr, rfl, hp, ht⟩ | ⟨x, hr, rfl, ht⟩)
  rotate_left
  · exact ⟨rfl, .inr ⟨_, HV.out.trans (exB_er hr), rfl, ht⟩⟩
  have HV1 := Lib.hid (HV.out.trans (exB_ok hr))
  have HP1 := Lib.hid hp
  have HT1 := Lib.hid ht
  clear hr hp ht
  go_wp2_with fail
  refine (pnames_any p w1 ts1 n HP1.out ⟨#[124]⟩).mono ?_
  rintro e w2 (⟨l, ts2, v, m2, hr, rfl, hv, hp, ht⟩ | ⟨x, hr, rfl, ht⟩)
  rotate_left
  · exact ⟨rfl, .inr ⟨_, HV1.out.trans (exB_er hr), rfl, HT1.out.step HT1.out.size ht⟩⟩
  have HV2 : Hid (R = .ok (l.map memOf, ts2)) := Lib.hid (HV1.out.trans (exB_ok hr))
  have hl64 : l.length ≤ 64 := nms_len _ _ _ _ _ _ hr (Nat.zero_le _)
  have HP2 := Lib.hid hp
  have HT2 := Lib.hid (HT1.out.step HT1.out.size ht)
  have hws : w.heap.size ≤ w2.heap.size := HT2.out.size
  obtain ⟨A, c, rfl, hc, hbg, V, hA, hrr⟩ := hv
  have HA := Lib.hid hA
  have HRR := Lib.hid hrr
  obtain ⟨len, hlen⟩ : ∃ len, len = l.length := ⟨_, rfl⟩
  rw [← hlen] at HA hl64
  have HL := Lib.hid hlen
  have hlm : (len : Int) ≤ 64 := by omega
  clear hr hp ht hA hrr hc hbg
  rw [← hlen]
  clear hlen
  go_wp2_with fail
  go_loopw [3, 11] (fun u ct wr => ∃ (i : Nat) (cells : List Value), i ≤ len ∧ ct = .int .i64 i ∧ Hid (Els 78 2 MemC wr w2.heap.size u cells ((l.take i).map memOf) ∧ Below w2.heap.size w2 wr)) (fun _ ct _ => len - (intOf ct).toNat)
  case atStart => exact ⟨0, [], Nat.zero_le _, rfl, Lib.hid ⟨by rw [List.take_zero]; exact Els.nil _ _ _ _ _, Below.refl _ _⟩⟩
  case round =>
    obtain ⟨i, cells, hi, rfl, hr⟩ := hrel
    obtain ⟨AL, cl, hu⟩ := hr.out.1.slice
    subst hu
    have htl : ((l.take i).map memOf).length = i := by rw [List.length_map, List.length_take]; have := HL.out; omega
    rw [htl]
    by_cases hlt : i < len
    · have hlt' : (i : Int) < len := by omega
      obtain ⟨a, ea, ha, hcell⟩ := HA.out (by omega)
      subst ea
      obtain ⟨x, hx⟩ : ∃ x, l[i]? = some x := ⟨_, List.getElem?_eq_getElem (by have := HL.out; omega)⟩
      have hrx := HRR.out i x hx
      have k0 : wr.cell? (a.add i) = some (.string x) := by
        have h1 := ((hr.out.2.cell (p := at_ (a.add (i * 1)) 0) (by rw [at_block, add_block]; exact ha.2)).trans (hcell i hlt 0 (by omega))).trans (congrArg some hrx.1)
        simpa [at_] using h1
      have HRX := Lib.hid hrx.2
      have HXI := Lib.hid hx
      have hsz := hr.out.2.size
      have b0 : Below wr.heap.size wr (wr.alloc (.cells #[.string x, .slice none 0 0] 78 (0, 0))) := below_new _ _
      have HB0 := Lib.hid b0
      have HOWN : Hid ((wr.alloc (.cells #[.string x, .slice none 0 0] 78 (0, 0))).ownsRow w2.heap.size 78 2 (.slice AL i cl) i cells) := Lib.hid (by
        have h8 := own_kept hr.out.1.own (fun g hg => b0.block g hg)
        rw [htl] at h8; exact h8)
      have HNEWS : Hid (∀ (j : Nat) (u : Value), ([.string x, .slice none 0 0] : List Value)[j]? = some u → (wr.alloc (.cells #[.string x, .slice none 0 0] 78 (0, 0))).cell? ((⟨wr.heap.size, 0, none⟩ : Addr).add j) = some u) := Lib.hid (cells_at wr [.string x, .slice none 0 0] 78)
      have HONE : Hid (∀ u ∈ ([.string x, .slice none 0 0] : List Value), u.oneCell' = true) := Lib.hid (by intro u hu; simp only [List.mem_cons, List.not_mem_nil, or_false] at hu; rcases hu with rfl | rfl <;> rfl)
      have HSZ : Hid (w2.heap.size ≤ (wr.alloc (.cells #[.string x, .slice none 0 0] 78 (0, 0))).heap.size) := Lib.hid (by rw [World.size_alloc]; omega)
      have HTL := Lib.hid htl
      clear hcell hx hrx b0 htl
      go_wp2_with (at_builtin; refine wpList_append_fresh _ rfl _ _ 42 rfl w2.heap.size 78 _ 2 40 Tryz.underlying42 infoMem rfl (by decide) _ i cells rfl HOWN.out ⟨wr.heap.size, 0, none⟩ 1 1 (by decide) [.string x, .slice none 0 0] rfl rfl HNEWS.out HONE.out (by unfold maxLen; omega) (by omega) HSZ.out ?_; intro v' w' hown' hg' hf')
      have hxS : MemC wr (fun b => w2.heap.size ≤ b ∧ b < wr.heap.size ∧ (Value.slice AL ((l.take i).map memOf).length cl).ownBlock ≠ some b) (fun j => [Value.string x, .slice none 0 0].getD j undef) (memOf x) := ⟨rfl, Nat.le_trans HRX.out (Nat.le_refl _), SlS.nil _ _⟩
      have hpush := Els.push (x := memOf x) MemC.stays hr.out.1 HB0.out hsz hxS (news := [.string x, .slice none 0 0]) (fun j hj => rfl) (MemV.cong (Nat.le_refl _)) (by rw [HTL.out]; exact hown') (by rw [HTL.out]; exact hg') (by rw [HTL.out]; exact hf')
      have htk : (l.take i).map memOf ++ [memOf x] = (l.take (i + 1)).map memOf := by
        have hil : i < l.length := by have := HL.out; omega
        rw [List.take_succ_eq_append_getElem hil, List.map_append]
        have : l[i] = x := by have h9 := HXI.out; rw [List.getElem?_eq_getElem hil] at h9; cases h9; rfl
        rw [this]; rfl
      rw [htk] at hpush
      have HE2 := Lib.hid hpush.1
      have HBB := Lib.hid (hr.out.2.trans hpush.2)
      clear hpush htk hxS hown' hg' hf'
      go_roundw
      case rel => exact ⟨i + 1, _, by omega, by simp, Lib.hid ⟨HE2.out, HBB.out⟩⟩
      case measure => simp [intOf]; omega
    · have : i = len := by omega
      subst this
      have htk : l.take i = l := List.take_of_length_le (by have := HL.out; omega)
      have hE := hr.out.1
      rw [htk] at hE
      have hrd := hE.read (bytes := 40) MemC.stays (by rw [List.length_map]; have := HL.out; unfold big; omega)
      have HRD := Lib.hid (SlS.kept MemC.stays (w' := wr) (S' := fun b => w.heap.size ≤ b ∧ b < wr.heap.size) hrd (fun _ _ => rfl) (fun b hb => ⟨by have := hb.1; omega, hb.2⟩))
      have HP3 := Lib.hid (HP2.out.stay hr.out.2)
      have HT3 := Lib.hid (HT2.out.step hws (.of hr.out.2))
      clear hE hrd htl
      go_wp2_with fail
      go_ret
      refine .inl ⟨_, _, _, _, HV2.out, rfl, ?_, HP3.out, HT3.out⟩
      have h9 := HRD.out
      rw [List.length_map, ← HL.out] at h9
      exact h9
end Go.Proofs.YtajljnehlncjhaaGreatDoor
namespace Go.Proofs.YtajljnehlncjhaaGreatDoor
open Go.RowKit
theorem infoFld : (Tryz.prog.info? 50).map (fun i => (i.zero, i.size, i.bytes)) = some (some (.agg #[.string ⟨#[]⟩, .slice none 0 0, .string ⟨#[]⟩, .slice none 0 0, .slice none 0 0]), 5, 104) := by kernel_rfl
set_option maxRecDepth 100000 in
set_option maxHeartbeats 8000000 in
theorem blockFld_any (p : Nat) (el : List Tk → Except Er (FldT × List Tk)) (hel : ∀ (W : World) (ts : List Tk) (m : Nat), PSt W p ts m → isNm ts = true → Calls Tryz.prog 91 #[pP p] W (WPost FldV W p (el ts)))
    (hlt : ∀ (ts : List Tk) (x : FldT) (ts' : List Tk), Good ts → isNm ts = true → el ts = .ok (x, ts') → ts'.length < ts.length) (w : World) (ts : List Tk) (n : Nat) (h : PSt w p ts n) (op cl : ByteArray) (most : Nat) (hm : most ≤ 64) (y : Int) (hy : y = most) :
    Calls Tryz.prog 90 #[pP p, .string op, .int .i64 y, .func (.func 91) #[pP p] #[], .string cl] w (WPost (SlS 5 104 FldC) w p (blR op.data.toList cl.data.toList most el ts)) := by
  have HS := Lib.hid (psign_any h op)
  have HV : Hid (blR op.data.toList cl.data.toList most el ts = exB (sgR op.data.toList ts) fun ts1 => bls cl.data.toList most el (ts1.length + 1) [] ts1) := Lib.hid rfl
  have HEL := Lib.hid hel
  have HLT := Lib.hid hlt
  have HY := Lib.hid hy
  have hpw := h.lt
  clear h hel hlt hy
  generalize blR op.data.toList cl.data.toList most el ts = R at *
  go_enter Tryz.func90, Tryz.ntmps90
  go_wp2_with fail
  refine HS.out.mono ?_
  rintro e w1 (⟨ts1, hr, rfl, hp, ht⟩ | ⟨x, hr, rfl, ht⟩)
  rotate_left
  · have HV2 : Hid (R = .error x) := Lib.hid (by rw [HV.out, exB_er hr])
    have HT := Lib.hid ht
    clear hr ht
    exact ⟨rfl, .inr ⟨x, HV2.out, rfl, HT.out⟩⟩
  have HV2 : Hid (R = bls cl.data.toList most el (ts1.length + 1) [] ts1) := Lib.hid (by rw [HV.out, exB_ok hr])
  have HP1 := Lib.hid hp
  have HT1 := Lib.hid ht
  clear hr hp ht HV HS
  go_wp2_with fail
  go_loopw [11] (fun u wr => ∃ (l : List FldT) (tr : List Tk) (cells : List Value) (f m : Nat), l.length ≤ most ∧ Hid (R = bls cl.data.toList most el f l tr ∧ tr.length < f ∧ Els 50 5 FldC wr w.heap.size u cells l ∧ PSt wr p tr m ∧ Tw p w.heap.size w wr)) (fun _ wr => tlen p wr)
  case atStart => exact ⟨[], ts1, [], _, n, Nat.zero_le _, Lib.hid ⟨HV2.out, Nat.lt_succ_self _, Els.nil _ _ _ _ _, HP1.out, HT1.out⟩⟩
  case round =>
    obtain ⟨l, tr, cells, f, m, hlm, hr⟩ := hrel
    obtain ⟨AL, c, hu⟩ := hr.out.2.2.1.slice
    subst hu
    have hlb : (l.length : Int) ≤ 64 := by omega
    obtain ⟨f', hf'⟩ : ∃ f', f = f' + 1 := ⟨f - 1, by have := hr.out.2.1; omega⟩
    subst hf'
    obtain ⟨ll, hll⟩ : ∃ ll, ll = l.length := ⟨_, rfl⟩
    rw [← hll] at hlb
    have HLL := Lib.hid hll
    have hz : ll = 0 ∨ ll ≠ 0 := by omega
    by_cases hdone : ll ≠ 0 ∧ isSg cl.data.toList tr = true
    · obtain ⟨hz, hsg⟩ := hdone
      have hz0 : ((ll : Int) == 0) = false := by rw [beq_eq_false_iff_ne]; omega
      have HD : Hid (R = .ok (l, tr.tail)) := Lib.hid (hr.out.1.trans (by rw [bls_succ, if_pos ⟨by rw [← HLL.out]; exact hz, hsg⟩]))
      have HC := Lib.hid (ptakeSign_b hr.out.2.2.2.1 cl _ hsg)
      clear hz hsg hll
      rw [← HLL.out]
      go_wp2_with fail
      refine HC.out.mono ?_
      rintro e w2 ⟨rfl, hp2, ht2⟩
      have HP2 : Hid (PSt w2 p tr.tail m) := Lib.hid hp2
      have HT2 := Lib.hid (hr.out.2.2.2.2.step hr.out.2.2.2.2.size ht2)
      have HE2 := Lib.hid (hr.out.2.2.1.tw FldC.stays hpw ht2)
      clear hp2 ht2
      go_wp2_with fail
      go_ret
      refine .inl ⟨l, _, _, m, HD.out, rfl, ?_, HP2.out, HT2.out⟩
      have := HE2.out.read (bytes := 104) FldC.stays (by have := HLL.out; unfold big; omega)
      rw [HLL.out]
      exact this
    · have HD : Hid (R = exB (bgR (isNm tr) l.length most tr) fun _ => exB (el tr) fun q => bls cl.data.toList most el f' (l ++ [q.1]) q.2) := Lib.hid (hr.out.1.trans (by rw [bls_succ, if_neg (by rw [← HLL.out]; exact hdone)]))
      have hwalk : ∃ W, W = wr := ⟨_, rfl⟩
      have hcase : ll = 0 ∨ (ll ≠ 0 ∧ isSg cl.data.toList tr = false) := by
        by_cases h0 : ll = 0
        · exact .inl h0
        · exact .inr ⟨h0, by cases hh : isSg cl.data.toList tr with
            | true => exact absurd ⟨h0, hh⟩ hdone
            | false => rfl⟩
      rw [← hll]
      clear hz hdone hll hwalk
      rcases hcase with hz | ⟨hz, hsg⟩
      · skip
        have hz0 : ((ll : Int) == 0) = true := by rw [hz]; rfl
        have HPC := Lib.hid hr.out.2.2.2.1
        have HTC : Hid (Tw p wr.heap.size wr wr) := Lib.hid (.refl _ _ _)
        clear hz
        go_wp2_with fail
        refine (pisName_any HPC.out).mono ?_
        rintro e wb ⟨rfl, hb⟩
        have HPB := Lib.hid (HPC.out.stay hb)
        have HTB := Lib.hid (HTC.out.step HTC.out.size (.of hb))
        clear hb
        go_wp2_with fail
        refine (pbegin_any HPB.out (isNm tr) l.length most _ _ (by have := HLL.out; omega) HY.out).mono ?_
        rintro e wc (⟨hbg, rfl, hb⟩ | ⟨x, hbg, rfl, ht⟩)
        rotate_left
        · have HD2 : Hid (R = .error x) := Lib.hid (by rw [HD.out, exB_er hbg])
          have HT2 := Lib.hid (hr.out.2.2.2.2.step hr.out.2.2.2.2.size (HTB.out.step HTB.out.size ht))
          clear hbg ht
          exact ⟨rfl, .inr ⟨x, HD2.out, rfl, HT2.out⟩⟩
        obtain ⟨hnm, hlm2⟩ := bgR_lt hbg hlm
        have HD2 : Hid (R = exB (el tr) fun q => bls cl.data.toList most el f' (l ++ [q.1]) q.2) := Lib.hid (by rw [HD.out, exB_ok hbg])
        have HPB2 := Lib.hid (HPB.out.stay hb)
        have HTB2 := Lib.hid (HTB.out.step HTB.out.size (.of hb))
        have HNM := Lib.hid hnm
        clear hbg hb hnm
        go_wp2_with fail
        refine (HEL.out _ tr m HPB2.out HNM.out).mono ?_
        rintro e wd (⟨x, ts', v, m', hre, rfl, hx, hp, ht⟩ | ⟨x, hre, rfl, ht⟩)
        rotate_left
        · have HD3 : Hid (R = .error x) := Lib.hid (by rw [HD2.out, exB_er hre])
          have HT3 := Lib.hid (hr.out.2.2.2.2.step hr.out.2.2.2.2.size (HTB2.out.step HTB2.out.size ht))
          clear hre ht
          exact ⟨rfl, .inr ⟨x, HD3.out, rfl, HT3.out⟩⟩
        have HD3 : Hid (R = bls cl.data.toList most el f' (l ++ [x]) ts') := Lib.hid (by rw [HD2.out, exB_ok hre])
        have hlt3 := HLT.out tr x ts' HPB2.out.good HNM.out hre
        obtain ⟨A1, A3, A4, d1, d3, d4, rfl, hxc⟩ := hx.shape
        have HTD := Lib.hid (HTB2.out.step HTB2.out.size ht)
        have hE := hr.out.2.2.1.tw FldC.stays hpw HTD.out
        have hws : w.heap.size ≤ wc.heap.size := Nat.le_trans hr.out.2.2.2.2.size HTB2.out.size
        have hwd : wc.heap.size ≤ wd.heap.size := ht.size
        have hxS := FldC.stays.kept (w' := wd) (S' := fun b => w.heap.size ≤ b ∧ b < wd.heap.size ∧ (Value.slice AL l.length c).ownBlock ≠ some b) hxc (fun _ _ => rfl) (fun b hb => ⟨by have := hb.1; omega, hb.2, fun e => by have h8 := (hr.out.2.2.1.own).lt b e; have h9 := HTB2.out.size; have := hb.1; omega⟩)
        have HX := Lib.hid hxS
        have HPD := Lib.hid hp
        have HE := Lib.hid hE
        have b0 : Below wd.heap.size wd (wd.alloc (.cells #[.string x.name, .slice A1 x.args.length d1, .string x.tn, .slice A3 x.tw.length d3, .slice A4 x.dirs.length d4] 50 (0, 0))) := below_new _ _
        have HB0 := Lib.hid b0
        have HOWN : Hid ((wd.alloc (.cells #[.string x.name, .slice A1 x.args.length d1, .string x.tn, .slice A3 x.tw.length d3, .slice A4 x.dirs.length d4] 50 (0, 0))).ownsRow w.heap.size 50 5 (.slice AL ll c) ll cells) := Lib.hid (by
          have h8 := own_kept hE.own (fun g hg => b0.block g hg)
          rw [← HLL.out] at h8; exact h8)
        have HNEWS : Hid (∀ (j : Nat) (u : Value), ([.string x.name, .slice A1 x.args.length d1, .string x.tn, .slice A3 x.tw.length d3, .slice A4 x.dirs.length d4] : List Value)[j]? = some u → (wd.alloc (.cells #[.string x.name, .slice A1 x.args.length d1, .string x.tn, .slice A3 x.tw.length d3, .slice A4 x.dirs.length d4] 50 (0, 0))).cell? ((⟨wd.heap.size, 0, none⟩ : Addr).add j) = some u) := Lib.hid (cells_at wd [.string x.name, .slice A1 x.args.length d1, .string x.tn, .slice A3 x.tw.length d3, .slice A4 x.dirs.length d4] 50)
        have HONE : Hid (∀ u ∈ ([.string x.name, .slice A1 x.args.length d1, .string x.tn, .slice A3 x.tw.length d3, .slice A4 x.dirs.length d4] : List Value), u.oneCell' = true) := Lib.hid (by intro u hu; simp only [List.mem_cons, List.not_mem_nil, or_false] at hu; rcases hu with rfl | rfl | rfl | rfl | rfl <;> rfl)
        have HSZ : Hid (w.heap.size ≤ (wd.alloc (.cells #[.string x.name, .slice A1 x.args.length d1, .string x.tn, .slice A3 x.tw.length d3, .slice A4 x.dirs.length d4] 50 (0, 0))).heap.size) := Lib.hid (by rw [World.size_alloc]; omega)
        clear hre ht hx hxc hp hE hxS b0
        go_wp2_with (at_builtin; refine wpList_append_fresh _ rfl _ _ 41 rfl w.heap.size 50 _ 5 104 Tryz.underlying41 infoFld rfl (by decide) _ ll cells rfl HOWN.out ⟨wd.heap.size, 0, none⟩ 1 1 (by decide) [.string x.name, .slice A1 x.args.length d1, .string x.tn, .slice A3 x.tw.length d3, .slice A4 x.dirs.length d4] rfl rfl HNEWS.out HONE.out (by unfold maxLen; omega) (by omega) HSZ.out ?_; intro v' w' hown' hg' hf')
        have hpush := Els.push (x := x) FldC.stays HE.out HB0.out (by have := HSZ.out; omega) HX.out (news := [.string x.name, .slice A1 x.args.length d1, .string x.tn, .slice A3 x.tw.length d3, .slice A4 x.dirs.length d4]) (fun j hj => rfl) (FldV.cong (Nat.le_refl _)) (by rw [← HLL.out]; exact hown') (by rw [← HLL.out]; exact hg') (by rw [← HLL.out]; exact hf')
        have HE2 := Lib.hid hpush.1
        have HT2 : Hid (Tw p w.heap.size w w') := Lib.hid ((hr.out.2.2.2.2.trans (HTD.out.mono hr.out.2.2.2.2.size)).trans (.of hpush.2))
        have HP2 := Lib.hid (HPD.out.same (hpush.2.mono (by omega)))
        clear hpush hown' hg' hf'
        go_roundw
        case rel => exact ⟨l ++ [x], ts', _, f', m', by rw [List.length_append, List.length_singleton]; omega, Lib.hid ⟨HD3.out, by have := hr.out.2.1; omega, HE2.out, HP2.out, HT2.out⟩⟩
        case measure => rw [HP2.out.tlen, hr.out.2.2.2.1.tlen]; exact hlt3
      · skip
        have hz0 : ((ll : Int) == 0) = false := by rw [beq_eq_false_iff_ne]; omega
        have HC := Lib.hid (ptakeSign_b hr.out.2.2.2.1 cl _ hsg)
        clear hz hsg
        go_wp2_with fail
        refine HC.out.mono ?_
        rintro e wa ⟨rfl, hp2, ht2⟩
        have HPC : Hid (PSt wa p tr m) := Lib.hid hp2
        have HTC := Lib.hid ht2
        clear hp2 ht2 HC
        go_wp2_with fail
        refine (pisName_any HPC.out).mono ?_
        rintro e wb ⟨rfl, hb⟩
        have HPB := Lib.hid (HPC.out.stay hb)
        have HTB := Lib.hid (HTC.out.step HTC.out.size (.of hb))
        clear hb
        go_wp2_with fail
        refine (pbegin_any HPB.out (isNm tr) l.length most _ _ (by have := HLL.out; omega) HY.out).mono ?_
        rintro e wc (⟨hbg, rfl, hb⟩ | ⟨x, hbg, rfl, ht⟩)
        rotate_left
        · have HD2 : Hid (R = .error x) := Lib.hid (by rw [HD.out, exB_er hbg])
          have HT2 := Lib.hid (hr.out.2.2.2.2.step hr.out.2.2.2.2.size (HTB.out.step HTB.out.size ht))
          clear hbg ht
          exact ⟨rfl, .inr ⟨x, HD2.out, rfl, HT2.out⟩⟩
        obtain ⟨hnm, hlm2⟩ := bgR_lt hbg hlm
        have HD2 : Hid (R = exB (el tr) fun q => bls cl.data.toList most el f' (l ++ [q.1]) q.2) := Lib.hid (by rw [HD.out, exB_ok hbg])
        have HPB2 := Lib.hid (HPB.out.stay hb)
        have HTB2 := Lib.hid (HTB.out.step HTB.out.size (.of hb))
        have HNM := Lib.hid hnm
        clear hbg hb hnm
        go_wp2_with fail
        refine (HEL.out _ tr m HPB2.out HNM.out).mono ?_
        rintro e wd (⟨x, ts', v, m', hre, rfl, hx, hp, ht⟩ | ⟨x, hre, rfl, ht⟩)
        rotate_left
        · have HD3 : Hid (R = .error x) := Lib.hid (by rw [HD2.out, exB_er hre])
          have HT3 := Lib.hid (hr.out.2.2.2.2.step hr.out.2.2.2.2.size (HTB2.out.step HTB2.out.size ht))
          clear hre ht
          exact ⟨rfl, .inr ⟨x, HD3.out, rfl, HT3.out⟩⟩
        have HD3 : Hid (R = bls cl.data.toList most el f' (l ++ [x]) ts') := Lib.hid (by rw [HD2.out, exB_ok hre])
        have hlt3 := HLT.out tr x ts' HPB2.out.good HNM.out hre
        obtain ⟨A1, A3, A4, d1, d3, d4, rfl, hxc⟩ := hx.shape
        have HTD := Lib.hid (HTB2.out.step HTB2.out.size ht)
        have hE := hr.out.2.2.1.tw FldC.stays hpw HTD.out
        have hws : w.heap.size ≤ wc.heap.size := Nat.le_trans hr.out.2.2.2.2.size HTB2.out.size
        have hwd : wc.heap.size ≤ wd.heap.size := ht.size
        have hxS := FldC.stays.kept (w' := wd) (S' := fun b => w.heap.size ≤ b ∧ b < wd.heap.size ∧ (Value.slice AL l.length c).ownBlock ≠ some b) hxc (fun _ _ => rfl) (fun b hb => ⟨by have := hb.1; omega, hb.2, fun e => by have h8 := (hr.out.2.2.1.own).lt b e; have h9 := HTB2.out.size; have := hb.1; omega⟩)
        have HX := Lib.hid hxS
        have HPD := Lib.hid hp
        have HE := Lib.hid hE
        have b0 : Below wd.heap.size wd (wd.alloc (.cells #[.string x.name, .slice A1 x.args.length d1, .string x.tn, .slice A3 x.tw.length d3, .slice A4 x.dirs.length d4] 50 (0, 0))) := below_new _ _
        have HB0 := Lib.hid b0
        have HOWN : Hid ((wd.alloc (.cells #[.string x.name, .slice A1 x.args.length d1, .string x.tn, .slice A3 x.tw.length d3, .slice A4 x.dirs.length d4] 50 (0, 0))).ownsRow w.heap.size 50 5 (.slice AL ll c) ll cells) := Lib.hid (by
          have h8 := own_kept hE.own (fun g hg => b0.block g hg)
          rw [← HLL.out] at h8; exact h8)
        have HNEWS : Hid (∀ (j : Nat) (u : Value), ([.string x.name, .slice A1 x.args.length d1, .string x.tn, .slice A3 x.tw.length d3, .slice A4 x.dirs.length d4] : List Value)[j]? = some u → (wd.alloc (.cells #[.string x.name, .slice A1 x.args.length d1, .string x.tn, .slice A3 x.tw.length d3, .slice A4 x.dirs.length d4] 50 (0, 0))).cell? ((⟨wd.heap.size, 0, none⟩ : Addr).add j) = some u) := Lib.hid (cells_at wd [.string x.name, .slice A1 x.args.length d1, .string x.tn, .slice A3 x.tw.length d3, .slice A4 x.dirs.length d4] 50)
        have HONE : Hid (∀ u ∈ ([.string x.name, .slice A1 x.args.length d1, .string x.tn, .slice A3 x.tw.length d3, .slice A4 x.dirs.length d4] : List Value), u.oneCell' = true) := Lib.hid (by intro u hu; simp only [List.mem_cons, List.not_mem_nil, or_false] at hu; rcases hu with rfl | rfl | rfl | rfl | rfl <;> rfl)
        have HSZ : Hid (w.heap.size ≤ (wd.alloc (.cells #[.string x.name, .slice A1 x.args.length d1, .string x.tn, .slice A3 x.tw.length d3, .slice A4 x.dirs.length d4] 50 (0, 0))).heap.size) := Lib.hid (by rw [World.size_alloc]; omega)
        clear hre ht hx hxc hp hE hxS b0
        go_wp2_with (at_builtin; refine wpList_append_fresh _ rfl _ _ 41 rfl w.heap.size 50 _ 5 104 Tryz.underlying41 infoFld rfl (by decide) _ ll cells rfl HOWN.out ⟨wd.heap.size, 0, none⟩ 1 1 (by decide) [.string x.name, .slice A1 x.args.length d1, .string x.tn, .slice A3 x.tw.length d3, .slice A4 x.dirs.length d4] rfl rfl HNEWS.out HONE.out (by unfold maxLen; omega) (by omega) HSZ.out ?_; intro v' w' hown' hg' hf')
        have hpush := Els.push (x := x) FldC.stays HE.out HB0.out (by have := HSZ.out; omega) HX.out (news := [.string x.name, .slice A1 x.args.length d1, .string x.tn, .slice A3 x.tw.length d3, .slice A4 x.dirs.length d4]) (fun j hj => rfl) (FldV.cong (Nat.le_refl _)) (by rw [← HLL.out]; exact hown') (by rw [← HLL.out]; exact hg') (by rw [← HLL.out]; exact hf')
        have HE2 := Lib.hid hpush.1
        have HT2 : Hid (Tw p w.heap.size w w') := Lib.hid ((hr.out.2.2.2.2.trans (HTD.out.mono hr.out.2.2.2.2.size)).trans (.of hpush.2))
        have HP2 := Lib.hid (HPD.out.same (hpush.2.mono (by omega)))
        clear hpush hown' hg' hf'
        go_roundw
        case rel => exact ⟨l ++ [x], ts', _, f', m', by rw [List.length_append, List.length_singleton]; omega, Lib.hid ⟨HD3.out, by have := hr.out.2.1; omega, HE2.out, HP2.out, HT2.out⟩⟩
        case measure => rw [HP2.out.tlen, hr.out.2.2.2.1.tlen]; exact hlt3
end Go.Proofs.YtajljnehlncjhaaGreatDoor
