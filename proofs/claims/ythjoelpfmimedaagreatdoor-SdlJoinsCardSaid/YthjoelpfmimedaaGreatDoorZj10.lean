
/-
  Texts joined: E5Fld E5Mem E5Inp.
-/
import Derived.Test.YthjoelpfmimedaaGreatDoorZj7
namespace Go.Proofs.YthjoelpfmimedaaGreatDoor
open Go.RowKit
theorem infoFld : (Tryz.prog.info? 52).map (fun i => (i.zero, i.size, i.bytes)) = some (some (.agg #[.string ⟨#[]⟩, .slice none 0 0, .string ⟨#[]⟩, .slice none 0 0, .slice none 0 0]), 5, 104) := by kernel_rfl
set_option maxRecDepth 100000 in
set_option maxHeartbeats 8000000 in
theorem blockFld_any (p : Nat) (el : List Tk → Except Er (FldT × List Tk)) (hel : ∀ (W : World) (ts : List Tk) (m : Nat), PSt W p ts m → isNm ts = true → Calls Tryz.prog 120 #[pP p] W (WPost FldV W p (el ts)))
    (hlt : ∀ (ts : List Tk) (x : FldT) (ts' : List Tk), Good ts → isNm ts = true → el ts = .ok (x, ts') → ts'.length < ts.length) (w : World) (ts : List Tk) (n : Nat) (h : PSt w p ts n) (ca cb : UInt8) (most : Nat) (hm : most ≤ 64) (y : Int) (hy : y = most) :
    Calls Tryz.prog 177 #[pP p, .string ⟨#[ca, cb]⟩, .int .i64 y, .func (.func 172) #[pP p] #[], .func (.func 120) #[pP p] #[]] w (WPost (SlS 5 104 FldC) w p (blR [ca] [cb] most el ts)) := by
  have HS : Hid (Calls Tryz.prog 179 #[pP p, .string ⟨#[ca]⟩] w (UPost w p n (sgR [ca] ts))) := Lib.hid (psign_any h ⟨#[ca]⟩)
  have HV : Hid (blR [ca] [cb] most el ts = exB (sgR [ca] ts) fun ts1 => bls [cb] most el (ts1.length + 1) [] ts1) := Lib.hid rfl
  have HEL := Lib.hid hel
  have HLT := Lib.hid hlt
  have HY := Lib.hid hy
  have hpw := h.lt
  clear h hel hlt hy
  generalize blR [ca] [cb] most el ts = R at *
  go_enter Tryz.func177, Tryz.ntmps177
  go_wp2_with fail
  refine HS.out.mono ?_
  rintro e w1 (⟨ts1, hr, rfl, hp, ht⟩ | ⟨x, hr, rfl, ht⟩)
  rotate_left
  · have HV2 : Hid (R = .error x) := Lib.hid (by rw [HV.out, exB_er hr])
    have HT := Lib.hid ht
    clear hr ht
    exact ⟨rfl, .inr ⟨x, HV2.out, rfl, HT.out⟩⟩
  have HV2 : Hid (R = bls [cb] most el (ts1.length + 1) [] ts1) := Lib.hid (by rw [HV.out, exB_ok hr])
  have HP1 := Lib.hid hp
  have HT1 := Lib.hid ht
  clear hr hp ht HV HS
  go_wp2_with fail
  go_loopw [11] (fun u wr => ∃ (l : List FldT) (tr : List Tk) (cells : List Value) (f m : Nat), l.length ≤ most ∧ Hid (R = bls [cb] most el f l tr ∧ tr.length < f ∧ Els 52 5 FldC wr w.heap.size u cells l ∧ PSt wr p tr m ∧ Tw p w.heap.size w wr)) (fun _ wr => tlen p wr)
  case atStart => exact ⟨[], ts1, [], _, n, Nat.zero_le _, Lib.hid ⟨HV2.out, Nat.lt_succ_self _, Els.nil _ _ _ _ _, HP1.out, HT1.out⟩⟩
  case round =>
    obtain ⟨l, tr, cells, f, m, hlm, hr⟩ := hrel
    obtain ⟨AL, c, hu⟩ := hr.out.2.2.1.slice
    subst hu
    have hlb : (l.length : Int) ≤ 64 := by omega
    obtain ⟨f', hf'⟩ : ∃ f', f = f' + 1 := ⟨f - 1, by have := hr.out.2.1; omega⟩
    subst hf'
    obtain ⟨ll, hll⟩ : ∃ ll, ll = l.length := ⟨_, rfl⟩
    rw [← hll] at hlb
    have HLL := Lib.hid hll
    have hz : ll = 0 ∨ ll ≠ 0 := by omega
    by_cases hdone : ll ≠ 0 ∧ isSg [cb] tr = true
    · obtain ⟨hz, hsg⟩ := hdone
      have hz0 : ((ll : Int) == 0) = false := by rw [beq_eq_false_iff_ne]; omega
      have HD : Hid (R = .ok (l, tr.tail)) := Lib.hid (hr.out.1.trans (by rw [bls_succ, if_pos ⟨by rw [← HLL.out]; exact hz, hsg⟩]))
      have HC := Lib.hid (ptakeSign_b hr.out.2.2.2.1 ⟨#[cb]⟩ _ hsg)
      clear hz hsg hll
      rw [← HLL.out]
      go_wp2_with fail
      refine HC.out.mono ?_
      rintro e w2 ⟨rfl, hp2, ht2⟩
      have HP2 : Hid (PSt w2 p tr.tail m) := Lib.hid hp2
      have HT2 := Lib.hid (hr.out.2.2.2.2.step hr.out.2.2.2.2.size ht2)
      have HE2 := Lib.hid (hr.out.2.2.1.tw FldC.stays hpw ht2)
      clear hp2 ht2
      go_wp2_with fail
      go_ret
      refine .inl ⟨l, _, _, m, HD.out, rfl, ?_, HP2.out, HT2.out⟩
      have := HE2.out.read (bytes := 104) FldC.stays (by have := HLL.out; unfold big; omega)
      rw [HLL.out]
      exact this
    · have HD : Hid (R = exB (bgR (isNm tr) l.length most tr) fun _ => exB (el tr) fun q => bls [cb] most el f' (l ++ [q.1]) q.2) := Lib.hid (hr.out.1.trans (by rw [bls_succ, if_neg (by rw [← HLL.out]; exact hdone)]))
      have hwalk : ∃ W, W = wr := ⟨_, rfl⟩
      have hcase : ll = 0 ∨ (ll ≠ 0 ∧ isSg [cb] tr = false) := by
        by_cases h0 : ll = 0
        · exact .inl h0
        · exact .inr ⟨h0, by cases hh : isSg [cb] tr with
            | true => exact absurd ⟨h0, hh⟩ hdone
            | false => rfl⟩
      rw [← hll]
      clear hz hdone hll hwalk
      rcases hcase with hz | ⟨hz, hsg⟩
      focus
        have hz0 : ((ll : Int) == 0) = true := by rw [hz]; rfl
        have HPC := Lib.hid hr.out.2.2.2.1
        have HTC : Hid (Tw p wr.heap.size wr wr) := Lib.hid (.refl _ _ _)
        clear hz
        go_wp2_with fail
      rotate_left
      focus
        have hz0 : ((ll : Int) == 0) = false := by rw [beq_eq_false_iff_ne]; omega
        have HC := Lib.hid (ptakeSign_b hr.out.2.2.2.1 ⟨#[cb]⟩ _ hsg)
        clear hz hsg
        go_wp2_with fail
        refine HC.out.mono ?_
        rintro e wa ⟨rfl, hp2, ht2⟩
        have HPC : Hid (PSt wa p tr m) := Lib.hid hp2
        have HTC := Lib.hid ht2
        clear hp2 ht2 HC
        go_wp2_with fail
      all_goals
        refine (pisName_any HPC.out).mono ?_
        rintro e wb ⟨rfl, hb⟩
        have HPB := Lib.hid (HPC.out.stay hb)
        have HTB := Lib.hid (HTC.out.step HTC.out.size (.of hb))
        clear hb
        go_wp2_with fail
        refine (pbegin_any HPB.out (isNm tr) l.length most _ _ (by have := HLL.out; omega) HY.out).mono ?_
        rintro e wc (⟨hbg, rfl, hb⟩ | ⟨x, hbg, rfl, ht⟩)
        rotate_left
        · have HD2 : Hid (R = .error x) := Lib.hid (by rw [HD.out, exB_er hbg])
          have HT2 := Lib.hid (hr.out.2.2.2.2.step hr.out.2.2.2.2.size (HTB.out.step HTB.out.size ht))
          clear hbg ht
          exact ⟨rfl, .inr ⟨x, HD2.out, rfl, HT2.out⟩⟩
        obtain ⟨hnm, hlm2⟩ := bgR_lt hbg hlm
        have HD2 : Hid (R = exB (el tr) fun q => bls [cb] most el f' (l ++ [q.1]) q.2) := Lib.hid (by rw [HD.out, exB_ok hbg])
        have HPB2 := Lib.hid (HPB.out.stay hb)
        have HTB2 := Lib.hid (HTB.out.step HTB.out.size (.of hb))
        have HNM := Lib.hid hnm
        clear hbg hb hnm
        go_wp2_with fail
        refine (HEL.out _ tr m HPB2.out HNM.out).mono ?_
        rintro e wd (⟨x, ts', v, m', hre, rfl, hx, hp, ht⟩ | ⟨x, hre, rfl, ht⟩)
        rotate_left
        · have HD3 : Hid (R = .error x) := Lib.hid (by rw [HD2.out, exB_er hre])
          have HT3 := Lib.hid (hr.out.2.2.2.2.step hr.out.2.2.2.2.size (HTB2.out.step HTB2.out.size ht))
          clear hre ht
          exact ⟨rfl, .inr ⟨x, HD3.out, rfl, HT3.out⟩⟩
        have HD3 : Hid (R = bls [cb] most el f' (l ++ [x]) ts') := Lib.hid (by rw [HD2.out, exB_ok hre])
        have hlt3 := HLT.out tr x ts' HPB2.out.good HNM.out hre
        obtain ⟨A1, A3, A4, d1, d3, d4, rfl, hxc⟩ := hx.shape
        have HTD := Lib.hid (HTB2.out.step HTB2.out.size ht)
        have hE := hr.out.2.2.1.tw FldC.stays hpw HTD.out
        have hws : w.heap.size ≤ wc.heap.size := Nat.le_trans hr.out.2.2.2.2.size HTB2.out.size
        have hwd : wc.heap.size ≤ wd.heap.size := ht.size
        have hxS := FldC.stays.kept (w' := wd) (S' := fun b => w.heap.size ≤ b ∧ b < wd.heap.size ∧ (Value.slice AL l.length c).ownBlock ≠ some b) hxc (fun _ _ => rfl) (fun b hb => ⟨by have := hb.1; omega, hb.2, fun e => by have h8 := (hr.out.2.2.1.own).lt b e; have h9 := HTB2.out.size; have := hb.1; omega⟩)
        have HX := Lib.hid hxS
        have HPD := Lib.hid hp
        have HE := Lib.hid hE
        have b0 : Below wd.heap.size wd (wd.alloc (.cells #[.string x.name, .slice A1 x.args.length d1, .string x.tn, .slice A3 x.tw.length d3, .slice A4 x.dirs.length d4] 52 (0, 0))) := below_new _ _
        have HB0 := Lib.hid b0
        have HOWN : Hid ((wd.alloc (.cells #[.string x.name, .slice A1 x.args.length d1, .string x.tn, .slice A3 x.tw.length d3, .slice A4 x.dirs.length d4] 52 (0, 0))).ownsRow w.heap.size 52 5 (.slice AL ll c) ll cells) := Lib.hid (by
          have h8 := own_kept hE.own (fun g hg => b0.block g hg)
          rw [← HLL.out] at h8; exact h8)
        have HNEWS : Hid (∀ (j : Nat) (u : Value), ([.string x.name, .slice A1 x.args.length d1, .string x.tn, .slice A3 x.tw.length d3, .slice A4 x.dirs.length d4] : List Value)[j]? = some u → (wd.alloc (.cells #[.string x.name, .slice A1 x.args.length d1, .string x.tn, .slice A3 x.tw.length d3, .slice A4 x.dirs.length d4] 52 (0, 0))).cell? ((⟨wd.heap.size, 0, none⟩ : Addr).add j) = some u) := Lib.hid (cells_at wd [.string x.name, .slice A1 x.args.length d1, .string x.tn, .slice A3 x.tw.length d3, .slice A4 x.dirs.length d4] 52)
        have HONE : Hid (∀ u ∈ ([.string x.name, .slice A1 x.args.length d1, .string x.tn, .slice A3 x.tw.length d3, .slice A4 x.dirs.length d4] : List Value), u.oneCell' = true) := Lib.hid (by intro u hu; simp only [List.mem_cons, List.not_mem_nil, or_false] at hu; rcases hu with rfl | rfl | rfl | rfl | rfl <;> rfl)
        have HSZ : Hid (w.heap.size ≤ (wd.alloc (.cells #[.string x.name, .slice A1 x.args.length d1, .string x.tn, .slice A3 x.tw.length d3, .slice A4 x.dirs.length d4] 52 (0, 0))).heap.size) := Lib.hid (by rw [World.size_alloc]; omega)
        clear hre ht hx hxc hp hE hxS b0
        go_wp2_with (at_builtin; refine wpList_append_fresh _ rfl _ _ 41 rfl w.heap.size 52 _ 5 104 Tryz.underlying41 infoFld rfl (by decide) _ ll cells rfl HOWN.out ⟨wd.heap.size, 0, none⟩ 1 1 (by decide) [.string x.name, .slice A1 x.args.length d1, .string x.tn, .slice A3 x.tw.length d3, .slice A4 x.dirs.length d4] rfl rfl HNEWS.out HONE.out (by unfold maxLen; omega) (by omega) HSZ.out ?_; intro v' w' hown' hg' hf')
        have hpush := Els.push (x := x) FldC.stays HE.out HB0.out (by have := HSZ.out; omega) HX.out (news := [.string x.name, .slice A1 x.args.length d1, .string x.tn, .slice A3 x.tw.length d3, .slice A4 x.dirs.length d4]) (fun j hj => rfl) (FldV.cong (Nat.le_refl _)) (by rw [← HLL.out]; exact hown') (by rw [← HLL.out]; exact hg') (by rw [← HLL.out]; exact hf')
        have HE2 := Lib.hid hpush.1
        have HT2 : Hid (Tw p w.heap.size w w') := Lib.hid ((hr.out.2.2.2.2.trans (HTD.out.mono hr.out.2.2.2.2.size)).trans (.of hpush.2))
        have HP2 := Lib.hid (HPD.out.same (hpush.2.mono (by omega)))
        clear hpush hown' hg' hf'
        go_roundw
        case rel => exact ⟨l ++ [x], ts', _, f', m', by rw [List.length_append, List.length_singleton]; omega, Lib.hid ⟨HD3.out, by have := hr.out.2.1; omega, HE2.out, HP2.out, HT2.out⟩⟩
        case measure => rw [HP2.out.tlen, hr.out.2.2.2.1.tlen]; exact hlt3
end Go.Proofs.YthjoelpfmimedaaGreatDoor
namespace Go.Proofs.YthjoelpfmimedaaGreatDoor
open Go.RowKit
theorem infoMem : (Tryz.prog.info? 54).map (fun i => (i.zero, i.size, i.bytes)) = some (some (.agg #[.string ⟨#[]⟩, .slice none 0 0]), 2, 40) := by kernel_rfl
set_option maxRecDepth 100000 in
set_option maxHeartbeats 8000000 in
theorem blockMem_any (p : Nat) (el : List Tk → Except Er (MemT × List Tk)) (hel : ∀ (W : World) (ts : List Tk) (m : Nat), PSt W p ts m → isNm ts = true → Calls Tryz.prog 123 #[pP p] W (WPost MemV W p (el ts)))
    (hlt : ∀ (ts : List Tk) (x : MemT) (ts' : List Tk), Good ts → isNm ts = true → el ts = .ok (x, ts') → ts'.length < ts.length) (w : World) (ts : List Tk) (n : Nat) (h : PSt w p ts n) (ca cb : UInt8) (most : Nat) (hm : most ≤ 64) (y : Int) (hy : y = most) :
    Calls Tryz.prog 181 #[pP p, .string ⟨#[ca, cb]⟩, .int .i64 y, .func (.func 172) #[pP p] #[], .func (.func 123) #[pP p] #[]] w (WPost (SlS 2 40 MemC) w p (blR [ca] [cb] most el ts)) := by
  have HS : Hid (Calls Tryz.prog 179 #[pP p, .string ⟨#[ca]⟩] w (UPost w p n (sgR [ca] ts))) := Lib.hid (psign_any h ⟨#[ca]⟩)
  have HV : Hid (blR [ca] [cb] most el ts = exB (sgR [ca] ts) fun ts1 => bls [cb] most el (ts1.length + 1) [] ts1) := Lib.hid rfl
  have HEL := Lib.hid hel
  have HLT := Lib.hid hlt
  have HY := Lib.hid hy
  have hpw := h.lt
  clear h hel hlt hy
  generalize blR [ca] [cb] most el ts = R at *
  go_enter Tryz.func181, Tryz.ntmps181
  go_wp2_with fail
  refine HS.out.mono ?_
  rintro e w1 (⟨ts1, hr, rfl, hp, ht⟩ | ⟨x, hr, rfl, ht⟩)
  rotate_left
  · have HV2 : Hid (R = .error x) := Lib.hid (by rw [HV.out, exB_er hr])
    have HT := Lib.hid ht
    clear hr ht
    exact ⟨rfl, .inr ⟨x, HV2.out, rfl, HT.out⟩⟩
  have HV2 : Hid (R = bls [cb] most el (ts1.length + 1) [] ts1) := Lib.hid (by rw [HV.out, exB_ok hr])
  have HP1 := Lib.hid hp
  have HT1 := Lib.hid ht
  clear hr hp ht HV HS
  go_wp2_with fail
  go_loopw [11] (fun u wr => ∃ (l : List MemT) (tr : List Tk) (cells : List Value) (f m : Nat), l.length ≤ most ∧ Hid (R = bls [cb] most el f l tr ∧ tr.length < f ∧ Els 54 2 MemC wr w.heap.size u cells l ∧ PSt wr p tr m ∧ Tw p w.heap.size w wr)) (fun _ wr => tlen p wr)
  case atStart => exact ⟨[], ts1, [], _, n, Nat.zero_le _, Lib.hid ⟨HV2.out, Nat.lt_succ_self _, Els.nil _ _ _ _ _, HP1.out, HT1.out⟩⟩
  case round =>
    obtain ⟨l, tr, cells, f, m, hlm, hr⟩ := hrel
    obtain ⟨AL, c, hu⟩ := hr.out.2.2.1.slice
    subst hu
    have hlb : (l.length : Int) ≤ 64 := by omega
    obtain ⟨f', hf'⟩ : ∃ f', f = f' + 1 := ⟨f - 1, by have := hr.out.2.1; omega⟩
    subst hf'
    obtain ⟨ll, hll⟩ : ∃ ll, ll = l.length := ⟨_, rfl⟩
    rw [← hll] at hlb
    have HLL := Lib.hid hll
    have hz : ll = 0 ∨ ll ≠ 0 := by omega
    by_cases hdone : ll ≠ 0 ∧ isSg [cb] tr = true
    · obtain ⟨hz, hsg⟩ := hdone
      have hz0 : ((ll : Int) == 0) = false := by rw [beq_eq_false_iff_ne]; omega
      have HD : Hid (R = .ok (l, tr.tail)) := Lib.hid (hr.out.1.trans (by rw [bls_succ, if_pos ⟨by rw [← HLL.out]; exact hz, hsg⟩]))
      have HC := Lib.hid (ptakeSign_b hr.out.2.2.2.1 ⟨#[cb]⟩ _ hsg)
      clear hz hsg hll
      rw [← HLL.out]
      go_wp2_with fail
      refine HC.out.mono ?_
      rintro e w2 ⟨rfl, hp2, ht2⟩
      have HP2 : Hid (PSt w2 p tr.tail m) := Lib.hid hp2
      have HT2 := Lib.hid (hr.out.2.2.2.2.step hr.out.2.2.2.2.size ht2)
      have HE2 := Lib.hid (hr.out.2.2.1.tw MemC.stays hpw ht2)
      clear hp2 ht2
      go_wp2_with fail
      go_ret
      refine .inl ⟨l, _, _, m, HD.out, rfl, ?_, HP2.out, HT2.out⟩
      have := HE2.out.read (bytes := 40) MemC.stays (by have := HLL.out; unfold big; omega)
      rw [HLL.out]
      exact this
    · have HD : Hid (R = exB (bgR (isNm tr) l.length most tr) fun _ => exB (el tr) fun q => bls [cb] most el f' (l ++ [q.1]) q.2) := Lib.hid (hr.out.1.trans (by rw [bls_succ, if_neg (by rw [← HLL.out]; exact hdone)]))
      have hwalk : ∃ W, W = wr := ⟨_, rfl⟩
      have hcase : ll = 0 ∨ (ll ≠ 0 ∧ isSg [cb] tr = false) := by
        by_cases h0 : ll = 0
        · exact .inl h0
        · exact .inr ⟨h0, by cases hh : isSg [cb] tr with
            | true => exact absurd ⟨h0, hh⟩ hdone
            | false => rfl⟩
      rw [← hll]
      clear hz hdone hll hwalk
      rcases hcase with hz | ⟨hz, hsg⟩
      focus
        have hz0 : ((ll : Int) == 0) = true := by rw [hz]; rfl
        have HPC := Lib.hid hr.out.2.2.2.1
        have HTC : Hid (Tw p wr.heap.size wr wr) := Lib.hid (.refl _ _ _)
        clear hz
        go_wp2_with fail
      rotate_left
      focus
        have hz0 : ((ll : Int) == 0) = false := by rw [beq_eq_false_iff_ne]; omega
        have HC := Lib.hid (ptakeSign_b hr.out.2.2.2.1 ⟨#[cb]⟩ _ hsg)
        clear hz hsg
        go_wp2_with fail
        refine HC.out.mono ?_
        rintro e wa ⟨rfl, hp2, ht2⟩
        have HPC : Hid (PSt wa p tr m) := Lib.hid hp2
        have HTC := Lib.hid ht2
        clear hp2 ht2 HC
        go_wp2_with fail
      all_goals
        refine (pisName_any HPC.out).mono ?_
        rintro e wb ⟨rfl, hb⟩
        have HPB := Lib.hid (HPC.out.stay hb)
        have HTB := Lib.hid (HTC.out.step HTC.out.size (.of hb))
        clear hb
        go_wp2_with fail
        refine (pbegin_any HPB.out (isNm tr) l.length most _ _ (by have := HLL.out; omega) HY.out).mono ?_
        rintro e wc (⟨hbg, rfl, hb⟩ | ⟨x, hbg, rfl, ht⟩)
        rotate_left
        · have HD2 : Hid (R = .error x) := Lib.hid (by rw [HD.out, exB_er hbg])
          have HT2 := Lib.hid (hr.out.2.2.2.2.step hr.out.2.2.2.2.size (HTB.out.step HTB.out.size ht))
          clear hbg ht
          exact ⟨rfl, .inr ⟨x, HD2.out, rfl, HT2.out⟩⟩
        obtain ⟨hnm, hlm2⟩ := bgR_lt hbg hlm
        have HD2 : Hid (R = exB (el tr) fun q => bls [cb] most el f' (l ++ [q.1]) q.2) := Lib.hid (by rw [HD.out, exB_ok hbg])
        have HPB2 := Lib.hid (HPB.out.stay hb)
        have HTB2 := Lib.hid (HTB.out.step HTB.out.size (.of hb))
        have HNM := Lib.hid hnm
        clear hbg hb hnm
        go_wp2_with fail
        refine (HEL.out _ tr m HPB2.out HNM.out).mono ?_
        rintro e wd (⟨x, ts', v, m', hre, rfl, hx, hp, ht⟩ | ⟨x, hre, rfl, ht⟩)
        rotate_left
        · have HD3 : Hid (R = .error x) := Lib.hid (by rw [HD2.out, exB_er hre])
          have HT3 := Lib.hid (hr.out.2.2.2.2.step hr.out.2.2.2.2.size (HTB2.out.step HTB2.out.size ht))
          clear hre ht
          exact ⟨rfl, .inr ⟨x, HD3.out, rfl, HT3.out⟩⟩
        have HD3 : Hid (R = bls [cb] most el f' (l ++ [x]) ts') := Lib.hid (by rw [HD2.out, exB_ok hre])
        have hlt3 := HLT.out tr x ts' HPB2.out.good HNM.out hre
        obtain ⟨A1, d1, rfl, hxc⟩ := hx.shape
        have HTD := Lib.hid (HTB2.out.step HTB2.out.size ht)
        have hE := hr.out.2.2.1.tw MemC.stays hpw HTD.out
        have hws : w.heap.size ≤ wc.heap.size := Nat.le_trans hr.out.2.2.2.2.size HTB2.out.size
        have hwd : wc.heap.size ≤ wd.heap.size := ht.size
        have hxS := MemC.stays.kept (w' := wd) (S' := fun b => w.heap.size ≤ b ∧ b < wd.heap.size ∧ (Value.slice AL l.length c).ownBlock ≠ some b) hxc (fun _ _ => rfl) (fun b hb => ⟨by have := hb.1; omega, hb.2, fun e => by have h8 := (hr.out.2.2.1.own).lt b e; have h9 := HTB2.out.size; have := hb.1; omega⟩)
        have HX := Lib.hid hxS
        have HPD := Lib.hid hp
        have HE := Lib.hid hE
        have b0 : Below wd.heap.size wd (wd.alloc (.cells #[.string x.name, .slice A1 x.dirs.length d1] 54 (0, 0))) := below_new _ _
        have HB0 := Lib.hid b0
        have HOWN : Hid ((wd.alloc (.cells #[.string x.name, .slice A1 x.dirs.length d1] 54 (0, 0))).ownsRow w.heap.size 54 2 (.slice AL ll c) ll cells) := Lib.hid (by
          have h8 := own_kept hE.own (fun g hg => b0.block g hg)
          rw [← HLL.out] at h8; exact h8)
        have HNEWS : Hid (∀ (j : Nat) (u : Value), ([.string x.name, .slice A1 x.dirs.length d1] : List Value)[j]? = some u → (wd.alloc (.cells #[.string x.name, .slice A1 x.dirs.length d1] 54 (0, 0))).cell? ((⟨wd.heap.size, 0, none⟩ : Addr).add j) = some u) := Lib.hid (cells_at wd [.string x.name, .slice A1 x.dirs.length d1] 54)
        have HONE : Hid (∀ u ∈ ([.string x.name, .slice A1 x.dirs.length d1] : List Value), u.oneCell' = true) := Lib.hid (by intro u hu; simp only [List.mem_cons, List.not_mem_nil, or_false] at hu; rcases hu with rfl | rfl <;> rfl)
        have HSZ : Hid (w.heap.size ≤ (wd.alloc (.cells #[.string x.name, .slice A1 x.dirs.length d1] 54 (0, 0))).heap.size) := Lib.hid (by rw [World.size_alloc]; omega)
        clear hre ht hx hxc hp hE hxS b0
        go_wp2_with (at_builtin; refine wpList_append_fresh _ rfl _ _ 42 rfl w.heap.size 54 _ 2 40 Tryz.underlying42 infoMem rfl (by decide) _ ll cells rfl HOWN.out ⟨wd.heap.size, 0, none⟩ 1 1 (by decide) [.string x.name, .slice A1 x.dirs.length d1] rfl rfl HNEWS.out HONE.out (by unfold maxLen; omega) (by omega) HSZ.out ?_; intro v' w' hown' hg' hf')
        have hpush := Els.push (x := x) MemC.stays HE.out HB0.out (by have := HSZ.out; omega) HX.out (news := [.string x.name, .slice A1 x.dirs.length d1]) (fun j hj => rfl) (MemV.cong (Nat.le_refl _)) (by rw [← HLL.out]; exact hown') (by rw [← HLL.out]; exact hg') (by rw [← HLL.out]; exact hf')
        have HE2 := Lib.hid hpush.1
        have HT2 : Hid (Tw p w.heap.size w w') := Lib.hid ((hr.out.2.2.2.2.trans (HTD.out.mono hr.out.2.2.2.2.size)).trans (.of hpush.2))
        have HP2 := Lib.hid (HPD.out.same (hpush.2.mono (by omega)))
        clear hpush hown' hg' hf'
        go_roundw
        case rel => exact ⟨l ++ [x], ts', _, f', m', by rw [List.length_append, List.length_singleton]; omega, Lib.hid ⟨HD3.out, by have := hr.out.2.1; omega, HE2.out, HP2.out, HT2.out⟩⟩
        case measure => rw [HP2.out.tlen, hr.out.2.2.2.1.tlen]; exact hlt3
end Go.Proofs.YthjoelpfmimedaaGreatDoor
namespace Go.Proofs.YthjoelpfmimedaaGreatDoor
open Go.RowKit
theorem infoInp : (Tryz.prog.info? 61).map (fun i => (i.zero, i.size, i.bytes)) = some (some (.agg #[.string ⟨#[]⟩, .string ⟨#[]⟩, .slice none 0 0, .bool false, .int .i64 0, .int .i64 0, .string ⟨#[]⟩, .slice none 0 0, .slice none 0 0, .slice none 0 0]), 10, 168) := by kernel_rfl
set_option maxRecDepth 100000 in
set_option maxHeartbeats 8000000 in
theorem blockInp_any (p : Nat) (el : List Tk → Except Er (InpT × List Tk)) (hel : ∀ (W : World) (ts : List Tk) (m : Nat), PSt W p ts m → isNm ts = true → Calls Tryz.prog 125 #[pP p] W (WPost InpV W p (el ts)))
    (hlt : ∀ (ts : List Tk) (x : InpT) (ts' : List Tk), Good ts → isNm ts = true → el ts = .ok (x, ts') → ts'.length < ts.length) (w : World) (ts : List Tk) (n : Nat) (h : PSt w p ts n) (ca cb : UInt8) (most : Nat) (hm : most ≤ 64) (y : Int) (hy : y = most) :
    Calls Tryz.prog 182 #[pP p, .string ⟨#[ca, cb]⟩, .int .i64 y, .func (.func 172) #[pP p] #[], .func (.func 125) #[pP p] #[]] w (WPost (SlS 10 168 InpC) w p (blR [ca] [cb] most el ts)) := by
  have HS : Hid (Calls Tryz.prog 179 #[pP p, .string ⟨#[ca]⟩] w (UPost w p n (sgR [ca] ts))) := Lib.hid (psign_any h ⟨#[ca]⟩)
  have HV : Hid (blR [ca] [cb] most el ts = exB (sgR [ca] ts) fun ts1 => bls [cb] most el (ts1.length + 1) [] ts1) := Lib.hid rfl
  have HEL := Lib.hid hel
  have HLT := Lib.hid hlt
  have HY := Lib.hid hy
  have hpw := h.lt
  clear h hel hlt hy
  generalize blR [ca] [cb] most el ts = R at *
  go_enter Tryz.func182, Tryz.ntmps182
  go_wp2_with fail
  refine HS.out.mono ?_
  rintro e w1 (⟨ts1, hr, rfl, hp, ht⟩ | ⟨x, hr, rfl, ht⟩)
  rotate_left
  · have HV2 : Hid (R = .error x) := Lib.hid (by rw [HV.out, exB_er hr])
    have HT := Lib.hid ht
    clear hr ht
    exact ⟨rfl, .inr ⟨x, HV2.out, rfl, HT.out⟩⟩
  have HV2 : Hid (R = bls [cb] most el (ts1.length + 1) [] ts1) := Lib.hid (by rw [HV.out, exB_ok hr])
  have HP1 := Lib.hid hp
  have HT1 := Lib.hid ht
  clear hr hp ht HV HS
  go_wp2_with fail
  go_loopw [11] (fun u wr => ∃ (l : List InpT) (tr : List Tk) (cells : List Value) (f m : Nat), l.length ≤ most ∧ Hid (R = bls [cb] most el f l tr ∧ tr.length < f ∧ Els 61 10 InpC wr w.heap.size u cells l ∧ PSt wr p tr m ∧ Tw p w.heap.size w wr)) (fun _ wr => tlen p wr)
  case atStart => exact ⟨[], ts1, [], _, n, Nat.zero_le _, Lib.hid ⟨HV2.out, Nat.lt_succ_self _, Els.nil _ _ _ _ _, HP1.out, HT1.out⟩⟩
  case round =>
    obtain ⟨l, tr, cells, f, m, hlm, hr⟩ := hrel
    obtain ⟨AL, c, hu⟩ := hr.out.2.2.1.slice
    subst hu
    have hlb : (l.length : Int) ≤ 64 := by omega
    obtain ⟨f', hf'⟩ : ∃ f', f = f' + 1 := ⟨f - 1, by have := hr.out.2.1; omega⟩
    subst hf'
    obtain ⟨ll, hll⟩ : ∃ ll, ll = l.length := ⟨_, rfl⟩
    rw [← hll] at hlb
    have HLL := Lib.hid hll
    have hz : ll = 0 ∨ ll ≠ 0 := by omega
    by_cases hdone : ll ≠ 0 ∧ isSg [cb] tr = true
    · obtain ⟨hz, hsg⟩ := hdone
      have hz0 : ((ll : Int) == 0) = false := by rw [beq_eq_false_iff_ne]; omega
      have HD : Hid (R = .ok (l, tr.tail)) := Lib.hid (hr.out.1.trans (by rw [bls_succ, if_pos ⟨by rw [← HLL.out]; exact hz, hsg⟩]))
      have HC := Lib.hid (ptakeSign_b hr.out.2.2.2.1 ⟨#[cb]⟩ _ hsg)
      clear hz hsg hll
      rw [← HLL.out]
      go_wp2_with fail
      refine HC.out.mono ?_
      rintro e w2 ⟨rfl, hp2, ht2⟩
      have HP2 : Hid (PSt w2 p tr.tail m) := Lib.hid hp2
      have HT2 := Lib.hid (hr.out.2.2.2.2.step hr.out.2.2.2.2.size ht2)
      have HE2 := Lib.hid (hr.out.2.2.1.tw InpC.stays hpw ht2)
      clear hp2 ht2
      go_wp2_with fail
      go_ret
      refine .inl ⟨l, _, _, m, HD.out, rfl, ?_, HP2.out, HT2.out⟩
      have := HE2.out.read (bytes := 168) InpC.stays (by have := HLL.out; unfold big; omega)
      rw [HLL.out]
      exact this
    · have HD : Hid (R = exB (bgR (isNm tr) l.length most tr) fun _ => exB (el tr) fun q => bls [cb] most el f' (l ++ [q.1]) q.2) := Lib.hid (hr.out.1.trans (by rw [bls_succ, if_neg (by rw [← HLL.out]; exact hdone)]))
      have hwalk : ∃ W, W = wr := ⟨_, rfl⟩
      have hcase : ll = 0 ∨ (ll ≠ 0 ∧ isSg [cb] tr = false) := by
        by_cases h0 : ll = 0
        · exact .inl h0
        · exact .inr ⟨h0, by cases hh : isSg [cb] tr with
            | true => exact absurd ⟨h0, hh⟩ hdone
            | false => rfl⟩
      rw [← hll]
      clear hz hdone hll hwalk
      rcases hcase with hz | ⟨hz, hsg⟩
      focus
        have hz0 : ((ll : Int) == 0) = true := by rw [hz]; rfl
        have HPC := Lib.hid hr.out.2.2.2.1
        have HTC : Hid (Tw p wr.heap.size wr wr) := Lib.hid (.refl _ _ _)
        clear hz
        go_wp2_with fail
      rotate_left
      focus
        have hz0 : ((ll : Int) == 0) = false := by rw [beq_eq_false_iff_ne]; omega
        have HC := Lib.hid (ptakeSign_b hr.out.2.2.2.1 ⟨#[cb]⟩ _ hsg)
        clear hz hsg
        go_wp2_with fail
        refine HC.out.mono ?_
        rintro e wa ⟨rfl, hp2, ht2⟩
        have HPC : Hid (PSt wa p tr m) := Lib.hid hp2
        have HTC := Lib.hid ht2
        clear hp2 ht2 HC
        go_wp2_with fail
      all_goals
        refine (pisName_any HPC.out).mono ?_
        rintro e wb ⟨rfl, hb⟩
        have HPB := Lib.hid (HPC.out.stay hb)
        have HTB := Lib.hid (HTC.out.step HTC.out.size (.of hb))
        clear hb
        go_wp2_with fail
        refine (pbegin_any HPB.out (isNm tr) l.length most _ _ (by have := HLL.out; omega) HY.out).mono ?_
        rintro e wc (⟨hbg, rfl, hb⟩ | ⟨x, hbg, rfl, ht⟩)
        rotate_left
        · have HD2 : Hid (R = .error x) := Lib.hid (by rw [HD.out, exB_er hbg])
          have HT2 := Lib.hid (hr.out.2.2.2.2.step hr.out.2.2.2.2.size (HTB.out.step HTB.out.size ht))
          clear hbg ht
          exact ⟨rfl, .inr ⟨x, HD2.out, rfl, HT2.out⟩⟩
        obtain ⟨hnm, hlm2⟩ := bgR_lt hbg hlm
        have HD2 : Hid (R = exB (el tr) fun q => bls [cb] most el f' (l ++ [q.1]) q.2) := Lib.hid (by rw [HD.out, exB_ok hbg])
        have HPB2 := Lib.hid (HPB.out.stay hb)
        have HTB2 := Lib.hid (HTB.out.step HTB.out.size (.of hb))
        have HNM := Lib.hid hnm
        clear hbg hb hnm
        go_wp2_with fail
        refine (HEL.out _ tr m HPB2.out HNM.out).mono ?_
        rintro e wd (⟨x, ts', v, m', hre, rfl, hx, hp, ht⟩ | ⟨x, hre, rfl, ht⟩)
        rotate_left
        · have HD3 : Hid (R = .error x) := Lib.hid (by rw [HD2.out, exB_er hre])
          have HT3 := Lib.hid (hr.out.2.2.2.2.step hr.out.2.2.2.2.size (HTB2.out.step HTB2.out.size ht))
          clear hre ht
          exact ⟨rfl, .inr ⟨x, HD3.out, rfl, HT3.out⟩⟩
        have HD3 : Hid (R = bls [cb] most el f' (l ++ [x]) ts') := Lib.hid (by rw [HD2.out, exB_ok hre])
        have hlt3 := HLT.out tr x ts' HPB2.out.good HNM.out hre
        obtain ⟨A, A2, A9, KA, ci, ck, d2, d9, k, li, lk, s, z, rfl, hxc⟩ := hx.shape
        have HTD := Lib.hid (HTB2.out.step HTB2.out.size ht)
        have hE := hr.out.2.2.1.tw InpC.stays hpw HTD.out
        have hws : w.heap.size ≤ wc.heap.size := Nat.le_trans hr.out.2.2.2.2.size HTB2.out.size
        have hwd : wc.heap.size ≤ wd.heap.size := ht.size
        have hxS := InpC.stays.kept (w' := wd) (S' := fun b => w.heap.size ≤ b ∧ b < wd.heap.size ∧ (Value.slice AL l.length c).ownBlock ≠ some b) hxc (fun _ _ => rfl) (fun b hb => ⟨by have := hb.1; omega, hb.2, fun e => by have h8 := (hr.out.2.2.1.own).lt b e; have h9 := HTB2.out.size; have := hb.1; omega⟩)
        have HX := Lib.hid hxS
        have HPD := Lib.hid hp
        have HE := Lib.hid hE
        have b0 : Below wd.heap.size wd (wd.alloc (.cells #[.string x.name, .string x.tn, .slice A2 x.tw.length d2, .bool x.has, .int .i64 k, .int .i64 z, .string s, .slice A li ci, .slice KA lk ck, .slice A9 x.dirs.length d9] 61 (0, 0))) := below_new _ _
        have HB0 := Lib.hid b0
        have HOWN : Hid ((wd.alloc (.cells #[.string x.name, .string x.tn, .slice A2 x.tw.length d2, .bool x.has, .int .i64 k, .int .i64 z, .string s, .slice A li ci, .slice KA lk ck, .slice A9 x.dirs.length d9] 61 (0, 0))).ownsRow w.heap.size 61 10 (.slice AL ll c) ll cells) := Lib.hid (by
          have h8 := own_kept hE.own (fun g hg => b0.block g hg)
          rw [← HLL.out] at h8; exact h8)
        have HNEWS : Hid (∀ (j : Nat) (u : Value), ([.string x.name, .string x.tn, .slice A2 x.tw.length d2, .bool x.has, .int .i64 k, .int .i64 z, .string s, .slice A li ci, .slice KA lk ck, .slice A9 x.dirs.length d9] : List Value)[j]? = some u → (wd.alloc (.cells #[.string x.name, .string x.tn, .slice A2 x.tw.length d2, .bool x.has, .int .i64 k, .int .i64 z, .string s, .slice A li ci, .slice KA lk ck, .slice A9 x.dirs.length d9] 61 (0, 0))).cell? ((⟨wd.heap.size, 0, none⟩ : Addr).add j) = some u) := Lib.hid (cells_at wd [.string x.name, .string x.tn, .slice A2 x.tw.length d2, .bool x.has, .int .i64 k, .int .i64 z, .string s, .slice A li ci, .slice KA lk ck, .slice A9 x.dirs.length d9] 61)
        have HONE : Hid (∀ u ∈ ([.string x.name, .string x.tn, .slice A2 x.tw.length d2, .bool x.has, .int .i64 k, .int .i64 z, .string s, .slice A li ci, .slice KA lk ck, .slice A9 x.dirs.length d9] : List Value), u.oneCell' = true) := Lib.hid (by intro u hu; simp only [List.mem_cons, List.not_mem_nil, or_false] at hu; rcases hu with rfl | rfl | rfl | rfl | rfl | rfl | rfl | rfl | rfl | rfl <;> rfl)
        have HSZ : Hid (w.heap.size ≤ (wd.alloc (.cells #[.string x.name, .string x.tn, .slice A2 x.tw.length d2, .bool x.has, .int .i64 k, .int .i64 z, .string s, .slice A li ci, .slice KA lk ck, .slice A9 x.dirs.length d9] 61 (0, 0))).heap.size) := Lib.hid (by rw [World.size_alloc]; omega)
        clear hre ht hx hxc hp hE hxS b0
        go_wp2_with (at_builtin; refine wpList_append_fresh _ rfl _ _ 43 rfl w.heap.size 61 _ 10 168 Tryz.underlying43 infoInp rfl (by decide) _ ll cells rfl HOWN.out ⟨wd.heap.size, 0, none⟩ 1 1 (by decide) [.string x.name, .string x.tn, .slice A2 x.tw.length d2, .bool x.has, .int .i64 k, .int .i64 z, .string s, .slice A li ci, .slice KA lk ck, .slice A9 x.dirs.length d9] rfl rfl HNEWS.out HONE.out (by unfold maxLen; omega) (by omega) HSZ.out ?_; intro v' w' hown' hg' hf')
        have hpush := Els.push (x := x) InpC.stays HE.out HB0.out (by have := HSZ.out; omega) HX.out (news := [.string x.name, .string x.tn, .slice A2 x.tw.length d2, .bool x.has, .int .i64 k, .int .i64 z, .string s, .slice A li ci, .slice KA lk ck, .slice A9 x.dirs.length d9]) (fun j hj => rfl) (InpV.cong (Nat.le_refl _)) (by rw [← HLL.out]; exact hown') (by rw [← HLL.out]; exact hg') (by rw [← HLL.out]; exact hf')
        have HE2 := Lib.hid hpush.1
        have HT2 : Hid (Tw p w.heap.size w w') := Lib.hid ((hr.out.2.2.2.2.trans (HTD.out.mono hr.out.2.2.2.2.size)).trans (.of hpush.2))
        have HP2 := Lib.hid (HPD.out.same (hpush.2.mono (by omega)))
        clear hpush hown' hg' hf'
        go_roundw
        case rel => exact ⟨l ++ [x], ts', _, f', m', by rw [List.length_append, List.length_singleton]; omega, Lib.hid ⟨HD3.out, by have := hr.out.2.1; omega, HE2.out, HP2.out, HT2.out⟩⟩
        case measure => rw [HP2.out.tlen, hr.out.2.2.2.1.tlen]; exact hlt3
end Go.Proofs.YthjoelpfmimedaaGreatDoor
