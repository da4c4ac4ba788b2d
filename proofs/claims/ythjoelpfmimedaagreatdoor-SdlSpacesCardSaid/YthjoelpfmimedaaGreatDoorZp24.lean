
/-
 Texts joined: EQ5 R4 R5 R6 S1 S2.
-/
import Derived.Test.YthjoelpfmimedaaGreatDoorZp23
import Derived.Test.YthjoelpfmimedaaGreatDoorZp20
namespace Go.Proofs.YthjoelpfmimedaaGreatDoor
open Go.RowKit
def docW (l:List DefT):Prop:=∀ x ∈ l,defW x
set_option maxRecDepth 100000 in
set_option maxHeartbeats 8000000 in
theorem zs9 (l:List DefT) (v v':Value) (w:World) (h:DefsR w w.heap.size v l) (h':DefsR w w.heap.size v' l) (hw:docW l):Calls Tryz.prog 15 #[.agg #[v],.agg #[v']] w (BP true w):=by
 have HWD:=Lib.hid hw
 obtain ⟨A,c,rfl,hc,hbb,V,hA,hr⟩:=h
 obtain ⟨A',c',rfl,hc',_,V',hA',hr'⟩:=h'
 obtain ⟨ll,hll⟩ : ∃ ll,ll = l.length:=⟨_,rfl⟩
 have HLL:=Lib.hid hll
 rw [← hll] at hbb hA hA' ⊢
 have hlb:(ll:Int) ≤ 140737488351232:=by unfold big at hbb; omega
 have HA:=Lib.hid hA
 have HRR:=Lib.hid hr
 have HA':=Lib.hid hA'
 have HRR':=Lib.hid hr'
 have hX:Bk ((w.alloc (.cells #[.slice A ll c] 24 (0,0))).alloc (.cells #[.slice A' ll c'] 24 (0,0))) w.heap.size #[.slice A ll c] 24 ∧ Bk ((w.alloc (.cells #[.slice A ll c] 24 (0,0))).alloc (.cells #[.slice A' ll c'] 24 (0,0))) (w.heap.size + 1) #[.slice A' ll c'] 24 ∧ Below w.heap.size w ((w.alloc (.cells #[.slice A ll c] 24 (0,0))).alloc (.cells #[.slice A' ll c'] 24 (0,0))):=by
  have b1:=za0 w (.cells #[.slice A ll c] 24 (0,0))
  have k1:=Bk.new w #[.slice A ll c] 24
  have k2:=Bk.new (w.alloc (.cells #[.slice A ll c] 24 (0,0))) #[.slice A' ll c'] 24
  have b2:=za0 (w.alloc (.cells #[.slice A ll c] 24 (0,0))) (.cells #[.slice A' ll c'] 24 (0,0))
  rw [World.size_alloc] at k2
  exact ⟨k1.stay b2,k2,b1.trans (b2.mono b1.size)⟩
 obtain ⟨hX1,hX2,hB⟩:=hX
 have x0:=hX1.cell 0 _ rfl
 have y0:=hX2.cell 0 _ rfl
 have HX1:=Lib.hid hX1
 have HX2:=Lib.hid hX2
 have HB:=Lib.hid hB
 clear hA hr hA' hr' hll hbb hc hc' hw hX1 hX2 hB
 go_enter Tryz.func15, Tryz.ntmps15
 go_wp2_with fail
 clear x0 y0
 go_loopw [5] (fun i wr => ∃ j:Nat,j ≤ ll ∧ i = .int .i64 j ∧ Hid (Below w.heap.size w wr ∧ Bk wr w.heap.size #[.slice A ll c] 24 ∧ Bk wr (w.heap.size + 1) #[.slice A' ll c'] 24)) (fun i _ => ll - (intOf i).toNat)
 case atStart => exact ⟨0,Nat.zero_le _,rfl,Lib.hid ⟨HB.out,HX1.out,HX2.out⟩⟩
 case round =>
  obtain ⟨j,hj,rfl,hq⟩:=hrel
  have x0:=hq.out.2.1.cell 0 _ rfl
  have y0:=hq.out.2.2.cell 0 _ rfl
  by_cases hlt:j < ll
  ·have hlt':(j:Int) < ll:=by omega
   obtain ⟨d,hd⟩ : ∃ d,l[j]? = some d:=⟨_,List.getElem?_eq_getElem (by have:=HLL.out; omega)⟩
   obtain ⟨a,rfl,ha,hx⟩:=HA.out (by omega)
   obtain ⟨a',rfl,ha',hx'⟩:=HA'.out (by omega)
   have hdr:=HRR.out j d hd
   have hdr':=HRR'.out j d hd
   have hcell:=hx j hlt
   have hcell':=hx' j hlt
   have HE:=Lib.hid (fun (W:World) (hW:Below w.heap.size w W) => zL2 d _ _ W (DefR.stays.mono (DefR.stays.kept hdr hW) hW.size) (DefR.stays.mono (DefR.stays.kept hdr' hW) hW.size) (HWD.out d (List.mem_of_getElem? hd)))
   obtain ⟨I1,i1,ei1,_,_⟩:=hdr.impl.form
   obtain ⟨D1,d1,ed1,_,_⟩:=hdr.dirs.form
   obtain ⟨F1,f1,ef1,_,_⟩:=hdr.fields.form
   obtain ⟨M1,m1,em1,_,_⟩:=hdr.members.form
   obtain ⟨P1,p1,ep1,_,_⟩:=hdr.inputs.form
   obtain ⟨I2,i2,ei2,_,_⟩:=hdr'.impl.form
   obtain ⟨D2,d2,ed2,_,_⟩:=hdr'.dirs.form
   obtain ⟨F2,f2,ef2,_,_⟩:=hdr'.fields.form
   obtain ⟨M2,m2,em2,_,_⟩:=hdr'.members.form
   obtain ⟨P2,p2,ep2,_,_⟩:=hdr'.inputs.form
   rw [hdr.kind,hdr.name,ei1,ed1,ef1,em1,ep1,hdr'.kind,hdr'.name,ei2,ed2,ef2,em2,ep2] at HE
   have G0:=Lib.hid ((hcell 0 (by omega)).trans (by rw [hdr.kind]):w.cell? (a.add (j * 7)) = some (.int .i64 d.kind))
   have G1:=Lib.hid ((hcell 1 (by omega)).trans (by rw [hdr.name]):w.cell? ⟨(a.add (j * 7)).block,(a.add (j * 7)).off + 1,none⟩ = some (.string d.name))
   have G2:=Lib.hid ((hcell 2 (by omega)).trans (by rw [ei1]):w.cell? ⟨(a.add (j * 7)).block,(a.add (j * 7)).off + 2,none⟩ = some (.slice I1 d.impl.length i1))
   have G3:=Lib.hid ((hcell 3 (by omega)).trans (by rw [ed1]):w.cell? ⟨(a.add (j * 7)).block,(a.add (j * 7)).off + 3,none⟩ = some (.slice D1 d.dirs.length d1))
   have G4:=Lib.hid ((hcell 4 (by omega)).trans (by rw [ef1]):w.cell? ⟨(a.add (j * 7)).block,(a.add (j * 7)).off + 4,none⟩ = some (.slice F1 d.fields.length f1))
   have G5:=Lib.hid ((hcell 5 (by omega)).trans (by rw [em1]):w.cell? ⟨(a.add (j * 7)).block,(a.add (j * 7)).off + 5,none⟩ = some (.slice M1 d.members.length m1))
   have G6:=Lib.hid ((hcell 6 (by omega)).trans (by rw [ep1]):w.cell? ⟨(a.add (j * 7)).block,(a.add (j * 7)).off + 6,none⟩ = some (.slice P1 d.inputs.length p1))
   have G'0:=Lib.hid ((hcell' 0 (by omega)).trans (by rw [hdr'.kind]):w.cell? (a'.add (j * 7)) = some (.int .i64 d.kind))
   have G'1:=Lib.hid ((hcell' 1 (by omega)).trans (by rw [hdr'.name]):w.cell? ⟨(a'.add (j * 7)).block,(a'.add (j * 7)).off + 1,none⟩ = some (.string d.name))
   have G'2:=Lib.hid ((hcell' 2 (by omega)).trans (by rw [ei2]):w.cell? ⟨(a'.add (j * 7)).block,(a'.add (j * 7)).off + 2,none⟩ = some (.slice I2 d.impl.length i2))
   have G'3:=Lib.hid ((hcell' 3 (by omega)).trans (by rw [ed2]):w.cell? ⟨(a'.add (j * 7)).block,(a'.add (j * 7)).off + 3,none⟩ = some (.slice D2 d.dirs.length d2))
   have G'4:=Lib.hid ((hcell' 4 (by omega)).trans (by rw [ef2]):w.cell? ⟨(a'.add (j * 7)).block,(a'.add (j * 7)).off + 4,none⟩ = some (.slice F2 d.fields.length f2))
   have G'5:=Lib.hid ((hcell' 5 (by omega)).trans (by rw [em2]):w.cell? ⟨(a'.add (j * 7)).block,(a'.add (j * 7)).off + 5,none⟩ = some (.slice M2 d.members.length m2))
   have G'6:=Lib.hid ((hcell' 6 (by omega)).trans (by rw [ep2]):w.cell? ⟨(a'.add (j * 7)).block,(a'.add (j * 7)).off + 6,none⟩ = some (.slice P2 d.inputs.length p2))
   have HAB:=Lib.hid ha
   have HAB':=Lib.hid ha'
   clear hx hx' hdr hdr' hcell hcell' ha ha' hd ei1 ed1 ef1 em1 ep1 ei2 ed2 ef2 em2 ep2
   generalize d.kind = kz at *
   generalize d.name = nz at *
   generalize d.impl.length = li at *
   generalize d.dirs.length = ld at *
   generalize d.fields.length = lf at *
   generalize d.members.length = lm at *
   generalize d.inputs.length = lp at *
   go_wp2_with fail
   refine za8 (fun W => Below w.heap.size w W ∧ Bk W w.heap.size #[.slice (some a) ll c] 24 ∧ Bk W (w.heap.size + 1) #[.slice (some a') ll c'] 24) hq.out (by kernel_rfl) ?_
   intro W ⟨hW,hW1,hW2⟩ _
   have r10:∀ x:Past W,x.w.cell? (a.add (j * 7)) = some (.int .i64 kz):=fun x => (pastc hW x hW.size (p:=(a.add (j * 7))) (by rw [za1]; exact HAB.out)).trans G0.out
   have r11:∀ x:Past W,x.w.cell? ⟨(a.add (j * 7)).block,(a.add (j * 7)).off + 1,none⟩ = some (.string nz):=fun x => (pastc hW x hW.size (p:=⟨(a.add (j * 7)).block,(a.add (j * 7)).off + 1,none⟩) (by rw [za1]; exact HAB.out)).trans G1.out
   have r12:∀ x:Past W,x.w.cell? ⟨(a.add (j * 7)).block,(a.add (j * 7)).off + 2,none⟩ = some (.slice I1 li i1):=fun x => (pastc hW x hW.size (p:=⟨(a.add (j * 7)).block,(a.add (j * 7)).off + 2,none⟩) (by rw [za1]; exact HAB.out)).trans G2.out
   have r13:∀ x:Past W,x.w.cell? ⟨(a.add (j * 7)).block,(a.add (j * 7)).off + 3,none⟩ = some (.slice D1 ld d1):=fun x => (pastc hW x hW.size (p:=⟨(a.add (j * 7)).block,(a.add (j * 7)).off + 3,none⟩) (by rw [za1]; exact HAB.out)).trans G3.out
   have r14:∀ x:Past W,x.w.cell? ⟨(a.add (j * 7)).block,(a.add (j * 7)).off + 4,none⟩ = some (.slice F1 lf f1):=fun x => (pastc hW x hW.size (p:=⟨(a.add (j * 7)).block,(a.add (j * 7)).off + 4,none⟩) (by rw [za1]; exact HAB.out)).trans G4.out
   have r15:∀ x:Past W,x.w.cell? ⟨(a.add (j * 7)).block,(a.add (j * 7)).off + 5,none⟩ = some (.slice M1 lm m1):=fun x => (pastc hW x hW.size (p:=⟨(a.add (j * 7)).block,(a.add (j * 7)).off + 5,none⟩) (by rw [za1]; exact HAB.out)).trans G5.out
   have r16:∀ x:Past W,x.w.cell? ⟨(a.add (j * 7)).block,(a.add (j * 7)).off + 6,none⟩ = some (.slice P1 lp p1):=fun x => (pastc hW x hW.size (p:=⟨(a.add (j * 7)).block,(a.add (j * 7)).off + 6,none⟩) (by rw [za1]; exact HAB.out)).trans G6.out
   have r20:∀ x:Past W,x.w.cell? (a'.add (j * 7)) = some (.int .i64 kz):=fun x => (pastc hW x hW.size (p:=(a'.add (j * 7))) (by rw [za1]; exact HAB'.out)).trans G'0.out
   have r21:∀ x:Past W,x.w.cell? ⟨(a'.add (j * 7)).block,(a'.add (j * 7)).off + 1,none⟩ = some (.string nz):=fun x => (pastc hW x hW.size (p:=⟨(a'.add (j * 7)).block,(a'.add (j * 7)).off + 1,none⟩) (by rw [za1]; exact HAB'.out)).trans G'1.out
   have r22:∀ x:Past W,x.w.cell? ⟨(a'.add (j * 7)).block,(a'.add (j * 7)).off + 2,none⟩ = some (.slice I2 li i2):=fun x => (pastc hW x hW.size (p:=⟨(a'.add (j * 7)).block,(a'.add (j * 7)).off + 2,none⟩) (by rw [za1]; exact HAB'.out)).trans G'2.out
   have r23:∀ x:Past W,x.w.cell? ⟨(a'.add (j * 7)).block,(a'.add (j * 7)).off + 3,none⟩ = some (.slice D2 ld d2):=fun x => (pastc hW x hW.size (p:=⟨(a'.add (j * 7)).block,(a'.add (j * 7)).off + 3,none⟩) (by rw [za1]; exact HAB'.out)).trans G'3.out
   have r24:∀ x:Past W,x.w.cell? ⟨(a'.add (j * 7)).block,(a'.add (j * 7)).off + 4,none⟩ = some (.slice F2 lf f2):=fun x => (pastc hW x hW.size (p:=⟨(a'.add (j * 7)).block,(a'.add (j * 7)).off + 4,none⟩) (by rw [za1]; exact HAB'.out)).trans G'4.out
   have r25:∀ x:Past W,x.w.cell? ⟨(a'.add (j * 7)).block,(a'.add (j * 7)).off + 5,none⟩ = some (.slice M2 lm m2):=fun x => (pastc hW x hW.size (p:=⟨(a'.add (j * 7)).block,(a'.add (j * 7)).off + 5,none⟩) (by rw [za1]; exact HAB'.out)).trans G'5.out
   have r26:∀ x:Past W,x.w.cell? ⟨(a'.add (j * 7)).block,(a'.add (j * 7)).off + 6,none⟩ = some (.slice P2 lp p2):=fun x => (pastc hW x hW.size (p:=⟨(a'.add (j * 7)).block,(a'.add (j * 7)).off + 6,none⟩) (by rw [za1]; exact HAB'.out)).trans G'6.out
   have p8:∀ x:Past W,x.w.cell? ⟨w.heap.size,0,none⟩ = some (.slice (some a) ll c):=fun x => (x.b.cell (p:=⟨w.heap.size,0,none⟩) hW1.lt).trans (hW1.cell 0 _ rfl)
   have p9:∀ x:Past W,x.w.cell? ⟨w.heap.size + 1,0,none⟩ = some (.slice (some a') ll c'):=fun x => (x.b.cell (p:=⟨w.heap.size + 1,0,none⟩) hW2.lt).trans (hW2.cell 0 _ rfl)
   have kE:∀ x:Past W,Calls Tryz.prog 33 #[.agg #[.int .i64 kz,.string nz,.slice I1 li i1,.slice D1 ld d1,.slice F1 lf f1,.slice M1 lm m1,.slice P1 lp p1],.agg #[.int .i64 kz,.string nz,.slice I2 li i2,.slice D2 ld d2,.slice F2 lf f2,.slice M2 lm m2,.slice P2 lp p2]] x.w fun e w'' => e = .returned (.bool true) ∧ ∃ y:Past W,w'' = y.w:=fun x => zl1 x (HE.out _ (hW.trans (x.b.mono hW.size)))
   have CE:=Lib.hid kE
   have HWW:=Lib.hid hW
   have HWX1:=Lib.hid hW1
   have HWX2:=Lib.hid hW2
   clear hW hW1 hW2 hq kE x0 y0
   repeat (go_big_quiet_step (with_reducible exact CE.out _))
   refine wpQuiet_nil ?_
   intro _ hw'
   obtain ⟨y,rfl⟩:=hw'
   go_wp2_with fail
   go_roundw
   case rel => exact ⟨j + 1,by omega,by go_num,Lib.hid ⟨HWW.out.trans (y.b.mono HWW.out.size),HWX1.out.stay y.b,HWX2.out.stay y.b⟩⟩
   case measure => simp [intOf]; omega
  ·have hlt':¬ (j:Int) < ll:=by omega
   go_wp2_with fail
   go_ret
   exact ⟨rfl,hq.out.1⟩
end Go.Proofs.YthjoelpfmimedaaGreatDoor
namespace Go.Proofs.YthjoelpfmimedaaGreatDoor
open Go.RowKit
theorem yi0 {α:Type} {cl:List UInt8} {most:Nat} {el:List Tk → Except Er (α × List Tk)} {P : α → Prop} (he:∀ ts x ts',el ts = .ok (x,ts') → P x):∀ (f:Nat) (l:List α) (ts:List Tk) (l':List α) (ts':List Tk),bls cl most el f l ts = .ok (l',ts') → (∀ x ∈ l,P x) → ∀ x ∈ l',P x
 | 0,l,ts,l',ts',h,_ => by simp [bls] at h
 | f + 1,l,ts,l',ts',h,hl => by
   rw [zd7] at h
   split at h
   ·cases h; exact hl
   ·obtain ⟨_,_,h⟩:=za2 h
    obtain ⟨q,h2,h⟩:=za2 h
    refine yi0 he f _ _ _ _ h fun x hx => ?_
    rcases List.mem_append.1 hx with hx | hx
    ·exact hl x hx
    ·rw [List.mem_singleton.1 hx]; exact he _ _ _ h2
theorem zG0 {α:Type} {op cl:List UInt8} {most:Nat} {el:List Tk → Except Er (α × List Tk)} {P : α → Prop} (he:∀ ts x ts',el ts = .ok (x,ts') → P x) {ts:List Tk} {l':List α} {ts':List Tk} (h:blR op cl most el ts = .ok (l',ts')):∀ x ∈ l',P x:=by
 obtain ⟨t1,_,h⟩:=za2 h
 exact yi0 he _ _ _ _ _ h (fun x hx => by cases hx)
theorem ref_w {ts:List Tk} {x:ByteArray × List Int} {ts':List Tk} (h:refP ts = .ok (x,ts')):x.2.length ≤ 1000000:=by
 obtain ⟨q,_,h⟩:=za2 h
 obtain ⟨r,_,h⟩:=za2 h
 unfold refE at h
 split at h
 ·cases h
 ·cases h
  rw [List.length_reverse]
  omega
theorem inp_w (ts:List Tk) (x:InpT) (ts':List Tk) (h:inpX ts = .ok (x,ts')):x.tw.length ≤ 1000000:=by
 obtain ⟨q,_,h⟩:=za2 h
 obtain ⟨t1,_,h⟩:=za2 h
 obtain ⟨r,h3,h⟩:=za2 h
 have:=ref_w (show refP t1 = .ok (r.1,r.2) from h3)
 split at h
 ·obtain ⟨_,_,h⟩:=za2 h
  obtain ⟨_,_,h⟩:=za2 h
  cases h; exact this
 ·obtain ⟨_,_,h⟩:=za2 h
  cases h; exact this
theorem fldQ_w (nm:ByteArray) (gs:List InpT) (hg:inpsW gs) (ts:List Tk) (x:FldT) (ts':List Tk) (h:fldQ refP dirX nm gs ts = .ok (x,ts')):inpsW x.args ∧ x.tw.length ≤ 1000000:=by
 obtain ⟨t1,_,h⟩:=za2 h
 obtain ⟨r,h3,h⟩:=za2 h
 obtain ⟨_,_,h⟩:=za2 h
 cases h
 exact ⟨hg,ref_w (show refP t1 = .ok (r.1,r.2) from h3)⟩
theorem fld_w (ts:List Tk) (x:FldT) (ts':List Tk) (h:fldX ts = .ok (x,ts')):inpsW x.args ∧ x.tw.length ≤ 1000000:=by
 obtain ⟨q,_,h⟩:=za2 h
 split at h
 ·obtain ⟨a,h2,h⟩:=za2 h
  exact fldQ_w _ _ (zG0 inp_w h2) _ _ _ h
 ·exact fldQ_w _ _ (fun x hx => by cases hx) _ _ _ h
theorem def_w (k:Nat) (ts:List Tk) (x:DefT) (ts':List Tk) (h:defX k ts = .ok (x,ts')):defW x:=by
 unfold defX at h
 split at h
 ·obtain ⟨_,_,h⟩:=za2 h
  obtain ⟨_,_,h⟩:=za2 h
  obtain ⟨_,_,h⟩:=za2 h
  obtain ⟨f,h4,h⟩:=za2 h
  cases h
  exact ⟨fun x hx => (by cases hx),zG0 fld_w h4⟩
 split at h
 ·obtain ⟨_,_,h⟩:=za2 h
  obtain ⟨_,_,h⟩:=za2 h
  obtain ⟨f,h4,h⟩:=za2 h
  cases h
  exact ⟨fun x hx => (by cases hx),zG0 fld_w h4⟩
 split at h
 ·obtain ⟨_,_,h⟩:=za2 h
  obtain ⟨_,_,h⟩:=za2 h
  obtain ⟨f,h4,h⟩:=za2 h
  cases h
  exact ⟨fun x hx => (by cases hx),fun x hx => by cases hx⟩
 split at h
 ·obtain ⟨_,_,h⟩:=za2 h
  obtain ⟨_,_,h⟩:=za2 h
  obtain ⟨f,h4,h⟩:=za2 h
  cases h
  exact ⟨fun x hx => (by cases hx),fun x hx => by cases hx⟩
 ·obtain ⟨_,_,h⟩:=za2 h
  obtain ⟨_,_,h⟩:=za2 h
  obtain ⟨f,h4,h⟩:=za2 h
  cases h
  exact ⟨zG0 inp_w h4,fun x hx => by cases hx⟩
theorem doc_w:∀ (f:Nat) (l:List DefT) (ts:List Tk) (l':List DefT) (ts':List Tk),docP defX f l ts = .ok (l',ts') → docW l → l.length ≤ 64 → docW l' ∧ l'.length ≤ 64
 | 0,l,ts,l',ts',h,_,_ => by simp [docP] at h
 | f + 1,l,ts,l',ts',h,hl,h64 => by
   rw [zg2] at h
   split at h
   ·cases h; exact ⟨hl,h64⟩
   ·obtain ⟨_,h1,h⟩:=za2 h
    obtain ⟨q,h2,h⟩:=za2 h
    have hne:=(bg_ok h1).2
    refine doc_w f _ _ _ _ h (fun x hx => ?_) (by rw [List.length_append,List.length_singleton]; omega)
    rcases List.mem_append.1 hx with hx | hx
    ·exact hl x hx
    ·rw [List.mem_singleton.1 hx]; exact def_w _ _ _ _ h2
theorem sdl_w {s:List UInt8} {l:List DefT} (h:sdlR s = .ok l):docW l ∧ l.length ≤ 64:=by
 unfold sdlR sdlF at h
 split at h
 ·cases h
 ·obtain ⟨q,h1,h⟩:=za2 h
  cases h
  exact doc_w _ _ _ _ _ (show docP defX _ [] _ = .ok (q.1,q.2) from h1) (fun x hx => by cases hx) (by simp)
end Go.Proofs.YthjoelpfmimedaaGreatDoor
namespace Go.Proofs.YthjoelpfmimedaaGreatDoor
open Go.RowKit
theorem tok_nz {l:List UInt8} {c:Int} (h:K.tokR l = .error c):c ≠ 0:=by
 unfold K.tokR at h
 simp only at h
 split at h
 ·cases h
 split at h
 ·cases h
 split at h
 ·split at h
  ·cases h
  ·cases h; decide
 split at h
 ·split at h
  ·cases h
  ·next hz => cases h; exact hz
 split at h
 ·split at h
  ·cases h; decide
  split at h
  ·cases h; decide
  ·cases h
 ·cases h; decide
theorem scF_nz:∀ (f a:Nat) (l:List UInt8) (x:Er),K.scF f a l = .error x → x.2 ≠ 0
 | 0,_,_,_,h => by cases h; decide
 | f + 1,a,l,x,h => by
   rw [K.zn3] at h
   split at h
   ·cases h
   ·split at h
    ·next hk => cases h; exact tok_nz hk
    ·split at h
     ·next hk => cases h; exact scF_nz f _ _ _ hk
     ·cases h
theorem doc_nz {e:Tk} (he:e.1 = 5):∀ (f:Nat) (l:List DefT) (ts:List Tk) (x:Er),docP defX f l ts = .error x → Lk [e] ts ts → x.2 ≠ 0
 | 0,_,_,_,h,_ => by cases h; decide
 | f + 1,l,ts,x,h,hl => by
   have hE:En [e]:=⟨e,rfl,he⟩
   rw [zg2] at h
   split at h
   ·cases h
   ·cases hb:bgR (decide (kdR (hd ts) ≠ 0)) l.length 64 ts with
    | error y =>
      rw [hb] at h
      cases h
      unfold bgR at hb
      split at hb
      ·split at hb
       ·cases hb; show (4:Int) ≠ 0; decide
       ·cases hb
      ·cases hb; show (3:Int) ≠ 0; decide
    | ok u =>
      rw [hb] at h
      have hk:kdR (hd ts) ≠ 0:=by simpa using (bg_ok hb).1
      have hq:=def_q (tl:=[e]) (.inl hE) (kdR (hd ts)) hl hk
      rw [za4 rfl] at h
      cases hd':defX (kdR (hd ts)) ts with
      | error y =>
        rw [hd'] at h hq
        cases h
        obtain ⟨z,_,_,h3⟩:=hq hE
        exact h3
      | ok q =>
        rw [hd'] at h hq
        obtain ⟨q',h1,h2⟩:=hq
        cases h1
        exact doc_nz he f _ _ _ h h2.2
theorem sdl_nz {s:List UInt8} {x:Er} (h:sdlR s = .error x):x.2 ≠ 0:=by
 unfold sdlR sdlF at h
 split at h
 ·next y hk =>
  cases h
  unfold K.scR at hk
  split at hk
  ·cases hk; decide
  ·exact scF_nz _ _ _ _ hk
 ·next ts hk =>
  cases hd':docR defX ts with
  | ok q => rw [hd'] at h; cases h
  | error y =>
    rw [hd'] at h
    cases h
    unfold K.scR at hk
    split at hk
    ·cases hk
    ·obtain ⟨us,e,h1,h2,h3⟩:=zR5 _ _ 0 0 _ _ hk (Nat.le_refl _)
     rw [hk] at h1
     cases h1
     exact doc_nz h2 _ _ _ _ hd' h3
structure RowOf (w:World) (S:Nat → Prop) (a:Addr) (news:List Value) (xs:List DefT):Prop where
 blk:S a.block
 len:news.length = xs.length * 7
 at_:∀ (j:Nat) (u:Value),news[j]? = some u → w.cell? (a.add j) = some u
 one:∀ u ∈ news,u.oneCell' = true
 els:∀ i x,xs[i]? = some x → DefC w S (fun j => news.getD (i * 7 + j) undef) x
end Go.Proofs.YthjoelpfmimedaaGreatDoor
namespace Go.Proofs.YthjoelpfmimedaaGreatDoor
open Go.RowKit
theorem zT3 {tl:List Tk} (hE:En tl):∀ (f:Nat) (l:List DefT) (ts us:List Tk),Lk tl ts us → Rq tl (Q1 tl) (docP defX f l ts) (docP defX f l us)
 | 0,l,ts,us,_ => Rq.er ⟨rfl,by decide⟩
 | f + 1,l,ts,us,h => by
   have hT:TlOk tl:=.inl hE
   rw [zg2,zg2]
   cases h with
   | @stop e he =>
     obtain ⟨e',rfl,he'⟩:=hE
     have k1:kdR e = 0:=by unfold kdR; rw [if_neg (by rw [he]; decide)]
     have k2:kdR e' = 0:=by unfold kdR; rw [if_neg (by rw [he']; decide)]
     by_cases h0:l.length ≠ 0
     ·rw [if_pos ⟨h0,he⟩,if_pos ⟨h0,he'⟩]; exact Rq.ok ⟨rfl,.stop he⟩
     ·rw [if_neg (fun q => h0 q.1),if_neg (fun q => h0 q.1)]
      show Rq _ _ (exB (bgR (decide (kdR e ≠ 0)) l.length 64 [e]) _) (exB (bgR (decide (kdR e' ≠ 0)) l.length 64 [e']) _)
      rw [k1,k2]
      exact Rq.er ⟨rfl,by show (3:Int) ≠ 0; decide⟩
   | @step t u ts us h5 hk hx h =>
     rw [if_neg (fun q => h5 q.2),if_neg (fun q => h5 (hk.trans q.2))]
     have e1:kdR (hd (u :: us)) = kdR (hd (t :: ts)):=kdR_eq hk.symm hx.symm
     rw [e1]
     by_cases h0:kdR (hd (t :: ts)) ≠ 0
     ·rw [show decide (kdR (hd (t :: ts)) ≠ 0) = true from decide_eq_true h0]
      refine (bt_q _ _ _ _).bind fun _ _ _ => (def_q hT _ (.step h5 hk hx h) h0).bind fun b b' hb => ?_
      rw [← hb.1]
      exact zT3 hE f _ _ _ hb.2
     ·rw [show decide (kdR (hd (t :: ts)) ≠ 0) = false from decide_eq_false h0]
      exact Rq.er ⟨rfl,by show (3:Int) ≠ 0; decide⟩
theorem sdl_like {s t:List UInt8} {ts us:List Tk} {e:Tk} (h1:K.scR s = .ok ts) (h2:K.scR t = .ok us) (he:e.1 = 5) (hl:Lk [e] ts us):(∀ l,sdlR s = .ok l → sdlR t = .ok l) ∧ ∀ z,sdlR s = .error z → ∃ z',sdlR t = .error z' ∧ z'.2 = z.2:=by
 have hE:En [e]:=⟨e,rfl,he⟩
 have hlen:=(hl.len (.inl hE)).2 hE
 have hq:=zT3 hE (us.length + 1) [] ts us hl
 unfold sdlR sdlF
 rw [h1,h2]
 simp only
 unfold docR
 rw [hlen]
 cases hd:docP defX (us.length + 1) [] ts with
 | error y =>
   rw [hd] at hq
   obtain ⟨z,h3,h4,_⟩:=hq hE
   rw [h3]
   refine ⟨fun l h => (by cases h),fun z' h => ?_⟩
   cases h
   exact ⟨z,rfl,h4⟩
 | ok q =>
   rw [hd] at hq
   obtain ⟨q',h3,h4⟩:=hq
   rw [h3]
   refine ⟨fun l h => ?_,fun z h => (by cases h)⟩
   cases h
   rw [za4 rfl,h4.1]
theorem sdl_scan {s:List UInt8} {z:Nat × Int} (h:K.scR s = .error z):sdlR s = .error z:=by
 unfold sdlR sdlF
 rw [h]
end Go.Proofs.YthjoelpfmimedaaGreatDoor
namespace Go.Proofs.YthjoelpfmimedaaGreatDoor.Pl
open Go.RowKit
inductive Lk (N:Nat) (tl:List Tk):List Tk → List Tk → Prop
 | stop {e:Tk} (h:e.1 = 5) (hn:e.2.2 ≤ N):Lk N tl [e] tl
 | step {t u:Tk} {ts us:List Tk} (h5:t.1 ≠ 5) (hn:t.2.2 ≤ N) (hk:t.1 = u.1) (hx:t.2.1 = u.2.1) (h:Lk N tl ts us):Lk N tl (t :: ts) (u :: us)
def En (tl:List Tk):Prop:=∃ e:Tk,tl = [e] ∧ e.1 = 5
def TlOk (tl:List Tk):Prop:=En tl ∨ kdR (hd tl) ≠ 0
def Rq {β:Type} (N:Nat) (tl:List Tk) (Q : β → β → Prop) (r1 r2:Except Er β):Prop:=match r1 with
 | .ok b => ∃ b',r2 = .ok b' ∧ Q b b'
 | .error z => En tl → ∃ z',r2 = .error z' ∧ z'.2 = z.2 ∧ z.2 ≠ 0 ∧ z.1 ≤ N
def Q1 {α:Type} (N:Nat) (tl:List Tk) (b b' : α × List Tk):Prop:=b.1 = b'.1 ∧ Lk N tl b.2 b'.2
def Q3 {α:Type} (N:Nat) (tl:List Tk) (b b' : α × List Tk × Nat):Prop:=b.1 = b'.1 ∧ Lk N tl b.2.1 b'.2.1 ∧ b.2.2 = b'.2.2
variable {N:Nat} {tl:List Tk}
theorem Lk.at {ts us:List Tk} (h:Lk N tl ts us):(hd ts).2.2 ≤ N:=by
 cases h with
 | stop _ hn => exact hn
 | step _ hn _ _ _ => exact hn
theorem Rq.ok {β:Type} {Q : β → β → Prop} {b b' : β} (h:Q b b'):Rq N tl Q (.ok b) (.ok b'):=⟨b',rfl,h⟩
theorem Rq.er {β:Type} {Q : β → β → Prop} {z z':Er} (h:z'.2 = z.2 ∧ z.2 ≠ 0 ∧ z.1 ≤ N):Rq N tl Q (.error z:Except Er β) (.error z'):=fun _ => ⟨z',rfl,h⟩
theorem Rq.bind {α β:Type} {Q : α → α → Prop} {Q' : β → β → Prop} {r1 r2:Except Er α} {k1 k2 : α → Except Er β} (h:Rq N tl Q r1 r2) (hk:∀ b b',Q b b' → Rq N tl Q' (k1 b) (k2 b')):Rq N tl Q' (exB r1 k1) (exB r2 k2):=by
 cases r1 with
 | ok b =>
   obtain ⟨b',rfl,hq⟩:=h
   exact hk b b' hq
 | error z =>
   intro he
   obtain ⟨z',rfl,hz⟩:=h he
   exact ⟨z',rfl,hz⟩
theorem Lk.len {ts us:List Tk} (hT:TlOk tl) (h:Lk N tl ts us):ts.length ≤ us.length ∧ (En tl → ts.length = us.length):=by
 induction h with
 | stop he hn0 =>
   refine ⟨?_, ?_⟩
   ·rcases hT with ⟨e,rfl,_⟩ | hT
    ·simp
    ·cases tl with
     | nil => exact absurd rfl hT
     | cons a r => simp
   ·rintro ⟨e,rfl,_⟩; simp
 | step h5 hn0 hk hx h ih =>
   simp only [List.length_cons]
   exact ⟨by omega,fun he => by have:=ih.2 he; omega⟩
theorem kd2 {t:Tk} (h:kdR t ≠ 0):t.1 = 2:=by
 unfold kdR at h
 split at h
 ·assumption
 ·exact absurd rfl h
theorem zK6 {tl:List Tk} (hT:TlOk tl):(hd tl).1 = 5 ∨ (hd tl).1 = 2:=by
 rcases hT with ⟨e,rfl,h⟩ | h
 ·exact .inl h
 ·exact .inr (kd2 h)
theorem Lk.sg {ts us:List Tk} (hT:TlOk tl) (h:Lk N tl ts us) (s:List UInt8):isSg s us = isSg s ts ∧ (isSg s ts = true → Lk N tl ts.tail us.tail):=by
 cases h with
 | @stop e he hn0 =>
   have h1:isSg s [e] = false:=by unfold isSg hd; simp [he]
   have h2:isSg s tl = false:=by unfold isSg; rcases zK6 hT with h | h <;> simp [h]
   rw [h1,h2]
   exact ⟨rfl,fun h => by cases h⟩
 | @step t u ts us h5 hn0 hk hx h =>
   refine ⟨?_,fun _ => h⟩
   unfold isSg hd
   simp [hk,hx]
theorem Lk.nm {ts us:List Tk} (hT:TlOk tl) (h:Lk N tl ts us):(isNm ts = true → isNm us = true ∧ Lk N tl ts.tail us.tail ∧ (hd us).2.1 = (hd ts).2.1) ∧ (isNm ts = false → En tl → isNm us = false):=by
 cases h with
 | @stop e he hn0 =>
   have h1:isNm [e] = false:=by unfold isNm hd; simp [he]
   rw [h1]
   refine ⟨fun h => (by cases h),fun _ hE => ?_⟩
   obtain ⟨e',rfl,h'⟩:=hE
   unfold isNm hd; simp [h']
 | @step t u ts us h5 hn0 hk hx h =>
   have e:isNm (u :: us) = isNm (t :: ts):=by unfold isNm hd; simp [hk]
   rw [e]
   exact ⟨fun hn => ⟨hn,h,hx.symm⟩,fun hn _ => hn⟩
variable (hT:TlOk tl)
include hT
theorem sg_q {ts us:List Tk} (h:Lk N tl ts us) (s:List UInt8):Rq N tl (Lk N tl) (sgR s ts) (sgR s us):=by
 obtain ⟨h1,h2⟩:=h.sg hT s
 unfold sgR
 rw [h1]
 by_cases e:isSg s ts = true
 ·rw [if_pos e,if_pos e]; exact Rq.ok (h2 e)
 ·rw [if_neg e,if_neg e]; exact Rq.er ⟨rfl,⟨by first | decide | simp [erR] | (intro hz; cases hz),by first | exact Nat.zero_le _ | exact Lk.at (by assumption)⟩⟩
theorem nm_q {ts us:List Tk} (h:Lk N tl ts us):Rq N tl (Q1 N tl) (nmR ts) (nmR us):=by
 obtain ⟨h1,h2⟩:=h.nm hT
 unfold nmR
 by_cases e:isNm ts = true
 ·obtain ⟨a,b,c⟩:=h1 e
  rw [if_pos e,if_pos a]
  exact Rq.ok ⟨by rw [c],b⟩
 ·rw [if_neg e]
  intro hE
  rw [if_neg (by rw [h2 (by simpa using e) hE]; decide)]
  exact ⟨_,rfl,rfl,⟨by first | decide | simp [erR] | (intro hz; cases hz),by first | exact Nat.zero_le _ | exact Lk.at (by assumption)⟩⟩
theorem bn_q {ts us:List Tk} (h:Lk N tl ts us) (c m:Nat):Rq N tl (fun _ _ => True) (bgR (isNm ts) c m ts) (bgR (isNm us) c m us):=by
 obtain ⟨h1,h2⟩:=h.nm hT
 unfold bgR
 cases e:isNm ts with
 | true =>
   rw [(h1 e).1]
   simp only [if_true]
   split
   ·exact Rq.er ⟨rfl,⟨by first | decide | simp [erR] | (intro hz; cases hz),by first | exact Nat.zero_le _ | exact Lk.at (by assumption)⟩⟩
   ·exact Rq.ok trivial
 | false =>
   intro hE
   rw [h2 e hE]
   exact ⟨_,rfl,rfl,⟨by first | decide | simp [erR] | (intro hz; cases hz),by first | exact Nat.zero_le _ | exact Lk.at (by assumption)⟩⟩
omit hT in
theorem bt_q {ts us:List Tk} (h:Lk N tl ts us) (c m:Nat):Rq N tl (fun _ _ => True) (bgR true c m ts) (bgR true c m us):=by
 unfold bgR
 simp only [if_true]
 split
 ·exact Rq.er ⟨rfl,⟨by first | decide | simp [erR] | (intro hz; cases hz),by first | exact Nat.zero_le _ | exact Lk.at (by assumption)⟩⟩
 ·exact Rq.ok trivial
def Sim {α:Type} (N:Nat) (tl:List Tk) (el:List Tk → Except Er (α × List Tk)):Prop:=∀ ts us,Lk N tl ts us → Rq N tl (Q1 N tl) (el ts) (el us)
theorem bls_q {α:Type} {cl:List UInt8} {most:Nat} {el:List Tk → Except Er (α × List Tk)} (he:Sim N tl el):∀ (f g:Nat) (l:List α) (ts us:List Tk),f ≤ g → (En tl → f = g) → Lk N tl ts us → Rq N tl (Q1 N tl) (bls cl most el f l ts) (bls cl most el g l us)
 | 0,g,l,ts,us,_,hE,_ => fun h => by rw [← hE h]; exact ⟨_,rfl,rfl,⟨by first | decide | simp [erR] | (intro hz; cases hz),by first | exact Nat.zero_le _ | exact Lk.at (by assumption)⟩⟩
 | f + 1,0,l,ts,us,h,_,_ => absurd h (Nat.not_succ_le_zero _)
 | f + 1,g + 1,l,ts,us,h,hE,hl => by
   rw [zd7,zd7]
   obtain ⟨h1,h2⟩:=hl.sg hT cl
   rw [h1]
   by_cases e:l.length ≠ 0 ∧ isSg cl ts = true
   ·rw [if_pos e,if_pos e]; exact Rq.ok ⟨rfl,h2 e.2⟩
   ·rw [if_neg e,if_neg e]
    refine (bn_q hT hl _ _).bind fun _ _ _ => (he _ _ hl).bind fun b b' hb => ?_
    rw [← hb.1]
    exact bls_q he f g _ _ _ (by omega) (fun h => by have:=hE h; omega) hb.2
theorem bl_q {α:Type} {op cl:List UInt8} {most:Nat} {el:List Tk → Except Er (α × List Tk)} (he:Sim N tl el):Sim N tl (blR op cl most el):=fun ts us h => by
 refine (sg_q hT h op).bind fun b b' hb => ?_
 have:=hb.len hT
 exact bls_q hT he _ _ _ _ _ (by omega) (fun h => by have:=this.2 h; omega) hb
theorem nms_q {sep:List UInt8}:∀ (f g:Nat) (l:List ByteArray) (ts us:List Tk),f ≤ g → (En tl → f = g) → Lk N tl ts us → Rq N tl (Q1 N tl) (nms sep f l ts) (nms sep g l us)
 | 0,g,l,ts,us,_,hE,_ => fun h => by rw [← hE h]; exact ⟨_,rfl,rfl,⟨by first | decide | simp [erR] | (intro hz; cases hz),by first | exact Nat.zero_le _ | exact Lk.at (by assumption)⟩⟩
 | f + 1,0,l,ts,us,h,_,_ => absurd h (Nat.not_succ_le_zero _)
 | f + 1,g + 1,l,ts,us,h,hE,hl => by
   rw [zi2,zi2]
   obtain ⟨h1,h2⟩:=hl.sg hT sep
   rw [h1]
   by_cases e:l.length ≠ 0 ∧ isSg sep ts = false
   ·rw [if_pos e,if_pos e]; exact Rq.ok ⟨rfl,hl⟩
   ·rw [if_neg e,if_neg e]
    have hl2:Lk N tl (if l.length = 0 then ts else ts.tail) (if l.length = 0 then us else us.tail):=by
     by_cases h0:l.length = 0
     ·rw [if_pos h0,if_pos h0]; exact hl
     ·rw [if_neg h0,if_neg h0]
      refine h2 ?_
      cases q:isSg sep ts with
      | true => rfl
      | false => exact absurd ⟨h0,q⟩ e
    refine (bn_q hT hl2 _ _).bind fun _ _ _ => (nm_q hT hl2).bind fun b b' hb => ?_
    rw [← hb.1]
    exact nms_q f g _ _ _ (by omega) (fun h => by have:=hE h; omega) hb.2
theorem zK2 {sep:List UInt8}:Sim N tl (nmsR sep):=fun ts us h => by
 have:=h.len hT
 exact nms_q hT _ _ _ _ _ (by omega) (fun h => by have:=this.2 h; omega) h
theorem drs_q {el:List Tk → Except Er (DirT × List Tk)} (he:Sim N tl el):∀ (f g:Nat) (l:List DirT) (ts us:List Tk),f ≤ g → (En tl → f = g) → Lk N tl ts us → Rq N tl (Q1 N tl) (drs el f l ts) (drs el g l us)
 | 0,g,l,ts,us,_,hE,_ => fun h => by rw [← hE h]; exact ⟨_,rfl,rfl,⟨by first | decide | simp [erR] | (intro hz; cases hz),by first | exact Nat.zero_le _ | exact Lk.at (by assumption)⟩⟩
 | f + 1,0,l,ts,us,h,_,_ => absurd h (Nat.not_succ_le_zero _)
 | f + 1,g + 1,l,ts,us,h,hE,hl => by
   rw [zj7,zj7]
   obtain ⟨h1,h2⟩:=hl.sg hT [64]
   rw [h1]
   by_cases e:isSg [64] ts = false
   ·rw [if_pos e,if_pos e]; exact Rq.ok ⟨rfl,hl⟩
   ·rw [if_neg e,if_neg e]
    refine (bt_q hl _ _).bind fun _ _ _ => (he _ _ hl).bind fun b b' hb => ?_
    rw [← hb.1]
    exact drs_q he f g _ _ _ (by omega) (fun h => by have:=hE h; omega) hb.2
theorem zn1 {el:List Tk → Except Er (DirT × List Tk)} (he:Sim N tl el):Sim N tl (drsR el):=fun ts us h => by
 have:=h.len hT
 exact drs_q hT he _ _ _ _ _ (by omega) (fun h => by have:=this.2 h; omega) h
theorem brk_q {ts us:List Tk} (h:Lk N tl ts us):(brk ts).1 = (brk us).1 ∧ Lk N tl (brk ts).2 (brk us).2:=by
 induction h with
 | @stop e he hn0 =>
   have h1:isSg [91] [e] = false:=by unfold isSg hd; simp [he]
   have h2:isSg [91] tl = false:=by unfold isSg; rcases zK6 hT with h | h <;> simp [h]
   have h3:brk tl = (0,tl):=by
    cases tl with
    | nil => rfl
    | cons a r => rw [brk,if_neg (by rw [h2]; decide)]
   rw [brk,if_neg (by rw [h1]; decide),h3]
   exact ⟨rfl,.stop he hn0⟩
 | @step t u ts us h5 hn0 hk hx h ih =>
   have h1:=((Lk.step h5 hn0 hk hx h).sg hT [91]).1
   rw [brk,brk,h1]
   by_cases e:isSg [91] (t :: ts) = true
   ·rw [if_pos e,if_pos e]; exact ⟨by rw [ih.1],ih.2⟩
   ·rw [if_neg e,if_neg e]; exact ⟨rfl,.step h5 hn0 hk hx h⟩
theorem nn_q {ts us:List Tk} (h:Lk N tl ts us) (xs:List Int):(nnP xs ts).1 = (nnP xs us).1 ∧ Lk N tl (nnP xs ts).2 (nnP xs us).2:=by
 obtain ⟨h1,h2⟩:=h.sg hT [33]
 unfold nnP
 rw [h1]
 by_cases e:isSg [33] ts = true
 ·rw [if_pos e,if_pos e]; exact ⟨rfl,h2 e⟩
 ·rw [if_neg e,if_neg e]; exact ⟨rfl,h⟩
theorem cls_q:∀ (k:Nat) (xs:List Int) (ts us:List Tk),Lk N tl ts us → Rq N tl (Q1 N tl) (cls k xs ts) (cls k xs us)
 | 0,xs,ts,us,h => Rq.ok ⟨rfl,h⟩
 | k + 1,xs,ts,us,h => by
   rw [cls,cls]
   refine (sg_q hT h [93]).bind fun b b' hb => ?_
   obtain ⟨h1,h2⟩:=nn_q hT hb (xs ++ [2])
   rw [← h1]
   exact cls_q k _ _ _ h2
theorem ref_q:Sim N tl refP:=fun ts us h => by
 obtain ⟨h1,h2⟩:=brk_q hT h
 unfold refP
 rw [← h1]
 refine (nm_q hT h2).bind fun b b' hb => ?_
 obtain ⟨h3,h4⟩:=nn_q hT hb.2 []
 rw [← h3]
 refine (cls_q hT _ _ _ _ h4).bind fun c c' hc => ?_
 unfold refE
 rw [← hc.1, ← hb.1]
 split
 ·exact Rq.er ⟨rfl,⟨by first | decide | simp [erR] | (intro hz; cases hz),by first | exact Nat.zero_le _ | exact Lk.at (by assumption)⟩⟩
 ·exact Rq.ok ⟨rfl,hc.2⟩
def Sim3 (N:Nat) (tl:List Tk) (el:ElT):Prop:=∀ ts us n,Lk N tl ts us → Rq N tl (Q3 N tl) (el ts n) (el us n)
theorem ls_q {el:ElT} (he:Sim3 N tl el):∀ (f g:Nat) (l:List VT) (ts us:List Tk) (n:Nat),f ≤ g → (En tl → f = g) → Lk N tl ts us → Rq N tl (Q3 N tl) (lsP el f l ts n) (lsP el g l us n)
 | 0,g,l,ts,us,n,_,hE,_ => fun h => by rw [← hE h]; exact ⟨_,rfl,rfl,⟨by first | decide | simp [erR] | (intro hz; cases hz),by first | exact Nat.zero_le _ | exact Lk.at (by assumption)⟩⟩
 | f + 1,0,l,ts,us,n,h,_,_ => absurd h (Nat.not_succ_le_zero _)
 | f + 1,g + 1,l,ts,us,n,h,hE,hl => by
   rw [zj5,zj5]
   obtain ⟨h1,h2⟩:=hl.sg hT [93]
   rw [h1]
   by_cases e:isSg [93] ts = true
   ·rw [if_pos e,if_pos e]; exact Rq.ok ⟨rfl,h2 e,rfl⟩
   ·rw [if_neg e,if_neg e]
    refine (he _ _ n hl).bind fun b b' hb => ?_
    rw [← hb.1, ← hb.2.2]
    exact ls_q he f g _ _ _ _ (by omega) (fun h => by have:=hE h; omega) hb.2.1
theorem lsV_q {el:ElT} (he:Sim3 N tl el):Sim3 N tl (lsV el):=fun ts us n h => by
 have:=h.len hT
 refine (ls_q hT he _ _ [] _ _ n (by omega) (fun h => by have:=this.2 h; omega) h).bind fun b b' hb => ?_
 exact Rq.ok ⟨by rw [hb.1],hb.2.1,hb.2.2⟩
theorem key_q (ks:List ByteArray) {ts us:List Tk} (h:Lk N tl ts us):Rq N tl (Q1 N tl) (keyP ks ts) (keyP ks us):=by
 refine (nm_q hT h).bind fun b b' hb => ?_
 rw [← hb.1]
 split
 ·exact Rq.er ⟨rfl,⟨by first | decide | simp [erR] | (intro hz; cases hz),by first | exact Nat.zero_le _ | exact Lk.at (by assumption)⟩⟩
 ·exact Rq.ok ⟨hb.1,hb.2⟩
def Q4 {α β:Type} (N:Nat) (tl:List Tk) (b b' : α × β × List Tk × Nat):Prop:=b.1 = b'.1 ∧ b.2.1 = b'.2.1 ∧ Lk N tl b.2.2.1 b'.2.2.1 ∧ b.2.2.2 = b'.2.2.2
theorem ob_q {el:ElT} (he:Sim3 N tl el):∀ (f g:Nat) (ks:List ByteArray) (l:List VT) (ts us:List Tk) (n:Nat),f ≤ g → (En tl → f = g) → Lk N tl ts us → Rq N tl (Q4 N tl) (obP el f ks l ts n) (obP el g ks l us n)
 | 0,g,ks,l,ts,us,n,_,hE,_ => fun h => by rw [← hE h]; exact ⟨_,rfl,rfl,⟨by first | decide | simp [erR] | (intro hz; cases hz),by first | exact Nat.zero_le _ | exact Lk.at (by assumption)⟩⟩
 | f + 1,0,ks,l,ts,us,n,h,_,_ => absurd h (Nat.not_succ_le_zero _)
 | f + 1,g + 1,ks,l,ts,us,n,h,hE,hl => by
   rw [zj4,zj4]
   obtain ⟨h1,h2⟩:=hl.sg hT [125]
   rw [h1]
   by_cases e:isSg [125] ts = true
   ·rw [if_pos e,if_pos e]; exact Rq.ok ⟨rfl,rfl,h2 e,rfl⟩
   ·rw [if_neg e,if_neg e]
    refine (key_q hT ks hl).bind fun b b' hb => (sg_q hT hb.2 [58]).bind fun c c' hc => (he _ _ n hc).bind fun d d' hd => ?_
    rw [← hb.1, ← hd.1, ← hd.2.2]
    exact ob_q he f g _ _ _ _ _ (by omega) (fun h => by have:=hE h; omega) hd.2.1
theorem obV_q {el:ElT} (he:Sim3 N tl el):Sim3 N tl (obV el):=fun ts us n h => by
 have:=h.len hT
 refine (ob_q hT he _ _ [] [] _ _ n (by omega) (fun h => by have:=this.2 h; omega) h).bind fun b b' hb => ?_
 exact Rq.ok ⟨by rw [hb.1,hb.2.1],hb.2.2.1,hb.2.2.2⟩
theorem bv_q (lv n:Nat) {ts us:List Tk} (h:Lk N tl ts us):Rq N tl (fun _ _ => isVal ts = true) (bvR lv ts n) (bvR lv us n):=by
 have hv:(isVal ts = true → isVal us = true) ∧ (isVal ts = false → En tl → isVal us = false):=by
  cases h with
  | @stop e he hn0 =>
    have h1:isVal [e] = false:=by unfold isVal isSg hd; simp [he]
    rw [h1]
    refine ⟨fun h => (by cases h),fun _ hE => ?_⟩
    obtain ⟨e',rfl,h'⟩:=hE
    unfold isVal isSg hd; simp [h']
  | @step t u ts us h5 hn0 hk hx h =>
    have e:isVal (u :: us) = isVal (t :: ts):=by unfold isVal isSg hd; simp [hk,hx]
    rw [e]
    exact ⟨fun h => h,fun h _ => h⟩
 unfold bvR
 cases e:isVal ts with
 | false =>
   intro hE
   rw [hv.2 e hE]
   exact ⟨_,rfl,rfl,⟨by first | decide | simp [erR] | (intro hz; cases hz),by first | exact Nat.zero_le _ | exact Lk.at (by assumption)⟩⟩
 | true =>
   rw [hv.1 e]
   simp only [Bool.true_eq_false,if_false]
   by_cases h24:24 < lv
   ·rw [if_pos h24,if_pos h24]; exact Rq.er ⟨rfl,⟨by first | decide | simp [erR] | (intro hz; cases hz),by first | exact Nat.zero_le _ | exact Lk.at (by assumption)⟩⟩
   ·rw [if_neg h24,if_neg h24]
    by_cases hn:4096 < n + 1
    ·rw [if_pos hn,if_pos hn]; exact Rq.er ⟨rfl,⟨by first | decide | simp [erR] | (intro hz; cases hz),by first | exact Nat.zero_le _ | exact Lk.at (by assumption)⟩⟩
    ·rw [if_neg hn,if_neg hn]; exact ⟨(),rfl,trivial⟩
theorem va_q (lv:Nat) {L O:ElT} (hL:Sim3 N tl L) (hO:Sim3 N tl O):Sim3 N tl (vaP lv L O):=fun ts us n h => by
 refine (bv_q hT lv n h).bind fun _ _ hv => ?_
 cases h with
 | @stop e he hn0 =>
   exfalso
   unfold isVal isSg hd at hv; simp [he] at hv
 | @step t u ts us h5 hn0 hk hx h =>
   show Rq N tl (Q3 N tl) (if t.1 = 2 then .ok (nmV ⟨t.2.1.toArray⟩,ts,n + 1) else if t.1 = 3 then .ok (nuV ⟨t.2.1.toArray⟩,ts,n + 1) else if t.1 = 4 then .ok (.mk 3 0 ⟨t.2.1.toArray⟩ [] [],ts,n + 1) else if t.2.1 = [91] then L ts (n + 1) else O ts (n + 1))
    (if u.1 = 2 then .ok (nmV ⟨u.2.1.toArray⟩,us,n + 1) else if u.1 = 3 then .ok (nuV ⟨u.2.1.toArray⟩,us,n + 1) else if u.1 = 4 then .ok (.mk 3 0 ⟨u.2.1.toArray⟩ [] [],us,n + 1) else if u.2.1 = [91] then L us (n + 1) else O us (n + 1))
   rw [← hk, ← hx]
   by_cases k2:t.1 = 2
   ·rw [if_pos k2,if_pos k2]; exact Rq.ok ⟨rfl,h,rfl⟩
   rw [if_neg k2,if_neg k2]
   by_cases k3:t.1 = 3
   ·rw [if_pos k3,if_pos k3]; exact Rq.ok ⟨rfl,h,rfl⟩
   rw [if_neg k3,if_neg k3]
   by_cases k4:t.1 = 4
   ·rw [if_pos k4,if_pos k4]; exact Rq.ok ⟨rfl,h,rfl⟩
   rw [if_neg k4,if_neg k4]
   by_cases k5:t.2.1 = [91]
   ·rw [if_pos k5,if_pos k5]; exact hL _ _ _ h
   ·rw [if_neg k5,if_neg k5]; exact hO _ _ _ h
theorem vF_q:∀ f lv,Sim3 N tl (vF obV f lv):=by
 intro f
 induction f with
 | zero => exact fun lv => va_q hT lv (fun _ _ _ _ => Rq.er ⟨rfl,⟨by first | decide | simp [erR] | (intro hz; cases hz),by first | exact Nat.zero_le _ | exact Lk.at (by assumption)⟩⟩) (fun _ _ _ _ => Rq.er ⟨rfl,⟨by first | decide | simp [erR] | (intro hz; cases hz),by first | exact Nat.zero_le _ | exact Lk.at (by assumption)⟩⟩)
 | succ f ih => exact fun lv => va_q hT lv (lsV_q hT (ih _)) (obV_q hT (ih _))
theorem wv_q:Sim N tl wvP:=fun ts us h => by
 refine (vF_q hT 24 1 ts us 0 h).bind fun b b' hb => ?_
 exact Rq.ok ⟨hb.1,hb.2.1⟩
theorem arg_q:Sim N tl argX:=fun ts us h => by
 refine (nm_q hT h).bind fun b b' hb => (sg_q hT hb.2 [58]).bind fun c c' hc => (wv_q hT _ _ hc).bind fun d d' hd => ?_
 exact Rq.ok ⟨by rw [hb.1,hd.1],hd.2⟩
theorem dir_q:Sim N tl dirX:=fun ts us h => by
 refine (sg_q hT h [64]).bind fun c c' hc => (nm_q hT hc).bind fun b b' hb => ?_
 obtain ⟨h1,_⟩:=hb.2.sg hT [40]
 rw [h1]
 by_cases e:isSg [40] b.2 = true
 ·rw [if_pos e,if_pos e]
  refine (bl_q hT (arg_q hT) _ _ hb.2).bind fun d d' hd => ?_
  exact Rq.ok ⟨by rw [hb.1,hd.1],hd.2⟩
 ·rw [if_neg e,if_neg e]
  exact Rq.ok ⟨by rw [hb.1],hb.2⟩
theorem inp_q:Sim N tl inpX:=fun ts us h => by
 refine (nm_q hT h).bind fun b b' hb => (sg_q hT hb.2 [58]).bind fun c c' hc => (ref_q hT _ _ hc).bind fun d d' hd => ?_
 obtain ⟨h1,h2⟩:=hd.2.sg hT [61]
 rw [h1]
 by_cases e:isSg [61] d.2 = true
 ·rw [if_pos e,if_pos e]
  refine (wv_q hT _ _ (h2 e)).bind fun x x' hx => (zn1 hT (dir_q hT) _ _ hx.2).bind fun y y' hy => ?_
  exact Rq.ok ⟨by rw [hb.1,hd.1,hx.1,hy.1],hy.2⟩
 ·rw [if_neg e,if_neg e]
  refine (zn1 hT (dir_q hT) _ _ hd.2).bind fun y y' hy => ?_
  exact Rq.ok ⟨by rw [hb.1,hd.1,hy.1],hy.2⟩
theorem zK9 (nm:ByteArray) (gs:List InpT):Sim N tl (fldQ refP dirX nm gs):=fun ts us h => by
 refine (sg_q hT h [58]).bind fun c c' hc => (ref_q hT _ _ hc).bind fun d d' hd => (zn1 hT (dir_q hT) _ _ hd.2).bind fun y y' hy => ?_
 exact Rq.ok ⟨by rw [hd.1,hy.1],hy.2⟩
theorem fld_q:Sim N tl fldX:=fun ts us h => by
 refine (nm_q hT h).bind fun b b' hb => ?_
 obtain ⟨h1,_⟩:=hb.2.sg hT [40]
 rw [h1]
 by_cases e:isSg [40] b.2 = true
 ·rw [if_pos e,if_pos e]
  refine (bl_q hT (inp_q hT) _ _ hb.2).bind fun d d' hd => ?_
  rw [← hb.1, ← hd.1]
  exact zK9 hT _ _ _ _ hd.2
 ·rw [if_neg e,if_neg e, ← hb.1]
  exact zK9 hT _ _ _ _ hb.2
theorem mem_q:Sim N tl memX:=fun ts us h => by
 refine (nm_q hT h).bind fun b b' hb => (zn1 hT (dir_q hT) _ _ hb.2).bind fun y y' hy => ?_
 exact Rq.ok ⟨by rw [hb.1,hy.1],hy.2⟩
omit hT in
theorem yf1 {x:ByteArray} (h:kdX x ≠ 0):x ≠ implS:=by
 rintro rfl
 exact h (by decide)
theorem imp_q:Sim N tl impP:=fun ts us h => by
 unfold impP
 cases h with
 | @stop e he hn0 =>
   have h1:isNm [e] = false:=by unfold isNm hd; simp [he]
   have h2:¬ (isNm tl = true ∧ (⟨(hd tl).2.1.toArray⟩ : ByteArray) = implS):=by
    rintro ⟨h3,h4⟩
    rcases hT with ⟨e',rfl,h'⟩ | hk
    ·unfold isNm hd at h3; simp [h'] at h3
    ·unfold kdR at hk
     split at hk
     ·exact yf1 hk h4
     ·exact hk rfl
   rw [if_neg (by rw [h1]; simp),if_neg h2]
   exact Rq.ok ⟨rfl,.stop he hn0⟩
 | @step t u ts us h5 hn0 hk hx h =>
   have e1:isNm (u :: us) = isNm (t :: ts):=by unfold isNm hd; simp [hk]
   have e2:(hd (u :: us)).2.1 = (hd (t :: ts)).2.1:=hx.symm
   rw [e1,e2]
   split
   ·exact zK2 hT _ _ h
   ·exact Rq.ok ⟨rfl,.step h5 hn0 hk hx h⟩
theorem uni_q:Sim N tl uniP:=fun ts us h => by
 refine (sg_q hT h [61]).bind fun c c' hc => (zK2 hT _ _ hc).bind fun d d' hd => ?_
 exact Rq.ok ⟨by rw [hd.1],hd.2⟩
theorem def_q (k:Nat) {ts us:List Tk} (h:Lk N tl ts us) (hk:kdR (hd ts) ≠ 0):Rq N tl (Q1 N tl) (defX k ts) (defX k us):=by
 have h0:=((h.nm hT).1 (yf2 hk)).2.1
 have hdr:=zn1 (N:=N) hT (dir_q hT)
 unfold defX
 split
 ·refine (nm_q hT h0).bind fun b b' hb => (imp_q hT _ _ hb.2).bind fun c c' hc => (hdr _ _ hc.2).bind fun d d' hd => (bl_q hT (fld_q hT) _ _ hd.2).bind fun e e' he => ?_
  exact Rq.ok ⟨by rw [hb.1,hc.1,hd.1,he.1],he.2⟩
 split
 ·refine (nm_q hT h0).bind fun b b' hb => (hdr _ _ hb.2).bind fun d d' hd => (bl_q hT (fld_q hT) _ _ hd.2).bind fun e e' he => ?_
  exact Rq.ok ⟨by rw [hb.1,hd.1,he.1],he.2⟩
 split
 ·refine (nm_q hT h0).bind fun b b' hb => (hdr _ _ hb.2).bind fun d d' hd => (uni_q hT _ _ hd.2).bind fun e e' he => ?_
  exact Rq.ok ⟨by rw [hb.1,hd.1,he.1],he.2⟩
 split
 ·refine (nm_q hT h0).bind fun b b' hb => (hdr _ _ hb.2).bind fun d d' hd => (bl_q hT (mem_q hT) _ _ hd.2).bind fun e e' he => ?_
  exact Rq.ok ⟨by rw [hb.1,hd.1,he.1],he.2⟩
 ·refine (nm_q hT h0).bind fun b b' hb => (hdr _ _ hb.2).bind fun d d' hd => (bl_q hT (inp_q hT) _ _ hd.2).bind fun e e' he => ?_
  exact Rq.ok ⟨by rw [hb.1,hd.1,he.1],he.2⟩
end Go.Proofs.YthjoelpfmimedaaGreatDoor.Pl
namespace Go.Proofs.YthjoelpfmimedaaGreatDoor.K
open Go.RowKit
theorem ya6:∀ (f a:Nat) (l:List UInt8) (x:Nat × Int),l.length < f → scF f a l = .error x → x.1 < a + l.length
 | 0,_,_,_,h,_ => absurd h (Nat.not_lt_zero _)
 | f + 1,a,l,x,h,he => by
   have hsz:sepN l ≤ l.length:=zm2 l
   rw [zn3] at he
   by_cases hd:l.drop (sepN l) = []
   ·rw [if_pos hd] at he; cases he
   ·rw [if_neg hd] at he
    have hpos:0 < (l.drop (sepN l)).length:=List.length_pos_iff.2 hd
    rw [List.length_drop] at hpos
    cases ht:tokR (l.drop (sepN l)) with
    | error c => rw [ht] at he; cases he; show a + sepN l < _; omega
    | ok p =>
      obtain ⟨k,t,n⟩:=p
      rw [ht] at he
      obtain ⟨h1,h2⟩:=zt7 hd ht
      rw [List.length_drop] at h2
      simp only at he
      cases hs:scF f (a + sepN l + n) ((l.drop (sepN l)).drop n) with
      | ok ts => rw [hs] at he; cases he
      | error e =>
        rw [hs] at he
        cases he
        have:=ya6 f _ _ _ (by rw [List.length_drop,List.length_drop]; omega) hs
        rw [List.length_drop,List.length_drop] at this
        omega
theorem zN2 {l:List UInt8} {ts:List Tk} (hl:l.length ≤ 9000) (h:scR l = .ok ts):∃ ps,ts = ps ++ [(5,[],l.length)] ∧ (∀ p ∈ ps,p.1 ≠ 5) ∧ (joinK ps).length ≤ 63000 ∧ ∃ ts2,scR (joinK ps) = .ok ts2 ∧ alike ts ts2:=by
 unfold scR at h
 rw [if_neg (by omega)] at h
 obtain ⟨ps,rfl,h1,_⟩:=zk1 l _ 0 l ts h rfl (Nat.zero_le _)
 obtain ⟨g1,g2,g3⟩:=zt9 _ _ _ _ ps _ h rfl
 have g4:=join_le ps
 have hlen:ps.length ≤ (joinK ps).length:=by
  have:∀ qs:List Tk,qs.length ≤ (tailK qs).length:=by
   intro qs
   induction qs with
   | nil => exact Nat.le_refl _
   | cons q qs ih => show qs.length + 1 ≤ (32 :: (wordK q ++ tailK qs)).length; rw [List.length_cons,List.length_append]; omega
  cases ps with
  | nil => exact Nat.zero_le _
  | cons p r =>
    obtain ⟨c,u,hc,_⟩:=zG5 p.2.2 (g3 p List.mem_cons_self)
    have hc:wordK p = c :: u:=hc
    show r.length + 1 ≤ (wordK p ++ tailK r).length
    rw [hc,List.length_append,List.length_cons]
    have:=this r
    omega
 obtain ⟨ts2,j,e1,e2⟩:=ya4 ps ((joinK ps).length + 1) 0 g3 (by omega)
 refine ⟨ps,rfl,fun p hp => (h1 p hp).kind,by omega,ts2, ?_, ?_⟩
 ·unfold scR; rw [if_neg (by omega)]; exact e1
 ·unfold alike at *; rw [← e2]; simp
end Go.Proofs.YthjoelpfmimedaaGreatDoor.K
namespace Go.Proofs.YthjoelpfmimedaaGreatDoor.Pl
open Go.RowKit
theorem doc_at {N:Nat} {e:Tk} (he:e.1 = 5):∀ (f:Nat) (l:List DefT) (ts:List Tk) (x:Er),docP defX f l ts = .error x → Lk N [e] ts ts → x.1 ≤ N
 | 0,_,_,_,h,_ => by cases h; exact Nat.zero_le _
 | f + 1,l,ts,x,h,hl => by
   have hE:En [e]:=⟨e,rfl,he⟩
   rw [zg2] at h
   split at h
   ·cases h
   ·cases hb:bgR (decide (kdR (hd ts) ≠ 0)) l.length 64 ts with
    | error y =>
      rw [hb] at h
      cases h
      unfold bgR at hb
      split at hb
      ·split at hb
       ·cases hb; exact hl.at
       ·cases hb
      ·cases hb; exact hl.at
    | ok u =>
      rw [hb] at h
      have hk:kdR (hd ts) ≠ 0:=by simpa using (bg_ok hb).1
      have hq:=def_q (tl:=[e]) (.inl hE) (kdR (hd ts)) hl hk
      rw [za4 rfl] at h
      cases hd':defX (kdR (hd ts)) ts with
      | error y =>
        rw [hd'] at h hq
        cases h
        obtain ⟨z,_,_,_,h3⟩:=hq hE
        exact h3
      | ok q =>
        rw [hd'] at h hq
        obtain ⟨q',h1,h2⟩:=hq
        cases h1
        exact doc_at he f _ _ _ h h2.2
theorem lk_self {N:Nat} {e:Tk} (he:e.1 = 5) (hn:e.2.2 ≤ N):∀ ps:List Tk,(∀ p ∈ ps,p.1 ≠ 5 ∧ p.2.2 ≤ N) → Lk N [e] (ps ++ [e]) (ps ++ [e])
 | [],_ => .stop he hn
 | p :: r,h => .step (h p List.mem_cons_self).1 (h p List.mem_cons_self).2 rfl rfl (lk_self he hn r fun q hq => h q (List.mem_cons_of_mem _ hq))
end Go.Proofs.YthjoelpfmimedaaGreatDoor.Pl
namespace Go.Proofs.YthjoelpfmimedaaGreatDoor
open Go.RowKit
theorem sdl_at {s:List UInt8} {x:Er} (hs:s.length ≤ 65536) (h:sdlR s = .error x):x.1 ≤ s.length:=by
 unfold sdlR sdlF at h
 split at h
 ·next y hk =>
  cases h
  unfold K.scR at hk
  rw [if_neg (by omega)] at hk
  have:=K.ya6 _ _ _ _ (Nat.lt_succ_self _) hk
  omega
 ·next ts hk =>
  cases hd':docR defX ts with
  | ok q => rw [hd'] at h; cases h
  | error y =>
    rw [hd'] at h
    cases h
    unfold K.scR at hk
    rw [if_neg (by omega)] at hk
    obtain ⟨ps,rfl,h1,_⟩:=K.zk1 s _ 0 s ts hk rfl (Nat.zero_le _)
    exact Pl.doc_at rfl _ _ _ _ hd' (Pl.lk_self (e:=(5,[],s.length)) rfl (Nat.le_refl _) ps fun p hp => ⟨(h1 p hp).kind,Nat.le_of_lt (h1 p hp).lt⟩)
theorem lk_of:∀ (ps us:List Tk) (e:Tk),e.1 = 5 → (∀ p ∈ ps,p.1 ≠ 5) → K.alike (ps ++ [e]) us → ∃ e',e'.1 = 5 ∧ Lk [e'] (ps ++ [e]) us
 | [],us,e,he,_,h => by
   match us,h with
   | [u],h =>
     unfold K.alike at h
     simp only [List.nil_append,List.map_cons,List.map_nil,List.cons.injEq,Prod.mk.injEq,and_true] at h
     exact ⟨u,h.1.symm.trans he,.stop he⟩
   | [],h => unfold K.alike at h; simp at h
   | _ :: _ :: _,h => unfold K.alike at h; simp at h
 | p :: r,us,e,he,hk,h => by
   match us,h with
   | [],h => unfold K.alike at h; simp at h
   | u :: us,h =>
     unfold K.alike at h
     simp only [List.cons_append,List.map_cons,List.cons.injEq,Prod.mk.injEq] at h
     obtain ⟨e',h1,h2⟩:=lk_of r us e he (fun q hq => hk q (List.mem_cons_of_mem _ hq)) (by unfold K.alike; exact h.2)
     exact ⟨e',h1,.step (hk p List.mem_cons_self) h.1.1 h.1.2 h2⟩
theorem zU9 {s:List UInt8} {ts:List Tk} (hs:s.length ≤ 4000) (h:K.scR s = .ok ts):∃ ps,ts = ps ++ [(5,[],s.length)] ∧ (∀ p ∈ ps,p.1 ≠ 5) ∧ (K.joinK ps).length ≤ 63000 ∧ (∀ l,sdlR s = .ok l → sdlR (K.joinK ps) = .ok l) ∧ ∀ z,sdlR s = .error z → ∃ z',sdlR (K.joinK ps) = .error z' ∧ z'.2 = z.2:=by
 obtain ⟨ps,rfl,h1,h2,us,h3,h4⟩:=K.zN2 (by omega) h
 obtain ⟨e,he,hl⟩:=lk_of ps us _ rfl h1 h4
 obtain ⟨q1,q2⟩:=sdl_like h h3 he hl
 exact ⟨ps,rfl,h1,h2,q1,q2⟩
end Go.Proofs.YthjoelpfmimedaaGreatDoor
