
/-
 Texts joined: EQ5 R4 W5 I8 Law06d.
-/
import Derived.Test.YtfgelheiknmjgaaGreatDoorZr34
import Derived.Test.YtfgelheiknmjgaaGreatDoorZr33
import Derived.Test.YtfgelheiknmjgaaGreatDoorZr22
import Derived.Test.YtfgelheiknmjgaaGreatDoorZr24
import Derived.Test.YtfgelheiknmjgaaGreatDoorZr28
set_option maxRecDepth 1000000
set_option maxHeartbeats 8000000
namespace Go.Proofs.YtfgelheiknmjgaaGreatDoor
open Go.RowKit
def docW (l:List DefT):Prop:=∀ x∈l,defW x
theorem zK1 (l:List DefT) (v v':Value) (w:World) (h:DefsR w w.heap.size v l) (h':DefsR w w.heap.size v' l) (hw:docW l):Calls Tryz.prog 13 #[.agg #[v],.agg #[v']] w (BP true w):=by
 have HWD:=Lh hw;obtain ⟨A,c,rfl,hc,hbb,V,hA,hr⟩:=h;obtain ⟨A',c',rfl,hc',_,V',hA',hr'⟩:=h';obtain ⟨ll,hll⟩ : ∃ ll,ll=l.length:=⟨_,rfl⟩;have HLL:=Lh hll;rw [<- hll] at hbb hA hA' ⊢;have hlb:(ll:Int)<=140737488351232:=by unfold big at hbb; omega
 have HA:=Lh hA;have HRR:=Lh hr;have HA':=Lh hA';have HRR':=Lh hr';have hX:Bk ((w.alloc (.cells #[.slice A ll c] 24 (0,0))).alloc (.cells #[.slice A' ll c'] 24 (0,0))) w.heap.size #[.slice A ll c] 24 /\ Bk ((w.alloc (.cells #[.slice A ll c] 24 (0,0))).alloc (.cells #[.slice A' ll c'] 24 (0,0))) (w.heap.size+1) #[.slice A' ll c'] 24 /\ Below w.heap.size w ((w.alloc (.cells #[.slice A ll c] 24 (0,0))).alloc (.cells #[.slice A' ll c'] 24 (0,0))):=by
  have b1:=za1 w (.cells #[.slice A ll c] 24 (0,0));have k1:=Bk.new w #[.slice A ll c] 24;have k2:=Bk.new (w.alloc (.cells #[.slice A ll c] 24 (0,0))) #[.slice A' ll c'] 24;have b2:=za1 (w.alloc (.cells #[.slice A ll c] 24 (0,0))) (.cells #[.slice A' ll c'] 24 (0,0));rw [World.size_alloc] at k2;exact ⟨k1.stay b2,k2,b1.trans (b2.mono b1.size)⟩
 obtain ⟨hX1,hX2,hB⟩:=hX;have x0:=hX1.cell 0 _ rfl;have y0:=hX2.cell 0 _ rfl;have HX1:=Lh hX1;have HX2:=Lh hX2;have HB:=Lh hB;clear hA hr hA' hr' hll hbb hc hc' hw hX1 hX2 hB
 go_enter Tryz.func13, Tryz.ntmps13
 go_wp2_with fail
 clear x0 y0
 go_loopw [5] (fun i wr=>∃ j:Nat,j<=ll/\i=.int .i64 j/\Hid (Below w.heap.size w wr/\Bk wr w.heap.size #[.slice A ll c] 24 /\ Bk wr (w.heap.size+1) #[.slice A' ll c'] 24)) (fun i _=>ll-(intOf i).toNat)
 case atStart=>exact ⟨0,Nat.zero_le _,rfl,Lh ⟨HB.out,HX1.out,HX2.out⟩⟩
 case round =>
  obtain ⟨j,hj,rfl,hq⟩:=hrel;have x0:=hq.out.2.1.cell 0 _ rfl;have y0:=hq.out.2.2.cell 0 _ rfl;by_cases hlt:j<ll
  ·have hlt':(j:Int)<ll:=by omega
   obtain ⟨d,hd⟩ : ∃ d,l[j]?=some d:=⟨_,List.getElem?_eq_getElem (by have:=HLL.out; omega)⟩
   obtain ⟨a,rfl,ha,hx⟩:=HA.out (by omega)
   obtain ⟨a',rfl,ha',hx'⟩:=HA'.out (by omega)
   have hdr:=HRR.out j d hd;have hdr':=HRR'.out j d hd;have hcell:=hx j hlt;have hcell':=hx' j hlt;have HE:=Lh (fun (W:World) (hW:Below w.heap.size w W)=>zK2 d _ _ W (DefR.stays.mono (DefR.stays.kept hdr hW) hW.size) (DefR.stays.mono (DefR.stays.kept hdr' hW) hW.size) (HWD.out d (List.mem_of_getElem? hd)));obtain ⟨I1,i1,ei1,_,_⟩:=hdr.impl.form;obtain ⟨D1,d1,ed1,_,_⟩:=hdr.dirs.form;obtain ⟨F1,f1,ef1,_,_⟩:=hdr.fields.form;obtain ⟨M1,m1,em1,_,_⟩:=hdr.members.form;obtain ⟨P1,p1,ep1,_,_⟩:=hdr.inputs.form;obtain ⟨I2,i2,ei2,_,_⟩:=hdr'.impl.form;obtain ⟨D2,d2,ed2,_,_⟩:=hdr'.dirs.form;obtain ⟨F2,f2,ef2,_,_⟩:=hdr'.fields.form;obtain ⟨M2,m2,em2,_,_⟩:=hdr'.members.form;obtain ⟨P2,p2,ep2,_,_⟩:=hdr'.inputs.form;rw [hdr.kind,hdr.name,ei1,ed1,ef1,em1,ep1,hdr'.kind,hdr'.name,ei2,ed2,ef2,em2,ep2] at HE;have G0:=Lh ((hcell 0 (by omega)).trans (by rw [hdr.kind]):w.cell? (a.add (j*7))=some (.int .i64 d.kind))
   have G1:=Lh ((hcell 1 (by omega)).trans (by rw [hdr.name]):w.cell? ⟨(a.add (j*7)).block,(a.add (j*7)).off+1,none⟩=some (.string d.name))
   have G2:=Lh ((hcell 2 (by omega)).trans (by rw [ei1]):w.cell? ⟨(a.add (j*7)).block,(a.add (j*7)).off+2,none⟩=some (.slice I1 d.impl.length i1))
   have G3:=Lh ((hcell 3 (by omega)).trans (by rw [ed1]):w.cell? ⟨(a.add (j*7)).block,(a.add (j*7)).off+3,none⟩=some (.slice D1 d.dirs.length d1))
   have G4:=Lh ((hcell 4 (by omega)).trans (by rw [ef1]):w.cell? ⟨(a.add (j*7)).block,(a.add (j*7)).off+4,none⟩=some (.slice F1 d.fields.length f1))
   have G5:=Lh ((hcell 5 (by omega)).trans (by rw [em1]):w.cell? ⟨(a.add (j*7)).block,(a.add (j*7)).off+5,none⟩=some (.slice M1 d.members.length m1))
   have G6:=Lh ((hcell 6 (by omega)).trans (by rw [ep1]):w.cell? ⟨(a.add (j*7)).block,(a.add (j*7)).off+6,none⟩=some (.slice P1 d.inputs.length p1))
   have G'0:=Lh ((hcell' 0 (by omega)).trans (by rw [hdr'.kind]):w.cell? (a'.add (j*7))=some (.int .i64 d.kind))
   have G'1:=Lh ((hcell' 1 (by omega)).trans (by rw [hdr'.name]):w.cell? ⟨(a'.add (j*7)).block,(a'.add (j*7)).off+1,none⟩=some (.string d.name))
   have G'2:=Lh ((hcell' 2 (by omega)).trans (by rw [ei2]):w.cell? ⟨(a'.add (j*7)).block,(a'.add (j*7)).off+2,none⟩=some (.slice I2 d.impl.length i2))
   have G'3:=Lh ((hcell' 3 (by omega)).trans (by rw [ed2]):w.cell? ⟨(a'.add (j*7)).block,(a'.add (j*7)).off+3,none⟩=some (.slice D2 d.dirs.length d2))
   have G'4:=Lh ((hcell' 4 (by omega)).trans (by rw [ef2]):w.cell? ⟨(a'.add (j*7)).block,(a'.add (j*7)).off+4,none⟩=some (.slice F2 d.fields.length f2))
   have G'5:=Lh ((hcell' 5 (by omega)).trans (by rw [em2]):w.cell? ⟨(a'.add (j*7)).block,(a'.add (j*7)).off+5,none⟩=some (.slice M2 d.members.length m2))
   have G'6:=Lh ((hcell' 6 (by omega)).trans (by rw [ep2]):w.cell? ⟨(a'.add (j*7)).block,(a'.add (j*7)).off+6,none⟩=some (.slice P2 d.inputs.length p2))
   have HAB:=Lh ha;have HAB':=Lh ha';clear hx hx' hdr hdr' hcell hcell' ha ha' hd ei1 ed1 ef1 em1 ep1 ei2 ed2 ef2 em2 ep2;generalize d.kind=kz at *;generalize d.name=nz at *;generalize d.impl.length=li at *;generalize d.dirs.length=ld at *;generalize d.fields.length=lf at *;generalize d.members.length=lm at *;generalize d.inputs.length=lp at *;go_wp2_with fail
   refine za6 (fun W=>Below w.heap.size w W/\Bk W w.heap.size #[.slice (some a) ll c] 24 /\ Bk W (w.heap.size+1) #[.slice (some a') ll c'] 24) hq.out (by kernel_rfl) ?_
   intro W ⟨hW,hW1,hW2⟩ _;have r10:∀ x:Past W,x.w.cell? (a.add (j*7))=some (.int .i64 kz):=fun x=>(pastc hW x hW.size (p:=(a.add (j*7))) (by rw [za0]; exact HAB.out)).trans G0.out
   have r11:∀ x:Past W,x.w.cell? ⟨(a.add (j*7)).block,(a.add (j*7)).off+1,none⟩=some (.string nz):=fun x=>(pastc hW x hW.size (p:=⟨(a.add (j*7)).block,(a.add (j*7)).off+1,none⟩) (by rw [za0]; exact HAB.out)).trans G1.out
   have r12:∀ x:Past W,x.w.cell? ⟨(a.add (j*7)).block,(a.add (j*7)).off+2,none⟩=some (.slice I1 li i1):=fun x=>(pastc hW x hW.size (p:=⟨(a.add (j*7)).block,(a.add (j*7)).off+2,none⟩) (by rw [za0]; exact HAB.out)).trans G2.out
   have r13:∀ x:Past W,x.w.cell? ⟨(a.add (j*7)).block,(a.add (j*7)).off+3,none⟩=some (.slice D1 ld d1):=fun x=>(pastc hW x hW.size (p:=⟨(a.add (j*7)).block,(a.add (j*7)).off+3,none⟩) (by rw [za0]; exact HAB.out)).trans G3.out
   have r14:∀ x:Past W,x.w.cell? ⟨(a.add (j*7)).block,(a.add (j*7)).off+4,none⟩=some (.slice F1 lf f1):=fun x=>(pastc hW x hW.size (p:=⟨(a.add (j*7)).block,(a.add (j*7)).off+4,none⟩) (by rw [za0]; exact HAB.out)).trans G4.out
   have r15:∀ x:Past W,x.w.cell? ⟨(a.add (j*7)).block,(a.add (j*7)).off+5,none⟩=some (.slice M1 lm m1):=fun x=>(pastc hW x hW.size (p:=⟨(a.add (j*7)).block,(a.add (j*7)).off+5,none⟩) (by rw [za0]; exact HAB.out)).trans G5.out
   have r16:∀ x:Past W,x.w.cell? ⟨(a.add (j*7)).block,(a.add (j*7)).off+6,none⟩=some (.slice P1 lp p1):=fun x=>(pastc hW x hW.size (p:=⟨(a.add (j*7)).block,(a.add (j*7)).off+6,none⟩) (by rw [za0]; exact HAB.out)).trans G6.out
   have r20:∀ x:Past W,x.w.cell? (a'.add (j*7))=some (.int .i64 kz):=fun x=>(pastc hW x hW.size (p:=(a'.add (j*7))) (by rw [za0]; exact HAB'.out)).trans G'0.out
   have r21:∀ x:Past W,x.w.cell? ⟨(a'.add (j*7)).block,(a'.add (j*7)).off+1,none⟩=some (.string nz):=fun x=>(pastc hW x hW.size (p:=⟨(a'.add (j*7)).block,(a'.add (j*7)).off+1,none⟩) (by rw [za0]; exact HAB'.out)).trans G'1.out
   have r22:∀ x:Past W,x.w.cell? ⟨(a'.add (j*7)).block,(a'.add (j*7)).off+2,none⟩=some (.slice I2 li i2):=fun x=>(pastc hW x hW.size (p:=⟨(a'.add (j*7)).block,(a'.add (j*7)).off+2,none⟩) (by rw [za0]; exact HAB'.out)).trans G'2.out
   have r23:∀ x:Past W,x.w.cell? ⟨(a'.add (j*7)).block,(a'.add (j*7)).off+3,none⟩=some (.slice D2 ld d2):=fun x=>(pastc hW x hW.size (p:=⟨(a'.add (j*7)).block,(a'.add (j*7)).off+3,none⟩) (by rw [za0]; exact HAB'.out)).trans G'3.out
   have r24:∀ x:Past W,x.w.cell? ⟨(a'.add (j*7)).block,(a'.add (j*7)).off+4,none⟩=some (.slice F2 lf f2):=fun x=>(pastc hW x hW.size (p:=⟨(a'.add (j*7)).block,(a'.add (j*7)).off+4,none⟩) (by rw [za0]; exact HAB'.out)).trans G'4.out
   have r25:∀ x:Past W,x.w.cell? ⟨(a'.add (j*7)).block,(a'.add (j*7)).off+5,none⟩=some (.slice M2 lm m2):=fun x=>(pastc hW x hW.size (p:=⟨(a'.add (j*7)).block,(a'.add (j*7)).off+5,none⟩) (by rw [za0]; exact HAB'.out)).trans G'5.out
   have r26:∀ x:Past W,x.w.cell? ⟨(a'.add (j*7)).block,(a'.add (j*7)).off+6,none⟩=some (.slice P2 lp p2):=fun x=>(pastc hW x hW.size (p:=⟨(a'.add (j*7)).block,(a'.add (j*7)).off+6,none⟩) (by rw [za0]; exact HAB'.out)).trans G'6.out
   have p8:∀ x:Past W,x.w.cell? ⟨w.heap.size,0,none⟩=some (.slice (some a) ll c):=fun x=>(x.b.cell (p:=⟨w.heap.size,0,none⟩) hW1.lt).trans (hW1.cell 0 _ rfl);have p9:∀ x:Past W,x.w.cell? ⟨w.heap.size+1,0,none⟩=some (.slice (some a') ll c'):=fun x=>(x.b.cell (p:=⟨w.heap.size+1,0,none⟩) hW2.lt).trans (hW2.cell 0 _ rfl);have kE:∀ x:Past W,Calls Tryz.prog 29 #[.agg #[.int .i64 kz,.string nz,.slice I1 li i1,.slice D1 ld d1,.slice F1 lf f1,.slice M1 lm m1,.slice P1 lp p1],.agg #[.int .i64 kz,.string nz,.slice I2 li i2,.slice D2 ld d2,.slice F2 lf f2,.slice M2 lm m2,.slice P2 lp p2]] x.w fun e w''=>e=.returned (.bool true)/\∃ y:Past W,w''=y.w:=fun x=>zc5 x (HE.out _ (hW.trans (x.b.mono hW.size)));have CE:=Lh kE;have HWW:=Lh hW;have HWX1:=Lh hW1;have HWX2:=Lh hW2;clear hW hW1 hW2 hq kE x0 y0
   repeat (go_big_quiet_step (with_reducible exact CE.out _))
   refine wpQuiet_nil ?_
   intro _ hw';obtain ⟨y,rfl⟩:=hw';go_wp2_with fail
   go_roundw
   case rel=>exact ⟨j+1,by omega,by go_num,Lh ⟨HWW.out.trans (y.b.mono HWW.out.size),HWX1.out.stay y.b,HWX2.out.stay y.b⟩⟩
   case measure=>simp [intOf]; omega
  ·have hlt':¬ (j:Int)<ll:=by omega
   go_wp2_with fail
   go_ret
   exact ⟨rfl,hq.out.1⟩
theorem yj1 {α:Type} {cl:List UInt8} {most:Nat} {el:List Tk->Except Er (α × List Tk)} {P : α->Prop} (he:∀ ts x ts',el ts=.ok (x,ts')->P x):∀ (f:Nat) (l:List α) (ts:List Tk) (l':List α) (ts':List Tk),bls cl most el f l ts=.ok (l',ts')->(∀ x∈l,P x)->∀ x∈l',P x
 | 0,l,ts,l',ts',h,_=>by simp [bls] at h
 | f+1,l,ts,l',ts',h,hl=>by
   rw [zf9] at h
   split at h
   ·cases h; exact hl
   ·obtain ⟨_,_,h⟩:=za4 h
    obtain ⟨q,h2,h⟩:=za4 h;refine yj1 he f _ _ _ _ h fun x hx=>?_
    rcases List.mem_append.1 hx with hx | hx
    ·exact hl x hx
    ·rw [List.mem_singleton.1 hx]; exact he _ _ _ h2
theorem zG1 {α:Type} {op cl:List UInt8} {most:Nat} {el:List Tk->Except Er (α × List Tk)} {P : α->Prop} (he:∀ ts x ts',el ts=.ok (x,ts')->P x) {ts:List Tk} {l':List α} {ts':List Tk} (h:blR op cl most el ts=.ok (l',ts')):∀ x∈l',P x:=by
 obtain ⟨t1,_,h⟩:=za4 h;exact yj1 he _ _ _ _ _ h (fun x hx=>by cases hx)
theorem ref_w {ts:List Tk} {x:ByteArray × List Int} {ts':List Tk} (h:refP ts=.ok (x,ts')):x.2.length<=1000000:=by
 obtain ⟨q,_,h⟩:=za4 h;obtain ⟨r,_,h⟩:=za4 h;unfold refE at h
 split at h
 ·cases h
 ·cases h
  rw [List.length_reverse];omega
theorem inp_w (ts:List Tk) (x:InpT) (ts':List Tk) (h:inpX ts=.ok (x,ts')):x.tw.length<=1000000:=by
 obtain ⟨q,_,h⟩:=za4 h;obtain ⟨t1,_,h⟩:=za4 h;obtain ⟨r,h3,h⟩:=za4 h;have:=ref_w (show refP t1=.ok (r.1,r.2) from h3)
 split at h
 ·obtain ⟨_,_,h⟩:=za4 h
  obtain ⟨_,_,h⟩:=za4 h;cases h; exact this
 ·obtain ⟨_,_,h⟩:=za4 h
  cases h; exact this
theorem fldQ_w (nm:ByteArray) (gs:List InpT) (hg:inpsW gs) (ts:List Tk) (x:FldT) (ts':List Tk) (h:fldQ refP dirX nm gs ts=.ok (x,ts')):inpsW x.args/\x.tw.length<=1000000:=by
 obtain ⟨t1,_,h⟩:=za4 h;obtain ⟨r,h3,h⟩:=za4 h;obtain ⟨_,_,h⟩:=za4 h;cases h
 exact ⟨hg,ref_w (show refP t1=.ok (r.1,r.2) from h3)⟩
theorem fld_w (ts:List Tk) (x:FldT) (ts':List Tk) (h:fldX ts=.ok (x,ts')):inpsW x.args/\x.tw.length<=1000000:=by
 obtain ⟨q,_,h⟩:=za4 h
 split at h
 ·obtain ⟨a,h2,h⟩:=za4 h
  exact fldQ_w _ _ (zG1 inp_w h2) _ _ _ h
 ·exact fldQ_w _ _ (fun x hx=>by cases hx) _ _ _ h
theorem def_w (k:Nat) (ts:List Tk) (x:DefT) (ts':List Tk) (h:defX k ts=.ok (x,ts')):defW x:=by
 unfold defX at h
 split at h
 ·obtain ⟨_,_,h⟩:=za4 h
  obtain ⟨_,_,h⟩:=za4 h;obtain ⟨_,_,h⟩:=za4 h;obtain ⟨f,h4,h⟩:=za4 h;cases h
  exact ⟨fun x hx=>(by cases hx),zG1 fld_w h4⟩
 split at h
 ·obtain ⟨_,_,h⟩:=za4 h
  obtain ⟨_,_,h⟩:=za4 h;obtain ⟨f,h4,h⟩:=za4 h;cases h
  exact ⟨fun x hx=>(by cases hx),zG1 fld_w h4⟩
 split at h
 ·obtain ⟨_,_,h⟩:=za4 h
  obtain ⟨_,_,h⟩:=za4 h;obtain ⟨f,h4,h⟩:=za4 h;cases h
  exact ⟨fun x hx=>(by cases hx),fun x hx=>by cases hx⟩
 split at h
 ·obtain ⟨_,_,h⟩:=za4 h
  obtain ⟨_,_,h⟩:=za4 h;obtain ⟨f,h4,h⟩:=za4 h;cases h
  exact ⟨fun x hx=>(by cases hx),fun x hx=>by cases hx⟩
 ·obtain ⟨_,_,h⟩:=za4 h
  obtain ⟨_,_,h⟩:=za4 h;obtain ⟨f,h4,h⟩:=za4 h;cases h
  exact ⟨zG1 inp_w h4,fun x hx=>by cases hx⟩
theorem doc_w:∀ (f:Nat) (l:List DefT) (ts:List Tk) (l':List DefT) (ts':List Tk),docP defX f l ts=.ok (l',ts')->docW l->l.length<=64->docW l'/\l'.length<=64
 | 0,l,ts,l',ts',h,_,_=>by simp [docP] at h
 | f+1,l,ts,l',ts',h,hl,h64=>by
   rw [zl0] at h
   split at h
   ·cases h; exact ⟨hl,h64⟩
   ·obtain ⟨_,h1,h⟩:=za4 h
    obtain ⟨q,h2,h⟩:=za4 h;have hne:=(bg_ok h1).2;refine doc_w f _ _ _ _ h (fun x hx=>?_) (by rw [List.length_append,List.length_singleton]; omega)
    rcases List.mem_append.1 hx with hx | hx
    ·exact hl x hx
    ·rw [List.mem_singleton.1 hx]; exact def_w _ _ _ _ h2
theorem sdl_w {s:List UInt8} {l:List DefT} (h:sdlR s=.ok l):docW l/\l.length<=64:=by
 unfold sdlR sdlF at h
 split at h
 ·cases h
 ·obtain ⟨q,h1,h⟩:=za4 h
  cases h
  exact doc_w _ _ _ _ _ (show docP defX _ [] _=.ok (q.1,q.2) from h1) (fun x hx=>by cases hx) (by simp)
theorem zD2 (l:List DefT) (v:Value) (w:World) (h:DefsR w w.heap.size v l) (hs:defsS l):Calls Tryz.prog 7 #[.agg #[v],.int .i64 2000] w (zL6 (wdefs l.length l) w):=by
 obtain ⟨A,c,rfl,hc,hbb,V,hA,hr⟩:=h;obtain ⟨R,hR⟩ : ∃ R,R=wdefs l.length l:=⟨_,rfl⟩;rw [<- hR];obtain ⟨ll,hll⟩ : ∃ ll,ll=l.length:=⟨_,rfl⟩;have HLL:=Lh hll;rw [<- hll] at hbb hA hR ⊢;have HR:=Lh hR;have hlb:(ll:Int)<=1099511627776:=by unfold big at hbb; omega
 have HA:=Lh hA;have HRR:=Lh hr;have HS:=Lh hs;have HX0:=Lh (Bk.new w #[.slice A ll c] 24);have HB0:=Lh (za1 w (.cells #[.slice A ll c] 24 (0,0)));have q0:=HX0.out.cell 0 _ rfl;clear hA hr hs hR hll hbb
 go_enter Tryz.func7, Tryz.ntmps7
 go_wp2_with fail
 clear q0
 go_loopw [5,6] (fun nn i wr=>∃ (j x:Nat),j<=ll/\i=.int .i64 j/\nn=.int .i64 x/\x<=60000000000000/\Hid (R=wdefs x (l.drop j)/\Below w.heap.size w wr/\Bk wr w.heap.size #[.slice A ll c] 24)) (fun _ i _=>ll-(intOf i).toNat)
 case atStart=>exact ⟨0,ll,Nat.zero_le _,rfl,rfl,by omega,Lh ⟨HR.out,HB0.out,HX0.out⟩⟩
 case round =>
  obtain ⟨j,x,hj,rfl,rfl,hxb,hq⟩:=hrel;have q0:=hq.out.2.2.cell 0 _ rfl;by_cases hgo:j<ll/\x<=2000
  ·obtain ⟨hlt,hle⟩:=hgo
   have hlt':(j:Int)<ll:=by omega
   have hle':(x:Int)<=2000:=by omega
   obtain ⟨d,hd⟩ : ∃ d,l[j]?=some d:=⟨_,List.getElem?_eq_getElem (by have:=HLL.out; omega)⟩
   obtain ⟨a,rfl,ha,hx⟩:=HA.out (by omega)
   have hdr:=HRR.out j d hd;have hcell:=hx j hlt;obtain ⟨hs1,hs2,hs3,hs4,hs5⟩:=HS.out d (List.mem_of_getElem? hd);obtain ⟨A2,c2,e2,_,_⟩:=hdr.impl.form;obtain ⟨A3,c3,e3,_,_⟩:=hdr.dirs.form;obtain ⟨A4,c4,e4,_,hb4,V4,hA4,hR4⟩:=hdr.fields;obtain ⟨A5,c5,e5,_,hb5,V5,hA5,hR5⟩:=hdr.members;obtain ⟨A6,c6,e6,_,_⟩:=hdr.inputs.form;have HN:Hid (R=wdefs (wms (wfs (x+d.impl.length+wds 0 d.dirs+wis 0 d.inputs) d.fields) d.members) (l.drop (j+1))):=Lh (by rw [hq.out.1,zn7 hd,wdefs,if_pos hle])
   have hbd:=zA3 d.dirs 0 hs1 (by omega)
   have hbi:=zY1 d.inputs 0 hs2 (by omega)
   have hdd:DirsR w w.heap.size (.slice A3 d.dirs.length c3) d.dirs:=by rw [<- e3]; exact hdr.dirs
   have hii:InpsR w w.heap.size (.slice A6 d.inputs.length c6) d.inputs:=by rw [<- e6]; exact hdr.inputs
   have W1:=fun (W:World) (hW:Below w.heap.size w W)=>zh7 d.dirs _ W ((hdd.kept hW).mono hW.size) hs1;have W2:=fun (W:World) (hW:Below w.heap.size w W)=>zm2 d.inputs _ W ((hii.kept hW).mono hW.size) hs2;have HW1:=Lh W1;have HW2:=Lh W2;have hck:∀ (j2:Nat) (u:Value),j2<7->V j j2=u->wr.cell? (at_ (a.add (j*7)) j2)=some u:=fun j2 u h7 e=>(hq.out.2.1.cell (p:=at_ (a.add (j*7)) j2) (by rw [zb3,za0]; exact ha)).trans ((hcell j2 h7).trans (by rw [e]))
   have r0:wr.cell? (a.add (j*7))=some (.int .i64 d.kind):=hck 0 _ (by omega) hdr.kind
   have r1:wr.cell? ⟨(a.add (j*7)).block,(a.add (j*7)).off+1,none⟩=some (.string d.name):=hck 1 _ (by omega) hdr.name
   have r2:wr.cell? ⟨(a.add (j*7)).block,(a.add (j*7)).off+2,none⟩=some (.slice A2 d.impl.length c2):=hck 2 _ (by omega) e2
   have r3:wr.cell? ⟨(a.add (j*7)).block,(a.add (j*7)).off+3,none⟩=some (.slice A3 d.dirs.length c3):=hck 3 _ (by omega) e3
   have r4:wr.cell? ⟨(a.add (j*7)).block,(a.add (j*7)).off+4,none⟩=some (.slice A4 d.fields.length c4):=hck 4 _ (by omega) e4
   have r5:wr.cell? ⟨(a.add (j*7)).block,(a.add (j*7)).off+5,none⟩=some (.slice A5 d.members.length c5):=hck 5 _ (by omega) e5
   have r6:wr.cell? ⟨(a.add (j*7)).block,(a.add (j*7)).off+6,none⟩=some (.slice A6 d.inputs.length c6):=hck 6 _ (by omega) e6
   have hlt3:(d.impl.length:Int)<=17592186044416:=by omega
   have hbd':(wds 0 d.dirs:Int)<=1099511700000:=by omega
   have hbi':(wis 0 d.inputs:Int)<=20000000000000:=by omega
   have hfb:(d.fields.length:Int)<=140737488351232:=by unfold big at hb4; omega
   have hmb:(d.members.length:Int)<=140737488351232:=by unfold big at hb5; omega
   have HFS:=Lh hs3;have HMS:=Lh hs4;have HA4:=Lh hA4;have HR4:=Lh hR4;have HA5:=Lh hA5;have HR5:=Lh hR5;generalize hkz:d.kind=kz at *;generalize hnz:d.name=nz at *;generalize d.impl.length=li at *;generalize wds 0 d.dirs=td at *;generalize wis 0 d.inputs=ti at *;generalize d.dirs.length=ld at *;generalize d.inputs.length=lx at *;obtain ⟨lf,hlf⟩ : ∃ lf,lf=d.fields.length:=⟨_,rfl⟩;obtain ⟨lm,hlm⟩ : ∃ lm,lm=d.members.length:=⟨_,rfl⟩;rw [<- hlf] at r4 hfb HA4;rw [<- hlm] at r5 hmb HA5;have HLF:=Lh hlf;have HLM:=Lh hlm;have HX7:=Lh (Bk.new wr #[.int .i64 kz,.string nz,.slice A2 li c2,.slice A3 ld c3,.slice A4 lf c4,.slice A5 lm c5,.slice A6 lx c6] 39);have HB7:=Lh (hq.out.2.1.trans ((za1 wr (.cells #[.int .i64 kz,.string nz,.slice A2 li c2,.slice A3 ld c3,.slice A4 lf c4,.slice A5 lm c5,.slice A6 lx c6] 39 (0,0))).mono hq.out.2.1.size));have HX0:=Lh (hq.out.2.2.stay (za1 wr (.cells #[.int .i64 kz,.string nz,.slice A2 li c2,.slice A3 ld c3,.slice A4 lf c4,.slice A5 lm c5,.slice A6 lx c6] 39 (0,0))));have hws:=hq.out.2.1.size;clear hx hdr hcell e2 e3 e4 e5 e6 hdd hii W1 W2 hs1 hs2 hs3 hs4 hs5 hbd hbi hd ha hck hA4 hR4 hA5 hR5 hb4 hb5 hlf hlm hkz hnz;go_wp2_with fail
   refine za6 (fun W=>Below w.heap.size w W/\Bk W wr.heap.size #[.int .i64 kz,.string nz,.slice A2 li c2,.slice A3 ld c3,.slice A4 lf c4,.slice A5 lm c5,.slice A6 lx c6] 39 /\ Bk W w.heap.size #[.slice (some a) ll c] 24) ⟨HB7.out,HX7.out,HX0.out⟩ (by kernel_rfl) ?_
   intro W ⟨hW,hW7,hW0⟩ _;have hc7:∀ (x:Past W) (o:Nat),x.w.cell? ⟨wr.heap.size,o,none⟩=W.cell? ⟨wr.heap.size,o,none⟩:=fun x o=>x.b.cell (p:=⟨wr.heap.size,o,none⟩) hW7.lt;have p2:∀ x:Past W,x.w.cell? ⟨wr.heap.size,2,none⟩=some (.slice A2 li c2):=fun x=>(hc7 x 2).trans (hW7.cell 2 _ rfl);have p3:∀ x:Past W,x.w.cell? ⟨wr.heap.size,3,none⟩=some (.slice A3 ld c3):=fun x=>(hc7 x 3).trans (hW7.cell 3 _ rfl);have p6:∀ x:Past W,x.w.cell? ⟨wr.heap.size,6,none⟩=some (.slice A6 lx c6):=fun x=>(hc7 x 6).trans (hW7.cell 6 _ rfl);have k1':∀ x:Past W,Calls Tryz.prog 19 #[.slice A3 ld c3,.int .i64 2000] x.w fun e w''=>e=.returned (.int .i64 td)/\∃ y:Past W,w''=y.w:=fun x=>zc5 x (HW1.out _ (hW.trans (x.b.mono hW.size)));have k2':∀ x:Past W,Calls Tryz.prog 20 #[.slice A6 lx c6,.int .i64 2000] x.w fun e w''=>e=.returned (.int .i64 ti)/\∃ y:Past W,w''=y.w:=fun x=>zc5 x (HW2.out _ (hW.trans (x.b.mono hW.size)));have C1:=Lh k1';have C2:=Lh k2';have HWW:=Lh hW;have HW7:=Lh hW7;have HW0:=Lh hW0;clear hc7 k1' k2' hW hW7 hW0 r0 r1 r2 r3 r4 r5 r6 q0
   repeat (go_big_quiet_step (first | with_reducible exact C1.out _ | with_reducible exact C2.out _))
   refine wpQuiet_nil ?_
   intro _ hw';obtain ⟨y,rfl⟩:=hw';have HB6:=Lh (HWW.out.trans (y.b.mono HWW.out.size));have HY7:=Lh (HW7.out.stay y.b);have HY0:=Lh (HW0.out.stay y.b);clear C1 C2 HWW HW7 HW0 HB7 HX7 HX0 HW1 HW2 p2 p3 p6 hq;generalize y.w=w6 at *;generalize wr.heap.size=b7 at *;have hn7:b7≠w.heap.size:=by
    rintro rfl;have h1:=HY7.out;rw [Bk,HY0.out] at h1;simp at h1
   go_wp2_with fail
   go_loopw [5,8] (fun nn i wr=>∃ (j2 x2:Nat),j2<=lf/\i=.int .i64 j2/\nn=.int .i64 x2/\x2<=60000000000000/\Hid (wfs (x+li+td+ti) d.fields=wfs x2 (d.fields.drop j2)/\Below w.heap.size w wr/\Bk wr b7 #[.int .i64 kz,.string nz,.slice A2 li c2,.slice A3 ld c3,.slice A4 lf c4,.slice A5 lm c5,.slice A6 lx c6] 39 /\ Bk wr w.heap.size #[.slice (some a) ll c] 24)) (fun _ i _=>lf-(intOf i).toNat)
   case atStart=>exact ⟨0,x+li+td+ti,Nat.zero_le _,rfl,by go_num,by omega,Lh ⟨rfl,HB6.out,HY7.out,HY0.out⟩⟩
   case round =>
    obtain ⟨j2,x2,hj2,rfl,rfl,hxb2,hq2⟩:=hrel;have q4:=hq2.out.2.2.1.cell 4 _ rfl;by_cases hgo2:j2<lf/\x2<=2000
    ·obtain ⟨hlt2,hle2⟩:=hgo2
     have hlt2':(j2:Int)<lf:=by omega
     have hle2':(x2:Int)<=2000:=by omega
     obtain ⟨f,hf⟩ : ∃ f,d.fields[j2]?=some f:=⟨_,List.getElem?_eq_getElem (by have:=HLF.out; omega)⟩
     obtain ⟨a4,rfl,ha4,hx4⟩:=HA4.out (by omega)
     have hfr:=HR4.out j2 f hf;have hcell4:=hx4 j2 hlt2;obtain ⟨fs1,fs2,fs3⟩:=HFS.out f (List.mem_of_getElem? hf);obtain ⟨B1,g1,u1,_,_⟩:=hfr.args.form;obtain ⟨B3,g3,u3,_,_⟩:=hfr.type.wraps.form;obtain ⟨B4,g4,u4,_,_⟩:=hfr.dirs.form;have HN2:Hid (wfs (x+li+td+ti) d.fields=wfs (x2+1+f.tw.length+wis 0 f.args+wds 0 f.dirs) (d.fields.drop (j2+1))):=Lh (by rw [hq2.out.1,zn7 hf,wfs,if_pos hle2])
     have gbd:=zA3 f.dirs 0 fs2 (by omega)
     have gbi:=zY1 f.args 0 fs1 (by omega)
     have hdd:DirsR w w.heap.size (.slice B4 f.dirs.length g4) f.dirs:=by rw [<- u4]; exact hfr.dirs
     have hii:InpsR w w.heap.size (.slice B1 f.args.length g1) f.args:=by rw [<- u1]; exact hfr.args
     have HV1:=Lh (fun (W:World) (hW:Below w.heap.size w W)=>zh7 f.dirs _ W ((hdd.kept hW).mono hW.size) fs2);have HV2:=Lh (fun (W:World) (hW:Below w.heap.size w W)=>zm2 f.args _ W ((hii.kept hW).mono hW.size) fs1);have H1:=Lh ((hcell4 1 (by omega)).trans (by rw [u1]))
     have H3:=Lh ((hcell4 3 (by omega)).trans (by rw [u3]))
     have H4:=Lh ((hcell4 4 (by omega)).trans (by rw [u4]))
     have HAB:=Lh ha4;have fl3:(f.tw.length:Int)<=17592186044416:=by omega
     have gbd':(wds 0 f.dirs:Int)<=1099511700000:=by omega
     have gbi':(wis 0 f.args:Int)<=20000000000000:=by omega
     clear hx4 hfr hcell4 fs1 fs2 fs3 u1 u3 u4 hdd hii gbd gbi hf ha4;generalize f.tw.length=lw at *;generalize wds 0 f.dirs=fd at *;generalize wis 0 f.args=fi at *;generalize f.dirs.length=ld2 at *;generalize f.args.length=la2 at *;go_wp2_with fail
     refine za6 (fun W=>Below w.heap.size w W/\Bk W b7 #[.int .i64 kz,.string nz,.slice A2 li c2,.slice A3 ld c3,.slice (some a4) lf c4,.slice A5 lm c5,.slice A6 lx c6] 39 /\ Bk W w.heap.size #[.slice (some a) ll c] 24) hq2.out.2 (by kernel_rfl) ?_
     intro W ⟨hW,hW7,hW0⟩ _;have hc9:∀ (x:Past W) (o:Nat),x.w.cell? ⟨(a4.add (j2*5)).block,(a4.add (j2*5)).off+o,none⟩=w.cell? ⟨(a4.add (j2*5)).block,(a4.add (j2*5)).off+o,none⟩:=fun x o=>pastc hW x hW.size (by rw [za0]; exact HAB.out)
     have p1:∀ x:Past W,x.w.cell? ⟨(a4.add (j2*5)).block,(a4.add (j2*5)).off+1,none⟩=some (.slice B1 la2 g1):=fun x=>(hc9 x 1).trans H1.out;have p3:∀ x:Past W,x.w.cell? ⟨(a4.add (j2*5)).block,(a4.add (j2*5)).off+3,none⟩=some (.slice B3 lw g3):=fun x=>(hc9 x 3).trans H3.out;have p4:∀ x:Past W,x.w.cell? ⟨(a4.add (j2*5)).block,(a4.add (j2*5)).off+4,none⟩=some (.slice B4 ld2 g4):=fun x=>(hc9 x 4).trans H4.out;have p7:∀ x:Past W,x.w.cell? ⟨b7,4,none⟩=some (.slice (some a4) lf c4):=fun x=>(x.b.cell (p:=⟨b7,4,none⟩) hW7.lt).trans (hW7.cell 4 _ rfl);have k1':∀ x:Past W,Calls Tryz.prog 19 #[.slice B4 ld2 g4,.int .i64 2000] x.w fun e w''=>e=.returned (.int .i64 fd)/\∃ y:Past W,w''=y.w:=fun x=>zc5 x (HV1.out _ (hW.trans (x.b.mono hW.size)));have k2':∀ x:Past W,Calls Tryz.prog 20 #[.slice B1 la2 g1,.int .i64 2000] x.w fun e w''=>e=.returned (.int .i64 fi)/\∃ y:Past W,w''=y.w:=fun x=>zc5 x (HV2.out _ (hW.trans (x.b.mono hW.size)));have C1:=Lh k1';have C2:=Lh k2';have HWW:=Lh hW;have HW7:=Lh hW7;have HW0:=Lh hW0;clear hc9 k1' k2' hW hW7 hW0 q4
     repeat (go_big_quiet_step (first | with_reducible exact C1.out _ | with_reducible exact C2.out _))
     refine wpQuiet_nil ?_
     intro _ hw';obtain ⟨y,rfl⟩:=hw';go_wp2_with fail
     go_roundw
     case rel=>exact ⟨j2+1,x2+1+lw+fi+fd,by omega,by go_num,by go_num,by omega,Lh ⟨HN2.out,HWW.out.trans (y.b.mono HWW.out.size),HW7.out.stay y.b,HW0.out.stay y.b⟩⟩
     case measure=>simp [intOf]; omega
    ·have HF2:Hid (wfs (x+li+td+ti) d.fields=x2):=Lh (by
      rw [hq2.out.1];rcases Nat.lt_or_ge 2000 x2 with h | h
      ·rw [wfs_big h]
      ·rw [List.drop_eq_nil_of_le (by have:=HLF.out; omega),wfs])
     have hcase:(∃ _:(j2:Int)<lf, ¬ (x2:Int)<=2000)∨¬ (j2:Int)<lf:=by
      by_cases h:(j2:Int)<lf
      ·exact .inl ⟨h,fun h2=>hgo2 ⟨by omega,by omega⟩⟩
      ·exact .inr h
     clear hgo2;rcases hcase with ⟨hlt2',hle2'⟩ | hlt2'
     all_goals
      go_wp2_with fail
      clear q4
      go_loopw [5,9] (fun nn i wr=>∃ (j3 x3:Nat),j3<=lm/\i=.int .i64 j3/\nn=.int .i64 x3/\x3<=60000000000000/\Hid (wms x2 d.members=wms x3 (d.members.drop j3)/\Below w.heap.size w wr/\Bk wr b7 #[.int .i64 kz,.string nz,.slice A2 li c2,.slice A3 ld c3,.slice A4 lf c4,.slice A5 lm c5,.slice A6 lx c6] 39 /\ Bk wr w.heap.size #[.slice (some a) ll c] 24)) (fun _ i _=>lm-(intOf i).toNat)
      case atStart=>exact ⟨0,x2,Nat.zero_le _,rfl,rfl,hxb2,Lh ⟨rfl,hq2.out.2.1,hq2.out.2.2.1,hq2.out.2.2.2⟩⟩
      case round =>
       obtain ⟨j3,x3,hj3,rfl,rfl,hxb3,hq3⟩:=hrel;have q5:=hq3.out.2.2.1.cell 5 _ rfl;by_cases hgo3:j3<lm/\x3<=2000
       ·obtain ⟨hlt3,hle3⟩:=hgo3
        have hlt3':(j3:Int)<lm:=by omega
        have hle3':(x3:Int)<=2000:=by omega
        obtain ⟨f,hf⟩ : ∃ f,d.members[j3]?=some f:=⟨_,List.getElem?_eq_getElem (by have:=HLM.out; omega)⟩
        obtain ⟨a5,rfl,ha5,hx5⟩:=HA5.out (by omega)
        have hfr:=HR5.out j3 f hf;have hcell5:=hx5 j3 hlt3;have fs2:=HMS.out f (List.mem_of_getElem? hf);obtain ⟨B4,g4,u4,_,_⟩:=hfr.dirs.form;have HN3:Hid (wms x2 d.members=wms (x3+1+wds 0 f.dirs) (d.members.drop (j3+1))):=Lh (by rw [hq3.out.1,zn7 hf,wms,if_pos hle3])
        have gbd:=zA3 f.dirs 0 fs2 (by omega)
        have hdd:DirsR w w.heap.size (.slice B4 f.dirs.length g4) f.dirs:=by rw [<- u4]; exact hfr.dirs
        have CALL:=Lh (zh7 f.dirs _ wr ((hdd.kept hq3.out.2.1).mono hq3.out.2.1.size) fs2);have r1:wr.cell? ⟨(a5.add (j3*2)).block,(a5.add (j3*2)).off+1,none⟩=some (.slice B4 f.dirs.length g4):=by
         rw [hq3.out.2.1.cell (p:=⟨(a5.add (j3*2)).block,(a5.add (j3*2)).off+1,none⟩) (by rw [za0]; exact ha5)]
         exact (hcell5 1 (by omega)).trans (by rw [u4])
        have gbd':(wds 0 f.dirs:Int)<=1099511700000:=by omega
        clear hx5 hfr hcell5 fs2 u4 hdd hf ha5;generalize wds 0 f.dirs=fd at *;generalize f.dirs.length=ld2 at *;go_wp2_with fail
        refine CALL.out.mono ?_
        rintro e w8 ⟨rfl,hb8⟩;have HB8:=Lh (hq3.out.2.1.trans (hb8.mono hq3.out.2.1.size));have HD7:=Lh (hq3.out.2.2.1.stay hb8);have HD0:=Lh (hq3.out.2.2.2.stay hb8);clear hb8 q5 r1 CALL;go_wp2_with fail
        go_roundw
        case rel=>exact ⟨j3+1,x3+1+fd,by omega,by go_num,by go_num,by omega,Lh ⟨HN3.out,HB8.out,HD7.out,HD0.out⟩⟩
        case measure=>simp [intOf]; omega
       ·have HF3:Hid (R=wdefs x3 (l.drop (j+1))):=Lh (by
         rw [HN.out,HF2.out,hq3.out.1];rcases Nat.lt_or_ge 2000 x3 with h | h
         ·rw [wms_big h]
         ·rw [List.drop_eq_nil_of_le (by have:=HLM.out; omega),wms])
        have hcase:(∃ _:(j3:Int)<lm, ¬ (x3:Int)<=2000)∨¬ (j3:Int)<lm:=by
         by_cases h:(j3:Int)<lm
         ·exact .inl ⟨h,fun h2=>hgo3 ⟨by omega,by omega⟩⟩
         ·exact .inr h
        clear hgo3;rcases hcase with ⟨hlt3',hle3'⟩ | hlt3'
        all_goals
         go_wp2_with fail
         go_roundw
         case rel=>exact ⟨j+1,x3,by omega,by go_num,rfl,hxb3,Lh ⟨HF3.out,hq3.out.2.1,hq3.out.2.2.2⟩⟩
         case measure=>simp [intOf]; omega
  ·have HF:Hid (R=x):=Lh (by
    rw [hq.out.1];rcases Nat.lt_or_ge 2000 x with h | h
    ·rw [zY5 h]
    ·rw [List.drop_eq_nil_of_le (by have:=HLL.out; omega),wdefs])
   by_cases hlt:j<ll
   ·have hlt':(j:Int)<ll:=by omega
    have hle':¬ (x:Int)<=2000:=fun h=>hgo ⟨hlt,by omega⟩
    clear hgo;go_wp2_with fail
    go_ret
    exact ⟨by rw [HF.out]; rfl,hq.out.2.1⟩
   ·have hlt':¬ (j:Int)<ll:=by omega
    clear hgo;go_wp2_with fail
    go_ret
    exact ⟨by rw [HF.out]; rfl,hq.out.2.1⟩
def exT:List UInt8:=[116,121,112,101,32,65,32,123,32,120,40,97,58,32,73,110,116,32,61,32,49,41,58,32,91,73,110,116,33,93,32,64,98,32,125]
def exU:List UInt8:=[116,121,112,101,32,65,32,123,32,125]
def exI:InpT:=⟨⟨#[97]⟩,⟨#[73,110,116]⟩,[],true,.mk 2 1 ⟨#[]⟩ [] [],[]⟩
def exF:FldT:=⟨⟨#[120]⟩,[exI],⟨#[73,110,116]⟩,[2,1],[⟨⟨#[98]⟩,[]⟩]⟩
def exD:DefT:=⟨1,⟨#[65]⟩,[],[],[exF],[],[]⟩
theorem ex_ok:sdlR exT=.ok [exD]:=by kernel_rfl
theorem ex_bad:sdlR exU=.error (9,3):=by kernel_rfl
theorem exD_ok:docOk [exD]=true:=by kernel_rfl
theorem ex_nil:docOk []=false:=by kernel_rfl
theorem Sl.one {α:Type} {k bytes:Nat} {R:World->Nat->(Nat->Value)->α->Prop} {w:World} {B:Nat} {v:Value} {x : α} (h:Sl k bytes R w B v [x]):∃ a c f,v=.slice (some a) 1 c/\1<=c/\a.block<B/\(∀ j,j<k->w.cell? (at_ a j)=some (f j))/\R w B f x:=by
 obtain ⟨A,c,e,hc,_,V,hA,hr⟩:=h;obtain ⟨a,rfl,ha,hx⟩:=hA (by simp)
 refine ⟨a,c,V 0,e,hc,ha,fun j hj=>?_,hr 0 x rfl⟩
 have:=hx 0 (by simp) j hj
 rw [Nat.zero_mul,show a.add 0=a by simp [Addr.add]] at this
 exact this
structure ExAt (w:World) (B:Nat) (v:Value) (a0 a1 a2:Addr) (c0 c1 c2:Nat) (A3 A4:Option Addr) (c3 c4:Nat):Prop where
 v:v=.slice (some a0) 1 c0
 b0:a0.block<B
 b1:a1.block<B
 b2:a2.block<B
 d0:1<=c0
 d1:1<=c1
 d2:1<=c2
 n:w.cell? (at_ a0 1)=some (.string ⟨#[65]⟩)
 f:w.cell? (at_ a0 4)=some (.slice (some a1) 1 c1)
 f0:w.cell? (at_ a1 0)=some (.string ⟨#[120]⟩)
 f1:w.cell? (at_ a1 1)=some (.slice (some a2) 1 c2)
 f2:w.cell? (at_ a1 2)=some (.string ⟨#[73,110,116]⟩)
 f3:w.cell? (at_ a1 3)=some (.slice A3 2 c3)
 f4:w.cell? (at_ a1 4)=some (.slice A4 1 c4)
 i3:w.cell? (at_ a2 3)=some (.bool true)
 i5:w.cell? (at_ a2 5)=some (.int .i64 1)
theorem ExAt.of {w:World} {B:Nat} {v:Value} (h:DefsR w B v [exD]):∃ a0 a1 a2 c0 c1 c2 A3 A4 c3 c4,ExAt w B v a0 a1 a2 c0 c1 c2 A3 A4 c3 c4:=by
 obtain ⟨a0,c0,f,e0,d0,b0,hf,hd⟩:=Sl.one h;obtain ⟨a1,c1,g,e1,d1,b1,hg,hh⟩:=Sl.one (hd.fields:Sl _ _ _ _ _ _ [exF]);obtain ⟨a2,c2,i,e2,d2,b2,hi,hk⟩:=Sl.one (hh.args:Sl _ _ _ _ _ _ [exI]);obtain ⟨A3,c3,e3,_⟩:=hh.type.wraps.form;obtain ⟨A4,c4,e4,_⟩:=hh.dirs.form;have hv:=hk.val;have h5:i 5=.int .i64 1:=by
  generalize hz:(Value.agg #[i 4,i 5,i 6,i 7,i 8])=z at hv
  cases hv with
  | mk V=>simp only [Value.agg.injEq,Array.mk.injEq,List.cons.injEq] at hz; exact hz.2.1
 exact ⟨a0,a1,a2,c0,c1,c2,A3,A4,c3,c4,e0,b0,b1,b2,d0,d1,d2,(hf 1 (by omega)).trans (by rw [hd.name]; rfl),(hf 4 (by omega)).trans (by rw [e1]),(hg 0 (by omega)).trans (by rw [hh.name]; rfl),(hg 1 (by omega)).trans (by rw [e2]),(hg 2 (by omega)).trans (by rw [hh.type.name]; rfl),(hg 3 (by omega)).trans (by rw [e3]; rfl),(hg 4 (by omega)).trans (by rw [e4]; rfl),(hi 3 (by omega)).trans (by rw [hk.has]; rfl),(hi 5 (by omega)).trans (by rw [h5])⟩
theorem ExAt.kept {w w':World} {B:Nat} {v:Value} {a0 a1 a2:Addr} {c0 c1 c2:Nat} {A3 A4:Option Addr} {c3 c4:Nat} (h:ExAt w B v a0 a1 a2 c0 c1 c2 A3 A4 c3 c4) (hb:Below B w w'):ExAt w' B v a0 a1 a2 c0 c1 c2 A3 A4 c3 c4:=by
 have k0:∀ j,w'.cell? (at_ a0 j)=w.cell? (at_ a0 j):=fun j=>hb.cell (by rw [zb3]; exact h.b0)
 have k1:∀ j,w'.cell? (at_ a1 j)=w.cell? (at_ a1 j):=fun j=>hb.cell (by rw [zb3]; exact h.b1)
 have k2:∀ j,w'.cell? (at_ a2 j)=w.cell? (at_ a2 j):=fun j=>hb.cell (by rw [zb3]; exact h.b2)
 exact ⟨h.v,h.b0,h.b1,h.b2,h.d0,h.d1,h.d2,(k0 1).trans h.n,(k0 4).trans h.f,(k1 0).trans h.f0,(k1 1).trans h.f1,(k1 2).trans h.f2,(k1 3).trans h.f3,(k1 4).trans h.f4,(k2 3).trans h.i3,(k2 5).trans h.i5⟩
theorem zR7 {s:ByteArray} {l:List DefT} {w:World} (hL:K.LK w) (h:sdlR s.data.toList=.ok l):Calls Tryz.prog 12 #[.string s] w fun e w'=>Below w.heap.size w w'/\∃ v,e=.returned (.tuple #[.agg #[v],.int .i64 0,.int .i64 0])/\DefsC w' (fun b=>w.heap.size<=b/\b<w'.heap.size) v l:=by
 refine (zm9 s w hL).mono fun e w' hh=>?_
 unfold zs3 at hh;rw [h] at hh;exact hh
theorem ye0 {s:ByteArray} {x:Er} {w:World} (hL:K.LK w) (h:sdlR s.data.toList=.error x):Calls Tryz.prog 12 #[.string s] w fun e w'=>Below w.heap.size w w'/\e=.returned (.tuple #[.agg #[.slice none 0 0],.int .i64 x.1,.int .i64 x.2]):=by
 refine (zm9 s w hL).mono fun e w' hh=>?_
 unfold zs3 at hh;rw [h] at hh;exact hh
theorem exT_at:(⟨exT.toArray⟩ : ByteArray).data.toList=exT:=by simp
theorem exU_at:(⟨exU.toArray⟩ : ByteArray).data.toList=exU:=by simp
theorem yd9 (w:World) (hL:K.LK w):Calls Tryz.prog 12 #[.string ⟨exT.toArray⟩] w fun e w'=>Below w.heap.size w w'/\∃ v,e=.returned (.tuple #[.agg #[v],.int .i64 0,.int .i64 0])/\DefsC w' (fun b=>w.heap.size<=b/\b<w'.heap.size) v [exD] :=
 zR7 hL ((congrArg sdlR exT_at).trans ex_ok)
theorem yd8 (w:World) (hL:K.LK w):Calls Tryz.prog 12 #[.string ⟨exU.toArray⟩] w fun e w'=>Below w.heap.size w w'/\e=.returned (.tuple #[.agg #[.slice none 0 0],.int .i64 9,.int .i64 3]) :=
 ye0 (x:=(9,3)) hL ((congrArg sdlR exU_at).trans ex_bad)
theorem zo7 {w w':World} {v:Value} {l:List DefT} (h:DefsR w w.heap.size v l) (hb:Below w.heap.size w w'):DefsR w' w'.heap.size v l:=(DefsR.kept h hb).mono hb.size
theorem yj6 (w:World) (B:Nat):DefsR w B (.slice none 0 0) []:=⟨none,0,rfl,Nat.le_refl _,by simp,fun _ _=>undef,fun h=>absurd h (by simp),fun i x h=>by simp at h⟩
theorem zP0 (w:World) (hL:K.LK w):Calls Tryz.prog 10 #[] w fun e w'=>e=.returned (.bool true)/\Below w.heap.size w w':=by
 have HL:=Lh hL;have H1:=Lh (yd9 w hL);have H2:=Lh yd8;clear hL
 go_enter Tryz.func10, Tryz.ntmps10
 go_wp2_with fail
 refine H1.out.mono ?_
 rintro e w1 ⟨hb1,v,rfl,hx⟩;have hr:DefsR w1 w1.heap.size v [exD]:=DefsC.toR (fun b hb=>hb.2) hx;obtain ⟨a0,a1,a2,c0,c1,c2,A3,A4,c3,c4,hea⟩:=ExAt.of hr;obtain rfl:=hea.v;have HR:=Lh hr;have HEA:=Lh hea;have HB1:=Lh hb1;clear hx hr hea hb1;go_wp2_with fail
 refine (H2.out _ (HL.out.below (HB1.out.trans ((za1 w1 _).mono HB1.out.size)))).mono ?_
 rintro e w2 ⟨hb2,rfl⟩;have b2:Below w1.heap.size w1 w2:=(za1 w1 _).trans (hb2.mono (by rw [World.size_alloc]; omega))
 have hX:=(Bk.new w1 #[.slice (some a0) 1 c0] 24).stay hb2;have hea:=HEA.out.kept (w':=w2.alloc (.cells #[.slice none 0 0] 24 (0,0))) (b2.trans ((za1 w2 _).mono b2.size));have HX:=Lh (hX.stay (za1 w2 (.cells #[.slice none 0 0] 24 (0,0))));have HEB:=Lh hea;have q0:=HX.out.cell 0 _ rfl;have q1:(w2.alloc (.cells #[.slice none 0 0] 24 (0,0))).cell? ⟨a0.block,a0.off+1,none⟩=some (.string ⟨#[65]⟩):=hea.n;have q2:(w2.alloc (.cells #[.slice none 0 0] 24 (0,0))).cell? ⟨a0.block,a0.off+4,none⟩=some (.slice (some a1) 1 c1):=hea.f;have q3:(w2.alloc (.cells #[.slice none 0 0] 24 (0,0))).cell? a1=some (.string ⟨#[120]⟩):=hea.f0;have q4:(w2.alloc (.cells #[.slice none 0 0] 24 (0,0))).cell? ⟨a1.block,a1.off+1,none⟩=some (.slice (some a2) 1 c2):=hea.f1;have q5:(w2.alloc (.cells #[.slice none 0 0] 24 (0,0))).cell? ⟨a1.block,a1.off+2,none⟩=some (.string ⟨#[73,110,116]⟩):=hea.f2;have q6:(w2.alloc (.cells #[.slice none 0 0] 24 (0,0))).cell? ⟨a1.block,a1.off+3,none⟩=some (.slice A3 2 c3):=hea.f3;have q7:(w2.alloc (.cells #[.slice none 0 0] 24 (0,0))).cell? ⟨a1.block,a1.off+4,none⟩=some (.slice A4 1 c4):=hea.f4;have q8:(w2.alloc (.cells #[.slice none 0 0] 24 (0,0))).cell? ⟨a2.block,a2.off+3,none⟩=some (.bool true):=hea.i3;have q9:(w2.alloc (.cells #[.slice none 0 0] 24 (0,0))).cell? ⟨a2.block,a2.off+5,none⟩=some (.int .i64 1):=hea.i5;have d0:=hea.d0;have d1:=hea.d1;have d2:=hea.d2;have hs2:=b2.size;have HB2:=Lh b2;clear hX hea hb2 b2;have hXF:=HX.out.stay (za1 (w2.alloc (.cells #[.slice none 0 0] 24 (0,0))) (.cells #[.string ⟨#[120]⟩,.slice (some a2) 1 c2,.string ⟨#[73,110,116]⟩,.slice A3 2 c3,.slice A4 1 c4] 46 (0,0)));have p0:=hXF.cell 0 _ rfl;have HXF:=Lh hXF;have hFB:=Bk.new (w2.alloc (.cells #[.slice none 0 0] 24 (0,0))) #[.string ⟨#[120]⟩,.slice (some a2) 1 c2,.string ⟨#[73,110,116]⟩,.slice A3 2 c3,.slice A4 1 c4] 46;rw [World.size_alloc] at hFB;have HFB:=Lh hFB;have hb3:Below w1.heap.size w1 ((w2.alloc (.cells #[.slice none 0 0] 24 (0,0))).alloc (.cells #[.string ⟨#[120]⟩,.slice (some a2) 1 c2,.string ⟨#[73,110,116]⟩,.slice A3 2 c3,.slice A4 1 c4] 46 (0,0))):=(HB2.out.trans ((za1 w2 _).mono HB2.out.size)).trans ((za1 _ _).mono (by rw [World.size_alloc]; omega))
 have HB3:=Lh hb3;have HS3:Hid (w1.heap.size<=((w2.alloc (.cells #[.slice none 0 0] 24 (0,0))).alloc (.cells #[.string ⟨#[120]⟩,.slice (some a2) 1 c2,.string ⟨#[73,110,116]⟩,.slice A3 2 c3,.slice A4 1 c4] 46 (0,0))).heap.size):=Lh hb3.size;clear hXF hFB hb3;go_wp2_with fail
 have hrt:Calls Tryz.prog 8 #[.agg #[.slice (some a0) 1 c0]] ((w2.alloc (.cells #[.slice none 0 0] 24 (0,0))).alloc (.cells #[.string ⟨#[120]⟩,.slice (some a2) 1 c2,.string ⟨#[73,110,116]⟩,.slice A3 2 c3,.slice A4 1 c4] 46 (0,0))) (BP true ((w2.alloc (.cells #[.slice none 0 0] 24 (0,0))).alloc (.cells #[.string ⟨#[120]⟩,.slice (some a2) 1 c2,.string ⟨#[73,110,116]⟩,.slice A3 2 c3,.slice A4 1 c4] 46 (0,0)))):=by
  have hh:=zA7 [exD] (.slice (some a0) 1 c0) ((w2.alloc (.cells #[.slice none 0 0] 24 (0,0))).alloc (.cells #[.string ⟨#[120]⟩,.slice (some a2) 1 c2,.string ⟨#[73,110,116]⟩,.slice A3 2 c3,.slice A4 1 c4] 46 (0,0))) (zo7 HR.out HB3.out);rw [exD_ok] at hh;exact hh
 refine hrt.mono ?_
 clear hrt p0 q0 q1 q2 q3 q4 q5 q6 q7 q8 q9;generalize hW3:((w2.alloc (.cells #[.slice none 0 0] 24 (0,0))).alloc (.cells #[.string ⟨#[120]⟩,.slice (some a2) 1 c2,.string ⟨#[73,110,116]⟩,.slice A3 2 c3,.slice A4 1 c4] 46 (0,0)))=W3 at *;clear hW3;rintro e w4 ⟨rfl,hb4⟩;have HB4:=Lh hb4;clear hb4;go_wp2_with fail
 have hrt:Calls Tryz.prog 8 #[.agg #[.slice none 0 0]] w4 (BP false w4):=by
  have hh:=zA7 [] (.slice none 0 0) w4 (yj6 _ _);rw [ex_nil] at hh;exact hh
 refine hrt.mono ?_
 clear hrt;rintro e w5 ⟨rfl,hb5⟩;have hb35:Below W3.heap.size W3 w5:=HB4.out.trans (hb5.mono HB4.out.size);have hea:=HEA.out.kept (HB3.out.trans (hb35.mono HS3.out));have hXF:=HXF.out.stay hb35;have hFB:=HFB.out.stay hb35;have p0:=hXF.cell 0 _ rfl;have r0:=hFB.cell 0 _ rfl;have r1:=hFB.cell 1 _ rfl;have r2:=hFB.cell 2 _ rfl;have r3:=hFB.cell 3 _ rfl;have r4:=hFB.cell 4 _ rfl;have q1:w5.cell? ⟨a0.block,a0.off+1,none⟩=some (.string ⟨#[65]⟩):=hea.n;have q8:w5.cell? ⟨a2.block,a2.off+3,none⟩=some (.bool true):=hea.i3;have q9:w5.cell? ⟨a2.block,a2.off+5,none⟩=some (.int .i64 1):=hea.i5;have d0:=hea.d0;have d2:=hea.d2;have HB5:=Lh ((HB1.out.trans (HB3.out.mono HB1.out.size)).trans (hb35.mono (Nat.le_trans HB1.out.size HS3.out)));clear hb35 hb5 hea hXF hFB;go_wp2_with fail
 exact bodyPost_ret (v:=.bool true) (by simp [results,Tryz.results10,go_sem]) rfl ⟨rfl,HB5.out⟩
theorem zJ9 {w W w':World} {e:Ending} (hW:Below w.heap.size w W) (h:e=.returned (.bool true)/\Below W.heap.size W w'):e=.returned (.bool true)/\Below w.heap.size w w':=⟨h.1,hW.trans (h.2.mono hW.size)⟩
theorem yc1 (v:Value) (l:List DefT) (w:World) (h:DefsR w w.heap.size v l) (hs:defsS l) (hL:K.LK w):Calls Tryz.prog 4 #[.agg #[v]] w fun e w'=>e=.returned (.bool true)/\Below w.heap.size w w':=by
 have HRD:=Lh h;have hz:=zM2 l l.length;have HN:=Lh (DefsR.num h);obtain ⟨A,c,rfl,hc,hbb⟩:=Sl.form h;have HS:=Lh hs;have HL:=Lh hL;have HZ:=Lh hz;have X0:=Lh (Bk.new w #[.slice A l.length c] 24);have B0:=Lh (za1 w (.cells #[.slice A l.length c] 24 (0,0)));obtain ⟨wd,hwd⟩ : ∃ wd,wd=wdefs l.length l:=⟨_,rfl⟩;have HWD:=Lh hwd;clear h hs hL hz hwd;generalize hll:l.length=ll at *;have HLL:=Lh hll;clear hll;have CW:=Lh (fun (W:World) (hW:Below w.heap.size w W)=>(by
  have:=zD2 l (.slice A ll c) W (zo7 HRD.out hW) HS.out;rw [HLL.out, <- HWD.out] at this;exact this:Calls Tryz.prog 7 #[.agg #[.slice A ll c],.int .i64 2000] W (zL6 wd W)))
 have CE:=Lh (fun (W:World) (hW:Below w.heap.size w W)=>(zP0 W (HL.out.below hW)).mono fun e w' h=>zJ9 hW h);have y0:=X0.out.cell 0 _ rfl;by_cases hf:wd<=2000
 rotate_left
 ·have hf2:decide ((2000:Int)<wd)=true:=by simp; omega
  go_enter Tryz.func4, Tryz.ntmps4
  go_wp2_with fail
  refine (CW.out _ B0.out).mono ?_
  rintro e w1 ⟨rfl,hb⟩;have HB1:=Lh (B0.out.trans (hb.mono B0.out.size));clear hb y0;go_wp2_with fail
  refine (CE.out _ HB1.out).mono ?_
  rintro e w' ⟨rfl,hb⟩;go_wp2_with fail
  exact bodyPost_ret (v:=.bool true) (by simp [results,Tryz.results4,go_sem]) rfl ⟨rfl,hb⟩
 have hf2:decide ((2000:Int)<wd)=false:=by simp; omega
 have hdz:=(HZ.out (by rw [<- HWD.out]; exact hf)).2
 have HWS:Hid (wdefs l.length l<=2000):=Lh (by rw [HLL.out, <- HWD.out]; exact hf)
 obtain ⟨rb,hrb⟩ : ∃ rb,rb=docOk l:=⟨_,rfl⟩;have CR:=Lh (fun (W:World) (hW:Below w.heap.size w W)=>(by
  have:=zV0 l (.slice A ll c) W (zo7 HRD.out hW) hdz;rw [<- doc_eq, <- hrb] at this;exact this:Calls Tryz.prog 9 #[.agg #[.slice A ll c]] W (BP rb W)))
 have HRB:=Lh hrb;clear hdz hrb hf
 go_enter Tryz.func4, Tryz.ntmps4
 go_wp2_with fail
 refine (CW.out _ B0.out).mono ?_
 rintro e w1 ⟨rfl,hb⟩;have HB1:=Lh (B0.out.trans (hb.mono B0.out.size));have HX1:=Lh (X0.out.stay hb);clear hb y0;have y0:=HX1.out.cell 0 _ rfl;go_wp2_with fail
 refine (CR.out _ HB1.out).mono ?_
 rintro e w2 ⟨rfl,hb⟩;have HB2:=Lh (HB1.out.trans (hb.mono HB1.out.size));have HX2:=Lh (HX1.out.stay hb);clear hb y0 CR CW;have y0:=HX2.out.cell 0 _ rfl
 cases rb with
 | false =>
   go_wp2_with fail
   refine (CE.out _ HB2.out).mono ?_
   rintro e w' ⟨rfl,hb⟩;go_wp2_with fail
   exact bodyPost_ret (v:=.bool true) (by simp [results,Tryz.results4,go_sem]) rfl ⟨rfl,hb⟩
 | true =>
 have hok:docOk l=true:=HRB.out.symm;have hlen:=wdoc_len hok HN.out HWS.out;obtain ⟨od,hod⟩ : ∃ od:ByteArray,bL od=wDoc l:=⟨⟨(wDoc l).toArray⟩,bL_mk _⟩;have hodz:od.size=(wDoc l).length:=by rw [<- za2,hod]
 have CWR:=Lh (by
  have:=zU9 l (zb6 hok).2.2 (.slice A ll c) w2 w.heap.size (DefsR.kept HRD.out HB2.out) HB2.out.size (by omega)
  exact this:Calls Tryz.prog 11 #[.agg #[.slice A ll c]] w2 (SP (wDoc l) w2))
 have HOD:=Lh hod;have HSD:Hid ((wDoc l).length<=65536->sdlR od.data.toList=.ok l):=Lh (fun hle=>by
  have:=ya7 hok HN.out hle;rw [<- hod] at this; exact this)
 have HOZ:=Lh hodz;clear hok hlen hod hodz;go_wp2_with fail
 refine CWR.out.mono ?_
 rintro e w3 ⟨⟨o',rfl,ho'⟩,hb⟩;obtain rfl:o'=od:=zg8 (ho'.trans HOD.out.symm);have HB3:=Lh (HB2.out.trans (hb.mono HB2.out.size));have HX3:=Lh (HX2.out.stay hb);clear ho' hb y0 CWR;by_cases hle:(wDoc l).length<=65536
 rotate_left
 ·have g1:decide ((65536:Int)<(o'.size:Int))=true:=by have:=HOZ.out; simp; omega
  go_wp2_with fail
  refine (CE.out _ HB3.out).mono ?_
  rintro e w' ⟨rfl,hb⟩;go_wp2_with fail
  exact bodyPost_ret (v:=.bool true) (by simp [results,Tryz.results4,go_sem]) rfl ⟨rfl,hb⟩
 have g1:decide ((65536:Int)<(o'.size:Int))=false:=by have:=HOZ.out; simp; omega
 have hsd:=HSD.out hle;have PJ:=Lh (zR7 (HL.out.below HB3.out) hsd);have HW7:=Lh (sdl_w hsd).1;clear hsd hle;go_wp2_with fail
 refine PJ.out.mono ?_
 rintro e w4 ⟨hb4,v4,rfl,hd4⟩;obtain ⟨A4,c4,rfl,hc4,_⟩:=SlS.form hd4;rw [HLL.out] at hd4 hc4 ⊢;have hs4:=hb4.size;have HB4:=Lh (HB3.out.trans (hb4.mono HB3.out.size));have HX4:=Lh ((HX3.out.stay hb4).stay (za1 w4 (.cells #[.slice A4 ll c4] 24 (0,0))));have HBY:=Lh (HB4.out.trans ((za1 w4 (.cells #[.slice A4 ll c4] 24 (0,0))).mono HB4.out.size));have HXY:=Lh (Bk.new w4 #[.slice A4 ll c4] 24);have hR1:=zo7 HRD.out HBY.out;have hR2:DefsR (w4.alloc (.cells #[.slice A4 ll c4] 24 (0,0))) (w4.alloc (.cells #[.slice A4 ll c4] 24 (0,0))).heap.size (.slice A4 ll c4) l:=DefsR.mono (DefsR.kept (DefsC.toR (B:=w4.heap.size) (fun b hb=>hb.2) hd4) (za1 w4 (.cells #[.slice A4 ll c4] 24 (0,0)))) (by rw [World.size_alloc]; omega)
 have HQ:=Lh (zK1 l _ _ _ hR1 hR2 HW7.out);have y0:=HX4.out.cell 0 _ rfl;have y1:=HXY.out.cell 0 _ rfl;clear hR1 hR2 hd4 hc4 hb4 hs4 PJ;go_wp2_with fail
 refine HQ.out.mono ?_
 rintro e w8 ⟨rfl,hb8⟩;have HB8:=Lh (HBY.out.trans (hb8.mono HBY.out.size));clear hb8;go_wp2_with fail
 refine (CE.out _ HB8.out).mono ?_
 rintro e w' ⟨rfl,hb⟩;go_wp2_with fail
 exact bodyPost_ret (v:=.bool true) (by simp [results,Tryz.results4,go_sem]) rfl ⟨rfl,hb⟩
end Go.Proofs.YtfgelheiknmjgaaGreatDoor
