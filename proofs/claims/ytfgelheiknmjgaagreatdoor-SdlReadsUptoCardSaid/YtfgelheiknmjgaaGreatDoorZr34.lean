
/-
 Texts joined: EQ3 EQ4.
-/
import Derived.Test.YtfgelheiknmjgaaGreatDoorZr33
import Derived.Test.YtfgelheiknmjgaaGreatDoorZr24
set_option maxRecDepth 1000000
set_option maxHeartbeats 8000000
namespace Go.Proofs.YtfgelheiknmjgaaGreatDoor
open Go.RowKit
def inpsW (l:List InpT):Prop:=∀ x∈l,x.tw.length<=1000000
theorem zn6 (l:List InpT) (v v':Value) (w:World) (h:InpsR w w.heap.size v l) (h':InpsR w w.heap.size v' l) (hw:inpsW l):Calls Tryz.prog 58 #[v,v'] w (BP true w):=by
 have HW:=Lh hw;obtain ⟨A,c,rfl,hc,hbb,V,hA,hr⟩:=h;obtain ⟨A',c',rfl,hc',_,V',hA',hr'⟩:=h';obtain ⟨ll,hll⟩ : ∃ ll,ll=l.length:=⟨_,rfl⟩;have HLL:=Lh hll;rw [<- hll] at hbb hA hA' ⊢;have hlb:(ll:Int)<=140737488351232:=by unfold big at hbb; omega
 have HA:=Lh hA;have HRR:=Lh hr;have HA':=Lh hA';have HRR':=Lh hr';clear hA hr hA' hr' hll hbb hc hc';clear hw
 go_enter Tryz.func58, Tryz.ntmps58
 go_wp2_with fail
 go_loopw [5] (fun i wr=>∃ j:Nat,j<=ll/\i=.int .i64 j/\Hid (Below w.heap.size w wr)) (fun i _=>ll-(intOf i).toNat)
 case atStart=>exact ⟨0,Nat.zero_le _,rfl,Lh (Below.refl _ _)⟩
 case round =>
  obtain ⟨j,hj,rfl,hq⟩:=hrel;by_cases hlt:j<ll
  ·skip
   have hlt':(j:Int)<ll:=by omega
   obtain ⟨d,hd⟩ : ∃ d,l[j]?=some d:=⟨_,List.getElem?_eq_getElem (by have:=HLL.out; omega)⟩
   obtain ⟨a,rfl,ha,hx⟩:=HA.out (by omega)
   obtain ⟨a',rfl,ha',hx'⟩:=HA'.out (by omega)
   have hdr:=HRR.out j d hd;have hdr':=HRR'.out j d hd;have hcell:=hx j hlt;have hcell':=hx' j hlt;obtain ⟨A1,d1,u1,_,_⟩:=hdr.type.wraps.form;obtain ⟨k1,n1,s1,B1,li1,ci1,K1,lk1,ck1,e11,e12,e13,e14,e15⟩:=Rd.form hdr.val;obtain ⟨D1,g1,t1,_,_⟩:=hdr.dirs.form;have hv1:Rd w w.heap.size (.agg #[.int .i64 k1,.int .i64 n1,.string s1,.slice B1 li1 ci1,.slice K1 lk1 ck1]) d.dflt:=by
    have:=hdr.val;rw [e11,e12,e13,e14,e15] at this;exact this
   have hr1:RfR w w.heap.size (.string d.tn) (.slice A1 d.tw.length d1) d.tn d.tw:=by
    have:=hdr.type;rw [u1,this.name] at this;exact this
   have hd1:DirsR w w.heap.size (.slice D1 d.dirs.length g1) d.dirs:=by rw [<- t1]; exact hdr.dirs
   have G0:=Lh ((hcell 0 (by omega)).trans (by rw [hdr.name]):w.cell? (a.add (j*10))=some (.string d.name))
   have G1:=Lh ((hcell 1 (by omega)).trans (by rw [hdr.type.name]):w.cell? ⟨(a.add (j*10)).block,(a.add (j*10)).off+1,none⟩=some (.string d.tn))
   have G2:=Lh ((hcell 2 (by omega)).trans (by rw [u1]):w.cell? ⟨(a.add (j*10)).block,(a.add (j*10)).off+2,none⟩=some (.slice A1 d.tw.length d1))
   have G3:=Lh ((hcell 3 (by omega)).trans (by rw [hdr.has]):w.cell? ⟨(a.add (j*10)).block,(a.add (j*10)).off+3,none⟩=some (.bool d.has))
   have G4:=Lh ((hcell 4 (by omega)).trans (by rw [e11]):w.cell? ⟨(a.add (j*10)).block,(a.add (j*10)).off+4,none⟩=some (.int .i64 k1))
   have G5:=Lh ((hcell 5 (by omega)).trans (by rw [e12]):w.cell? ⟨(a.add (j*10)).block,(a.add (j*10)).off+5,none⟩=some (.int .i64 n1))
   have G6:=Lh ((hcell 6 (by omega)).trans (by rw [e13]):w.cell? ⟨(a.add (j*10)).block,(a.add (j*10)).off+6,none⟩=some (.string s1))
   have G7:=Lh ((hcell 7 (by omega)).trans (by rw [e14]):w.cell? ⟨(a.add (j*10)).block,(a.add (j*10)).off+7,none⟩=some (.slice B1 li1 ci1))
   have G8:=Lh ((hcell 8 (by omega)).trans (by rw [e15]):w.cell? ⟨(a.add (j*10)).block,(a.add (j*10)).off+8,none⟩=some (.slice K1 lk1 ck1))
   have G9:=Lh ((hcell 9 (by omega)).trans (by rw [t1]):w.cell? ⟨(a.add (j*10)).block,(a.add (j*10)).off+9,none⟩=some (.slice D1 d.dirs.length g1))
   obtain ⟨A2,d2,u2,_,_⟩:=hdr'.type.wraps.form;obtain ⟨k2,n2,s2,B2,li2,ci2,K2,lk2,ck2,e21,e22,e23,e24,e25⟩:=Rd.form hdr'.val;obtain ⟨D2,g2,t2,_,_⟩:=hdr'.dirs.form;have hv2:Rd w w.heap.size (.agg #[.int .i64 k2,.int .i64 n2,.string s2,.slice B2 li2 ci2,.slice K2 lk2 ck2]) d.dflt:=by
    have:=hdr'.val;rw [e21,e22,e23,e24,e25] at this;exact this
   have hr2:RfR w w.heap.size (.string d.tn) (.slice A2 d.tw.length d2) d.tn d.tw:=by
    have:=hdr'.type;rw [u2,this.name] at this;exact this
   have hd2:DirsR w w.heap.size (.slice D2 d.dirs.length g2) d.dirs:=by rw [<- t2]; exact hdr'.dirs
   have G'0:=Lh ((hcell' 0 (by omega)).trans (by rw [hdr'.name]):w.cell? (a'.add (j*10))=some (.string d.name))
   have G'1:=Lh ((hcell' 1 (by omega)).trans (by rw [hdr'.type.name]):w.cell? ⟨(a'.add (j*10)).block,(a'.add (j*10)).off+1,none⟩=some (.string d.tn))
   have G'2:=Lh ((hcell' 2 (by omega)).trans (by rw [u2]):w.cell? ⟨(a'.add (j*10)).block,(a'.add (j*10)).off+2,none⟩=some (.slice A2 d.tw.length d2))
   have G'3:=Lh ((hcell' 3 (by omega)).trans (by rw [hdr'.has]):w.cell? ⟨(a'.add (j*10)).block,(a'.add (j*10)).off+3,none⟩=some (.bool d.has))
   have G'4:=Lh ((hcell' 4 (by omega)).trans (by rw [e21]):w.cell? ⟨(a'.add (j*10)).block,(a'.add (j*10)).off+4,none⟩=some (.int .i64 k2))
   have G'5:=Lh ((hcell' 5 (by omega)).trans (by rw [e22]):w.cell? ⟨(a'.add (j*10)).block,(a'.add (j*10)).off+5,none⟩=some (.int .i64 n2))
   have G'6:=Lh ((hcell' 6 (by omega)).trans (by rw [e23]):w.cell? ⟨(a'.add (j*10)).block,(a'.add (j*10)).off+6,none⟩=some (.string s2))
   have G'7:=Lh ((hcell' 7 (by omega)).trans (by rw [e24]):w.cell? ⟨(a'.add (j*10)).block,(a'.add (j*10)).off+7,none⟩=some (.slice B2 li2 ci2))
   have G'8:=Lh ((hcell' 8 (by omega)).trans (by rw [e25]):w.cell? ⟨(a'.add (j*10)).block,(a'.add (j*10)).off+8,none⟩=some (.slice K2 lk2 ck2))
   have G'9:=Lh ((hcell' 9 (by omega)).trans (by rw [t2]):w.cell? ⟨(a'.add (j*10)).block,(a'.add (j*10)).off+9,none⟩=some (.slice D2 d.dirs.length g2))
   have hwl:=HW.out d (List.mem_of_getElem? hd);have HS:=Lh (fun (W:World) (hW:Below w.heap.size w W)=>(by
    have:=K.zB0 d.tn d.tn d.tw d.tw _ _ W ((zo9 hr1).kept hW |>.mono hW.size) ((zo9 hr2).kept hW |>.mono hW.size) (Nat.le_trans hwl (by decide))
    rw [decide_eq_true ⟨rfl,rfl⟩] at this;exact this:Calls Tryz.prog 59 #[.agg #[.string d.tn,.slice A1 d.tw.length d1],.agg #[.string d.tn,.slice A2 d.tw.length d2]] W (K.zi9 true W)))
   have HE:=Lh (fun (W:World) (hW:Below w.heap.size w W)=>zy8 d.dflt W w.heap.size _ _ (hv1.kept hW) (hv2.kept hW) hW.size);have HDD:=Lh (fun (W:World) (hW:Below w.heap.size w W)=>zi4 d.dirs _ _ W ((hd1.kept hW).mono hW.size) ((hd2.kept hW).mono hW.size));have hxx:decide (d.name=d.name)=true:=by simp
   have HAB:=Lh ha;have HAB':=Lh ha';clear hx hx' hdr hdr' hcell hcell' ha ha' hd hwl hv1 hv2 hr1 hr2 hd1 hd2 u1 u2 t1 t2 e11 e12 e13 e14 e15 e21 e22 e23 e24 e25;generalize d.name=nm at *;generalize d.tn=tn at *;generalize d.tw.length=lw at *;generalize d.has=has at *;generalize d.dirs.length=ld at *;go_wp2_with fail
   refine za6 (fun W=>Below w.heap.size w W) hq.out (by kernel_rfl) ?_
   intro W hW _;have r10:∀ x:Past W,x.w.cell? (a.add (j*10))=some (.string nm):=fun x=>(pastc hW x hW.size (p:=(a.add (j*10))) (by rw [za0]; exact HAB.out)).trans G0.out
   have r11:∀ x:Past W,x.w.cell? ⟨(a.add (j*10)).block,(a.add (j*10)).off+1,none⟩=some (.string tn):=fun x=>(pastc hW x hW.size (p:=⟨(a.add (j*10)).block,(a.add (j*10)).off+1,none⟩) (by rw [za0]; exact HAB.out)).trans G1.out
   have r12:∀ x:Past W,x.w.cell? ⟨(a.add (j*10)).block,(a.add (j*10)).off+2,none⟩=some (.slice A1 lw d1):=fun x=>(pastc hW x hW.size (p:=⟨(a.add (j*10)).block,(a.add (j*10)).off+2,none⟩) (by rw [za0]; exact HAB.out)).trans G2.out
   have r13:∀ x:Past W,x.w.cell? ⟨(a.add (j*10)).block,(a.add (j*10)).off+3,none⟩=some (.bool has):=fun x=>(pastc hW x hW.size (p:=⟨(a.add (j*10)).block,(a.add (j*10)).off+3,none⟩) (by rw [za0]; exact HAB.out)).trans G3.out
   have r14:∀ x:Past W,x.w.cell? ⟨(a.add (j*10)).block,(a.add (j*10)).off+4,none⟩=some (.int .i64 k1):=fun x=>(pastc hW x hW.size (p:=⟨(a.add (j*10)).block,(a.add (j*10)).off+4,none⟩) (by rw [za0]; exact HAB.out)).trans G4.out
   have r15:∀ x:Past W,x.w.cell? ⟨(a.add (j*10)).block,(a.add (j*10)).off+5,none⟩=some (.int .i64 n1):=fun x=>(pastc hW x hW.size (p:=⟨(a.add (j*10)).block,(a.add (j*10)).off+5,none⟩) (by rw [za0]; exact HAB.out)).trans G5.out
   have r16:∀ x:Past W,x.w.cell? ⟨(a.add (j*10)).block,(a.add (j*10)).off+6,none⟩=some (.string s1):=fun x=>(pastc hW x hW.size (p:=⟨(a.add (j*10)).block,(a.add (j*10)).off+6,none⟩) (by rw [za0]; exact HAB.out)).trans G6.out
   have r17:∀ x:Past W,x.w.cell? ⟨(a.add (j*10)).block,(a.add (j*10)).off+7,none⟩=some (.slice B1 li1 ci1):=fun x=>(pastc hW x hW.size (p:=⟨(a.add (j*10)).block,(a.add (j*10)).off+7,none⟩) (by rw [za0]; exact HAB.out)).trans G7.out
   have r18:∀ x:Past W,x.w.cell? ⟨(a.add (j*10)).block,(a.add (j*10)).off+8,none⟩=some (.slice K1 lk1 ck1):=fun x=>(pastc hW x hW.size (p:=⟨(a.add (j*10)).block,(a.add (j*10)).off+8,none⟩) (by rw [za0]; exact HAB.out)).trans G8.out
   have r19:∀ x:Past W,x.w.cell? ⟨(a.add (j*10)).block,(a.add (j*10)).off+9,none⟩=some (.slice D1 ld g1):=fun x=>(pastc hW x hW.size (p:=⟨(a.add (j*10)).block,(a.add (j*10)).off+9,none⟩) (by rw [za0]; exact HAB.out)).trans G9.out
   have r20:∀ x:Past W,x.w.cell? (a'.add (j*10))=some (.string nm):=fun x=>(pastc hW x hW.size (p:=(a'.add (j*10))) (by rw [za0]; exact HAB'.out)).trans G'0.out
   have r21:∀ x:Past W,x.w.cell? ⟨(a'.add (j*10)).block,(a'.add (j*10)).off+1,none⟩=some (.string tn):=fun x=>(pastc hW x hW.size (p:=⟨(a'.add (j*10)).block,(a'.add (j*10)).off+1,none⟩) (by rw [za0]; exact HAB'.out)).trans G'1.out
   have r22:∀ x:Past W,x.w.cell? ⟨(a'.add (j*10)).block,(a'.add (j*10)).off+2,none⟩=some (.slice A2 lw d2):=fun x=>(pastc hW x hW.size (p:=⟨(a'.add (j*10)).block,(a'.add (j*10)).off+2,none⟩) (by rw [za0]; exact HAB'.out)).trans G'2.out
   have r23:∀ x:Past W,x.w.cell? ⟨(a'.add (j*10)).block,(a'.add (j*10)).off+3,none⟩=some (.bool has):=fun x=>(pastc hW x hW.size (p:=⟨(a'.add (j*10)).block,(a'.add (j*10)).off+3,none⟩) (by rw [za0]; exact HAB'.out)).trans G'3.out
   have r24:∀ x:Past W,x.w.cell? ⟨(a'.add (j*10)).block,(a'.add (j*10)).off+4,none⟩=some (.int .i64 k2):=fun x=>(pastc hW x hW.size (p:=⟨(a'.add (j*10)).block,(a'.add (j*10)).off+4,none⟩) (by rw [za0]; exact HAB'.out)).trans G'4.out
   have r25:∀ x:Past W,x.w.cell? ⟨(a'.add (j*10)).block,(a'.add (j*10)).off+5,none⟩=some (.int .i64 n2):=fun x=>(pastc hW x hW.size (p:=⟨(a'.add (j*10)).block,(a'.add (j*10)).off+5,none⟩) (by rw [za0]; exact HAB'.out)).trans G'5.out
   have r26:∀ x:Past W,x.w.cell? ⟨(a'.add (j*10)).block,(a'.add (j*10)).off+6,none⟩=some (.string s2):=fun x=>(pastc hW x hW.size (p:=⟨(a'.add (j*10)).block,(a'.add (j*10)).off+6,none⟩) (by rw [za0]; exact HAB'.out)).trans G'6.out
   have r27:∀ x:Past W,x.w.cell? ⟨(a'.add (j*10)).block,(a'.add (j*10)).off+7,none⟩=some (.slice B2 li2 ci2):=fun x=>(pastc hW x hW.size (p:=⟨(a'.add (j*10)).block,(a'.add (j*10)).off+7,none⟩) (by rw [za0]; exact HAB'.out)).trans G'7.out
   have r28:∀ x:Past W,x.w.cell? ⟨(a'.add (j*10)).block,(a'.add (j*10)).off+8,none⟩=some (.slice K2 lk2 ck2):=fun x=>(pastc hW x hW.size (p:=⟨(a'.add (j*10)).block,(a'.add (j*10)).off+8,none⟩) (by rw [za0]; exact HAB'.out)).trans G'8.out
   have r29:∀ x:Past W,x.w.cell? ⟨(a'.add (j*10)).block,(a'.add (j*10)).off+9,none⟩=some (.slice D2 ld g2):=fun x=>(pastc hW x hW.size (p:=⟨(a'.add (j*10)).block,(a'.add (j*10)).off+9,none⟩) (by rw [za0]; exact HAB'.out)).trans G'9.out
   have k1':∀ x:Past W,Calls Tryz.prog 59 #[.agg #[.string tn,.slice A1 lw d1],.agg #[.string tn,.slice A2 lw d2]] x.w fun e w''=>e=.returned (.bool true)/\∃ y:Past W,w''=y.w:=fun x=>zc5 x (HS.out _ (hW.trans (x.b.mono hW.size)));have k2':∀ x:Past W,Calls Tryz.prog 122 #[.agg #[.int .i64 k1,.int .i64 n1,.string s1,.slice B1 li1 ci1,.slice K1 lk1 ck1],.agg #[.int .i64 k2,.int .i64 n2,.string s2,.slice B2 li2 ci2,.slice K2 lk2 ck2]] x.w fun e w''=>e=.returned (.bool true)/\∃ y:Past W,w''=y.w:=fun x=>zc5 x (HE.out _ (hW.trans (x.b.mono hW.size)));have k3':∀ x:Past W,Calls Tryz.prog 57 #[.slice D1 ld g1,.slice D2 ld g2] x.w fun e w''=>e=.returned (.bool true)/\∃ y:Past W,w''=y.w:=fun x=>zc5 x (HDD.out _ (hW.trans (x.b.mono hW.size)));have C1:=Lh k1';have C2:=Lh k2';have C3:=Lh k3';have HWW:=Lh hW;clear hW k1' k2' k3' hq
   repeat (go_big_quiet_step (first | with_reducible exact C1.out _ | with_reducible exact C2.out _ | with_reducible exact C3.out _))
   refine wpQuiet_nil ?_
   intro _ hw';obtain ⟨y,rfl⟩:=hw';go_wp2_with fail
   go_roundw
   case rel=>exact ⟨j+1,by omega,by go_num,Lh (HWW.out.trans (y.b.mono HWW.out.size))⟩
   case measure=>simp [intOf]; omega
  ·have hlt':¬ (j:Int)<ll:=by omega
   go_wp2_with fail
   go_ret
   exact ⟨rfl,hq.out⟩
def fldsW (l:List FldT):Prop:=∀ y∈l,inpsW y.args/\y.tw.length<=1000000
def defW (x:DefT):Prop:=inpsW x.inputs/\fldsW x.fields
theorem zK2 (x:DefT) (f f':Nat->Value) (w:World) (h:DefR w w.heap.size f x) (h':DefR w w.heap.size f' x) (hw:defW x):Calls Tryz.prog 29 #[.agg #[f 0,f 1,f 2,f 3,f 4,f 5,f 6],.agg #[f' 0,f' 1,f' 2,f' 3,f' 4,f' 5,f' 6]] w (BP true w):=by
 obtain ⟨I1,i1,ei1,_,_⟩:=h.impl.form;obtain ⟨D1,d1,ed1,_,_⟩:=h.dirs.form;obtain ⟨F1,f1,ef1,_,hbf1,VF1,hF1,rF1⟩:=h.fields;obtain ⟨M1,m1,em1,_,hbm1,VM1,hM1,rM1⟩:=h.members;obtain ⟨P1,p1,ep1,_,_⟩:=h.inputs.form;have hI1:NamesR w w.heap.size (.slice I1 x.impl.length i1) x.impl:=by rw [<- ei1]; exact h.impl
 have hD1:DirsR w w.heap.size (.slice D1 x.dirs.length d1) x.dirs:=by rw [<- ed1]; exact h.dirs
 have hP1:InpsR w w.heap.size (.slice P1 x.inputs.length p1) x.inputs:=by rw [<- ep1]; exact h.inputs
 obtain ⟨I2,i2,ei2,_,_⟩:=h'.impl.form;obtain ⟨D2,d2,ed2,_,_⟩:=h'.dirs.form;obtain ⟨F2,f2,ef2,_,hbf2,VF2,hF2,rF2⟩:=h'.fields;obtain ⟨M2,m2,em2,_,hbm2,VM2,hM2,rM2⟩:=h'.members;obtain ⟨P2,p2,ep2,_,_⟩:=h'.inputs.form;have hI2:NamesR w w.heap.size (.slice I2 x.impl.length i2) x.impl:=by rw [<- ei2]; exact h'.impl
 have hD2:DirsR w w.heap.size (.slice D2 x.dirs.length d2) x.dirs:=by rw [<- ed2]; exact h'.dirs
 have hP2:InpsR w w.heap.size (.slice P2 x.inputs.length p2) x.inputs:=by rw [<- ep2]; exact h'.inputs
 rw [h.kind,h.name,ei1,ed1,ef1,em1,ep1,h'.kind,h'.name,ei2,ed2,ef2,em2,ep2];have HI:=Lh (fun (W:World) (hW:Below w.heap.size w W)=>zZ6 x.impl _ _ W ((hI1.kept hW).mono hW.size) ((hI2.kept hW).mono hW.size));have HD:=Lh (fun (W:World) (hW:Below w.heap.size w W)=>zi4 x.dirs _ _ W ((hD1.kept hW).mono hW.size) ((hD2.kept hW).mono hW.size));have HP:=Lh (fun (W:World) (hW:Below w.heap.size w W)=>zn6 x.inputs _ _ W ((hP1.kept hW).mono hW.size) ((hP2.kept hW).mono hW.size) hw.1);have HFW:=Lh hw.2;obtain ⟨lf,hlf⟩ : ∃ lf,lf=x.fields.length:=⟨_,rfl⟩;obtain ⟨lm,hlm⟩ : ∃ lm,lm=x.members.length:=⟨_,rfl⟩;rw [<- hlf] at hbf1 hF1 hF2 ⊢;rw [<- hlm] at hbm1 hM1 hM2 ⊢;have hlfb:(lf:Int)<=140737488351232:=by unfold big at hbf1; omega
 have hlmb:(lm:Int)<=140737488351232:=by unfold big at hbm1; omega
 have HLF:=Lh hlf;have HLM:=Lh hlm;have HF1:=Lh hF1;have HF2:=Lh hF2;have RF1:=Lh rF1;have RF2:=Lh rF2;have HM1:=Lh hM1;have HM2:=Lh hM2;have RM1:=Lh rM1;have RM2:=Lh rM2;have hnn:decide (x.name=x.name)=true:=by simp
 clear ei1 ed1 ef1 em1 ep1 ei2 ed2 ef2 em2 ep2 hI1 hI2 hD1 hD2 hP1 hP2 hF1 hF2 rF1 rF2 hM1 hM2 rM1 rM2 hbf1 hbf2 hbm1 hbm2 h h' hw hlf hlm;generalize x.kind=kz at *;generalize x.name=nz at *;generalize x.impl.length=li at *;generalize x.dirs.length=ld at *;generalize x.inputs.length=lp at *;have hX1:Bk ((w.alloc (.cells #[.int .i64 kz,.string nz,.slice I1 li i1,.slice D1 ld d1,.slice F1 lf f1,.slice M1 lm m1,.slice P1 lp p1] 39 (0,0))).alloc (.cells #[.int .i64 kz,.string nz,.slice I2 li i2,.slice D2 ld d2,.slice F2 lf f2,.slice M2 lm m2,.slice P2 lp p2] 39 (0,0))) w.heap.size #[.int .i64 kz,.string nz,.slice I1 li i1,.slice D1 ld d1,.slice F1 lf f1,.slice M1 lm m1,.slice P1 lp p1] 39 /\ Bk ((w.alloc (.cells #[.int .i64 kz,.string nz,.slice I1 li i1,.slice D1 ld d1,.slice F1 lf f1,.slice M1 lm m1,.slice P1 lp p1] 39 (0,0))).alloc (.cells #[.int .i64 kz,.string nz,.slice I2 li i2,.slice D2 ld d2,.slice F2 lf f2,.slice M2 lm m2,.slice P2 lp p2] 39 (0,0))) (w.heap.size+1) #[.int .i64 kz,.string nz,.slice I2 li i2,.slice D2 ld d2,.slice F2 lf f2,.slice M2 lm m2,.slice P2 lp p2] 39 /\ Below w.heap.size w ((w.alloc (.cells #[.int .i64 kz,.string nz,.slice I1 li i1,.slice D1 ld d1,.slice F1 lf f1,.slice M1 lm m1,.slice P1 lp p1] 39 (0,0))).alloc (.cells #[.int .i64 kz,.string nz,.slice I2 li i2,.slice D2 ld d2,.slice F2 lf f2,.slice M2 lm m2,.slice P2 lp p2] 39 (0,0))):=by
  have b1:=za1 w (.cells #[.int .i64 kz,.string nz,.slice I1 li i1,.slice D1 ld d1,.slice F1 lf f1,.slice M1 lm m1,.slice P1 lp p1] 39 (0,0));have k1:=Bk.new w #[.int .i64 kz,.string nz,.slice I1 li i1,.slice D1 ld d1,.slice F1 lf f1,.slice M1 lm m1,.slice P1 lp p1] 39;have k2:=Bk.new (w.alloc (.cells #[.int .i64 kz,.string nz,.slice I1 li i1,.slice D1 ld d1,.slice F1 lf f1,.slice M1 lm m1,.slice P1 lp p1] 39 (0,0))) #[.int .i64 kz,.string nz,.slice I2 li i2,.slice D2 ld d2,.slice F2 lf f2,.slice M2 lm m2,.slice P2 lp p2] 39;have b2:=za1 (w.alloc (.cells #[.int .i64 kz,.string nz,.slice I1 li i1,.slice D1 ld d1,.slice F1 lf f1,.slice M1 lm m1,.slice P1 lp p1] 39 (0,0))) (.cells #[.int .i64 kz,.string nz,.slice I2 li i2,.slice D2 ld d2,.slice F2 lf f2,.slice M2 lm m2,.slice P2 lp p2] 39 (0,0));rw [World.size_alloc] at k2;exact ⟨k1.stay b2,k2,b1.trans (b2.mono b1.size)⟩
 obtain ⟨hX1,hX2,hB⟩:=hX1;have x0:=hX1.cell 0 _ rfl;have y0:=hX2.cell 0 _ rfl;have x1:=hX1.cell 1 _ rfl;have y1:=hX2.cell 1 _ rfl;have x2:=hX1.cell 2 _ rfl;have y2:=hX2.cell 2 _ rfl;have x3:=hX1.cell 3 _ rfl;have y3:=hX2.cell 3 _ rfl;have x4:=hX1.cell 4 _ rfl;have y4:=hX2.cell 4 _ rfl;have x5:=hX1.cell 5 _ rfl;have y5:=hX2.cell 5 _ rfl;have x6:=hX1.cell 6 _ rfl;have y6:=hX2.cell 6 _ rfl;have HX1:=Lh hX1;have HX2:=Lh hX2;have HB:=Lh hB;clear hX1 hX2 hB
 go_enter Tryz.func29, Tryz.ntmps29
 go_wp2_with fail
 refine (HI.out _ HB.out).mono ?_
 rintro e w1 ⟨rfl,hb⟩;have HB1:=Lh (HB.out.trans (hb.mono HB.out.size));have HX1:=Lh (HX1.out.stay hb);have HX2:=Lh (HX2.out.stay hb);clear x0 y0 x1 y1 x2 y2 x3 y3 x4 y4 x5 y5 x6 y6 hb;have x0:=HX1.out.cell 0 _ rfl;have y0:=HX2.out.cell 0 _ rfl;have x1:=HX1.out.cell 1 _ rfl;have y1:=HX2.out.cell 1 _ rfl;have x2:=HX1.out.cell 2 _ rfl;have y2:=HX2.out.cell 2 _ rfl;have x3:=HX1.out.cell 3 _ rfl;have y3:=HX2.out.cell 3 _ rfl;have x4:=HX1.out.cell 4 _ rfl;have y4:=HX2.out.cell 4 _ rfl;have x5:=HX1.out.cell 5 _ rfl;have y5:=HX2.out.cell 5 _ rfl;have x6:=HX1.out.cell 6 _ rfl;have y6:=HX2.out.cell 6 _ rfl;go_wp2_with fail
 refine (HD.out _ HB1.out).mono ?_
 rintro e w2 ⟨rfl,hb⟩;have HB2:=Lh (HB1.out.trans (hb.mono HB1.out.size));have HX1:=Lh (HX1.out.stay hb);have HX2:=Lh (HX2.out.stay hb);clear x0 y0 x1 y1 x2 y2 x3 y3 x4 y4 x5 y5 x6 y6 hb;have x0:=HX1.out.cell 0 _ rfl;have y0:=HX2.out.cell 0 _ rfl;have x1:=HX1.out.cell 1 _ rfl;have y1:=HX2.out.cell 1 _ rfl;have x2:=HX1.out.cell 2 _ rfl;have y2:=HX2.out.cell 2 _ rfl;have x3:=HX1.out.cell 3 _ rfl;have y3:=HX2.out.cell 3 _ rfl;have x4:=HX1.out.cell 4 _ rfl;have y4:=HX2.out.cell 4 _ rfl;have x5:=HX1.out.cell 5 _ rfl;have y5:=HX2.out.cell 5 _ rfl;have x6:=HX1.out.cell 6 _ rfl;have y6:=HX2.out.cell 6 _ rfl;go_wp2_with fail
 refine (HP.out _ HB2.out).mono ?_
 rintro e w3 ⟨rfl,hb⟩;have HB3:=Lh (HB2.out.trans (hb.mono HB2.out.size));have HX1:=Lh (HX1.out.stay hb);have HX2:=Lh (HX2.out.stay hb);clear x0 y0 x1 y1 x2 y2 x3 y3 x4 y4 x5 y5 x6 y6 hb;go_wp2_with fail
 go_loopw [5] (fun i wr=>∃ j:Nat,j<=lf/\i=.int .i64 j/\Hid (Below w.heap.size w wr/\Bk wr w.heap.size #[.int .i64 kz,.string nz,.slice I1 li i1,.slice D1 ld d1,.slice F1 lf f1,.slice M1 lm m1,.slice P1 lp p1] 39 /\ Bk wr (w.heap.size+1) #[.int .i64 kz,.string nz,.slice I2 li i2,.slice D2 ld d2,.slice F2 lf f2,.slice M2 lm m2,.slice P2 lp p2] 39)) (fun i _=>lf-(intOf i).toNat)
 case atStart=>exact ⟨0,Nat.zero_le _,rfl,Lh ⟨HB3.out,HX1.out,HX2.out⟩⟩
 case round =>
  obtain ⟨j,hj,rfl,hq⟩:=hrel;have x4:=hq.out.2.1.cell 4 _ rfl;have y4:=hq.out.2.2.cell 4 _ rfl;by_cases hlt:j<lf
  ·have hlt':(j:Int)<lf:=by omega
   obtain ⟨y,hy⟩ : ∃ y,x.fields[j]?=some y:=⟨_,List.getElem?_eq_getElem (by have:=HLF.out; omega)⟩
   obtain ⟨a,rfl,ha,hx⟩:=HF1.out (by omega)
   obtain ⟨a',rfl,ha',hx'⟩:=HF2.out (by omega)
   have hdr:=RF1.out j y hy;have hdr':=RF2.out j y hy;have hcell:=hx j hlt;have hcell':=hx' j hlt;obtain ⟨hw1,hw2⟩:=HFW.out y (List.mem_of_getElem? hy);obtain ⟨A1,g1,u1,_,_⟩:=hdr.args.form;obtain ⟨R1,r1,s1,_,_⟩:=hdr.type.wraps.form;obtain ⟨E1,q1,t1,_,_⟩:=hdr.dirs.form;have ha1:InpsR w w.heap.size (.slice A1 y.args.length g1) y.args:=by rw [<- u1]; exact hdr.args
   have hr1:RfR w w.heap.size (.string y.tn) (.slice R1 y.tw.length r1) y.tn y.tw:=by
    have:=hdr.type;rw [s1,this.name] at this;exact this
   have hd1:DirsR w w.heap.size (.slice E1 y.dirs.length q1) y.dirs:=by rw [<- t1]; exact hdr.dirs
   have G0:=(hq.out.1.cell (p:=(a.add (j*5))) (by rw [za0]; exact ha)).trans ((hcell 0 (by omega)).trans (by rw [hdr.name]):w.cell? (a.add (j*5))=some (.string y.name))
   have G1:=(hq.out.1.cell (p:=⟨(a.add (j*5)).block,(a.add (j*5)).off+1,none⟩) (by rw [za0]; exact ha)).trans ((hcell 1 (by omega)).trans (by rw [u1]):w.cell? ⟨(a.add (j*5)).block,(a.add (j*5)).off+1,none⟩=some (.slice A1 y.args.length g1))
   have G2:=(hq.out.1.cell (p:=⟨(a.add (j*5)).block,(a.add (j*5)).off+2,none⟩) (by rw [za0]; exact ha)).trans ((hcell 2 (by omega)).trans (by rw [hdr.type.name]):w.cell? ⟨(a.add (j*5)).block,(a.add (j*5)).off+2,none⟩=some (.string y.tn))
   have G3:=(hq.out.1.cell (p:=⟨(a.add (j*5)).block,(a.add (j*5)).off+3,none⟩) (by rw [za0]; exact ha)).trans ((hcell 3 (by omega)).trans (by rw [s1]):w.cell? ⟨(a.add (j*5)).block,(a.add (j*5)).off+3,none⟩=some (.slice R1 y.tw.length r1))
   have G4:=(hq.out.1.cell (p:=⟨(a.add (j*5)).block,(a.add (j*5)).off+4,none⟩) (by rw [za0]; exact ha)).trans ((hcell 4 (by omega)).trans (by rw [t1]):w.cell? ⟨(a.add (j*5)).block,(a.add (j*5)).off+4,none⟩=some (.slice E1 y.dirs.length q1))
   obtain ⟨A2,g2,u2,_,_⟩:=hdr'.args.form;obtain ⟨R2,r2,s2,_,_⟩:=hdr'.type.wraps.form;obtain ⟨E2,q2,t2,_,_⟩:=hdr'.dirs.form;have ha2:InpsR w w.heap.size (.slice A2 y.args.length g2) y.args:=by rw [<- u2]; exact hdr'.args
   have hr2:RfR w w.heap.size (.string y.tn) (.slice R2 y.tw.length r2) y.tn y.tw:=by
    have:=hdr'.type;rw [s2,this.name] at this;exact this
   have hd2:DirsR w w.heap.size (.slice E2 y.dirs.length q2) y.dirs:=by rw [<- t2]; exact hdr'.dirs
   have G'0:=(hq.out.1.cell (p:=(a'.add (j*5))) (by rw [za0]; exact ha')).trans ((hcell' 0 (by omega)).trans (by rw [hdr'.name]):w.cell? (a'.add (j*5))=some (.string y.name))
   have G'1:=(hq.out.1.cell (p:=⟨(a'.add (j*5)).block,(a'.add (j*5)).off+1,none⟩) (by rw [za0]; exact ha')).trans ((hcell' 1 (by omega)).trans (by rw [u2]):w.cell? ⟨(a'.add (j*5)).block,(a'.add (j*5)).off+1,none⟩=some (.slice A2 y.args.length g2))
   have G'2:=(hq.out.1.cell (p:=⟨(a'.add (j*5)).block,(a'.add (j*5)).off+2,none⟩) (by rw [za0]; exact ha')).trans ((hcell' 2 (by omega)).trans (by rw [hdr'.type.name]):w.cell? ⟨(a'.add (j*5)).block,(a'.add (j*5)).off+2,none⟩=some (.string y.tn))
   have G'3:=(hq.out.1.cell (p:=⟨(a'.add (j*5)).block,(a'.add (j*5)).off+3,none⟩) (by rw [za0]; exact ha')).trans ((hcell' 3 (by omega)).trans (by rw [s2]):w.cell? ⟨(a'.add (j*5)).block,(a'.add (j*5)).off+3,none⟩=some (.slice R2 y.tw.length r2))
   have G'4:=(hq.out.1.cell (p:=⟨(a'.add (j*5)).block,(a'.add (j*5)).off+4,none⟩) (by rw [za0]; exact ha')).trans ((hcell' 4 (by omega)).trans (by rw [t2]):w.cell? ⟨(a'.add (j*5)).block,(a'.add (j*5)).off+4,none⟩=some (.slice E2 y.dirs.length q2))
   have HA:=Lh (fun (W:World) (hW:Below w.heap.size w W)=>zn6 y.args _ _ W ((ha1.kept hW).mono hW.size) ((ha2.kept hW).mono hW.size) hw1);have HS:=Lh (fun (W:World) (hW:Below w.heap.size w W)=>(by
    have:=K.zB0 y.tn y.tn y.tw y.tw _ _ W ((zo9 hr1).kept hW |>.mono hW.size) ((zo9 hr2).kept hW |>.mono hW.size) (Nat.le_trans hw2 (by decide))
    rw [decide_eq_true ⟨rfl,rfl⟩] at this;exact this:Calls Tryz.prog 59 #[.agg #[.string y.tn,.slice R1 y.tw.length r1],.agg #[.string y.tn,.slice R2 y.tw.length r2]] W (K.zi9 true W)))
   have HE:=Lh (fun (W:World) (hW:Below w.heap.size w W)=>zi4 y.dirs _ _ W ((hd1.kept hW).mono hW.size) ((hd2.kept hW).mono hW.size));have hxx:decide (y.name=y.name)=true:=by simp
   clear hx hx' hdr hdr' hcell hcell' hy hw1 hw2 ha1 ha2 hr1 hr2 hd1 hd2 u1 u2 s1 s2 t1 t2;generalize y.name=fn at *;generalize y.args.length=la at *;generalize y.tn=tn at *;generalize y.tw.length=lw at *;generalize y.dirs.length=le at *;have hl1:=hq.out.2.1.lt;have hl2:=hq.out.2.2.lt;have ne1:w.heap.size≠wr.heap.size:=by omega
   have ne2:w.heap.size+1≠wr.heap.size:=by omega
   have ne3:w.heap.size≠wr.heap.size+1:=by omega
   have ne4:w.heap.size+1≠wr.heap.size+1:=by omega
   have bz1:∀ o1,Below wr.heap.size wr (wr.alloc o1):=fun o1=>za1 wr o1;have bz2:∀ o1 o2,Below wr.heap.size wr ((wr.alloc o1).alloc o2):=fun o1 o2=>(bz1 o1).trans ((za1 _ _).mono (bz1 o1).size);have z1G0:∀ o1,(wr.alloc o1).cell? (a.add (j*5))=some (.string fn):=fun o1=>((bz1 o1).cell (p:=(a.add (j*5))) (by rw [za0]; omega)).trans G0
   have z2G0:∀ o1 o2,((wr.alloc o1).alloc o2).cell? (a.add (j*5))=some (.string fn):=fun o1 o2=>((bz2 o1 o2).cell (p:=(a.add (j*5))) (by rw [za0]; omega)).trans G0
   have z1G1:∀ o1,(wr.alloc o1).cell? ⟨(a.add (j*5)).block,(a.add (j*5)).off+1,none⟩=some (.slice A1 la g1):=fun o1=>((bz1 o1).cell (p:=⟨(a.add (j*5)).block,(a.add (j*5)).off+1,none⟩) (by rw [za0]; omega)).trans G1
   have z2G1:∀ o1 o2,((wr.alloc o1).alloc o2).cell? ⟨(a.add (j*5)).block,(a.add (j*5)).off+1,none⟩=some (.slice A1 la g1):=fun o1 o2=>((bz2 o1 o2).cell (p:=⟨(a.add (j*5)).block,(a.add (j*5)).off+1,none⟩) (by rw [za0]; omega)).trans G1
   have z1G2:∀ o1,(wr.alloc o1).cell? ⟨(a.add (j*5)).block,(a.add (j*5)).off+2,none⟩=some (.string tn):=fun o1=>((bz1 o1).cell (p:=⟨(a.add (j*5)).block,(a.add (j*5)).off+2,none⟩) (by rw [za0]; omega)).trans G2
   have z2G2:∀ o1 o2,((wr.alloc o1).alloc o2).cell? ⟨(a.add (j*5)).block,(a.add (j*5)).off+2,none⟩=some (.string tn):=fun o1 o2=>((bz2 o1 o2).cell (p:=⟨(a.add (j*5)).block,(a.add (j*5)).off+2,none⟩) (by rw [za0]; omega)).trans G2
   have z1G3:∀ o1,(wr.alloc o1).cell? ⟨(a.add (j*5)).block,(a.add (j*5)).off+3,none⟩=some (.slice R1 lw r1):=fun o1=>((bz1 o1).cell (p:=⟨(a.add (j*5)).block,(a.add (j*5)).off+3,none⟩) (by rw [za0]; omega)).trans G3
   have z2G3:∀ o1 o2,((wr.alloc o1).alloc o2).cell? ⟨(a.add (j*5)).block,(a.add (j*5)).off+3,none⟩=some (.slice R1 lw r1):=fun o1 o2=>((bz2 o1 o2).cell (p:=⟨(a.add (j*5)).block,(a.add (j*5)).off+3,none⟩) (by rw [za0]; omega)).trans G3
   have z1G4:∀ o1,(wr.alloc o1).cell? ⟨(a.add (j*5)).block,(a.add (j*5)).off+4,none⟩=some (.slice E1 le q1):=fun o1=>((bz1 o1).cell (p:=⟨(a.add (j*5)).block,(a.add (j*5)).off+4,none⟩) (by rw [za0]; omega)).trans G4
   have z2G4:∀ o1 o2,((wr.alloc o1).alloc o2).cell? ⟨(a.add (j*5)).block,(a.add (j*5)).off+4,none⟩=some (.slice E1 le q1):=fun o1 o2=>((bz2 o1 o2).cell (p:=⟨(a.add (j*5)).block,(a.add (j*5)).off+4,none⟩) (by rw [za0]; omega)).trans G4
   have z1G'0:∀ o1,(wr.alloc o1).cell? (a'.add (j*5))=some (.string fn):=fun o1=>((bz1 o1).cell (p:=(a'.add (j*5))) (by rw [za0]; omega)).trans G'0
   have z2G'0:∀ o1 o2,((wr.alloc o1).alloc o2).cell? (a'.add (j*5))=some (.string fn):=fun o1 o2=>((bz2 o1 o2).cell (p:=(a'.add (j*5))) (by rw [za0]; omega)).trans G'0
   have z1G'1:∀ o1,(wr.alloc o1).cell? ⟨(a'.add (j*5)).block,(a'.add (j*5)).off+1,none⟩=some (.slice A2 la g2):=fun o1=>((bz1 o1).cell (p:=⟨(a'.add (j*5)).block,(a'.add (j*5)).off+1,none⟩) (by rw [za0]; omega)).trans G'1
   have z2G'1:∀ o1 o2,((wr.alloc o1).alloc o2).cell? ⟨(a'.add (j*5)).block,(a'.add (j*5)).off+1,none⟩=some (.slice A2 la g2):=fun o1 o2=>((bz2 o1 o2).cell (p:=⟨(a'.add (j*5)).block,(a'.add (j*5)).off+1,none⟩) (by rw [za0]; omega)).trans G'1
   have z1G'2:∀ o1,(wr.alloc o1).cell? ⟨(a'.add (j*5)).block,(a'.add (j*5)).off+2,none⟩=some (.string tn):=fun o1=>((bz1 o1).cell (p:=⟨(a'.add (j*5)).block,(a'.add (j*5)).off+2,none⟩) (by rw [za0]; omega)).trans G'2
   have z2G'2:∀ o1 o2,((wr.alloc o1).alloc o2).cell? ⟨(a'.add (j*5)).block,(a'.add (j*5)).off+2,none⟩=some (.string tn):=fun o1 o2=>((bz2 o1 o2).cell (p:=⟨(a'.add (j*5)).block,(a'.add (j*5)).off+2,none⟩) (by rw [za0]; omega)).trans G'2
   have z1G'3:∀ o1,(wr.alloc o1).cell? ⟨(a'.add (j*5)).block,(a'.add (j*5)).off+3,none⟩=some (.slice R2 lw r2):=fun o1=>((bz1 o1).cell (p:=⟨(a'.add (j*5)).block,(a'.add (j*5)).off+3,none⟩) (by rw [za0]; omega)).trans G'3
   have z2G'3:∀ o1 o2,((wr.alloc o1).alloc o2).cell? ⟨(a'.add (j*5)).block,(a'.add (j*5)).off+3,none⟩=some (.slice R2 lw r2):=fun o1 o2=>((bz2 o1 o2).cell (p:=⟨(a'.add (j*5)).block,(a'.add (j*5)).off+3,none⟩) (by rw [za0]; omega)).trans G'3
   have z1G'4:∀ o1,(wr.alloc o1).cell? ⟨(a'.add (j*5)).block,(a'.add (j*5)).off+4,none⟩=some (.slice E2 le q2):=fun o1=>((bz1 o1).cell (p:=⟨(a'.add (j*5)).block,(a'.add (j*5)).off+4,none⟩) (by rw [za0]; omega)).trans G'4
   have z2G'4:∀ o1 o2,((wr.alloc o1).alloc o2).cell? ⟨(a'.add (j*5)).block,(a'.add (j*5)).off+4,none⟩=some (.slice E2 le q2):=fun o1 o2=>((bz2 o1 o2).cell (p:=⟨(a'.add (j*5)).block,(a'.add (j*5)).off+4,none⟩) (by rw [za0]; omega)).trans G'4
   clear bz1 bz2;go_wp2_with fail
   go_region
   all_goals clear z1G0 z1G1 z1G2 z1G3 z1G4 z1G'0 z1G'1 z1G'2 z1G'3 z1G'4 z2G0 z2G1 z2G2 z2G3 z2G4 z2G'0 z2G'1 z2G'2 z2G'3 z2G'4 G0 G1 G2 G3 G4 G'0 G'1 G'2 G'3 G'4 x4 y4
   ·have hW8:Bk ((wr.alloc (.cells #[.string fn,.slice A1 la g1,.string tn,.slice R1 lw r1,.slice E1 le q1] 46 (0,0))).alloc (.cells #[.string fn,.slice A2 la g2,.string tn,.slice R2 lw r2,.slice E2 le q2] 46 (0,0))).drew wr.heap.size #[.string fn,.slice A1 la g1,.string tn,.slice R1 lw r1,.slice E1 le q1] 46 /\ Bk ((wr.alloc (.cells #[.string fn,.slice A1 la g1,.string tn,.slice R1 lw r1,.slice E1 le q1] 46 (0,0))).alloc (.cells #[.string fn,.slice A2 la g2,.string tn,.slice R2 lw r2,.slice E2 le q2] 46 (0,0))).drew (wr.heap.size+1) #[.string fn,.slice A2 la g2,.string tn,.slice R2 lw r2,.slice E2 le q2] 46 /\ Below wr.heap.size wr ((wr.alloc (.cells #[.string fn,.slice A1 la g1,.string tn,.slice R1 lw r1,.slice E1 le q1] 46 (0,0))).alloc (.cells #[.string fn,.slice A2 la g2,.string tn,.slice R2 lw r2,.slice E2 le q2] 46 (0,0))).drew:=by
     have c1:=za1 wr (.cells #[.string fn,.slice A1 la g1,.string tn,.slice R1 lw r1,.slice E1 le q1] 46 (0,0));have e1:=Bk.new wr #[.string fn,.slice A1 la g1,.string tn,.slice R1 lw r1,.slice E1 le q1] 46;have c2:=za1 (wr.alloc (.cells #[.string fn,.slice A1 la g1,.string tn,.slice R1 lw r1,.slice E1 le q1] 46 (0,0))) (.cells #[.string fn,.slice A2 la g2,.string tn,.slice R2 lw r2,.slice E2 le q2] 46 (0,0));have e2:=Bk.new (wr.alloc (.cells #[.string fn,.slice A1 la g1,.string tn,.slice R1 lw r1,.slice E1 le q1] 46 (0,0))) #[.string fn,.slice A2 la g2,.string tn,.slice R2 lw r2,.slice E2 le q2] 46;rw [World.size_alloc] at e2;exact ⟨e1.stay c2.drew,e2.stay ((Below.refl _ _).drew),(c1.trans (c2.mono c1.size)).drew⟩
    obtain ⟨hU1,hU2,hbw⟩:=hW8;have HU1:=Lh hU1;have HU2:=Lh hU2;have HB8:=Lh (hq.out.1.trans (hbw.mono hq.out.1.size));have HX1:=Lh (hq.out.2.1.stay hbw);have HX2:=Lh (hq.out.2.2.stay hbw);have x0:=HU1.out.cell 0 _ rfl;have y0:=HU2.out.cell 0 _ rfl;have x1:=HU1.out.cell 1 _ rfl;have y1:=HU2.out.cell 1 _ rfl;have x2:=HU1.out.cell 2 _ rfl;have y2:=HU2.out.cell 2 _ rfl;have x3:=HU1.out.cell 3 _ rfl;have y3:=HU2.out.cell 3 _ rfl;have x4:=HU1.out.cell 4 _ rfl;have y4:=HU2.out.cell 4 _ rfl;clear hU1 hU2 hbw;go_wp2_with fail
    refine (HA.out _ HB8.out).mono ?_
    rintro e wa ⟨rfl,hb⟩;have Hwa:=Lh (HB8.out.trans (hb.mono HB8.out.size));have HU1:=Lh (HU1.out.stay hb);have HU2:=Lh (HU2.out.stay hb);have HX1:=Lh (HX1.out.stay hb);have HX2:=Lh (HX2.out.stay hb);clear x0 x1 x2 x3 x4 y0 y1 y2 y3 y4 hb;have x0:=HU1.out.cell 0 _ rfl;have y0:=HU2.out.cell 0 _ rfl;have x1:=HU1.out.cell 1 _ rfl;have y1:=HU2.out.cell 1 _ rfl;have x2:=HU1.out.cell 2 _ rfl;have y2:=HU2.out.cell 2 _ rfl;have x3:=HU1.out.cell 3 _ rfl;have y3:=HU2.out.cell 3 _ rfl;have x4:=HU1.out.cell 4 _ rfl;have y4:=HU2.out.cell 4 _ rfl;go_wp2_with fail
    refine (HS.out _ Hwa.out).mono ?_
    rintro e wb ⟨rfl,hb⟩;have Hwb:=Lh (Hwa.out.trans (hb.mono Hwa.out.size));have HU1:=Lh (HU1.out.stay hb);have HU2:=Lh (HU2.out.stay hb);have HX1:=Lh (HX1.out.stay hb);have HX2:=Lh (HX2.out.stay hb);clear x0 x1 x2 x3 x4 y0 y1 y2 y3 y4 hb;have x0:=HU1.out.cell 0 _ rfl;have y0:=HU2.out.cell 0 _ rfl;have x1:=HU1.out.cell 1 _ rfl;have y1:=HU2.out.cell 1 _ rfl;have x2:=HU1.out.cell 2 _ rfl;have y2:=HU2.out.cell 2 _ rfl;have x3:=HU1.out.cell 3 _ rfl;have y3:=HU2.out.cell 3 _ rfl;have x4:=HU1.out.cell 4 _ rfl;have y4:=HU2.out.cell 4 _ rfl;go_wp2_with fail
    refine (HE.out _ Hwb.out).mono ?_
    rintro e wc ⟨rfl,hb⟩;have Hwc:=Lh (Hwb.out.trans (hb.mono Hwb.out.size));have HU1:=Lh (HU1.out.stay hb);have HU2:=Lh (HU2.out.stay hb);have HX1:=Lh (HX1.out.stay hb);have HX2:=Lh (HX2.out.stay hb);clear x0 x1 x2 x3 x4 y0 y1 y2 y3 y4 hb;go_wp2_with fail
    go_roundw
    case rel=>exact ⟨j+1,by omega,by go_num,Lh ⟨Hwc.out,HX1.out,HX2.out⟩⟩
    case measure=>simp [intOf]; omega
   ·have hW8:Bk ((wr.alloc (.cells #[.string fn,.slice A2 la g2,.string tn,.slice R2 lw r2,.slice E2 le q2] 46 (0,0))).alloc (.cells #[.string fn,.slice A1 la g1,.string tn,.slice R1 lw r1,.slice E1 le q1] 46 (0,0))).drew (wr.heap.size+1) #[.string fn,.slice A1 la g1,.string tn,.slice R1 lw r1,.slice E1 le q1] 46 /\ Bk ((wr.alloc (.cells #[.string fn,.slice A2 la g2,.string tn,.slice R2 lw r2,.slice E2 le q2] 46 (0,0))).alloc (.cells #[.string fn,.slice A1 la g1,.string tn,.slice R1 lw r1,.slice E1 le q1] 46 (0,0))).drew wr.heap.size #[.string fn,.slice A2 la g2,.string tn,.slice R2 lw r2,.slice E2 le q2] 46 /\ Below wr.heap.size wr ((wr.alloc (.cells #[.string fn,.slice A2 la g2,.string tn,.slice R2 lw r2,.slice E2 le q2] 46 (0,0))).alloc (.cells #[.string fn,.slice A1 la g1,.string tn,.slice R1 lw r1,.slice E1 le q1] 46 (0,0))).drew:=by
     have c1:=za1 wr (.cells #[.string fn,.slice A2 la g2,.string tn,.slice R2 lw r2,.slice E2 le q2] 46 (0,0));have e1:=Bk.new wr #[.string fn,.slice A2 la g2,.string tn,.slice R2 lw r2,.slice E2 le q2] 46;have c2:=za1 (wr.alloc (.cells #[.string fn,.slice A2 la g2,.string tn,.slice R2 lw r2,.slice E2 le q2] 46 (0,0))) (.cells #[.string fn,.slice A1 la g1,.string tn,.slice R1 lw r1,.slice E1 le q1] 46 (0,0));have e2:=Bk.new (wr.alloc (.cells #[.string fn,.slice A2 la g2,.string tn,.slice R2 lw r2,.slice E2 le q2] 46 (0,0))) #[.string fn,.slice A1 la g1,.string tn,.slice R1 lw r1,.slice E1 le q1] 46;rw [World.size_alloc] at e2;exact ⟨e2.stay ((Below.refl _ _).drew),e1.stay c2.drew,(c1.trans (c2.mono c1.size)).drew⟩
    obtain ⟨hU1,hU2,hbw⟩:=hW8;have HU1:=Lh hU1;have HU2:=Lh hU2;have HB8:=Lh (hq.out.1.trans (hbw.mono hq.out.1.size));have HX1:=Lh (hq.out.2.1.stay hbw);have HX2:=Lh (hq.out.2.2.stay hbw);have x0:=HU1.out.cell 0 _ rfl;have y0:=HU2.out.cell 0 _ rfl;have x1:=HU1.out.cell 1 _ rfl;have y1:=HU2.out.cell 1 _ rfl;have x2:=HU1.out.cell 2 _ rfl;have y2:=HU2.out.cell 2 _ rfl;have x3:=HU1.out.cell 3 _ rfl;have y3:=HU2.out.cell 3 _ rfl;have x4:=HU1.out.cell 4 _ rfl;have y4:=HU2.out.cell 4 _ rfl;clear hU1 hU2 hbw;go_wp2_with fail
    refine (HA.out _ HB8.out).mono ?_
    rintro e wa ⟨rfl,hb⟩;have Hwa:=Lh (HB8.out.trans (hb.mono HB8.out.size));have HU1:=Lh (HU1.out.stay hb);have HU2:=Lh (HU2.out.stay hb);have HX1:=Lh (HX1.out.stay hb);have HX2:=Lh (HX2.out.stay hb);clear x0 x1 x2 x3 x4 y0 y1 y2 y3 y4 hb;have x0:=HU1.out.cell 0 _ rfl;have y0:=HU2.out.cell 0 _ rfl;have x1:=HU1.out.cell 1 _ rfl;have y1:=HU2.out.cell 1 _ rfl;have x2:=HU1.out.cell 2 _ rfl;have y2:=HU2.out.cell 2 _ rfl;have x3:=HU1.out.cell 3 _ rfl;have y3:=HU2.out.cell 3 _ rfl;have x4:=HU1.out.cell 4 _ rfl;have y4:=HU2.out.cell 4 _ rfl;go_wp2_with fail
    refine (HS.out _ Hwa.out).mono ?_
    rintro e wb ⟨rfl,hb⟩;have Hwb:=Lh (Hwa.out.trans (hb.mono Hwa.out.size));have HU1:=Lh (HU1.out.stay hb);have HU2:=Lh (HU2.out.stay hb);have HX1:=Lh (HX1.out.stay hb);have HX2:=Lh (HX2.out.stay hb);clear x0 x1 x2 x3 x4 y0 y1 y2 y3 y4 hb;have x0:=HU1.out.cell 0 _ rfl;have y0:=HU2.out.cell 0 _ rfl;have x1:=HU1.out.cell 1 _ rfl;have y1:=HU2.out.cell 1 _ rfl;have x2:=HU1.out.cell 2 _ rfl;have y2:=HU2.out.cell 2 _ rfl;have x3:=HU1.out.cell 3 _ rfl;have y3:=HU2.out.cell 3 _ rfl;have x4:=HU1.out.cell 4 _ rfl;have y4:=HU2.out.cell 4 _ rfl;go_wp2_with fail
    refine (HE.out _ Hwb.out).mono ?_
    rintro e wc ⟨rfl,hb⟩;have Hwc:=Lh (Hwb.out.trans (hb.mono Hwb.out.size));have HU1:=Lh (HU1.out.stay hb);have HU2:=Lh (HU2.out.stay hb);have HX1:=Lh (HX1.out.stay hb);have HX2:=Lh (HX2.out.stay hb);clear x0 x1 x2 x3 x4 y0 y1 y2 y3 y4 hb;go_wp2_with fail
    go_roundw
    case rel=>exact ⟨j+1,by omega,by go_num,Lh ⟨Hwc.out,HX1.out,HX2.out⟩⟩
    case measure=>simp [intOf]; omega
  ·have hlt':¬ (j:Int)<lf:=by omega
   go_wp2_with fail
   clear x4 y4
   go_loopw [8] (fun i wr=>∃ j2:Nat,j2<=lm/\i=.int .i64 j2/\Hid (Below w.heap.size w wr/\Bk wr w.heap.size #[.int .i64 kz,.string nz,.slice I1 li i1,.slice D1 ld d1,.slice F1 lf f1,.slice M1 lm m1,.slice P1 lp p1] 39 /\ Bk wr (w.heap.size+1) #[.int .i64 kz,.string nz,.slice I2 li i2,.slice D2 ld d2,.slice F2 lf f2,.slice M2 lm m2,.slice P2 lp p2] 39)) (fun i _=>lm-(intOf i).toNat)
   case atStart=>exact ⟨0,Nat.zero_le _,rfl,hq⟩
   case round =>
    obtain ⟨j2,hj2,rfl,hq2⟩:=hrel;have x5:=hq2.out.2.1.cell 5 _ rfl;have y5:=hq2.out.2.2.cell 5 _ rfl;by_cases hlt2:j2<lm
    ·have hlt2':(j2:Int)<lm:=by omega
     obtain ⟨y,hy⟩ : ∃ y,x.members[j2]?=some y:=⟨_,List.getElem?_eq_getElem (by have:=HLM.out; omega)⟩
     obtain ⟨a,rfl,ha,hx⟩:=HM1.out (by omega)
     obtain ⟨a',rfl,ha',hx'⟩:=HM2.out (by omega)
     have hdr:=RM1.out j2 y hy;have hdr':=RM2.out j2 y hy;have hcell:=hx j2 hlt2;have hcell':=hx' j2 hlt2;obtain ⟨E1,q1,t1,_,_⟩:=hdr.dirs.form;obtain ⟨E2,q2,t2,_,_⟩:=hdr'.dirs.form;have hd1:DirsR w w.heap.size (.slice E1 y.dirs.length q1) y.dirs:=by rw [<- t1]; exact hdr.dirs
     have hd2:DirsR w w.heap.size (.slice E2 y.dirs.length q2) y.dirs:=by rw [<- t2]; exact hdr'.dirs
     have HE:=Lh (fun (W:World) (hW:Below w.heap.size w W)=>zi4 y.dirs _ _ W ((hd1.kept hW).mono hW.size) ((hd2.kept hW).mono hW.size));have hxx:decide (y.name=y.name)=true:=by simp
     have G0:=Lh ((hcell 0 (by omega)).trans (by rw [hdr.name]):w.cell? (a.add (j2*2))=some (.string y.name))
     have G1:=Lh ((hcell 1 (by omega)).trans (by rw [t1]):w.cell? ⟨(a.add (j2*2)).block,(a.add (j2*2)).off+1,none⟩=some (.slice E1 y.dirs.length q1))
     have G'0:=Lh ((hcell' 0 (by omega)).trans (by rw [hdr'.name]):w.cell? (a'.add (j2*2))=some (.string y.name))
     have G'1:=Lh ((hcell' 1 (by omega)).trans (by rw [t2]):w.cell? ⟨(a'.add (j2*2)).block,(a'.add (j2*2)).off+1,none⟩=some (.slice E2 y.dirs.length q2))
     have HAB:=Lh ha;have HAB':=Lh ha';clear hx hx' hdr hdr' hcell hcell' hy hd1 hd2 t1 t2 ha ha';generalize y.name=fn at *;generalize y.dirs.length=le at *;go_wp2_with fail
     refine za6 (fun W=>Below w.heap.size w W/\Bk W w.heap.size #[.int .i64 kz,.string nz,.slice I1 li i1,.slice D1 ld d1,.slice F1 lf f1,.slice (some a) lm m1,.slice P1 lp p1] 39 /\ Bk W (w.heap.size+1) #[.int .i64 kz,.string nz,.slice I2 li i2,.slice D2 ld d2,.slice F2 lf f2,.slice (some a') lm m2,.slice P2 lp p2] 39) hq2.out (by kernel_rfl) ?_
     intro W ⟨hW,hW1,hW2⟩ _;have p0:∀ x:Past W,x.w.cell? (a.add (j2*2))=some (.string fn):=fun x=>(pastc hW x hW.size (by rw [za0]; exact HAB.out)).trans G0.out
     have p1:∀ x:Past W,x.w.cell? (a'.add (j2*2))=some (.string fn):=fun x=>(pastc hW x hW.size (by rw [za0]; exact HAB'.out)).trans G'0.out
     have p2:∀ x:Past W,x.w.cell? ⟨(a.add (j2*2)).block,(a.add (j2*2)).off+1,none⟩=some (.slice E1 le q1):=fun x=>(pastc hW x hW.size (p:=⟨(a.add (j2*2)).block,(a.add (j2*2)).off+1,none⟩) (by rw [za0]; exact HAB.out)).trans G1.out
     have p3:∀ x:Past W,x.w.cell? ⟨(a'.add (j2*2)).block,(a'.add (j2*2)).off+1,none⟩=some (.slice E2 le q2):=fun x=>(pastc hW x hW.size (p:=⟨(a'.add (j2*2)).block,(a'.add (j2*2)).off+1,none⟩) (by rw [za0]; exact HAB'.out)).trans G'1.out
     have p4:∀ x:Past W,x.w.cell? ⟨w.heap.size,5,none⟩=some (.slice (some a) lm m1):=fun x=>(x.b.cell (p:=⟨w.heap.size,5,none⟩) hW1.lt).trans (hW1.cell 5 _ rfl);have p5:∀ x:Past W,x.w.cell? ⟨w.heap.size+1,5,none⟩=some (.slice (some a') lm m2):=fun x=>(x.b.cell (p:=⟨w.heap.size+1,5,none⟩) hW2.lt).trans (hW2.cell 5 _ rfl);have kE:∀ x:Past W,Calls Tryz.prog 57 #[.slice E1 le q1,.slice E2 le q2] x.w fun e w''=>e=.returned (.bool true)/\∃ y:Past W,w''=y.w:=fun x=>zc5 x (HE.out _ (hW.trans (x.b.mono hW.size)));have CE:=Lh kE;have HWW:=Lh hW;have HWX1:=Lh hW1;have HWX2:=Lh hW2;clear hW hW1 hW2 hq2 kE x5 y5
     repeat (go_big_quiet_step (with_reducible exact CE.out _))
     refine wpQuiet_nil ?_
     intro _ hw';obtain ⟨y,rfl⟩:=hw';go_wp2_with fail
     go_roundw
     case rel=>exact ⟨j2+1,by omega,by go_num,Lh ⟨HWW.out.trans (y.b.mono HWW.out.size),HWX1.out.stay y.b,HWX2.out.stay y.b⟩⟩
     case measure=>simp [intOf]; omega
    ·have hlt2':¬ (j2:Int)<lm:=by omega
     go_wp2_with fail
     go_ret
     exact ⟨rfl,hq2.out.1⟩
end Go.Proofs.YtfgelheiknmjgaaGreatDoor
