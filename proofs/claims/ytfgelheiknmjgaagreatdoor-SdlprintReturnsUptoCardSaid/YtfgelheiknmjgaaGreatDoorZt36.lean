
/-
 Texts joined: Sd4.
-/
import Derived.Test.YtfgelheiknmjgaaGreatDoorZt35
set_option maxRecDepth 1000000
set_option maxHeartbeats 8000000
namespace Go.Proofs.YtfgelheiknmjgaaGreatDoor
open Go.RowKit
theorem zK8 (X Y:DefT) (f g:Nat->Value) (w:World) (hX:DefR w w.heap.size f X) (hY:DefR w w.heap.size g Y) (hI:∀ i∈X.inputs,i.tw.length<=17592186044416) (hF:∀ i∈X.fields,i.tw.length<=17592186044416/\∀ j∈i.args,j.tw.length<=17592186044416):Calls Tryz.prog 35 #[.agg #[f 0,f 1,f 2,f 3,f 4,f 5,f 6],.agg #[g 0,g 1,g 2,g 3,g 4,g 5,g 6]] w (BP (sDef X Y) w):=by
 obtain ⟨Xi0,Xs1,XA2,Xl2,Xc2,XA3,Xl3,Xc3,XA4,Xl4,Xc4,XA5,Xl5,Xc5,XA6,Xl6,Xc6,eX0,eX1,eX2,eX3,eX4,eX5,eX6⟩:=DefR.form3 hX;obtain ⟨Yi0,Ys1,YA2,Yl2,Yc2,YA3,Yl3,Yc3,YA4,Yl4,Yc4,YA5,Yl5,Yc5,YA6,Yl6,Yc6,eY0,eY1,eY2,eY3,eY4,eY5,eY6⟩:=DefR.form3 hY;obtain ⟨b0,e0⟩ : ∃ b:Bool,b=(decide (X.kind=Y.kind)):=⟨_,rfl⟩;obtain ⟨b1,e1⟩ : ∃ b:Bool,b=(decide (X.name=Y.name)):=⟨_,rfl⟩;obtain ⟨b2,e2⟩ : ∃ b:Bool,b=(decide (X.impl=Y.impl)):=⟨_,rfl⟩;obtain ⟨b3,e3⟩ : ∃ b:Bool,b=(allS sDir X.dirs Y.dirs):=⟨_,rfl⟩;obtain ⟨b4,e4⟩ : ∃ b:Bool,b=(decide (X.fields.length=Y.fields.length)):=⟨_,rfl⟩;obtain ⟨b5,e5⟩ : ∃ b:Bool,b=(decide (X.members.length=Y.members.length)):=⟨_,rfl⟩;have hXn0:X.kind=Xi0:=by have h:=(eX0.symm.trans hX.kind).symm; simpa using h
 have hYn0:Y.kind=Yi0:=by have h:=(eY0.symm.trans hY.kind).symm; simpa using h
 have hXn1:X.name=Xs1:=by have h:=(eX1.symm.trans hX.name).symm; simpa using h
 have hYn1:Y.name=Ys1:=by have h:=(eY1.symm.trans hY.name).symm; simpa using h
 obtain ⟨Aq,cq,pq,_,gb4,VX4,gA4,gR4⟩:=hX.fields;have pq2:=eX4.symm.trans pq;injection pq2 with i1 hXn4 i3;subst i1;subst i3;clear pq;rw [<- hXn4] at gb4 gA4;obtain ⟨Aq,cq,pq,_,gb'4,VY4,gA'4,gR'4⟩:=hY.fields;have pq2:=eY4.symm.trans pq;injection pq2 with i1 hYn4 i3;subst i1;subst i3;clear pq;rw [<- hYn4] at gb'4 gA'4;obtain ⟨Aq,cq,pq,_,gb5,VX5,gA5,gR5⟩:=hX.members;have pq2:=eX5.symm.trans pq;injection pq2 with i1 hXn5 i3;subst i1;subst i3;clear pq;rw [<- hXn5] at gb5 gA5;obtain ⟨Aq,cq,pq,_,gb'5,VY5,gA'5,gR'5⟩:=hY.members;have pq2:=eY5.symm.trans pq;injection pq2 with i1 hYn5 i3;subst i1;subst i3;clear pq;rw [<- hYn5] at gb'5 gA'5;rw [hXn0,hYn0] at e0;rw [hXn1,hYn1] at e1;rw [<- hXn4, <- hYn4] at e4;rw [<- hXn5, <- hYn5] at e5;obtain ⟨bF,eF⟩ : ∃ b:Bool,b=allS sFld X.fields Y.fields:=⟨_,rfl⟩;obtain ⟨bM,eM⟩ : ∃ b:Bool,b=allS sMem X.members Y.members:=⟨_,rfl⟩;obtain ⟨bI,eI⟩ : ∃ b:Bool,b=allS sInp X.inputs Y.inputs:=⟨_,rfl⟩;have HS:Hid (sDef X Y=(b0&&(b1&&(b2&&(b3&&(bF&&(bM&&bI))))))):=Lh (by rw [e0,e1,e2,e3,eF,eM,eI, <- hXn0, <- hYn0, <- hXn1, <- hYn1]; rfl);generalize sDef X Y=S at HS ⊢;have HEF:=Lh eF;have HEM:=Lh eM;have C2:Hid (∀ W:World,Below w.heap.size w W->Calls Tryz.prog 70 #[.slice XA2 Xl2 Xc2,.slice YA2 Yl2 Yc2] W (BP b2 W)):=Lh fun W hW=>by
  rw [<- eX2, <- eY2,e2];exact zZ1 X.impl Y.impl _ _ W ((hX.impl.kept hW).mono hW.size) ((hY.impl.kept hW).mono hW.size)
 have C3:Hid (∀ W:World,Below w.heap.size w W->Calls Tryz.prog 71 #[.slice XA3 Xl3 Xc3,.slice YA3 Yl3 Yc3] W (BP b3 W)):=Lh fun W hW=>by
  rw [<- eX3, <- eY3,e3];exact zk2 X.dirs Y.dirs _ _ W ((hX.dirs.kept hW).mono hW.size) ((hY.dirs.kept hW).mono hW.size)
 have CI:Hid (∀ W:World,Below w.heap.size w W->Calls Tryz.prog 72 #[.slice XA6 Xl6 Xc6,.slice YA6 Yl6 Yc6] W (BP bI W)):=Lh fun W hW=>by
  rw [<- eX6, <- eY6,eI];exact zt9 X.inputs Y.inputs _ _ W ((hX.inputs.kept hW).mono hW.size) ((hY.inputs.kept hW).mono hW.size) hI
 have HFW:=Lh hF;have hq4:(Xl4:Int)<=140737488351232:=by unfold big at gb4; omega
 have hr4:(Yl4:Int)<=140737488351232:=by unfold big at gb'4; omega
 have HLL4:=Lh hXn4;have HMM4:=Lh hYn4;have HA4:=Lh gA4;have HA'4:=Lh gA'4;have HRR4:=Lh gR4;have HRR'4:=Lh gR'4;have hq5:(Xl5:Int)<=140737488351232:=by unfold big at gb5; omega
 have hr5:(Yl5:Int)<=140737488351232:=by unfold big at gb'5; omega
 have HLL5:=Lh hXn5;have HMM5:=Lh hYn5;have HA5:=Lh gA5;have HA'5:=Lh gA'5;have HRR5:=Lh gR5;have HRR'5:=Lh gR'5;have h0:(Xi0==Yi0)=b0:=by rw [e0]; rfl
 have k0:=e0.symm;have h1:(Xs1.toList==Ys1.toList)=b1:=by (rw [e1,K.zt6]) <;> exact decide_eq_decide.2 Iff.rfl
 have k1:=e1.symm;have h4:((Xl4:Int)==(Yl4:Int))=b4:=by rw [e4]; rw [Bool.eq_iff_iff]; simp; omega
 have k4:((Xl4:Int) != (Yl4:Int))=!b4:=by rw [<- h4]; rfl
 have h5:((Xl5:Int)==(Yl5:Int))=b5:=by rw [e5]; rw [Bool.eq_iff_iff]; simp; omega
 have k5:((Xl5:Int) != (Yl5:Int))=!b5:=by rw [<- h5]; rfl
 have B0:Below w.heap.size w ((w.alloc (.cells #[.int .i64 Xi0,.string Xs1,.slice XA2 Xl2 Xc2,.slice XA3 Xl3 Xc3,.slice XA4 Xl4 Xc4,.slice XA5 Xl5 Xc5,.slice XA6 Xl6 Xc6] 39 (0,0))).alloc (.cells #[.int .i64 Yi0,.string Ys1,.slice YA2 Yl2 Yc2,.slice YA3 Yl3 Yc3,.slice YA4 Yl4 Yc4,.slice YA5 Yl5 Yc5,.slice YA6 Yl6 Yc6] 39 (0,0))):=(za0 w _).alloc (by simp) _;have XA0:Bk ((w.alloc (.cells #[.int .i64 Xi0,.string Xs1,.slice XA2 Xl2 Xc2,.slice XA3 Xl3 Xc3,.slice XA4 Xl4 Xc4,.slice XA5 Xl5 Xc5,.slice XA6 Xl6 Xc6] 39 (0,0))).alloc (.cells #[.int .i64 Yi0,.string Ys1,.slice YA2 Yl2 Yc2,.slice YA3 Yl3 Yc3,.slice YA4 Yl4 Yc4,.slice YA5 Yl5 Yc5,.slice YA6 Yl6 Yc6] 39 (0,0))) w.heap.size #[.int .i64 Xi0,.string Xs1,.slice XA2 Xl2 Xc2,.slice XA3 Xl3 Xc3,.slice XA4 Xl4 Xc4,.slice XA5 Xl5 Xc5,.slice XA6 Xl6 Xc6] 39 := (Bk.new w _ _).stay (za0 _ _);have XB0:Bk ((w.alloc (.cells #[.int .i64 Xi0,.string Xs1,.slice XA2 Xl2 Xc2,.slice XA3 Xl3 Xc3,.slice XA4 Xl4 Xc4,.slice XA5 Xl5 Xc5,.slice XA6 Xl6 Xc6] 39 (0,0))).alloc (.cells #[.int .i64 Yi0,.string Ys1,.slice YA2 Yl2 Yc2,.slice YA3 Yl3 Yc3,.slice YA4 Yl4 Yc4,.slice YA5 Yl5 Yc5,.slice YA6 Yl6 Yc6] 39 (0,0))) (w.heap.size+1) #[.int .i64 Yi0,.string Ys1,.slice YA2 Yl2 Yc2,.slice YA3 Yl3 Yc3,.slice YA4 Yl4 Yc4,.slice YA5 Yl5 Yc5,.slice YA6 Yl6 Yc6] 39 := by
  have h:=Bk.new (w.alloc (.cells #[.int .i64 Xi0,.string Xs1,.slice XA2 Xl2 Xc2,.slice XA3 Xl3 Xc3,.slice XA4 Xl4 Xc4,.slice XA5 Xl5 Xc5,.slice XA6 Xl6 Xc6] 39 (0,0))) #[.int .i64 Yi0,.string Ys1,.slice YA2 Yl2 Yc2,.slice YA3 Yl3 Yc3,.slice YA4 Yl4 Yc4,.slice YA5 Yl5 Yc5,.slice YA6 Yl6 Yc6] 39
  rwa [show (w.alloc (.cells #[.int .i64 Xi0,.string Xs1,.slice XA2 Xl2 Xc2,.slice XA3 Xl3 Xc3,.slice XA4 Xl4 Xc4,.slice XA5 Xl5 Xc5,.slice XA6 Xl6 Xc6] 39 (0,0))).heap.size=w.heap.size+1 by simp] at h
 rw [eX0,eY0,eX1,eY1,eX2,eY2,eX3,eY3,eX4,eY4,eX5,eY5,eX6,eY6];have HB:=Lh B0;have XD:=Lh XA0;have XE:=Lh XB0;clear B0 XA0 XB0 hX hY hI hF eF eM eI e0 e1 e2 e3 e4 e5 eX0 eY0 eX1 eY1 eX2 eY2 eX3 eY3 eX4 eY4 eX5 eY5 eX6 eY6 hXn0 hYn0 hXn1 hYn1 hXn4 hYn4 hXn5 hYn5 gb4 gb'4 gb5 gb'5 gA4 gA'4 gA5 gA'5 gR4 gR'4 gR5 gR'5;have y0:=XD.out.cell 0 _ rfl;have z0:=XE.out.cell 0 _ rfl;have y1:=XD.out.cell 1 _ rfl;have z1:=XE.out.cell 1 _ rfl;have y2:=XD.out.cell 2 _ rfl;have z2:=XE.out.cell 2 _ rfl;have y3:=XD.out.cell 3 _ rfl;have z3:=XE.out.cell 3 _ rfl;have y4:=XD.out.cell 4 _ rfl;have z4:=XE.out.cell 4 _ rfl;have y5:=XD.out.cell 5 _ rfl;have z5:=XE.out.cell 5 _ rfl;have y6:=XD.out.cell 6 _ rfl;have z6:=XE.out.cell 6 _ rfl
 go_enter Tryz.func35, Tryz.ntmps35
 cases b0 with
 | false =>
   have k9:(Xi0 != Yi0)=true:=by simpa using k0
   clear h0 k0;go_wp2_with fail;go_ret
   exact ⟨by rw [HS.out]; rfl,HB.out⟩
 | true =>
 have hii:Xi0=Yi0:=by simpa using k0
 subst hii;clear h0 k0
 cases b1 with
 | false =>
   go_wp2_with fail
   go_ret
   exact ⟨by rw [HS.out]; rfl,HB.out⟩
 | true =>
 go_wp2_with fail
 refine (C2.out _ HB.out).mono ?_
 rintro e w2x ⟨rfl,hb⟩;have HB2x:=Lh (HB.out.trans (hb.mono HB.out.size));replace XD:=Lh (XD.out.stay hb);replace XE:=Lh (XE.out.stay hb);clear hb C2 y0 z0 y1 z1 y2 z2 y3 z3 y4 z4 y5 z5 y6 z6;have y0:=XD.out.cell 0 _ rfl;have z0:=XE.out.cell 0 _ rfl;have y1:=XD.out.cell 1 _ rfl;have z1:=XE.out.cell 1 _ rfl;have y2:=XD.out.cell 2 _ rfl;have z2:=XE.out.cell 2 _ rfl;have y3:=XD.out.cell 3 _ rfl;have z3:=XE.out.cell 3 _ rfl;have y4:=XD.out.cell 4 _ rfl;have z4:=XE.out.cell 4 _ rfl;have y5:=XD.out.cell 5 _ rfl;have z5:=XE.out.cell 5 _ rfl;have y6:=XD.out.cell 6 _ rfl;have z6:=XE.out.cell 6 _ rfl
 cases b2 with
 | false =>
   go_wp2_with fail
   go_ret
   exact ⟨by rw [HS.out]; rfl,HB2x.out⟩
 | true =>
 go_wp2_with fail
 refine (C3.out _ HB2x.out).mono ?_
 rintro e w3x ⟨rfl,hb⟩;have HB3x:=Lh (HB2x.out.trans (hb.mono HB2x.out.size));replace XD:=Lh (XD.out.stay hb);replace XE:=Lh (XE.out.stay hb);clear hb C3 y0 z0 y1 z1 y2 z2 y3 z3 y4 z4 y5 z5 y6 z6;have y0:=XD.out.cell 0 _ rfl;have z0:=XE.out.cell 0 _ rfl;have y1:=XD.out.cell 1 _ rfl;have z1:=XE.out.cell 1 _ rfl;have y2:=XD.out.cell 2 _ rfl;have z2:=XE.out.cell 2 _ rfl;have y3:=XD.out.cell 3 _ rfl;have z3:=XE.out.cell 3 _ rfl;have y4:=XD.out.cell 4 _ rfl;have z4:=XE.out.cell 4 _ rfl;have y5:=XD.out.cell 5 _ rfl;have z5:=XE.out.cell 5 _ rfl;have y6:=XD.out.cell 6 _ rfl;have z6:=XE.out.cell 6 _ rfl
 cases b3 with
 | false =>
   go_wp2_with fail
   go_ret
   exact ⟨by rw [HS.out]; rfl,HB3x.out⟩
 | true =>
 cases b4 with
 | false =>
   have hRF:bF=false:=by rw [HEF.out]; exact zm4 (by rw [<- HLL4.out, <- HMM4.out]; intro h; rw [h] at h4; simp at h4)
   subst hRF;have k9:((Xl4:Int) != (Yl4:Int))=true:=k4;clear h4 k4;go_wp2_with fail;go_ret
   exact ⟨by rw [HS.out]; rfl,HB3x.out⟩
 | true =>
 cases b5 with
 | false =>
   have hRF:bM=false:=by rw [HEM.out]; exact zm4 (by rw [<- HLL5.out, <- HMM5.out]; intro h; rw [h] at h5; simp at h5)
   subst hRF;have k9:((Xl5:Int) != (Yl5:Int))=true:=k5;clear h5 k5;go_wp2_with fail;go_ret
   exact ⟨by rw [HS.out]; simp,HB3x.out⟩
 | true =>
 have hle4:Xl4=Yl4:=by have:=h4; simp at this; omega
 subst hle4;have hle5:Xl5=Yl5:=by have:=h5; simp at this; omega
 subst hle5;clear h4 h5 k4 k5;go_wp2_with fail
 go_loopw [5] (fun i wr=>∃ j:Nat,j<=Xl4/\i=.int .i64 j/\Hid (allS sFld (X.fields.drop j) (Y.fields.drop j)=bF/\Below w.heap.size w wr/\Bk wr w.heap.size #[.int .i64 Xi0,.string Xs1,.slice XA2 Xl2 Xc2,.slice XA3 Xl3 Xc3,.slice XA4 Xl4 Xc4,.slice XA5 Xl5 Xc5,.slice XA6 Xl6 Xc6] 39 /\ Bk wr (w.heap.size+1) #[.int .i64 Xi0,.string Ys1,.slice YA2 Yl2 Yc2,.slice YA3 Yl3 Yc3,.slice YA4 Xl4 Yc4,.slice YA5 Xl5 Yc5,.slice YA6 Yl6 Yc6] 39)) (fun i _=>Xl4-(intOf i).toNat)
 case atStart=>exact ⟨0,Nat.zero_le _,rfl,Lh ⟨by rw [List.drop_zero,List.drop_zero,HEF.out],HB3x.out,XD.out,XE.out⟩⟩
 case round =>
  obtain ⟨j,hj,rfl,hq⟩:=hrel;have y4:=hq.out.2.2.1.cell 4 _ rfl;have z4:=hq.out.2.2.2.cell 4 _ rfl;by_cases hlt:j<Xl4
  ·have hlt':(j:Int)<Xl4:=by omega
   obtain ⟨x,hx⟩ : ∃ x,X.fields[j]?=some x:=⟨_,List.getElem?_eq_getElem (by have:=HLL4.out; omega)⟩;obtain ⟨y,hy⟩ : ∃ y,Y.fields[j]?=some y:=⟨_,List.getElem?_eq_getElem (by have:=HMM4.out; omega)⟩;obtain ⟨a,rfl,ha,hax⟩:=HA4.out (by omega);obtain ⟨a',rfl,ha',hax'⟩:=HA'4.out (by omega);have hxr:=HRR4.out j x hx;have hyr:=HRR'4.out j y hy;have hst:=zt3 (f:=sFld) hx hy;have HXM:=Lh (List.mem_of_getElem? hx);have HYM:=Lh (List.mem_of_getElem? hy);have hcell:=hax j hlt;have hcell':=hax' j hlt;clear hx hy hax hax';obtain ⟨hl2,hl3⟩:=HFW.out x HXM.out;have hl1:=hq.out.2.2.1.lt;have hl9:=hq.out.2.2.2.lt;have ne1:w.heap.size≠wr.heap.size:=by omega
   have ne2:w.heap.size+1≠wr.heap.size:=by omega
   have ne3:w.heap.size≠wr.heap.size+1:=by omega
   have ne4:w.heap.size+1≠wr.heap.size+1:=by omega
   obtain ⟨xs0,xA1,xl1,xc1,xs2,xA3,xl3,xc3,xA4,xl4,xc4,ex0,ex1,ex2,ex3,ex4⟩:=FldR.form3 hxr;obtain ⟨ys0,yA1,yl1,yc1,ys2,yA3,yl3,yc3,yA4,yl4,yc4,ey0,ey1,ey2,ey3,ey4⟩:=FldR.form3 hyr;obtain ⟨b0,e0⟩ : ∃ b:Bool,b=(decide (x.name=y.name)):=⟨_,rfl⟩;obtain ⟨b1,e1⟩ : ∃ b:Bool,b=(decide (x.tn=y.tn/\x.tw=y.tw)):=⟨_,rfl⟩;obtain ⟨b2,e2⟩ : ∃ b:Bool,b=(allS sDir x.dirs y.dirs):=⟨_,rfl⟩;obtain ⟨b3,e3⟩ : ∃ b:Bool,b=(allS sInp x.args y.args):=⟨_,rfl⟩;have hxn0:x.name=xs0:=by have h:=(ex0.symm.trans hxr.name).symm; simpa using h
   have hyn0:y.name=ys0:=by have h:=(ey0.symm.trans hyr.name).symm; simpa using h
   rw [hxn0,hyn0] at e0;have C1:Hid (∀ W:World,Below w.heap.size w W->Calls Tryz.prog 59 #[.agg #[.string xs2,.slice xA3 xl3 xc3],.agg #[.string ys2,.slice yA3 yl3 yc3]] W (BP b1 W)):=Lh fun W hW=>by
    rw [<- ex2, <- ey2, <- ex3, <- ey3,e1];exact K.zE0 x.tn y.tn x.tw y.tw _ _ W (((zz9 hxr.type).kept hW).mono hW.size) (((zz9 hyr.type).kept hW).mono hW.size) hl2
   have C2:Hid (∀ W:World,Below w.heap.size w W->Calls Tryz.prog 71 #[.slice xA4 xl4 xc4,.slice yA4 yl4 yc4] W (BP b2 W)):=Lh fun W hW=>by
    rw [<- ex4, <- ey4,e2];exact zk2 x.dirs y.dirs _ _ W ((hxr.dirs.kept hW).mono hW.size) ((hyr.dirs.kept hW).mono hW.size)
   have C3:Hid (∀ W:World,Below w.heap.size w W->Calls Tryz.prog 72 #[.slice xA1 xl1 xc1,.slice yA1 yl1 yc1] W (BP b3 W)):=Lh fun W hW=>by
    rw [<- ex1, <- ey1,e3];exact zt9 x.args y.args _ _ W ((hxr.args.kept hW).mono hW.size) ((hyr.args.kept hW).mono hW.size) hl3
   have HS2:sFld x y=(b0&&(b1&&(b2&&b3))):=by rw [e0,e1,e2,e3, <- hxn0, <- hyn0]; unfold sFld; (rw [Bool.and_comm (allS sInp x.args y.args)]) <;> rfl
   rw [HS2] at hst;have HST:=Lh hst;have h0:(xs0.toList==ys0.toList)=b0:=by (rw [e0,K.zt6]) <;> exact decide_eq_decide.2 Iff.rfl
   have k0:=e0.symm;have G0:wr.cell? (a.add (j*5))=some (.string xs0):=qcAb hq.out.2.1 ((hcell 0 (by omega)).trans (by rw [ex0]));have G'0:wr.cell? (a'.add (j*5))=some (.string ys0):=qcAb hq.out.2.1 ((hcell' 0 (by omega)).trans (by rw [ey0]));have G1:wr.cell? ⟨(a.add (j*5)).block,(a.add (j*5)).off+1,none⟩=some (.slice xA1 xl1 xc1):=qcAb hq.out.2.1 ((hcell 1 (by omega)).trans (by rw [ex1]));have G'1:wr.cell? ⟨(a'.add (j*5)).block,(a'.add (j*5)).off+1,none⟩=some (.slice yA1 yl1 yc1):=qcAb hq.out.2.1 ((hcell' 1 (by omega)).trans (by rw [ey1]));have G2:wr.cell? ⟨(a.add (j*5)).block,(a.add (j*5)).off+2,none⟩=some (.string xs2):=qcAb hq.out.2.1 ((hcell 2 (by omega)).trans (by rw [ex2]));have G'2:wr.cell? ⟨(a'.add (j*5)).block,(a'.add (j*5)).off+2,none⟩=some (.string ys2):=qcAb hq.out.2.1 ((hcell' 2 (by omega)).trans (by rw [ey2]));have G3:wr.cell? ⟨(a.add (j*5)).block,(a.add (j*5)).off+3,none⟩=some (.slice xA3 xl3 xc3):=qcAb hq.out.2.1 ((hcell 3 (by omega)).trans (by rw [ex3]));have G'3:wr.cell? ⟨(a'.add (j*5)).block,(a'.add (j*5)).off+3,none⟩=some (.slice yA3 yl3 yc3):=qcAb hq.out.2.1 ((hcell' 3 (by omega)).trans (by rw [ey3]));have G4:wr.cell? ⟨(a.add (j*5)).block,(a.add (j*5)).off+4,none⟩=some (.slice xA4 xl4 xc4):=qcAb hq.out.2.1 ((hcell 4 (by omega)).trans (by rw [ex4]));have G'4:wr.cell? ⟨(a'.add (j*5)).block,(a'.add (j*5)).off+4,none⟩=some (.slice yA4 yl4 yc4):=qcAb hq.out.2.1 ((hcell' 4 (by omega)).trans (by rw [ey4]));clear hxr hyr hcell hcell' hst HS2 e0 e1 e2 e3 hxn0 hyn0 ex0 ey0 ex1 ey1 ex2 ey2 ex3 ey3 ex4 ey4 HXM HYM hl2 hl3;have z1G0:=qcA1 G0;have z2G0:=qcA2 G0;have z1G'0:=qcA1 G'0;have z2G'0:=qcA2 G'0;have z1G1:=qcA1 G1;have z2G1:=qcA2 G1;have z1G'1:=qcA1 G'1;have z2G'1:=qcA2 G'1;have z1G2:=qcA1 G2;have z2G2:=qcA2 G2;have z1G'2:=qcA1 G'2;have z2G'2:=qcA2 G'2;have z1G3:=qcA1 G3;have z2G3:=qcA2 G3;have z1G'3:=qcA1 G'3;have z2G'3:=qcA2 G'3;have z1G4:=qcA1 G4;have z2G4:=qcA2 G4;have z1G'4:=qcA1 G'4;have z2G'4:=qcA2 G'4;go_wp2_with fail
   go_region
   all_goals clear z1G0 z2G0 G0 z1G'0 z2G'0 G'0 z1G1 z2G1 G1 z1G'1 z2G'1 G'1 z1G2 z2G2 G2 z1G'2 z2G'2 G'2 z1G3 z2G3 G3 z1G'3 z2G'3 G'3 z1G4 z2G4 G4 z1G'4 z2G'4 G'4 y4 z4 hl1 hl9 ne1 ne2 ne3 ne4
   ·have hW8:Bk ((wr.alloc (.cells #[.string xs0,.slice xA1 xl1 xc1,.string xs2,.slice xA3 xl3 xc3,.slice xA4 xl4 xc4] 46 (0,0))).alloc (.cells #[.string ys0,.slice yA1 yl1 yc1,.string ys2,.slice yA3 yl3 yc3,.slice yA4 yl4 yc4] 46 (0,0))).drew wr.heap.size #[.string xs0,.slice xA1 xl1 xc1,.string xs2,.slice xA3 xl3 xc3,.slice xA4 xl4 xc4] 46 /\ Bk ((wr.alloc (.cells #[.string xs0,.slice xA1 xl1 xc1,.string xs2,.slice xA3 xl3 xc3,.slice xA4 xl4 xc4] 46 (0,0))).alloc (.cells #[.string ys0,.slice yA1 yl1 yc1,.string ys2,.slice yA3 yl3 yc3,.slice yA4 yl4 yc4] 46 (0,0))).drew (wr.heap.size+1) #[.string ys0,.slice yA1 yl1 yc1,.string ys2,.slice yA3 yl3 yc3,.slice yA4 yl4 yc4] 46 /\ Below wr.heap.size wr ((wr.alloc (.cells #[.string xs0,.slice xA1 xl1 xc1,.string xs2,.slice xA3 xl3 xc3,.slice xA4 xl4 xc4] 46 (0,0))).alloc (.cells #[.string ys0,.slice yA1 yl1 yc1,.string ys2,.slice yA3 yl3 yc3,.slice yA4 yl4 yc4] 46 (0,0))).drew:=by
     have c1:=za0 wr (.cells #[.string xs0,.slice xA1 xl1 xc1,.string xs2,.slice xA3 xl3 xc3,.slice xA4 xl4 xc4] 46 (0,0));have e1:=Bk.new wr #[.string xs0,.slice xA1 xl1 xc1,.string xs2,.slice xA3 xl3 xc3,.slice xA4 xl4 xc4] 46;have c2:=za0 (wr.alloc (.cells #[.string xs0,.slice xA1 xl1 xc1,.string xs2,.slice xA3 xl3 xc3,.slice xA4 xl4 xc4] 46 (0,0))) (.cells #[.string ys0,.slice yA1 yl1 yc1,.string ys2,.slice yA3 yl3 yc3,.slice yA4 yl4 yc4] 46 (0,0));have e2:=Bk.new (wr.alloc (.cells #[.string xs0,.slice xA1 xl1 xc1,.string xs2,.slice xA3 xl3 xc3,.slice xA4 xl4 xc4] 46 (0,0))) #[.string ys0,.slice yA1 yl1 yc1,.string ys2,.slice yA3 yl3 yc3,.slice yA4 yl4 yc4] 46;rw [World.size_alloc] at e2;exact ⟨e1.stay c2.drew,e2.stay ((Below.refl _ _).drew),(c1.trans (c2.mono c1.size)).drew⟩
    obtain ⟨hU1,hU2,hbw⟩:=hW8;have XA:=Lh hU1;have XB:=Lh hU2;have HB8:=Lh (hq.out.2.1.trans (hbw.mono hq.out.2.1.size));have XD2:=Lh (hq.out.2.2.1.stay hbw);have XE2:=Lh (hq.out.2.2.2.stay hbw);have y0:=XA.out.cell 0 _ rfl;have z0:=XB.out.cell 0 _ rfl;have y1:=XA.out.cell 1 _ rfl;have z1:=XB.out.cell 1 _ rfl;have y2:=XA.out.cell 2 _ rfl;have z2:=XB.out.cell 2 _ rfl;have y3:=XA.out.cell 3 _ rfl;have z3:=XB.out.cell 3 _ rfl;have y4:=XA.out.cell 4 _ rfl;have z4:=XB.out.cell 4 _ rfl;clear hU1 hU2 hbw
    cases b0 with
    | false =>
      have hRF:bF=false:=by have:=HST.out; rw [hq.out.1] at this; rw [this]; rfl
      subst hRF;go_wp2_with fail;go_ret
      exact ⟨by rw [HS.out]; rfl,HB8.out⟩
    | true =>
    go_wp2_with fail
    refine (C1.out _ HB8.out).mono ?_
    rintro e w1x ⟨rfl,hb⟩;have HB1x:=Lh (HB8.out.trans (hb.mono HB8.out.size));replace XA:=Lh (XA.out.stay hb);replace XB:=Lh (XB.out.stay hb);replace XD2:=Lh (XD2.out.stay hb);replace XE2:=Lh (XE2.out.stay hb);clear hb C1 y0 z0 y1 z1 y2 z2 y3 z3 y4 z4;have y0:=XA.out.cell 0 _ rfl;have z0:=XB.out.cell 0 _ rfl;have y1:=XA.out.cell 1 _ rfl;have z1:=XB.out.cell 1 _ rfl;have y2:=XA.out.cell 2 _ rfl;have z2:=XB.out.cell 2 _ rfl;have y3:=XA.out.cell 3 _ rfl;have z3:=XB.out.cell 3 _ rfl;have y4:=XA.out.cell 4 _ rfl;have z4:=XB.out.cell 4 _ rfl
    cases b1 with
    | false =>
      have hRF:bF=false:=by have:=HST.out; rw [hq.out.1] at this; rw [this]; rfl
      subst hRF;go_wp2_with fail;go_ret
      exact ⟨by rw [HS.out]; rfl,HB1x.out⟩
    | true =>
    go_wp2_with fail
    refine (C2.out _ HB1x.out).mono ?_
    rintro e w2x ⟨rfl,hb⟩;have HB2x:=Lh (HB1x.out.trans (hb.mono HB1x.out.size));replace XA:=Lh (XA.out.stay hb);replace XB:=Lh (XB.out.stay hb);replace XD2:=Lh (XD2.out.stay hb);replace XE2:=Lh (XE2.out.stay hb);clear hb C2 y0 z0 y1 z1 y2 z2 y3 z3 y4 z4;have y0:=XA.out.cell 0 _ rfl;have z0:=XB.out.cell 0 _ rfl;have y1:=XA.out.cell 1 _ rfl;have z1:=XB.out.cell 1 _ rfl;have y2:=XA.out.cell 2 _ rfl;have z2:=XB.out.cell 2 _ rfl;have y3:=XA.out.cell 3 _ rfl;have z3:=XB.out.cell 3 _ rfl;have y4:=XA.out.cell 4 _ rfl;have z4:=XB.out.cell 4 _ rfl
    cases b2 with
    | false =>
      have hRF:bF=false:=by have:=HST.out; rw [hq.out.1] at this; rw [this]; rfl
      subst hRF;go_wp2_with fail;go_ret
      exact ⟨by rw [HS.out]; rfl,HB2x.out⟩
    | true =>
    go_wp2_with fail
    refine (C3.out _ HB2x.out).mono ?_
    rintro e w3x ⟨rfl,hb⟩;have HB3x:=Lh (HB2x.out.trans (hb.mono HB2x.out.size));replace XA:=Lh (XA.out.stay hb);replace XB:=Lh (XB.out.stay hb);replace XD2:=Lh (XD2.out.stay hb);replace XE2:=Lh (XE2.out.stay hb);clear hb C3 y0 z0 y1 z1 y2 z2 y3 z3 y4 z4;have y0:=XA.out.cell 0 _ rfl;have z0:=XB.out.cell 0 _ rfl;have y1:=XA.out.cell 1 _ rfl;have z1:=XB.out.cell 1 _ rfl;have y2:=XA.out.cell 2 _ rfl;have z2:=XB.out.cell 2 _ rfl;have y3:=XA.out.cell 3 _ rfl;have z3:=XB.out.cell 3 _ rfl;have y4:=XA.out.cell 4 _ rfl;have z4:=XB.out.cell 4 _ rfl
    cases b3 with
    | false =>
      have hRF:bF=false:=by have:=HST.out; rw [hq.out.1] at this; rw [this]; rfl
      subst hRF;go_wp2_with fail;go_ret
      exact ⟨by rw [HS.out]; rfl,HB3x.out⟩
    | true =>
    go_wp2_with fail
    go_roundw
    case rel=>exact ⟨j+1,by omega,by go_num,Lh ⟨by have:=HST.out; rw [hq.out.1] at this; rw [this]; rfl,HB3x.out,XD2.out,XE2.out⟩⟩
    case measure=>simp [intOf]; omega
   ·have hW8:Bk ((wr.alloc (.cells #[.string ys0,.slice yA1 yl1 yc1,.string ys2,.slice yA3 yl3 yc3,.slice yA4 yl4 yc4] 46 (0,0))).alloc (.cells #[.string xs0,.slice xA1 xl1 xc1,.string xs2,.slice xA3 xl3 xc3,.slice xA4 xl4 xc4] 46 (0,0))).drew (wr.heap.size+1) #[.string xs0,.slice xA1 xl1 xc1,.string xs2,.slice xA3 xl3 xc3,.slice xA4 xl4 xc4] 46 /\ Bk ((wr.alloc (.cells #[.string ys0,.slice yA1 yl1 yc1,.string ys2,.slice yA3 yl3 yc3,.slice yA4 yl4 yc4] 46 (0,0))).alloc (.cells #[.string xs0,.slice xA1 xl1 xc1,.string xs2,.slice xA3 xl3 xc3,.slice xA4 xl4 xc4] 46 (0,0))).drew wr.heap.size #[.string ys0,.slice yA1 yl1 yc1,.string ys2,.slice yA3 yl3 yc3,.slice yA4 yl4 yc4] 46 /\ Below wr.heap.size wr ((wr.alloc (.cells #[.string ys0,.slice yA1 yl1 yc1,.string ys2,.slice yA3 yl3 yc3,.slice yA4 yl4 yc4] 46 (0,0))).alloc (.cells #[.string xs0,.slice xA1 xl1 xc1,.string xs2,.slice xA3 xl3 xc3,.slice xA4 xl4 xc4] 46 (0,0))).drew:=by
     have c1:=za0 wr (.cells #[.string ys0,.slice yA1 yl1 yc1,.string ys2,.slice yA3 yl3 yc3,.slice yA4 yl4 yc4] 46 (0,0));have e1:=Bk.new wr #[.string ys0,.slice yA1 yl1 yc1,.string ys2,.slice yA3 yl3 yc3,.slice yA4 yl4 yc4] 46;have c2:=za0 (wr.alloc (.cells #[.string ys0,.slice yA1 yl1 yc1,.string ys2,.slice yA3 yl3 yc3,.slice yA4 yl4 yc4] 46 (0,0))) (.cells #[.string xs0,.slice xA1 xl1 xc1,.string xs2,.slice xA3 xl3 xc3,.slice xA4 xl4 xc4] 46 (0,0));have e2:=Bk.new (wr.alloc (.cells #[.string ys0,.slice yA1 yl1 yc1,.string ys2,.slice yA3 yl3 yc3,.slice yA4 yl4 yc4] 46 (0,0))) #[.string xs0,.slice xA1 xl1 xc1,.string xs2,.slice xA3 xl3 xc3,.slice xA4 xl4 xc4] 46;rw [World.size_alloc] at e2;exact ⟨e2.stay ((Below.refl _ _).drew),e1.stay c2.drew,(c1.trans (c2.mono c1.size)).drew⟩
    obtain ⟨hU1,hU2,hbw⟩:=hW8;have XA:=Lh hU1;have XB:=Lh hU2;have HB8:=Lh (hq.out.2.1.trans (hbw.mono hq.out.2.1.size));have XD2:=Lh (hq.out.2.2.1.stay hbw);have XE2:=Lh (hq.out.2.2.2.stay hbw);have y0:=XA.out.cell 0 _ rfl;have z0:=XB.out.cell 0 _ rfl;have y1:=XA.out.cell 1 _ rfl;have z1:=XB.out.cell 1 _ rfl;have y2:=XA.out.cell 2 _ rfl;have z2:=XB.out.cell 2 _ rfl;have y3:=XA.out.cell 3 _ rfl;have z3:=XB.out.cell 3 _ rfl;have y4:=XA.out.cell 4 _ rfl;have z4:=XB.out.cell 4 _ rfl;clear hU1 hU2 hbw
    cases b0 with
    | false =>
      have hRF:bF=false:=by have:=HST.out; rw [hq.out.1] at this; rw [this]; rfl
      subst hRF;go_wp2_with fail;go_ret
      exact ⟨by rw [HS.out]; rfl,HB8.out⟩
    | true =>
    go_wp2_with fail
    refine (C1.out _ HB8.out).mono ?_
    rintro e w1x ⟨rfl,hb⟩;have HB1x:=Lh (HB8.out.trans (hb.mono HB8.out.size));replace XA:=Lh (XA.out.stay hb);replace XB:=Lh (XB.out.stay hb);replace XD2:=Lh (XD2.out.stay hb);replace XE2:=Lh (XE2.out.stay hb);clear hb C1 y0 z0 y1 z1 y2 z2 y3 z3 y4 z4;have y0:=XA.out.cell 0 _ rfl;have z0:=XB.out.cell 0 _ rfl;have y1:=XA.out.cell 1 _ rfl;have z1:=XB.out.cell 1 _ rfl;have y2:=XA.out.cell 2 _ rfl;have z2:=XB.out.cell 2 _ rfl;have y3:=XA.out.cell 3 _ rfl;have z3:=XB.out.cell 3 _ rfl;have y4:=XA.out.cell 4 _ rfl;have z4:=XB.out.cell 4 _ rfl
    cases b1 with
    | false =>
      have hRF:bF=false:=by have:=HST.out; rw [hq.out.1] at this; rw [this]; rfl
      subst hRF;go_wp2_with fail;go_ret
      exact ⟨by rw [HS.out]; rfl,HB1x.out⟩
    | true =>
    go_wp2_with fail
    refine (C2.out _ HB1x.out).mono ?_
    rintro e w2x ⟨rfl,hb⟩;have HB2x:=Lh (HB1x.out.trans (hb.mono HB1x.out.size));replace XA:=Lh (XA.out.stay hb);replace XB:=Lh (XB.out.stay hb);replace XD2:=Lh (XD2.out.stay hb);replace XE2:=Lh (XE2.out.stay hb);clear hb C2 y0 z0 y1 z1 y2 z2 y3 z3 y4 z4;have y0:=XA.out.cell 0 _ rfl;have z0:=XB.out.cell 0 _ rfl;have y1:=XA.out.cell 1 _ rfl;have z1:=XB.out.cell 1 _ rfl;have y2:=XA.out.cell 2 _ rfl;have z2:=XB.out.cell 2 _ rfl;have y3:=XA.out.cell 3 _ rfl;have z3:=XB.out.cell 3 _ rfl;have y4:=XA.out.cell 4 _ rfl;have z4:=XB.out.cell 4 _ rfl
    cases b2 with
    | false =>
      have hRF:bF=false:=by have:=HST.out; rw [hq.out.1] at this; rw [this]; rfl
      subst hRF;go_wp2_with fail;go_ret
      exact ⟨by rw [HS.out]; rfl,HB2x.out⟩
    | true =>
    go_wp2_with fail
    refine (C3.out _ HB2x.out).mono ?_
    rintro e w3x ⟨rfl,hb⟩;have HB3x:=Lh (HB2x.out.trans (hb.mono HB2x.out.size));replace XA:=Lh (XA.out.stay hb);replace XB:=Lh (XB.out.stay hb);replace XD2:=Lh (XD2.out.stay hb);replace XE2:=Lh (XE2.out.stay hb);clear hb C3 y0 z0 y1 z1 y2 z2 y3 z3 y4 z4;have y0:=XA.out.cell 0 _ rfl;have z0:=XB.out.cell 0 _ rfl;have y1:=XA.out.cell 1 _ rfl;have z1:=XB.out.cell 1 _ rfl;have y2:=XA.out.cell 2 _ rfl;have z2:=XB.out.cell 2 _ rfl;have y3:=XA.out.cell 3 _ rfl;have z3:=XB.out.cell 3 _ rfl;have y4:=XA.out.cell 4 _ rfl;have z4:=XB.out.cell 4 _ rfl
    cases b3 with
    | false =>
      have hRF:bF=false:=by have:=HST.out; rw [hq.out.1] at this; rw [this]; rfl
      subst hRF;go_wp2_with fail;go_ret
      exact ⟨by rw [HS.out]; rfl,HB3x.out⟩
    | true =>
    go_wp2_with fail
    go_roundw
    case rel=>exact ⟨j+1,by omega,by go_num,Lh ⟨by have:=HST.out; rw [hq.out.1] at this; rw [this]; rfl,HB3x.out,XD2.out,XE2.out⟩⟩
    case measure=>simp [intOf]; omega
  ·have hlt':¬ (j:Int)<Xl4:=by omega
   have hRT:bF=true:=by rw [<- hq.out.1]; exact zn9 (by have:=HLL4.out; omega) (by have:=HMM4.out; omega)
   subst hRT;have HBF:=Lh hq.out.2;clear hq;go_wp2_with fail
   go_loopw [8] (fun i wr=>∃ j:Nat,j<=Xl5/\i=.int .i64 j/\Hid (allS sMem (X.members.drop j) (Y.members.drop j)=bM/\Below w.heap.size w wr/\Bk wr w.heap.size #[.int .i64 Xi0,.string Xs1,.slice XA2 Xl2 Xc2,.slice XA3 Xl3 Xc3,.slice XA4 Xl4 Xc4,.slice XA5 Xl5 Xc5,.slice XA6 Xl6 Xc6] 39 /\ Bk wr (w.heap.size+1) #[.int .i64 Xi0,.string Ys1,.slice YA2 Yl2 Yc2,.slice YA3 Yl3 Yc3,.slice YA4 Xl4 Yc4,.slice YA5 Xl5 Yc5,.slice YA6 Yl6 Yc6] 39)) (fun i _=>Xl5-(intOf i).toNat)
   case atStart=>exact ⟨0,Nat.zero_le _,rfl,Lh ⟨by rw [List.drop_zero,List.drop_zero,HEM.out],HBF.out.1,HBF.out.2.1,HBF.out.2.2⟩⟩
   case round =>
    obtain ⟨j,hj,rfl,hq⟩:=hrel;have y5:=hq.out.2.2.1.cell 5 _ rfl;have z5:=hq.out.2.2.2.cell 5 _ rfl;by_cases hlt:j<Xl5
    ·have hlt':(j:Int)<Xl5:=by omega
     obtain ⟨x,hx⟩ : ∃ x,X.members[j]?=some x:=⟨_,List.getElem?_eq_getElem (by have:=HLL5.out; omega)⟩;obtain ⟨y,hy⟩ : ∃ y,Y.members[j]?=some y:=⟨_,List.getElem?_eq_getElem (by have:=HMM5.out; omega)⟩;obtain ⟨a,rfl,ha,hax⟩:=HA5.out (by omega);obtain ⟨a',rfl,ha',hax'⟩:=HA'5.out (by omega);have hxr:=HRR5.out j x hx;have hyr:=HRR'5.out j y hy;have hst:=zt3 (f:=sMem) hx hy;have HXM:=Lh (List.mem_of_getElem? hx);have HYM:=Lh (List.mem_of_getElem? hy);have hcell:=hax j hlt;have hcell':=hax' j hlt;clear hx hy hax hax';obtain ⟨nx,hnx⟩ : ∃ la,la=x.name:=⟨_,rfl⟩;obtain ⟨ny,hny⟩ : ∃ la,la=y.name:=⟨_,rfl⟩;obtain ⟨d0,f0⟩ : ∃ b:Bool,b=decide (nx=ny):=⟨_,rfl⟩;obtain ⟨d1,f1⟩ : ∃ b:Bool,b=allS sDir x.dirs y.dirs:=⟨_,rfl⟩;have hs3:sMem x y=(d0&&d1):=by rw [f0,f1,hnx,hny]; rfl
     rw [hs3] at hst;have HST:=Lh hst;have G0:Hid (w.cell? (a.add (j*2))=some (.string nx)):=Lh ((hcell 0 (by omega)).trans (by rw [hxr.name,hnx]));have G1:Hid (w.cell? ⟨(a.add (j*2)).block,(a.add (j*2)).off+1,none⟩=some (VX5 j 1)):=Lh (hcell 1 (by omega));have G'0:Hid (w.cell? (a'.add (j*2))=some (.string ny)):=Lh ((hcell' 0 (by omega)).trans (by rw [hyr.name,hny]));have G'1:Hid (w.cell? ⟨(a'.add (j*2)).block,(a'.add (j*2)).off+1,none⟩=some (VY5 j 1)):=Lh (hcell' 1 (by omega));have HE:=Lh (fun (W:World) (hW:Below w.heap.size w W)=>(by
      have:=zk2 x.dirs y.dirs _ _ W ((hxr.dirs.kept hW).mono hW.size) ((hyr.dirs.kept hW).mono hW.size);rw [<- f1] at this;exact this:Calls Tryz.prog 71 #[VX5 j 1,VY5 j 1] W (BP d1 W)))
     have HBB:=Lh ha;have HBB':=Lh ha';have i0:(nx.toList==ny.toList)=d0:=by (rw [f0,K.zt6]) <;> exact decide_eq_decide.2 Iff.rfl
     have i1:=f0.symm;clear hxr hyr hcell hcell' hst hs3 f0 f1 hnx hny ha ha' HXM HYM;go_wp2_with fail;refine za7 (fun W=>Below w.heap.size w W/\Bk W w.heap.size #[.int .i64 Xi0,.string Xs1,.slice XA2 Xl2 Xc2,.slice XA3 Xl3 Xc3,.slice XA4 Xl4 Xc4,.slice (some a) Xl5 Xc5,.slice XA6 Xl6 Xc6] 39 /\ Bk W (w.heap.size+1) #[.int .i64 Xi0,.string Ys1,.slice YA2 Yl2 Yc2,.slice YA3 Yl3 Yc3,.slice YA4 Xl4 Yc4,.slice (some a') Xl5 Yc5,.slice YA6 Yl6 Yc6] 39) hq.out.2 (by kernel_rfl) ?_
     intro W ⟨hW,hWD,hWE⟩ _;have x5:∀ x:Past W,x.w.cell? ⟨w.heap.size,5,none⟩=some (.slice (some a) Xl5 Xc5):=fun x=>(hWD.stay x.b).cell 5 _ rfl;have w5:∀ x:Past W,x.w.cell? ⟨w.heap.size+1,5,none⟩=some (.slice (some a') Xl5 Yc5):=fun x=>(hWE.stay x.b).cell 5 _ rfl;have r10:=qcAp hW G0.out;have r20:=qcAp hW G'0.out;have r11:=qcAp hW G1.out;have r21:=qcAp hW G'1.out;have kE:∀ x:Past W,Calls Tryz.prog 71 #[VX5 j 1,VY5 j 1] x.w fun e w''=>e=.returned (.bool d1)/\∃ y:Past W,w''=y.w:=fun x=>zh5 x (HE.out _ (hW.trans (x.b.mono hW.size)));have CE:=Lh kE;have HWW:=Lh hW;have HWD:=Lh hWD;have HWE:=Lh hWE;clear hW kE hWD hWE y5 z5
     cases d0 with
     | false =>
       have hRF:bM=false:=by have:=HST.out; rw [hq.out.1] at this; rw [this]; rfl
       subst hRF
       repeat (go_big_quiet_step (with_reducible exact CE.out _))
       refine wpQuiet_nil ?_
       intro _ hw';obtain ⟨z,rfl⟩:=hw';have HBZ:=Lh (HWW.out.trans (z.b.mono HWW.out.size));go_wp2_with fail;go_ret
       exact ⟨by rw [HS.out]; rfl,HBZ.out⟩
     | true =>
     cases d1 with
     | false =>
       have hRF:bM=false:=by have:=HST.out; rw [hq.out.1] at this; rw [this]; rfl
       subst hRF
       repeat (go_big_quiet_step (with_reducible exact CE.out _))
       refine wpQuiet_nil ?_
       intro _ hw';obtain ⟨z,rfl⟩:=hw';have HBZ:=Lh (HWW.out.trans (z.b.mono HWW.out.size));go_wp2_with fail;go_ret
       exact ⟨by rw [HS.out]; rfl,HBZ.out⟩
     | true =>
     repeat (go_big_quiet_step (with_reducible exact CE.out _))
     refine wpQuiet_nil ?_
     intro _ hw';obtain ⟨z,rfl⟩:=hw';have HBZ:=Lh (HWW.out.trans (z.b.mono HWW.out.size));go_wp2_with fail
     go_roundw
     case rel=>exact ⟨j+1,by omega,by go_num,Lh ⟨by have:=HST.out; rw [hq.out.1] at this; rw [this]; rfl,HBZ.out,HWD.out.stay z.b,HWE.out.stay z.b⟩⟩
     case measure=>simp [intOf]; omega
    ·have hlt':¬ (j:Int)<Xl5:=by omega
     have hRT:bM=true:=by rw [<- hq.out.1]; exact zn9 (by have:=HLL5.out; omega) (by have:=HMM5.out; omega)
     subst hRT;have y6:=hq.out.2.2.1.cell 6 _ rfl;have z6:=hq.out.2.2.2.cell 6 _ rfl;go_wp2_with fail;refine (CI.out _ hq.out.2.1).mono ?_
     rintro e wz ⟨rfl,hb⟩;have HBZ:=Lh (hq.out.2.1.trans (hb.mono hq.out.2.1.size));clear hb CI y6 z6 y5 z5;go_wp2_with fail;go_ret
     exact ⟨by rw [HS.out]; rfl,HBZ.out⟩
end Go.Proofs.YtfgelheiknmjgaaGreatDoor

