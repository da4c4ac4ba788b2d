
/-
 Texts joined: Sd3.
-/
import Derived.Test.YtfgelheiknmjgaaGreatDoorZt34
set_option maxRecDepth 1000000
set_option maxHeartbeats 8000000
namespace Go.Proofs.YtfgelheiknmjgaaGreatDoor
open Go.RowKit
theorem zt9 (l m:List InpT) (v v':Value) (w:World) (h:InpsR w w.heap.size v l) (h':InpsR w w.heap.size v' m) (hl:∀ x∈l,x.tw.length<=17592186044416):Calls Tryz.prog 72 #[v,v'] w (BP (allS sInp l m) w):=by
 obtain ⟨A,c,rfl,hc,hbb,V,hA,hr⟩:=h;obtain ⟨A',c',rfl,hc',hbb',V',hA',hr'⟩:=h';obtain ⟨ll,hll⟩ : ∃ ll,ll=l.length:=⟨_,rfl⟩;obtain ⟨mm,hmm⟩ : ∃ mm,mm=m.length:=⟨_,rfl⟩;obtain ⟨R,hR⟩ : ∃ R,R=allS sInp l m:=⟨_,rfl⟩;have HLL:=Lh hll;have HMM:=Lh hmm;have HRX:=Lh hR;rw [<- hll] at hbb hA;rw [<- hmm] at hbb' hA';rw [<- hll, <- hmm, <- hR];have hlb:(ll:Int)<=140737488351232:=by unfold big at hbb; omega
 have hmb:(mm:Int)<=140737488351232:=by unfold big at hbb'; omega
 have HA:=Lh hA;have HRR:=Lh hr;have HA':=Lh hA';have HRR':=Lh hr';clear hA hr hA' hr' hll hmm hbb hbb' hc hc' hR;have HTW:=Lh hl;clear hl;by_cases hnm:ll=mm;rotate_left
 ·have hRF:R=false:=by rw [HRX.out]; exact zm4 (by rw [<- HLL.out, <- HMM.out]; exact hnm)
  have hd:((ll:Int) != (mm:Int))=true:=by simp; omega
  subst hRF
  go_enter Tryz.func72, Tryz.ntmps72
  go_wp2_with fail
  go_ret
  exact ⟨rfl,Below.refl _ _⟩
 subst hnm;clear hmb
 go_enter Tryz.func72, Tryz.ntmps72
 go_wp2_with fail
 go_loopw [5] (fun i wr=>∃ j:Nat,j<=ll/\i=.int .i64 j/\Hid (allS sInp (l.drop j) (m.drop j)=R/\Below w.heap.size w wr)) (fun i _=>ll-(intOf i).toNat)
 case atStart=>exact ⟨0,Nat.zero_le _,rfl,Lh ⟨by rw [List.drop_zero,List.drop_zero,HRX.out],Below.refl _ _⟩⟩
 case round =>
  obtain ⟨j,hj,rfl,hq⟩:=hrel;by_cases hlt:j<ll
  ·have hlt':(j:Int)<ll:=by omega
   obtain ⟨x,hx⟩ : ∃ x,l[j]?=some x:=⟨_,List.getElem?_eq_getElem (by have:=HLL.out; omega)⟩;obtain ⟨y,hy⟩ : ∃ y,m[j]?=some y:=⟨_,List.getElem?_eq_getElem (by have:=HMM.out; omega)⟩;obtain ⟨a,rfl,ha,hax⟩:=HA.out (by omega);obtain ⟨a',rfl,ha',hax'⟩:=HA'.out (by omega);have hxr:=HRR.out j x hx;have hyr:=HRR'.out j y hy;have hst:=zt3 (f:=sInp) hx hy;have HXM:=Lh (List.mem_of_getElem? hx);have HYM:=Lh (List.mem_of_getElem? hy);have hcell:=hax j hlt;have hcell':=hax' j hlt;clear hx hy hax hax';have hl2:=HTW.out x HXM.out;obtain ⟨xs0,xs1,xA2,xl2,xc2,xb3,xi4,xi5,xs6,xA7,xl7,xc7,xA8,xl8,xc8,xA9,xl9,xc9,ex0,ex1,ex2,ex3,ex4,ex5,ex6,ex7,ex8,ex9⟩:=InpR.form3 hxr;obtain ⟨ys0,ys1,yA2,yl2,yc2,yb3,yi4,yi5,ys6,yA7,yl7,yc7,yA8,yl8,yc8,yA9,yl9,yc9,ey0,ey1,ey2,ey3,ey4,ey5,ey6,ey7,ey8,ey9⟩:=InpR.form3 hyr;obtain ⟨b0,e0⟩ : ∃ b:Bool,b=(decide (x.name=y.name)):=⟨_,rfl⟩;obtain ⟨b1,e1⟩ : ∃ b:Bool,b=(decide (x.tn=y.tn/\x.tw=y.tw)):=⟨_,rfl⟩;obtain ⟨b2,e2⟩ : ∃ b:Bool,b=(decide (x.has=y.has)):=⟨_,rfl⟩;obtain ⟨b3,e3⟩ : ∃ b:Bool,b=(decide (x.dflt.cmp y.dflt=0)):=⟨_,rfl⟩;obtain ⟨b4,e4⟩ : ∃ b:Bool,b=(allS sDir x.dirs y.dirs):=⟨_,rfl⟩;have hxn0:x.name=xs0:=by have h:=(ex0.symm.trans hxr.name).symm; simpa using h
   have hyn0:y.name=ys0:=by have h:=(ey0.symm.trans hyr.name).symm; simpa using h
   have hxn3:x.has=xb3:=by have h:=(ex3.symm.trans hxr.has).symm; simpa using h
   have hyn3:y.has=yb3:=by have h:=(ey3.symm.trans hyr.has).symm; simpa using h
   rw [hxn0,hyn0] at e0;rw [hxn3,hyn3] at e2;have C1:Hid (∀ W:World,Below w.heap.size w W->Calls Tryz.prog 59 #[.agg #[.string xs1,.slice xA2 xl2 xc2],.agg #[.string ys1,.slice yA2 yl2 yc2]] W (BP b1 W)):=Lh fun W hW=>by
    rw [<- ex1, <- ey1, <- ex2, <- ey2,e1];exact K.zE0 x.tn y.tn x.tw y.tw _ _ W (((zz9 hxr.type).kept hW).mono hW.size) (((zz9 hyr.type).kept hW).mono hW.size) hl2
   have C3:Hid (∀ W:World,Below w.heap.size w W->Calls Tryz.prog 135 #[.agg #[.int .i64 xi4,.int .i64 xi5,.string xs6,.slice xA7 xl7 xc7,.slice xA8 xl8 xc8],.agg #[.int .i64 yi4,.int .i64 yi5,.string ys6,.slice yA7 yl7 yc7,.slice yA8 yl8 yc8]] W (BP b3 W)):=Lh fun W hW=>by
    rw [<- ex4, <- ey4, <- ex5, <- ey5, <- ex6, <- ey6, <- ex7, <- ey7, <- ex8, <- ey8,e3];exact zK7 x.dflt y.dflt W w.heap.size _ _ (hxr.val.kept hW) (hyr.val.kept hW) hW.size
   have C4:Hid (∀ W:World,Below w.heap.size w W->Calls Tryz.prog 71 #[.slice xA9 xl9 xc9,.slice yA9 yl9 yc9] W (BP b4 W)):=Lh fun W hW=>by
    rw [<- ex9, <- ey9,e4];exact zk2 x.dirs y.dirs _ _ W ((hxr.dirs.kept hW).mono hW.size) ((hyr.dirs.kept hW).mono hW.size)
   have HS2:sInp x y=(b0&&(b1&&(b2&&(b3&&b4)))):=by rw [e0,e1,e2,e3,e4, <- hxn0, <- hyn0, <- hxn3, <- hyn3]; rfl
   rw [HS2] at hst;have HST:=Lh hst;have h0:(xs0.toList==ys0.toList)=b0:=by (rw [e0,K.zt6]) <;> exact decide_eq_decide.2 Iff.rfl
   have k0:=e0.symm;have h2:(xb3==yb3)=b2:=by rw [e2]; rfl
   have k2:=e2.symm;have G0:wr.cell? (a.add (j*10))=some (.string xs0):=qcAb hq.out.2 ((hcell 0 (by omega)).trans (by rw [ex0]));have G'0:wr.cell? (a'.add (j*10))=some (.string ys0):=qcAb hq.out.2 ((hcell' 0 (by omega)).trans (by rw [ey0]));have G1:wr.cell? ⟨(a.add (j*10)).block,(a.add (j*10)).off+1,none⟩=some (.string xs1):=qcAb hq.out.2 ((hcell 1 (by omega)).trans (by rw [ex1]));have G'1:wr.cell? ⟨(a'.add (j*10)).block,(a'.add (j*10)).off+1,none⟩=some (.string ys1):=qcAb hq.out.2 ((hcell' 1 (by omega)).trans (by rw [ey1]));have G2:wr.cell? ⟨(a.add (j*10)).block,(a.add (j*10)).off+2,none⟩=some (.slice xA2 xl2 xc2):=qcAb hq.out.2 ((hcell 2 (by omega)).trans (by rw [ex2]));have G'2:wr.cell? ⟨(a'.add (j*10)).block,(a'.add (j*10)).off+2,none⟩=some (.slice yA2 yl2 yc2):=qcAb hq.out.2 ((hcell' 2 (by omega)).trans (by rw [ey2]));have G3:wr.cell? ⟨(a.add (j*10)).block,(a.add (j*10)).off+3,none⟩=some (.bool xb3):=qcAb hq.out.2 ((hcell 3 (by omega)).trans (by rw [ex3]));have G'3:wr.cell? ⟨(a'.add (j*10)).block,(a'.add (j*10)).off+3,none⟩=some (.bool yb3):=qcAb hq.out.2 ((hcell' 3 (by omega)).trans (by rw [ey3]));have G4:wr.cell? ⟨(a.add (j*10)).block,(a.add (j*10)).off+4,none⟩=some (.int .i64 xi4):=qcAb hq.out.2 ((hcell 4 (by omega)).trans (by rw [ex4]));have G'4:wr.cell? ⟨(a'.add (j*10)).block,(a'.add (j*10)).off+4,none⟩=some (.int .i64 yi4):=qcAb hq.out.2 ((hcell' 4 (by omega)).trans (by rw [ey4]));have G5:wr.cell? ⟨(a.add (j*10)).block,(a.add (j*10)).off+5,none⟩=some (.int .i64 xi5):=qcAb hq.out.2 ((hcell 5 (by omega)).trans (by rw [ex5]));have G'5:wr.cell? ⟨(a'.add (j*10)).block,(a'.add (j*10)).off+5,none⟩=some (.int .i64 yi5):=qcAb hq.out.2 ((hcell' 5 (by omega)).trans (by rw [ey5]));have G6:wr.cell? ⟨(a.add (j*10)).block,(a.add (j*10)).off+6,none⟩=some (.string xs6):=qcAb hq.out.2 ((hcell 6 (by omega)).trans (by rw [ex6]));have G'6:wr.cell? ⟨(a'.add (j*10)).block,(a'.add (j*10)).off+6,none⟩=some (.string ys6):=qcAb hq.out.2 ((hcell' 6 (by omega)).trans (by rw [ey6]));have G7:wr.cell? ⟨(a.add (j*10)).block,(a.add (j*10)).off+7,none⟩=some (.slice xA7 xl7 xc7):=qcAb hq.out.2 ((hcell 7 (by omega)).trans (by rw [ex7]));have G'7:wr.cell? ⟨(a'.add (j*10)).block,(a'.add (j*10)).off+7,none⟩=some (.slice yA7 yl7 yc7):=qcAb hq.out.2 ((hcell' 7 (by omega)).trans (by rw [ey7]));have G8:wr.cell? ⟨(a.add (j*10)).block,(a.add (j*10)).off+8,none⟩=some (.slice xA8 xl8 xc8):=qcAb hq.out.2 ((hcell 8 (by omega)).trans (by rw [ex8]));have G'8:wr.cell? ⟨(a'.add (j*10)).block,(a'.add (j*10)).off+8,none⟩=some (.slice yA8 yl8 yc8):=qcAb hq.out.2 ((hcell' 8 (by omega)).trans (by rw [ey8]));have G9:wr.cell? ⟨(a.add (j*10)).block,(a.add (j*10)).off+9,none⟩=some (.slice xA9 xl9 xc9):=qcAb hq.out.2 ((hcell 9 (by omega)).trans (by rw [ex9]));have G'9:wr.cell? ⟨(a'.add (j*10)).block,(a'.add (j*10)).off+9,none⟩=some (.slice yA9 yl9 yc9):=qcAb hq.out.2 ((hcell' 9 (by omega)).trans (by rw [ey9]));clear hxr hyr hcell hcell' hst HS2 e0 e1 e2 e3 e4 hxn0 hyn0 hxn3 hyn3 ex0 ey0 ex1 ey1 ex2 ey2 ex3 ey3 ex4 ey4 ex5 ey5 ex6 ey6 ex7 ey7 ex8 ey8 ex9 ey9 HXM HYM hl2;have z1G0:=qcA1 G0;have z2G0:=qcA2 G0;have z1G'0:=qcA1 G'0;have z2G'0:=qcA2 G'0;have z1G1:=qcA1 G1;have z2G1:=qcA2 G1;have z1G'1:=qcA1 G'1;have z2G'1:=qcA2 G'1;have z1G2:=qcA1 G2;have z2G2:=qcA2 G2;have z1G'2:=qcA1 G'2;have z2G'2:=qcA2 G'2;have z1G3:=qcA1 G3;have z2G3:=qcA2 G3;have z1G'3:=qcA1 G'3;have z2G'3:=qcA2 G'3;have z1G4:=qcA1 G4;have z2G4:=qcA2 G4;have z1G'4:=qcA1 G'4;have z2G'4:=qcA2 G'4;have z1G5:=qcA1 G5;have z2G5:=qcA2 G5;have z1G'5:=qcA1 G'5;have z2G'5:=qcA2 G'5;have z1G6:=qcA1 G6;have z2G6:=qcA2 G6;have z1G'6:=qcA1 G'6;have z2G'6:=qcA2 G'6;have z1G7:=qcA1 G7;have z2G7:=qcA2 G7;have z1G'7:=qcA1 G'7;have z2G'7:=qcA2 G'7;have z1G8:=qcA1 G8;have z2G8:=qcA2 G8;have z1G'8:=qcA1 G'8;have z2G'8:=qcA2 G'8;have z1G9:=qcA1 G9;have z2G9:=qcA2 G9;have z1G'9:=qcA1 G'9;have z2G'9:=qcA2 G'9;go_wp2_with fail
   go_region
   all_goals clear z1G0 z2G0 G0 z1G'0 z2G'0 G'0 z1G1 z2G1 G1 z1G'1 z2G'1 G'1 z1G2 z2G2 G2 z1G'2 z2G'2 G'2 z1G3 z2G3 G3 z1G'3 z2G'3 G'3 z1G4 z2G4 G4 z1G'4 z2G'4 G'4 z1G5 z2G5 G5 z1G'5 z2G'5 G'5 z1G6 z2G6 G6 z1G'6 z2G'6 G'6 z1G7 z2G7 G7 z1G'7 z2G'7 G'7 z1G8 z2G8 G8 z1G'8 z2G'8 G'8 z1G9 z2G9 G9 z1G'9 z2G'9 G'9
   ·have hW8:Bk ((wr.alloc (.cells #[.string xs0,.string xs1,.slice xA2 xl2 xc2,.bool xb3,.int .i64 xi4,.int .i64 xi5,.string xs6,.slice xA7 xl7 xc7,.slice xA8 xl8 xc8,.slice xA9 xl9 xc9] 55 (0,0))).alloc (.cells #[.string ys0,.string ys1,.slice yA2 yl2 yc2,.bool yb3,.int .i64 yi4,.int .i64 yi5,.string ys6,.slice yA7 yl7 yc7,.slice yA8 yl8 yc8,.slice yA9 yl9 yc9] 55 (0,0))).drew wr.heap.size #[.string xs0,.string xs1,.slice xA2 xl2 xc2,.bool xb3,.int .i64 xi4,.int .i64 xi5,.string xs6,.slice xA7 xl7 xc7,.slice xA8 xl8 xc8,.slice xA9 xl9 xc9] 55 /\ Bk ((wr.alloc (.cells #[.string xs0,.string xs1,.slice xA2 xl2 xc2,.bool xb3,.int .i64 xi4,.int .i64 xi5,.string xs6,.slice xA7 xl7 xc7,.slice xA8 xl8 xc8,.slice xA9 xl9 xc9] 55 (0,0))).alloc (.cells #[.string ys0,.string ys1,.slice yA2 yl2 yc2,.bool yb3,.int .i64 yi4,.int .i64 yi5,.string ys6,.slice yA7 yl7 yc7,.slice yA8 yl8 yc8,.slice yA9 yl9 yc9] 55 (0,0))).drew (wr.heap.size+1) #[.string ys0,.string ys1,.slice yA2 yl2 yc2,.bool yb3,.int .i64 yi4,.int .i64 yi5,.string ys6,.slice yA7 yl7 yc7,.slice yA8 yl8 yc8,.slice yA9 yl9 yc9] 55 /\ Below wr.heap.size wr ((wr.alloc (.cells #[.string xs0,.string xs1,.slice xA2 xl2 xc2,.bool xb3,.int .i64 xi4,.int .i64 xi5,.string xs6,.slice xA7 xl7 xc7,.slice xA8 xl8 xc8,.slice xA9 xl9 xc9] 55 (0,0))).alloc (.cells #[.string ys0,.string ys1,.slice yA2 yl2 yc2,.bool yb3,.int .i64 yi4,.int .i64 yi5,.string ys6,.slice yA7 yl7 yc7,.slice yA8 yl8 yc8,.slice yA9 yl9 yc9] 55 (0,0))).drew:=by
     have c1:=za0 wr (.cells #[.string xs0,.string xs1,.slice xA2 xl2 xc2,.bool xb3,.int .i64 xi4,.int .i64 xi5,.string xs6,.slice xA7 xl7 xc7,.slice xA8 xl8 xc8,.slice xA9 xl9 xc9] 55 (0,0));have e1:=Bk.new wr #[.string xs0,.string xs1,.slice xA2 xl2 xc2,.bool xb3,.int .i64 xi4,.int .i64 xi5,.string xs6,.slice xA7 xl7 xc7,.slice xA8 xl8 xc8,.slice xA9 xl9 xc9] 55;have c2:=za0 (wr.alloc (.cells #[.string xs0,.string xs1,.slice xA2 xl2 xc2,.bool xb3,.int .i64 xi4,.int .i64 xi5,.string xs6,.slice xA7 xl7 xc7,.slice xA8 xl8 xc8,.slice xA9 xl9 xc9] 55 (0,0))) (.cells #[.string ys0,.string ys1,.slice yA2 yl2 yc2,.bool yb3,.int .i64 yi4,.int .i64 yi5,.string ys6,.slice yA7 yl7 yc7,.slice yA8 yl8 yc8,.slice yA9 yl9 yc9] 55 (0,0));have e2:=Bk.new (wr.alloc (.cells #[.string xs0,.string xs1,.slice xA2 xl2 xc2,.bool xb3,.int .i64 xi4,.int .i64 xi5,.string xs6,.slice xA7 xl7 xc7,.slice xA8 xl8 xc8,.slice xA9 xl9 xc9] 55 (0,0))) #[.string ys0,.string ys1,.slice yA2 yl2 yc2,.bool yb3,.int .i64 yi4,.int .i64 yi5,.string ys6,.slice yA7 yl7 yc7,.slice yA8 yl8 yc8,.slice yA9 yl9 yc9] 55;rw [World.size_alloc] at e2;exact ⟨e1.stay c2.drew,e2.stay ((Below.refl _ _).drew),(c1.trans (c2.mono c1.size)).drew⟩
    obtain ⟨hU1,hU2,hbw⟩:=hW8;have XA:=Lh hU1;have XB:=Lh hU2;have HB8:=Lh (hq.out.2.trans (hbw.mono hq.out.2.size));have y0:=XA.out.cell 0 _ rfl;have z0:=XB.out.cell 0 _ rfl;have y1:=XA.out.cell 1 _ rfl;have z1:=XB.out.cell 1 _ rfl;have y2:=XA.out.cell 2 _ rfl;have z2:=XB.out.cell 2 _ rfl;have y3:=XA.out.cell 3 _ rfl;have z3:=XB.out.cell 3 _ rfl;have y4:=XA.out.cell 4 _ rfl;have z4:=XB.out.cell 4 _ rfl;have y5:=XA.out.cell 5 _ rfl;have z5:=XB.out.cell 5 _ rfl;have y6:=XA.out.cell 6 _ rfl;have z6:=XB.out.cell 6 _ rfl;have y7:=XA.out.cell 7 _ rfl;have z7:=XB.out.cell 7 _ rfl;have y8:=XA.out.cell 8 _ rfl;have z8:=XB.out.cell 8 _ rfl;have y9:=XA.out.cell 9 _ rfl;have z9:=XB.out.cell 9 _ rfl;clear hU1 hU2 hbw
    cases b0 with
    | false =>
      have hRF:R=false:=by have:=HST.out; rw [hq.out.1] at this; rw [this]; rfl
      subst hRF;go_wp2_with fail;go_ret
      exact ⟨rfl,HB8.out⟩
    | true =>
    go_wp2_with fail
    refine (C1.out _ HB8.out).mono ?_
    rintro e w1x ⟨rfl,hb⟩;have HB1x:=Lh (HB8.out.trans (hb.mono HB8.out.size));replace XA:=Lh (XA.out.stay hb);replace XB:=Lh (XB.out.stay hb);clear hb C1 y0 z0 y1 z1 y2 z2 y3 z3 y4 z4 y5 z5 y6 z6 y7 z7 y8 z8 y9 z9;have y0:=XA.out.cell 0 _ rfl;have z0:=XB.out.cell 0 _ rfl;have y1:=XA.out.cell 1 _ rfl;have z1:=XB.out.cell 1 _ rfl;have y2:=XA.out.cell 2 _ rfl;have z2:=XB.out.cell 2 _ rfl;have y3:=XA.out.cell 3 _ rfl;have z3:=XB.out.cell 3 _ rfl;have y4:=XA.out.cell 4 _ rfl;have z4:=XB.out.cell 4 _ rfl;have y5:=XA.out.cell 5 _ rfl;have z5:=XB.out.cell 5 _ rfl;have y6:=XA.out.cell 6 _ rfl;have z6:=XB.out.cell 6 _ rfl;have y7:=XA.out.cell 7 _ rfl;have z7:=XB.out.cell 7 _ rfl;have y8:=XA.out.cell 8 _ rfl;have z8:=XB.out.cell 8 _ rfl;have y9:=XA.out.cell 9 _ rfl;have z9:=XB.out.cell 9 _ rfl
    cases b1 with
    | false =>
      have hRF:R=false:=by have:=HST.out; rw [hq.out.1] at this; rw [this]; rfl
      subst hRF;go_wp2_with fail;go_ret
      exact ⟨rfl,HB1x.out⟩
    | true =>
    cases b2 with
    | false =>
      have hRF:R=false:=by have:=HST.out; rw [hq.out.1] at this; rw [this]; rfl
      subst hRF;go_wp2_with fail;go_ret
      exact ⟨rfl,HB1x.out⟩
    | true =>
    go_wp2_with fail
    refine (C3.out _ HB1x.out).mono ?_
    rintro e w3x ⟨rfl,hb⟩;have HB3x:=Lh (HB1x.out.trans (hb.mono HB1x.out.size));replace XA:=Lh (XA.out.stay hb);replace XB:=Lh (XB.out.stay hb);clear hb C3 y0 z0 y1 z1 y2 z2 y3 z3 y4 z4 y5 z5 y6 z6 y7 z7 y8 z8 y9 z9;have y0:=XA.out.cell 0 _ rfl;have z0:=XB.out.cell 0 _ rfl;have y1:=XA.out.cell 1 _ rfl;have z1:=XB.out.cell 1 _ rfl;have y2:=XA.out.cell 2 _ rfl;have z2:=XB.out.cell 2 _ rfl;have y3:=XA.out.cell 3 _ rfl;have z3:=XB.out.cell 3 _ rfl;have y4:=XA.out.cell 4 _ rfl;have z4:=XB.out.cell 4 _ rfl;have y5:=XA.out.cell 5 _ rfl;have z5:=XB.out.cell 5 _ rfl;have y6:=XA.out.cell 6 _ rfl;have z6:=XB.out.cell 6 _ rfl;have y7:=XA.out.cell 7 _ rfl;have z7:=XB.out.cell 7 _ rfl;have y8:=XA.out.cell 8 _ rfl;have z8:=XB.out.cell 8 _ rfl;have y9:=XA.out.cell 9 _ rfl;have z9:=XB.out.cell 9 _ rfl
    cases b3 with
    | false =>
      have hRF:R=false:=by have:=HST.out; rw [hq.out.1] at this; rw [this]; rfl
      subst hRF;go_wp2_with fail;go_ret
      exact ⟨rfl,HB3x.out⟩
    | true =>
    go_wp2_with fail
    refine (C4.out _ HB3x.out).mono ?_
    rintro e w4x ⟨rfl,hb⟩;have HB4x:=Lh (HB3x.out.trans (hb.mono HB3x.out.size));replace XA:=Lh (XA.out.stay hb);replace XB:=Lh (XB.out.stay hb);clear hb C4 y0 z0 y1 z1 y2 z2 y3 z3 y4 z4 y5 z5 y6 z6 y7 z7 y8 z8 y9 z9;have y0:=XA.out.cell 0 _ rfl;have z0:=XB.out.cell 0 _ rfl;have y1:=XA.out.cell 1 _ rfl;have z1:=XB.out.cell 1 _ rfl;have y2:=XA.out.cell 2 _ rfl;have z2:=XB.out.cell 2 _ rfl;have y3:=XA.out.cell 3 _ rfl;have z3:=XB.out.cell 3 _ rfl;have y4:=XA.out.cell 4 _ rfl;have z4:=XB.out.cell 4 _ rfl;have y5:=XA.out.cell 5 _ rfl;have z5:=XB.out.cell 5 _ rfl;have y6:=XA.out.cell 6 _ rfl;have z6:=XB.out.cell 6 _ rfl;have y7:=XA.out.cell 7 _ rfl;have z7:=XB.out.cell 7 _ rfl;have y8:=XA.out.cell 8 _ rfl;have z8:=XB.out.cell 8 _ rfl;have y9:=XA.out.cell 9 _ rfl;have z9:=XB.out.cell 9 _ rfl
    cases b4 with
    | false =>
      have hRF:R=false:=by have:=HST.out; rw [hq.out.1] at this; rw [this]; rfl
      subst hRF;go_wp2_with fail;go_ret
      exact ⟨rfl,HB4x.out⟩
    | true =>
    go_wp2_with fail
    go_roundw
    case rel=>exact ⟨j+1,by omega,by go_num,Lh ⟨by have:=HST.out; rw [hq.out.1] at this; rw [this]; rfl,HB4x.out⟩⟩
    case measure=>simp [intOf]; omega
   ·have hW8:Bk ((wr.alloc (.cells #[.string ys0,.string ys1,.slice yA2 yl2 yc2,.bool yb3,.int .i64 yi4,.int .i64 yi5,.string ys6,.slice yA7 yl7 yc7,.slice yA8 yl8 yc8,.slice yA9 yl9 yc9] 55 (0,0))).alloc (.cells #[.string xs0,.string xs1,.slice xA2 xl2 xc2,.bool xb3,.int .i64 xi4,.int .i64 xi5,.string xs6,.slice xA7 xl7 xc7,.slice xA8 xl8 xc8,.slice xA9 xl9 xc9] 55 (0,0))).drew (wr.heap.size+1) #[.string xs0,.string xs1,.slice xA2 xl2 xc2,.bool xb3,.int .i64 xi4,.int .i64 xi5,.string xs6,.slice xA7 xl7 xc7,.slice xA8 xl8 xc8,.slice xA9 xl9 xc9] 55 /\ Bk ((wr.alloc (.cells #[.string ys0,.string ys1,.slice yA2 yl2 yc2,.bool yb3,.int .i64 yi4,.int .i64 yi5,.string ys6,.slice yA7 yl7 yc7,.slice yA8 yl8 yc8,.slice yA9 yl9 yc9] 55 (0,0))).alloc (.cells #[.string xs0,.string xs1,.slice xA2 xl2 xc2,.bool xb3,.int .i64 xi4,.int .i64 xi5,.string xs6,.slice xA7 xl7 xc7,.slice xA8 xl8 xc8,.slice xA9 xl9 xc9] 55 (0,0))).drew wr.heap.size #[.string ys0,.string ys1,.slice yA2 yl2 yc2,.bool yb3,.int .i64 yi4,.int .i64 yi5,.string ys6,.slice yA7 yl7 yc7,.slice yA8 yl8 yc8,.slice yA9 yl9 yc9] 55 /\ Below wr.heap.size wr ((wr.alloc (.cells #[.string ys0,.string ys1,.slice yA2 yl2 yc2,.bool yb3,.int .i64 yi4,.int .i64 yi5,.string ys6,.slice yA7 yl7 yc7,.slice yA8 yl8 yc8,.slice yA9 yl9 yc9] 55 (0,0))).alloc (.cells #[.string xs0,.string xs1,.slice xA2 xl2 xc2,.bool xb3,.int .i64 xi4,.int .i64 xi5,.string xs6,.slice xA7 xl7 xc7,.slice xA8 xl8 xc8,.slice xA9 xl9 xc9] 55 (0,0))).drew:=by
     have c1:=za0 wr (.cells #[.string ys0,.string ys1,.slice yA2 yl2 yc2,.bool yb3,.int .i64 yi4,.int .i64 yi5,.string ys6,.slice yA7 yl7 yc7,.slice yA8 yl8 yc8,.slice yA9 yl9 yc9] 55 (0,0));have e1:=Bk.new wr #[.string ys0,.string ys1,.slice yA2 yl2 yc2,.bool yb3,.int .i64 yi4,.int .i64 yi5,.string ys6,.slice yA7 yl7 yc7,.slice yA8 yl8 yc8,.slice yA9 yl9 yc9] 55;have c2:=za0 (wr.alloc (.cells #[.string ys0,.string ys1,.slice yA2 yl2 yc2,.bool yb3,.int .i64 yi4,.int .i64 yi5,.string ys6,.slice yA7 yl7 yc7,.slice yA8 yl8 yc8,.slice yA9 yl9 yc9] 55 (0,0))) (.cells #[.string xs0,.string xs1,.slice xA2 xl2 xc2,.bool xb3,.int .i64 xi4,.int .i64 xi5,.string xs6,.slice xA7 xl7 xc7,.slice xA8 xl8 xc8,.slice xA9 xl9 xc9] 55 (0,0));have e2:=Bk.new (wr.alloc (.cells #[.string ys0,.string ys1,.slice yA2 yl2 yc2,.bool yb3,.int .i64 yi4,.int .i64 yi5,.string ys6,.slice yA7 yl7 yc7,.slice yA8 yl8 yc8,.slice yA9 yl9 yc9] 55 (0,0))) #[.string xs0,.string xs1,.slice xA2 xl2 xc2,.bool xb3,.int .i64 xi4,.int .i64 xi5,.string xs6,.slice xA7 xl7 xc7,.slice xA8 xl8 xc8,.slice xA9 xl9 xc9] 55;rw [World.size_alloc] at e2;exact ⟨e2.stay ((Below.refl _ _).drew),e1.stay c2.drew,(c1.trans (c2.mono c1.size)).drew⟩
    obtain ⟨hU1,hU2,hbw⟩:=hW8;have XA:=Lh hU1;have XB:=Lh hU2;have HB8:=Lh (hq.out.2.trans (hbw.mono hq.out.2.size));have y0:=XA.out.cell 0 _ rfl;have z0:=XB.out.cell 0 _ rfl;have y1:=XA.out.cell 1 _ rfl;have z1:=XB.out.cell 1 _ rfl;have y2:=XA.out.cell 2 _ rfl;have z2:=XB.out.cell 2 _ rfl;have y3:=XA.out.cell 3 _ rfl;have z3:=XB.out.cell 3 _ rfl;have y4:=XA.out.cell 4 _ rfl;have z4:=XB.out.cell 4 _ rfl;have y5:=XA.out.cell 5 _ rfl;have z5:=XB.out.cell 5 _ rfl;have y6:=XA.out.cell 6 _ rfl;have z6:=XB.out.cell 6 _ rfl;have y7:=XA.out.cell 7 _ rfl;have z7:=XB.out.cell 7 _ rfl;have y8:=XA.out.cell 8 _ rfl;have z8:=XB.out.cell 8 _ rfl;have y9:=XA.out.cell 9 _ rfl;have z9:=XB.out.cell 9 _ rfl;clear hU1 hU2 hbw
    cases b0 with
    | false =>
      have hRF:R=false:=by have:=HST.out; rw [hq.out.1] at this; rw [this]; rfl
      subst hRF;go_wp2_with fail;go_ret
      exact ⟨rfl,HB8.out⟩
    | true =>
    go_wp2_with fail
    refine (C1.out _ HB8.out).mono ?_
    rintro e w1x ⟨rfl,hb⟩;have HB1x:=Lh (HB8.out.trans (hb.mono HB8.out.size));replace XA:=Lh (XA.out.stay hb);replace XB:=Lh (XB.out.stay hb);clear hb C1 y0 z0 y1 z1 y2 z2 y3 z3 y4 z4 y5 z5 y6 z6 y7 z7 y8 z8 y9 z9;have y0:=XA.out.cell 0 _ rfl;have z0:=XB.out.cell 0 _ rfl;have y1:=XA.out.cell 1 _ rfl;have z1:=XB.out.cell 1 _ rfl;have y2:=XA.out.cell 2 _ rfl;have z2:=XB.out.cell 2 _ rfl;have y3:=XA.out.cell 3 _ rfl;have z3:=XB.out.cell 3 _ rfl;have y4:=XA.out.cell 4 _ rfl;have z4:=XB.out.cell 4 _ rfl;have y5:=XA.out.cell 5 _ rfl;have z5:=XB.out.cell 5 _ rfl;have y6:=XA.out.cell 6 _ rfl;have z6:=XB.out.cell 6 _ rfl;have y7:=XA.out.cell 7 _ rfl;have z7:=XB.out.cell 7 _ rfl;have y8:=XA.out.cell 8 _ rfl;have z8:=XB.out.cell 8 _ rfl;have y9:=XA.out.cell 9 _ rfl;have z9:=XB.out.cell 9 _ rfl
    cases b1 with
    | false =>
      have hRF:R=false:=by have:=HST.out; rw [hq.out.1] at this; rw [this]; rfl
      subst hRF;go_wp2_with fail;go_ret
      exact ⟨rfl,HB1x.out⟩
    | true =>
    cases b2 with
    | false =>
      have hRF:R=false:=by have:=HST.out; rw [hq.out.1] at this; rw [this]; rfl
      subst hRF;go_wp2_with fail;go_ret
      exact ⟨rfl,HB1x.out⟩
    | true =>
    go_wp2_with fail
    refine (C3.out _ HB1x.out).mono ?_
    rintro e w3x ⟨rfl,hb⟩;have HB3x:=Lh (HB1x.out.trans (hb.mono HB1x.out.size));replace XA:=Lh (XA.out.stay hb);replace XB:=Lh (XB.out.stay hb);clear hb C3 y0 z0 y1 z1 y2 z2 y3 z3 y4 z4 y5 z5 y6 z6 y7 z7 y8 z8 y9 z9;have y0:=XA.out.cell 0 _ rfl;have z0:=XB.out.cell 0 _ rfl;have y1:=XA.out.cell 1 _ rfl;have z1:=XB.out.cell 1 _ rfl;have y2:=XA.out.cell 2 _ rfl;have z2:=XB.out.cell 2 _ rfl;have y3:=XA.out.cell 3 _ rfl;have z3:=XB.out.cell 3 _ rfl;have y4:=XA.out.cell 4 _ rfl;have z4:=XB.out.cell 4 _ rfl;have y5:=XA.out.cell 5 _ rfl;have z5:=XB.out.cell 5 _ rfl;have y6:=XA.out.cell 6 _ rfl;have z6:=XB.out.cell 6 _ rfl;have y7:=XA.out.cell 7 _ rfl;have z7:=XB.out.cell 7 _ rfl;have y8:=XA.out.cell 8 _ rfl;have z8:=XB.out.cell 8 _ rfl;have y9:=XA.out.cell 9 _ rfl;have z9:=XB.out.cell 9 _ rfl
    cases b3 with
    | false =>
      have hRF:R=false:=by have:=HST.out; rw [hq.out.1] at this; rw [this]; rfl
      subst hRF;go_wp2_with fail;go_ret
      exact ⟨rfl,HB3x.out⟩
    | true =>
    go_wp2_with fail
    refine (C4.out _ HB3x.out).mono ?_
    rintro e w4x ⟨rfl,hb⟩;have HB4x:=Lh (HB3x.out.trans (hb.mono HB3x.out.size));replace XA:=Lh (XA.out.stay hb);replace XB:=Lh (XB.out.stay hb);clear hb C4 y0 z0 y1 z1 y2 z2 y3 z3 y4 z4 y5 z5 y6 z6 y7 z7 y8 z8 y9 z9;have y0:=XA.out.cell 0 _ rfl;have z0:=XB.out.cell 0 _ rfl;have y1:=XA.out.cell 1 _ rfl;have z1:=XB.out.cell 1 _ rfl;have y2:=XA.out.cell 2 _ rfl;have z2:=XB.out.cell 2 _ rfl;have y3:=XA.out.cell 3 _ rfl;have z3:=XB.out.cell 3 _ rfl;have y4:=XA.out.cell 4 _ rfl;have z4:=XB.out.cell 4 _ rfl;have y5:=XA.out.cell 5 _ rfl;have z5:=XB.out.cell 5 _ rfl;have y6:=XA.out.cell 6 _ rfl;have z6:=XB.out.cell 6 _ rfl;have y7:=XA.out.cell 7 _ rfl;have z7:=XB.out.cell 7 _ rfl;have y8:=XA.out.cell 8 _ rfl;have z8:=XB.out.cell 8 _ rfl;have y9:=XA.out.cell 9 _ rfl;have z9:=XB.out.cell 9 _ rfl
    cases b4 with
    | false =>
      have hRF:R=false:=by have:=HST.out; rw [hq.out.1] at this; rw [this]; rfl
      subst hRF;go_wp2_with fail;go_ret
      exact ⟨rfl,HB4x.out⟩
    | true =>
    go_wp2_with fail
    go_roundw
    case rel=>exact ⟨j+1,by omega,by go_num,Lh ⟨by have:=HST.out; rw [hq.out.1] at this; rw [this]; rfl,HB4x.out⟩⟩
    case measure=>simp [intOf]; omega
  ·have hlt':¬ (j:Int)<ll:=by omega
   have hRT:R=true:=by rw [<- hq.out.1]; exact zn9 (by have:=HLL.out; omega) (by have:=HMM.out; omega)
   subst hRT;go_wp2_with fail;go_ret
   exact ⟨rfl,hq.out.2⟩
end Go.Proofs.YtfgelheiknmjgaaGreatDoor

