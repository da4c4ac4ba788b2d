
/-
 Texts joined: Same Sc1 SbInp SbMem SbFld Sc2 SbDef W3 Sg Sd1 Sc3 Sc4 Sd2.
-/
import Derived.Test.YtfgelheiknmjgaaGreatDoorZt33
set_option maxRecDepth 1000000
set_option maxHeartbeats 8000000
namespace Go.Proofs.YtfgelheiknmjgaaGreatDoor
open Go.RowKit
theorem zK7 (t t':VT) (w:World) (B:Nat) (v v':Value) (h:Rd w B v t) (h':Rd w B v' t') (hB:B<=w.heap.size) :
  Calls Tryz.prog 135 #[v,v'] w fun e w'=>e=.returned (.bool (decide (t.cmp t'=0)))/\Below w.heap.size w w':=by
 have HC:Hid (∀ w2,Below w.heap.size w w2->Calls Tryz.prog 182 #[v,v'] w2 fun e w'=>e=.returned (.int .i64 (t.cmp t'))/\Below w2.heap.size w2 w') :=
  Lh fun w2 hb=>zL1 t t' w2 B v v' (h.kept (hb.mono hB)) (h'.kept (hb.mono hB)) (Nat.le_trans hB hb.size)
 obtain ⟨k,n,s,A,li,ci,K,lk,ck,rfl⟩:=h.shape;obtain ⟨k',n',s',A',li',ci',K',lk',ck',rfl⟩:=h'.shape;clear h h';obtain ⟨f1,f2,f3⟩:=Box.two w (.int .i64 k) (.int .i64 n) (.string s) (.slice A li ci) (.slice K lk ck) (.int .i64 k') (.int .i64 n') (.string s') (.slice A' li' ci') (.slice K' lk' ck');have HC2:=Lh (HC.out _ f3);have F3:=Lh f3;obtain ⟨c0,c1,c2,c3,c4⟩:=f1.cells;obtain ⟨d0,d1,d2,d3,d4⟩:=f2.cells;clear f1 f2 f3 HC
 go_enter Tryz.func135, Tryz.ntmps135
 go_wp2_with fail
 refine HC2.out.mono ?_
 rintro e w1 ⟨rfl,hb⟩;have HB:=Lh (F3.out.trans (hb.mono F3.out.size));clear hb;clear c0 c1 c2 c3 c4 d0 d1 d2 d3 d4;go_wp2_with fail;go_ret
 exact ⟨rfl,HB.out⟩
theorem pastc {w W:World} {B:Nat} (hW:Below B w W) (x:Past W) (hB:B<=W.heap.size) {p:Addr} (hp:p.block<B):x.w.cell? p=w.cell? p:=(x.b.cell (by omega)).trans (hW.cell hp)
theorem qcA1 {w:World} {p:Addr} {v:Value} (h:w.cell? p=some v) (o:Obj):(w.alloc o).cell? p=some v:=((za0 w o).cell (Lib.lt_of_cell h)).trans h
theorem qcA2 {w:World} {p:Addr} {v:Value} (h:w.cell? p=some v) (o o':Obj):((w.alloc o).alloc o').cell? p=some v:=qcA1 (qcA1 h o) o'
theorem qcAb {w W:World} (hW:Below w.heap.size w W) {p:Addr} {v:Value} (h:w.cell? p=some v):W.cell? p=some v:=(hW.cell (Lib.lt_of_cell h)).trans h
theorem qcAp {w W:World} (hW:Below w.heap.size w W) {p:Addr} {v:Value} (h:w.cell? p=some v) (x:Past W):x.w.cell? p=some v:=(pastc hW x hW.size (Lib.lt_of_cell h)).trans h
theorem zW8 {α:Type} [DecidableEq α]:∀ (l m:List α),allS (fun x y=>decide (x=y)) l m=decide (l=m)
 | [],[]=>by simp [allS]
 | [],_::_=>by simp [allS]
 | _::_,[]=>by simp [allS]
 | a::r,b::s=>by
   rw [allS,zW8 r s];by_cases h1:a=b <;> by_cases h2:r=s <;> simp [h1,h2]
theorem zZ1 (l m:List ByteArray) (v v':Value) (w:World) (h:NamesR w w.heap.size v l) (h':NamesR w w.heap.size v' m):Calls Tryz.prog 70 #[v,v'] w (BP (decide (l=m)) w):=by
 rw [<- zW8 l m];obtain ⟨A,c,rfl,hc,hbb,V,hA,hr⟩:=h;obtain ⟨A',c',rfl,hc',hbb',V',hA',hr'⟩:=h';obtain ⟨ll,hll⟩ : ∃ ll,ll=l.length:=⟨_,rfl⟩;obtain ⟨mm,hmm⟩ : ∃ mm,mm=m.length:=⟨_,rfl⟩;obtain ⟨R,hR⟩ : ∃ R,R=allS (fun x y=>decide (x=y)) l m:=⟨_,rfl⟩;have HLL:=Lh hll;have HMM:=Lh hmm;have HRX:=Lh hR;rw [<- hll] at hbb hA;rw [<- hmm] at hbb' hA';rw [<- hll, <- hmm, <- hR];have hlb:(ll:Int)<=140737488351232:=by unfold big at hbb; omega
 have hmb:(mm:Int)<=140737488351232:=by unfold big at hbb'; omega
 have HA:=Lh hA;have HRR:=Lh hr;have HA':=Lh hA';have HRR':=Lh hr';clear hA hr hA' hr' hll hmm hbb hbb' hc hc' hR;by_cases hnm:ll=mm;rotate_left
 ·have hRF:R=false:=by rw [HRX.out]; exact zm4 (by rw [<- HLL.out, <- HMM.out]; exact hnm)
  have hd:((ll:Int) != (mm:Int))=true:=by simp; omega
  subst hRF
  go_enter Tryz.func70, Tryz.ntmps70
  go_wp2_with fail
  go_ret
  exact ⟨rfl,Below.refl _ _⟩
 subst hnm;clear hmb
 go_enter Tryz.func70, Tryz.ntmps70
 go_wp2_with fail
 go_loopw [5] (fun i wr=>∃ j:Nat,j<=ll/\i=.int .i64 j/\Hid (allS (fun x y=>decide (x=y)) (l.drop j) (m.drop j)=R/\Below w.heap.size w wr)) (fun i _=>ll-(intOf i).toNat)
 case atStart=>exact ⟨0,Nat.zero_le _,rfl,Lh ⟨by rw [List.drop_zero,List.drop_zero,HRX.out],Below.refl _ _⟩⟩
 case round =>
  obtain ⟨j,hj,rfl,hq⟩:=hrel;by_cases hlt:j<ll
  ·have hlt':(j:Int)<ll:=by omega
   obtain ⟨x,hx⟩ : ∃ x,l[j]?=some x:=⟨_,List.getElem?_eq_getElem (by have:=HLL.out; omega)⟩;obtain ⟨y,hy⟩ : ∃ y,m[j]?=some y:=⟨_,List.getElem?_eq_getElem (by have:=HMM.out; omega)⟩;obtain ⟨a,rfl,ha,hax⟩:=HA.out (by omega);obtain ⟨a',rfl,ha',hax'⟩:=HA'.out (by omega);have hxr:=HRR.out j x hx;have hyr:=HRR'.out j y hy;have hst:=zt3 (f:=(fun x y=>decide (x=y))) hx hy;have HXM:=Lh (List.mem_of_getElem? hx);have HYM:=Lh (List.mem_of_getElem? hy);have hcell:=hax j hlt;have hcell':=hax' j hlt;clear hx hy hax hax';obtain ⟨x0,hx0⟩ : ∃ x0,x0=x:=⟨_,rfl⟩;have H0:Hid (w.cell? (a.add j)=some (.string x0)):=Lh (by have:=hcell 0 (by omega); rw [Nat.mul_one] at this; exact this.trans (by rw [hxr.1,hx0]));have H1:Hid (w.cell? (a'.add j)=some (.string y)):=Lh (by have:=hcell' 0 (by omega); rw [Nat.mul_one] at this; exact this.trans (by rw [hyr.1]));have HAB:=Lh ha;have HAB':=Lh ha';obtain ⟨b0,e0⟩ : ∃ b:Bool,b=decide (x=y):=⟨_,rfl⟩;rw [<- hx0] at hst e0;have h0:(x0.toList==y.toList)=b0:=by (rw [e0,K.zt6]) <;> exact decide_eq_decide.2 Iff.rfl
   rw [<- e0] at hst;have k0:=e0.symm;have HST:=Lh hst;clear HXM hx0 hcell hcell' ha ha' hxr hyr hst e0;go_wp2_with fail;refine za7 (fun W=>Below w.heap.size w W) hq.out.2 (by kernel_rfl) ?_
   intro W hW _;have p0:=qcAp hW H0.out;have p1:=qcAp hW H1.out;have HWW:=Lh hW;clear hW
   cases b0 with
   | false =>
     have hRF:R=false:=by have:=HST.out; rw [hq.out.1] at this; rw [this]; rfl
     subst hRF
     repeat (go_big_quiet_step (fail))
     refine wpQuiet_nil ?_
     intro _ hw';obtain ⟨z,rfl⟩:=hw';go_wp2_with fail;go_ret
     exact ⟨rfl,HWW.out.trans (z.b.mono HWW.out.size)⟩
   | true =>
     repeat (go_big_quiet_step (fail))
     refine wpQuiet_nil ?_
     intro _ hw';obtain ⟨z,rfl⟩:=hw';go_wp2_with fail
     go_roundw
     case rel=>exact ⟨j+1,by omega,by go_num,Lh ⟨by have:=HST.out; rw [hq.out.1] at this; rw [this]; rfl,HWW.out.trans (z.b.mono HWW.out.size)⟩⟩
     case measure=>simp [intOf]; omega
  ·have hlt':¬ (j:Int)<ll:=by omega
   have hRT:R=true:=by rw [<- hq.out.1]; exact zn9 (by have:=HLL.out; omega) (by have:=HMM.out; omega)
   subst hRT;go_wp2_with fail;go_ret
   exact ⟨rfl,hq.out.2⟩
theorem zk2 (l m:List DirT) (v v':Value) (w:World) (h:DirsR w w.heap.size v l) (h':DirsR w w.heap.size v' m):Calls Tryz.prog 71 #[v,v'] w (BP (allS sDir l m) w):=by
 obtain ⟨A,c,rfl,hc,hbb,V,hA,hr⟩:=h;obtain ⟨A',c',rfl,hc',hbb',V',hA',hr'⟩:=h';obtain ⟨ll,hll⟩ : ∃ ll,ll=l.length:=⟨_,rfl⟩;obtain ⟨mm,hmm⟩ : ∃ mm,mm=m.length:=⟨_,rfl⟩;obtain ⟨R,hR⟩ : ∃ R,R=allS sDir l m:=⟨_,rfl⟩;have HLL:=Lh hll;have HMM:=Lh hmm;have HRX:=Lh hR;rw [<- hll] at hbb hA;rw [<- hmm] at hbb' hA';rw [<- hll, <- hmm, <- hR];have hlb:(ll:Int)<=140737488351232:=by unfold big at hbb; omega
 have hmb:(mm:Int)<=140737488351232:=by unfold big at hbb'; omega
 have HA:=Lh hA;have HRR:=Lh hr;have HA':=Lh hA';have HRR':=Lh hr';clear hA hr hA' hr' hll hmm hbb hbb' hc hc' hR;by_cases hnm:ll=mm;rotate_left
 ·have hRF:R=false:=by rw [HRX.out]; exact zm4 (by rw [<- HLL.out, <- HMM.out]; exact hnm)
  have hd:((ll:Int) != (mm:Int))=true:=by simp; omega
  subst hRF
  go_enter Tryz.func71, Tryz.ntmps71
  go_wp2_with fail
  go_ret
  exact ⟨rfl,Below.refl _ _⟩
 subst hnm;clear hmb
 go_enter Tryz.func71, Tryz.ntmps71
 go_wp2_with fail
 go_loopw [5] (fun i wr=>∃ j:Nat,j<=ll/\i=.int .i64 j/\Hid (allS sDir (l.drop j) (m.drop j)=R/\Below w.heap.size w wr)) (fun i _=>ll-(intOf i).toNat)
 case atStart=>exact ⟨0,Nat.zero_le _,rfl,Lh ⟨by rw [List.drop_zero,List.drop_zero,HRX.out],Below.refl _ _⟩⟩
 case round =>
  obtain ⟨j,hj,rfl,hq⟩:=hrel;by_cases hlt:j<ll
  ·have hlt':(j:Int)<ll:=by omega
   obtain ⟨x,hx⟩ : ∃ x,l[j]?=some x:=⟨_,List.getElem?_eq_getElem (by have:=HLL.out; omega)⟩;obtain ⟨y,hy⟩ : ∃ y,m[j]?=some y:=⟨_,List.getElem?_eq_getElem (by have:=HMM.out; omega)⟩;obtain ⟨a,rfl,ha,hax⟩:=HA.out (by omega);obtain ⟨a',rfl,ha',hax'⟩:=HA'.out (by omega);have hxr:=HRR.out j x hx;have hyr:=HRR'.out j y hy;have hst:=zt3 (f:=sDir) hx hy;have HXM:=Lh (List.mem_of_getElem? hx);have HYM:=Lh (List.mem_of_getElem? hy);have hcell:=hax j hlt;have hcell':=hax' j hlt;clear hx hy hax hax';obtain ⟨A1,c1,ea,_,hb1,V1,hA1,hr1⟩:=hxr.args;obtain ⟨A1',c1',ea',_,hb1',V1',hA1',hr1'⟩:=hyr.args;obtain ⟨la,hla⟩ : ∃ la,la=x.args.length:=⟨_,rfl⟩;obtain ⟨lb,hlb2⟩ : ∃ la,la=y.args.length:=⟨_,rfl⟩;obtain ⟨nx,hnx⟩ : ∃ la,la=x.name:=⟨_,rfl⟩;obtain ⟨ny,hny⟩ : ∃ la,la=y.name:=⟨_,rfl⟩;obtain ⟨b0,e0⟩ : ∃ b:Bool,b=decide (nx=ny):=⟨_,rfl⟩;obtain ⟨b1,e1⟩ : ∃ b:Bool,b=allS sArg x.args y.args:=⟨_,rfl⟩;have HS2:Hid (sDir x y=(b0&&b1)):=Lh (by rw [e0,e1,hnx,hny]; rfl);rw [HS2.out] at hst;have HST:=Lh hst;have HLA:=Lh hla;have HLB:=Lh hlb2;have HE1:=Lh e1;rw [<- hla] at ea hb1 hA1;rw [<- hlb2] at ea' hb1' hA1';have hlab:(la:Int)<=140737488351232:=by unfold big at hb1; omega
   have hlab':(lb:Int)<=140737488351232:=by unfold big at hb1'; omega
   have HA1:=Lh hA1;have HR1:=Lh hr1;have HA1':=Lh hA1';have HR1':=Lh hr1';have H0:Hid (w.cell? (a.add (j*2))=some (.string nx)):=Lh ((hcell 0 (by omega)).trans (by rw [hxr.name,hnx]));have H1:Hid (w.cell? ⟨(a.add (j*2)).block,(a.add (j*2)).off+1,none⟩=some (.slice A1 la c1)):=Lh ((hcell 1 (by omega)).trans (by rw [ea]));have H0':Hid (w.cell? (a'.add (j*2))=some (.string ny)):=Lh ((hcell' 0 (by omega)).trans (by rw [hyr.name,hny]));have H1':Hid (w.cell? ⟨(a'.add (j*2)).block,(a'.add (j*2)).off+1,none⟩=some (.slice A1' lb c1')):=Lh ((hcell' 1 (by omega)).trans (by rw [ea']));have HAB:=Lh ha;have HAB':=Lh ha';have h0:(nx.toList==ny.toList)=b0:=by (rw [e0,K.zt6]) <;> exact decide_eq_decide.2 Iff.rfl
   have k0:=e0.symm;clear hxr hyr hcell hcell' ha ha' hA1 hr1 hA1' hr1' hla hlb2 ea ea' hb1 hb1' hst e0 e1 hnx hny HXM HYM;go_wp2_with fail;refine za7 (fun W=>Below w.heap.size w W) hq.out.2 (by kernel_rfl) ?_
   intro W hW _;have p0:=qcAp hW H0.out;have p1:=qcAp hW H0'.out;have p2:=qcAp hW H1.out;have p3:=qcAp hW H1'.out;have HWW:=Lh hW;clear hW;have hlx:((la:Int) != (lb:Int))=!decide (la=lb):=by rw [Bool.eq_iff_iff]; simp; omega
   cases b0 with
   | false =>
     have hRF:R=false:=by have:=HST.out; rw [hq.out.1] at this; rw [this]; rfl
     subst hRF
     repeat (go_big_quiet_step (fail))
     refine wpQuiet_nil ?_
     intro _ hw';obtain ⟨z,rfl⟩:=hw';go_wp2_with fail;go_ret
     exact ⟨rfl,HWW.out.trans (z.b.mono HWW.out.size)⟩
   | true =>
   by_cases hlq:la=lb
   rotate_left
   ·have hb1f:b1=false:=by rw [HE1.out]; exact zm4 (by rw [<- HLA.out, <- HLB.out]; exact hlq)
    subst hb1f;have hRF:R=false:=by have:=HST.out; rw [hq.out.1] at this; rw [this]; rfl
    subst hRF;rw [decide_eq_false hlq] at hlx
    repeat (go_big_quiet_step (fail))
    refine wpQuiet_nil ?_
    intro _ hw';obtain ⟨z,rfl⟩:=hw';go_wp2_with fail;go_ret
    exact ⟨rfl,HWW.out.trans (z.b.mono HWW.out.size)⟩
   rw [decide_eq_true hlq] at hlx;subst hlq
   repeat (go_big_quiet_step (fail))
   refine wpQuiet_nil ?_
   intro _ hw';obtain ⟨z,rfl⟩:=hw';have HB6:=Lh (HWW.out.trans (z.b.mono HWW.out.size));clear p0 p1 p2 p3 HWW;generalize z.w=w6 at *;go_wp2_with fail
   go_loopw [6] (fun i wr=>∃ j2:Nat,j2<=la/\i=.int .i64 j2/\Hid (allS sArg (x.args.drop j2) (y.args.drop j2)=b1/\Below w.heap.size w wr)) (fun i _=>la-(intOf i).toNat)
   case atStart=>exact ⟨0,Nat.zero_le _,rfl,Lh ⟨by rw [List.drop_zero,List.drop_zero,HE1.out],HB6.out⟩⟩
   case round =>
    obtain ⟨j2,hj2,rfl,hq2⟩:=hrel;have z1:wr.cell? ⟨(a.add (j*2)).block,(a.add (j*2)).off+1,none⟩=some (.slice A1 la c1):=(hq2.out.2.cell (p:=⟨(a.add (j*2)).block,(a.add (j*2)).off+1,none⟩) (by rw [za1]; exact HAB.out)).trans H1.out;by_cases hlt2:j2<la
    ·have hlt2':(j2:Int)<la:=by omega
     obtain ⟨g,hg⟩ : ∃ g,x.args[j2]?=some g:=⟨_,List.getElem?_eq_getElem (by have:=HLA.out; omega)⟩;obtain ⟨g',hg'⟩ : ∃ g,y.args[j2]?=some g:=⟨_,List.getElem?_eq_getElem (by have:=HLB.out; omega)⟩;obtain ⟨b,rfl,hb,hy⟩:=HA1.out (by omega);obtain ⟨b',rfl,hb',hy'⟩:=HA1'.out (by omega);have hgr:=HR1.out j2 g hg;have hgr':=HR1'.out j2 g' hg';have ycell:=hy j2 hlt2;have ycell':=hy' j2 hlt2;have hs2:=zt3 (f:=sArg) hg hg';obtain ⟨gx,hgx⟩ : ∃ la,la=g.1:=⟨_,rfl⟩;obtain ⟨gy,hgy⟩ : ∃ la,la=g'.1:=⟨_,rfl⟩;obtain ⟨d0,f0⟩ : ∃ b:Bool,b=decide (gx=gy):=⟨_,rfl⟩;obtain ⟨d1,f1⟩ : ∃ b:Bool,b=decide (g.2.cmp g'.2=0):=⟨_,rfl⟩;have hs3:sArg g g'=(d0&&d1):=by rw [f0,f1,hgx,hgy]; rfl
     rw [hs3] at hs2;have HS2A:=Lh hs2;have G0:Hid (w.cell? (b.add (j2*6))=some (.string gx)):=Lh ((ycell 0 (by omega)).trans (by rw [hgr.name,hgx]));have G'0:Hid (w.cell? (b'.add (j2*6))=some (.string gy)):=Lh ((ycell' 0 (by omega)).trans (by rw [hgr'.name,hgy]));have G1:Hid (w.cell? ⟨(b.add (j2*6)).block,(b.add (j2*6)).off+1,none⟩=some (V1 j2 1)):=Lh (ycell 1 (by omega));have G'1:Hid (w.cell? ⟨(b'.add (j2*6)).block,(b'.add (j2*6)).off+1,none⟩=some (V1' j2 1)):=Lh (ycell' 1 (by omega));have G2:Hid (w.cell? ⟨(b.add (j2*6)).block,(b.add (j2*6)).off+2,none⟩=some (V1 j2 2)):=Lh (ycell 2 (by omega));have G'2:Hid (w.cell? ⟨(b'.add (j2*6)).block,(b'.add (j2*6)).off+2,none⟩=some (V1' j2 2)):=Lh (ycell' 2 (by omega));have G3:Hid (w.cell? ⟨(b.add (j2*6)).block,(b.add (j2*6)).off+3,none⟩=some (V1 j2 3)):=Lh (ycell 3 (by omega));have G'3:Hid (w.cell? ⟨(b'.add (j2*6)).block,(b'.add (j2*6)).off+3,none⟩=some (V1' j2 3)):=Lh (ycell' 3 (by omega));have G4:Hid (w.cell? ⟨(b.add (j2*6)).block,(b.add (j2*6)).off+4,none⟩=some (V1 j2 4)):=Lh (ycell 4 (by omega));have G'4:Hid (w.cell? ⟨(b'.add (j2*6)).block,(b'.add (j2*6)).off+4,none⟩=some (V1' j2 4)):=Lh (ycell' 4 (by omega));have G5:Hid (w.cell? ⟨(b.add (j2*6)).block,(b.add (j2*6)).off+5,none⟩=some (V1 j2 5)):=Lh (ycell 5 (by omega));have G'5:Hid (w.cell? ⟨(b'.add (j2*6)).block,(b'.add (j2*6)).off+5,none⟩=some (V1' j2 5)):=Lh (ycell' 5 (by omega));have HE:=Lh (fun (W:World) (hW:Below w.heap.size w W)=>(by
      have:=zK7 g.2 g'.2 W w.heap.size _ _ (hgr.val.kept hW) (hgr'.val.kept hW) hW.size;rw [<- f1] at this;exact this:Calls Tryz.prog 135 #[.agg #[V1 j2 1,V1 j2 2,V1 j2 3,V1 j2 4,V1 j2 5],.agg #[V1' j2 1,V1' j2 2,V1' j2 3,V1' j2 4,V1' j2 5]] W (BP d1 W)))
     have HBB:=Lh hb;have HBB':=Lh hb';have i0:(gx.toList==gy.toList)=d0:=by (rw [f0,K.zt6]) <;> exact decide_eq_decide.2 Iff.rfl
     have i1:=f0.symm;clear hy hy' hgr hgr' ycell ycell' hg hg' hb hb' hs2 hs3 f0 f1 hgx hgy;go_wp2_with fail;refine za7 (fun W=>Below w.heap.size w W) hq2.out.2 (by kernel_rfl) ?_
     intro W hW _;have p2:=qcAp hW H1.out;have p3:=qcAp hW H1'.out;have r10:=qcAp hW G0.out;have r20:=qcAp hW G'0.out;have r11:∀ x:Past W,x.w.cell? ⟨(b.add (j2*6)).block,(b.add (j2*6)).off+1,none⟩=some (V1 j2 1):=fun x=>(pastc hW x hW.size (p:=⟨(b.add (j2*6)).block,(b.add (j2*6)).off+1,none⟩) (by rw [za1]; exact HBB.out)).trans G1.out;have r21:∀ x:Past W,x.w.cell? ⟨(b'.add (j2*6)).block,(b'.add (j2*6)).off+1,none⟩=some (V1' j2 1):=fun x=>(pastc hW x hW.size (p:=⟨(b'.add (j2*6)).block,(b'.add (j2*6)).off+1,none⟩) (by rw [za1]; exact HBB'.out)).trans G'1.out;have r12:∀ x:Past W,x.w.cell? ⟨(b.add (j2*6)).block,(b.add (j2*6)).off+2,none⟩=some (V1 j2 2):=fun x=>(pastc hW x hW.size (p:=⟨(b.add (j2*6)).block,(b.add (j2*6)).off+2,none⟩) (by rw [za1]; exact HBB.out)).trans G2.out;have r22:∀ x:Past W,x.w.cell? ⟨(b'.add (j2*6)).block,(b'.add (j2*6)).off+2,none⟩=some (V1' j2 2):=fun x=>(pastc hW x hW.size (p:=⟨(b'.add (j2*6)).block,(b'.add (j2*6)).off+2,none⟩) (by rw [za1]; exact HBB'.out)).trans G'2.out;have r13:∀ x:Past W,x.w.cell? ⟨(b.add (j2*6)).block,(b.add (j2*6)).off+3,none⟩=some (V1 j2 3):=fun x=>(pastc hW x hW.size (p:=⟨(b.add (j2*6)).block,(b.add (j2*6)).off+3,none⟩) (by rw [za1]; exact HBB.out)).trans G3.out;have r23:∀ x:Past W,x.w.cell? ⟨(b'.add (j2*6)).block,(b'.add (j2*6)).off+3,none⟩=some (V1' j2 3):=fun x=>(pastc hW x hW.size (p:=⟨(b'.add (j2*6)).block,(b'.add (j2*6)).off+3,none⟩) (by rw [za1]; exact HBB'.out)).trans G'3.out;have r14:∀ x:Past W,x.w.cell? ⟨(b.add (j2*6)).block,(b.add (j2*6)).off+4,none⟩=some (V1 j2 4):=fun x=>(pastc hW x hW.size (p:=⟨(b.add (j2*6)).block,(b.add (j2*6)).off+4,none⟩) (by rw [za1]; exact HBB.out)).trans G4.out;have r24:∀ x:Past W,x.w.cell? ⟨(b'.add (j2*6)).block,(b'.add (j2*6)).off+4,none⟩=some (V1' j2 4):=fun x=>(pastc hW x hW.size (p:=⟨(b'.add (j2*6)).block,(b'.add (j2*6)).off+4,none⟩) (by rw [za1]; exact HBB'.out)).trans G'4.out;have r15:∀ x:Past W,x.w.cell? ⟨(b.add (j2*6)).block,(b.add (j2*6)).off+5,none⟩=some (V1 j2 5):=fun x=>(pastc hW x hW.size (p:=⟨(b.add (j2*6)).block,(b.add (j2*6)).off+5,none⟩) (by rw [za1]; exact HBB.out)).trans G5.out;have r25:∀ x:Past W,x.w.cell? ⟨(b'.add (j2*6)).block,(b'.add (j2*6)).off+5,none⟩=some (V1' j2 5):=fun x=>(pastc hW x hW.size (p:=⟨(b'.add (j2*6)).block,(b'.add (j2*6)).off+5,none⟩) (by rw [za1]; exact HBB'.out)).trans G'5.out;have kE:∀ x:Past W,Calls Tryz.prog 135 #[.agg #[V1 j2 1,V1 j2 2,V1 j2 3,V1 j2 4,V1 j2 5],.agg #[V1' j2 1,V1' j2 2,V1' j2 3,V1' j2 4,V1' j2 5]] x.w fun e w''=>e=.returned (.bool d1)/\∃ y:Past W,w''=y.w:=fun x=>zh5 x (HE.out _ (hW.trans (x.b.mono hW.size)));have CE:=Lh kE;have HWW:=Lh hW;clear hW kE z1;by_cases hdd:(d0&&d1)=true
     ·rw [Bool.and_eq_true] at hdd
      obtain ⟨rfl,rfl⟩:=hdd
      repeat (go_big_quiet_step (with_reducible exact CE.out _))
      refine wpQuiet_nil ?_
      intro _ hw';obtain ⟨z,rfl⟩:=hw';go_wp2_with fail
      go_roundw
      case rel=>exact ⟨j2+1,by omega,by go_num,Lh ⟨by have:=HS2A.out; rw [hq2.out.1] at this; rw [this]; rfl,HWW.out.trans (z.b.mono HWW.out.size)⟩⟩
      case measure=>simp [intOf]; omega
     ·have hdf:(d0&&d1)=false:=by simpa using hdd
      have hb1f:b1=false:=by have:=HS2A.out; rw [hq2.out.1,hdf] at this; rw [this]; rfl
      subst hb1f;have hRF:R=false:=by have:=HST.out; rw [hq.out.1] at this; rw [this]; rfl
      subst hRF;clear hdd
      cases d0 with
      | false =>
        repeat (go_big_quiet_step (with_reducible exact CE.out _))
        refine wpQuiet_nil ?_
        intro _ hw';obtain ⟨z,rfl⟩:=hw';go_wp2_with fail;go_ret
        exact ⟨rfl,HWW.out.trans (z.b.mono HWW.out.size)⟩
      | true =>
        have hd1:d1=false:=by simpa using hdf
        subst hd1
        repeat (go_big_quiet_step (with_reducible exact CE.out _))
        refine wpQuiet_nil ?_
        intro _ hw';obtain ⟨z,rfl⟩:=hw';go_wp2_with fail;go_ret
        exact ⟨rfl,HWW.out.trans (z.b.mono HWW.out.size)⟩
    ·have hlt2':¬ (j2:Int)<la:=by omega
     have hb1t:b1=true:=by rw [<- hq2.out.1]; exact zn9 (by have:=HLA.out; omega) (by have:=HLB.out; omega)
     go_wp2_with fail
     go_roundw
     case rel=>exact ⟨j+1,by omega,by go_num,Lh ⟨by have:=HST.out; rw [hq.out.1,hb1t] at this; rw [this]; rfl,hq2.out.2⟩⟩
     case measure=>simp [intOf]; omega
  ·have hlt':¬ (j:Int)<ll:=by omega
   have hRT:R=true:=by rw [<- hq.out.1]; exact zn9 (by have:=HLL.out; omega) (by have:=HMM.out; omega)
   subst hRT;go_wp2_with fail;go_ret
   exact ⟨rfl,hq.out.2⟩
end Go.Proofs.YtfgelheiknmjgaaGreatDoor

