
/-
 Texts joined: Sd5 Ti NL RefNumber NB N1Arg N1Dir.
-/
import Derived.Test.YtfgelheiknmjgaaGreatDoorZt36
set_option maxRecDepth 1000000
set_option maxHeartbeats 8000000
namespace Go.Proofs.YtfgelheiknmjgaaGreatDoor
open Go.RowKit
theorem zK6 (l m:List DefT) (v v':Value) (w:World) (h:DefsR w w.heap.size v l) (h':DefsR w w.heap.size v' m) (hs:∀ x∈l,(∀ i∈x.inputs,i.tw.length<=17592186044416)/\∀ i∈x.fields,i.tw.length<=17592186044416/\∀ j∈i.args,j.tw.length<=17592186044416):Calls Tryz.prog 17 #[.agg #[v],.agg #[v']] w (BP (allS sDef l m) w):=by
 obtain ⟨A,c,rfl,hc,hbb,V,hA,hr⟩:=h;obtain ⟨A',c',rfl,hc',hbb',V',hA',hr'⟩:=h';obtain ⟨ll,hll⟩ : ∃ ll,ll=l.length:=⟨_,rfl⟩;obtain ⟨mm,hmm⟩ : ∃ mm,mm=m.length:=⟨_,rfl⟩;obtain ⟨R,hR⟩ : ∃ R,R=allS sDef l m:=⟨_,rfl⟩;have HLL:=Lh hll;have HMM:=Lh hmm;have HRX:=Lh hR;rw [<- hll] at hbb hA;rw [<- hmm] at hbb' hA';rw [<- hll, <- hmm, <- hR];have hlb:(ll:Int)<=140737488351232:=by unfold big at hbb; omega
 have hmb:(mm:Int)<=140737488351232:=by unfold big at hbb'; omega
 have HA:=Lh hA;have HRR:=Lh hr;have HA':=Lh hA';have HRR':=Lh hr';have HTW:=Lh hs;have HB:=Lh ((za0 w _).alloc (by simp) _:Below w.heap.size w ((w.alloc (.cells #[.slice A ll c] 24 (0,0))).alloc (.cells #[.slice A' mm c'] 24 (0,0))));have XA:Hid (Bk ((w.alloc (.cells #[.slice A ll c] 24 (0,0))).alloc (.cells #[.slice A' mm c'] 24 (0,0))) w.heap.size #[.slice A ll c] 24):=Lh ((Bk.new w _ _).stay (za0 _ _));have XB:Hid (Bk ((w.alloc (.cells #[.slice A ll c] 24 (0,0))).alloc (.cells #[.slice A' mm c'] 24 (0,0))) (w.heap.size+1) #[.slice A' mm c'] 24):=Lh (by
  have h:=Bk.new (w.alloc (.cells #[.slice A ll c] 24 (0,0))) #[.slice A' mm c'] 24
  rwa [show (w.alloc (.cells #[.slice A ll c] 24 (0,0))).heap.size=w.heap.size+1 by simp] at h)
 have y0:=XA.out.cell 0 _ rfl;have z0:=XB.out.cell 0 _ rfl;clear hA hr hA' hr' hll hmm hbb hbb' hc hc' hR hs;by_cases hnm:ll=mm;rotate_left
 ·have hRF:R=false:=by rw [HRX.out]; exact zm4 (by rw [<- HLL.out, <- HMM.out]; exact hnm)
  have hd:((ll:Int) != (mm:Int))=true:=by simp; omega
  subst hRF
  go_enter Tryz.func17, Tryz.ntmps17
  go_wp2_with fail
  go_ret
  exact ⟨rfl,HB.out⟩
 subst hnm;clear hmb
 go_enter Tryz.func17, Tryz.ntmps17
 go_wp2_with fail
 clear y0 z0
 go_loopw [5] (fun i wr=>∃ j:Nat,j<=ll/\i=.int .i64 j/\Hid (allS sDef (l.drop j) (m.drop j)=R/\Below w.heap.size w wr/\Bk wr w.heap.size #[.slice A ll c] 24 /\ Bk wr (w.heap.size+1) #[.slice A' ll c'] 24)) (fun i _=>ll-(intOf i).toNat)
 case atStart=>exact ⟨0,Nat.zero_le _,rfl,Lh ⟨by rw [List.drop_zero,List.drop_zero,HRX.out],HB.out,XA.out,XB.out⟩⟩
 case round =>
  obtain ⟨j,hj,rfl,hq⟩:=hrel;have y0:=hq.out.2.2.1.cell 0 _ rfl;have z0:=hq.out.2.2.2.cell 0 _ rfl;by_cases hlt:j<ll
  ·have hlt':(j:Int)<ll:=by omega
   obtain ⟨x,hx⟩ : ∃ x,l[j]?=some x:=⟨_,List.getElem?_eq_getElem (by have:=HLL.out; omega)⟩;obtain ⟨y,hy⟩ : ∃ y,m[j]?=some y:=⟨_,List.getElem?_eq_getElem (by have:=HMM.out; omega)⟩;obtain ⟨a,rfl,ha,hax⟩:=HA.out (by omega);obtain ⟨a',rfl,ha',hax'⟩:=HA'.out (by omega);have hxr:=HRR.out j x hx;have hyr:=HRR'.out j y hy;have hst:=zt3 (f:=sDef) hx hy;have hcell:=hax j hlt;have hcell':=hax' j hlt;have hm:=HTW.out x (List.mem_of_getElem? hx);obtain ⟨xi0,xs1,xA2,xl2,xc2,xA3,xl3,xc3,xA4,xl4,xc4,xA5,xl5,xc5,xA6,xl6,xc6,ex0,ex1,ex2,ex3,ex4,ex5,ex6⟩:=DefR.form3 hxr;obtain ⟨yi0,ys1,yA2,yl2,yc2,yA3,yl3,yc3,yA4,yl4,yc4,yA5,yl5,yc5,yA6,yl6,yc6,ey0,ey1,ey2,ey3,ey4,ey5,ey6⟩:=DefR.form3 hyr;obtain ⟨d0,f0⟩ : ∃ b:Bool,b=sDef x y:=⟨_,rfl⟩;rw [<- f0] at hst;have HST:=Lh hst;have G0:Hid (w.cell? (a.add (j*7))=some (.int .i64 xi0)):=Lh ((hcell 0 (by omega)).trans (by rw [ex0]));have G'0:Hid (w.cell? (a'.add (j*7))=some (.int .i64 yi0)):=Lh ((hcell' 0 (by omega)).trans (by rw [ey0]));have G1:Hid (w.cell? ⟨(a.add (j*7)).block,(a.add (j*7)).off+1,none⟩=some (.string xs1)):=Lh ((hcell 1 (by omega)).trans (by rw [ex1]));have G'1:Hid (w.cell? ⟨(a'.add (j*7)).block,(a'.add (j*7)).off+1,none⟩=some (.string ys1)):=Lh ((hcell' 1 (by omega)).trans (by rw [ey1]));have G2:Hid (w.cell? ⟨(a.add (j*7)).block,(a.add (j*7)).off+2,none⟩=some (.slice xA2 xl2 xc2)):=Lh ((hcell 2 (by omega)).trans (by rw [ex2]));have G'2:Hid (w.cell? ⟨(a'.add (j*7)).block,(a'.add (j*7)).off+2,none⟩=some (.slice yA2 yl2 yc2)):=Lh ((hcell' 2 (by omega)).trans (by rw [ey2]));have G3:Hid (w.cell? ⟨(a.add (j*7)).block,(a.add (j*7)).off+3,none⟩=some (.slice xA3 xl3 xc3)):=Lh ((hcell 3 (by omega)).trans (by rw [ex3]));have G'3:Hid (w.cell? ⟨(a'.add (j*7)).block,(a'.add (j*7)).off+3,none⟩=some (.slice yA3 yl3 yc3)):=Lh ((hcell' 3 (by omega)).trans (by rw [ey3]));have G4:Hid (w.cell? ⟨(a.add (j*7)).block,(a.add (j*7)).off+4,none⟩=some (.slice xA4 xl4 xc4)):=Lh ((hcell 4 (by omega)).trans (by rw [ex4]));have G'4:Hid (w.cell? ⟨(a'.add (j*7)).block,(a'.add (j*7)).off+4,none⟩=some (.slice yA4 yl4 yc4)):=Lh ((hcell' 4 (by omega)).trans (by rw [ey4]));have G5:Hid (w.cell? ⟨(a.add (j*7)).block,(a.add (j*7)).off+5,none⟩=some (.slice xA5 xl5 xc5)):=Lh ((hcell 5 (by omega)).trans (by rw [ex5]));have G'5:Hid (w.cell? ⟨(a'.add (j*7)).block,(a'.add (j*7)).off+5,none⟩=some (.slice yA5 yl5 yc5)):=Lh ((hcell' 5 (by omega)).trans (by rw [ey5]));have G6:Hid (w.cell? ⟨(a.add (j*7)).block,(a.add (j*7)).off+6,none⟩=some (.slice xA6 xl6 xc6)):=Lh ((hcell 6 (by omega)).trans (by rw [ex6]));have G'6:Hid (w.cell? ⟨(a'.add (j*7)).block,(a'.add (j*7)).off+6,none⟩=some (.slice yA6 yl6 yc6)):=Lh ((hcell' 6 (by omega)).trans (by rw [ey6]));have HE:Hid (∀ W:World,Below w.heap.size w W->Calls Tryz.prog 35 #[.agg #[.int .i64 xi0,.string xs1,.slice xA2 xl2 xc2,.slice xA3 xl3 xc3,.slice xA4 xl4 xc4,.slice xA5 xl5 xc5,.slice xA6 xl6 xc6],.agg #[.int .i64 yi0,.string ys1,.slice yA2 yl2 yc2,.slice yA3 yl3 yc3,.slice yA4 yl4 yc4,.slice yA5 yl5 yc5,.slice yA6 yl6 yc6]] W (BP d0 W)):=Lh fun W hW=>by
    have:=zK8 x y (V j) (V' j) W (DefR.stays.mono (DefR.stays.kept hxr hW) hW.size) (DefR.stays.mono (DefR.stays.kept hyr hW) hW.size) hm.1 hm.2;rw [<- f0,ex0,ey0,ex1,ey1,ex2,ey2,ex3,ey3,ex4,ey4,ex5,ey5,ex6,ey6] at this;exact this
   have HBB:=Lh ha;have HBB':=Lh ha';clear hx hy hax hax' hxr hyr hcell hcell' hst f0 ha ha' hm ex0 ey0 ex1 ey1 ex2 ey2 ex3 ey3 ex4 ey4 ex5 ey5 ex6 ey6;go_wp2_with fail;refine za7 (fun W=>Below w.heap.size w W/\Bk W w.heap.size #[.slice (some a) ll c] 24 /\ Bk W (w.heap.size+1) #[.slice (some a') ll c'] 24) hq.out.2 (by kernel_rfl) ?_
   intro W ⟨hW,hWD,hWE⟩ _;have x0:∀ x:Past W,x.w.cell? ⟨w.heap.size,0,none⟩=some (.slice (some a) ll c):=fun x=>(hWD.stay x.b).cell 0 _ rfl;have w0:∀ x:Past W,x.w.cell? ⟨w.heap.size+1,0,none⟩=some (.slice (some a') ll c'):=fun x=>(hWE.stay x.b).cell 0 _ rfl;have r10:=qcAp hW G0.out;have r20:=qcAp hW G'0.out;have r11:=qcAp hW G1.out;have r21:=qcAp hW G'1.out;have r12:=qcAp hW G2.out;have r22:=qcAp hW G'2.out;have r13:=qcAp hW G3.out;have r23:=qcAp hW G'3.out;have r14:=qcAp hW G4.out;have r24:=qcAp hW G'4.out;have r15:=qcAp hW G5.out;have r25:=qcAp hW G'5.out;have r16:=qcAp hW G6.out;have r26:=qcAp hW G'6.out;have kE:∀ x:Past W,Calls Tryz.prog 35 #[.agg #[.int .i64 xi0,.string xs1,.slice xA2 xl2 xc2,.slice xA3 xl3 xc3,.slice xA4 xl4 xc4,.slice xA5 xl5 xc5,.slice xA6 xl6 xc6],.agg #[.int .i64 yi0,.string ys1,.slice yA2 yl2 yc2,.slice yA3 yl3 yc3,.slice yA4 yl4 yc4,.slice yA5 yl5 yc5,.slice yA6 yl6 yc6]] x.w fun e w''=>e=.returned (.bool d0)/\∃ y:Past W,w''=y.w:=fun x=>zh5 x (HE.out _ (hW.trans (x.b.mono hW.size)));have CE:=Lh kE;have HWW:=Lh hW;have HWD:=Lh hWD;have HWE:=Lh hWE;clear hW kE hWD hWE y0 z0
   cases d0 with
   | false =>
     have hRF:R=false:=by have:=HST.out; rw [hq.out.1] at this; rw [this]; rfl
     subst hRF
     repeat (go_big_quiet_step (with_reducible exact CE.out _))
     refine wpQuiet_nil ?_
     intro _ hw';obtain ⟨z,rfl⟩:=hw';have HBZ:=Lh (HWW.out.trans (z.b.mono HWW.out.size));go_wp2_with fail;go_ret
     exact ⟨rfl,HBZ.out⟩
   | true =>
     repeat (go_big_quiet_step (with_reducible exact CE.out _))
     refine wpQuiet_nil ?_
     intro _ hw';obtain ⟨z,rfl⟩:=hw';have HBZ:=Lh (HWW.out.trans (z.b.mono HWW.out.size));go_wp2_with fail
     go_roundw
     case rel=>exact ⟨j+1,by omega,by go_num,Lh ⟨by have:=HST.out; rw [hq.out.1] at this; rw [this]; rfl,HBZ.out,HWD.out.stay z.b,HWE.out.stay z.b⟩⟩
     case measure=>simp [intOf]; omega
  ·have hlt':¬ (j:Int)<ll:=by omega
   have hRT:R=true:=by rw [<- hq.out.1]; exact zn9 (by have:=HLL.out; omega) (by have:=HMM.out; omega)
   subst hRT;go_wp2_with fail;go_ret
   exact ⟨rfl,hq.out.2.1⟩
theorem Rd.num {w:World} {B:Nat} {v:Value} {t:VT} (h:Rd w B v t):t.num:=by
 induction h with
 | mk V hk hn hs hks hli hlk hbi hbk hA hr hK ih =>
   rw [VT.num];refine ⟨hn,yj3 fun t ht=>?_⟩;obtain ⟨i,hi,e⟩:=List.getElem_of_mem ht;exact ih i t (by rw [List.getElem?_eq_getElem hi,e])
theorem Sl.mem {α:Type} {k bytes:Nat} {R:World->Nat->(Nat->Value)->α->Prop} {w:World} {B:Nat} {v:Value} {xs:List α} (h:Sl k bytes R w B v xs):∀ x∈xs, ∃ f,R w B f x:=fun x hx=>by
 obtain ⟨A,c,_,_,_,V,_,hr⟩:=h;obtain ⟨i,hi,e⟩:=List.getElem_of_mem hx;exact ⟨_,hr i x (by rw [List.getElem?_eq_getElem hi,e])⟩
theorem DirsR.num {w:World} {B:Nat} {v:Value} {l:List DirT} (h:DirsR w B v l):dirsN l:=fun d hd a ha=>by
 obtain ⟨f,hf⟩:=Sl.mem h d hd;obtain ⟨g,hg⟩:=Sl.mem hf.args a ha;exact hg.val.num
theorem InpR.num {w:World} {B:Nat} {f:Nat->Value} {x:InpT} (h:InpR w B f x):inpN x:=⟨h.val.num,DirsR.num h.dirs⟩
theorem DefsR.num {w:World} {B:Nat} {v:Value} {xs:List DefT} (h:DefsR w B v xs):∀ d∈xs,defN d:=fun d hd=>by
 obtain ⟨f,hf⟩:=Sl.mem h d hd;refine ⟨DirsR.num hf.dirs,fun x hx=>?_,fun x hx=>?_,fun x hx=>?_⟩
 ·obtain ⟨g,hg⟩:=Sl.mem hf.fields x hx
  exact ⟨fun i hi=>by
   obtain ⟨k,hk⟩:=Sl.mem hg.args i hi;exact hk.num,DirsR.num hg.dirs⟩
 ·obtain ⟨g,hg⟩:=Sl.mem hf.members x hx
  exact DirsR.num hg.dirs
 ·obtain ⟨g,hg⟩:=Sl.mem hf.inputs x hx
  exact hg.num
end Go.Proofs.YtfgelheiknmjgaaGreatDoor
namespace Go.Proofs.YtfgelheiknmjgaaGreatDoor.T1
open Go.RowKit
end Go.Proofs.YtfgelheiknmjgaaGreatDoor.T1
namespace Go.Proofs.YtfgelheiknmjgaaGreatDoor
open Go.RowKit
structure T1.LaidP (w:World):Prop where
 pow:Lib.TabIs Tryz.prog w "internal/strconv.uint64pow10" .u64 Lib.pow10Tab
theorem T1.decimalP_any (n:Int) (w:World) (hL:T1.LaidP w) (h0 : -9223372036854775808<=n) (h1:n<=9223372036854775807):Calls Tryz.prog 125 #[.int .i64 n] w fun e w'=>e=.returned (.string ⟨(Lib.itoa n).toArray⟩)/\Below w.heap.size w w':=by
 have hc:=Tryz.strconv_Itoa n h0 h1 w hL.pow;have HC:=Lh hc;clear hc h0 h1 hL
 go_enter Tryz.func125, Tryz.ntmps125
 go_wp2_with (go_at_call 173; refine HC.out.mono ?_; rintro e w' ⟨rfl,k,os,rfl⟩)
 go_ret
 exact ⟨rfl,Lib.below_grow _ _ (Nat.le_refl _) _ _⟩
abbrev pp (b:Nat):Value:=.pointer (some ⟨b,0,none⟩)
abbrev PAt (B b:Nat) (p:Value) (bs:List Value) (w:World):Prop:=Lib.BuilderAtF 77 5 B b p bs w
abbrev PB (B b:Nat) (l:List UInt8) (w:World):Prop:=Lib.IsBuilderF 77 5 B b (Lib.byteCells l) w
structure Wr (B b:Nat) (w w':World):Prop where
 below:Below B w w'
 others:Lib.OthersKept 5 (some b) w w'
theorem Wr.refl (B b:Nat) (w:World):Wr B b w w:=⟨Below.refl _ _,Lib.OthersKept.refl _ _ _⟩
theorem lies_pt:liesAt Tryz.prog Tryz.prog.depth 77 (2 / Tryz.prog.cellsOf 77) 0 75 1=true:=by kernel_rfl
theorem size_bu:((Tryz.prog.info? 75).map fun i=>decide (i.size≠0))=some true:=by kernel_rfl
theorem yp9 (B b:Nat) (bs:List Value) (w:World) (h:Lib.IsBuilderF 77 5 B b bs w) :
  Calls Tryz.prog 175 #[pp b] w fun e w'=>e=.returned (.tuple #[])/\PAt B b (pp b) bs w'/\Wr B b w w':=by
 obtain ⟨j,hj,hjs⟩:=Option.map_eq_some_iff.1 size_bu;rcases h with h | h
 ·have h0:=h.cell0
  have hf:=h.frozen0;have hs:=Lh h.shape;have HH:=Lh h;clear h
  go_enter Tryz.func175, Tryz.ntmps175
  go_wp2
  rw [Lib.run_to_unsafe w ⟨b,0,none⟩ Tryz.underlying72 Tryz.underlying223 hj (by simpa using hjs) hs.out (Nat.zero_lt_succ 1)];simp only [Result.andThen]
  rw [Oper.upon_value]
  go_wp2
  rw [run_callFunc_extern Tryz.func208 (by kernel_rfl) (by kernel_rfl) (by kernel_rfl) (e:=Extern.AbiNoEscape.same) (by kernel_rfl)];rw [Lib.run_noEscape];simp only [Result.andThen];rw [Oper.upon_value]
  go_wp2
  rw [Lib.run_from_unsafe w ⟨b,0,none⟩ Tryz.underlying223 Tryz.underlying72 hj hs.out lies_pt];simp only [Result.andThen];rw [Oper.upon_value]
  go_wp2
  go_end0
  exact ⟨rfl,HH.out.used _,(Below.refl B w).setCell (p:=⟨b,0,none⟩) HH.out.1 _,(Lib.OthersKept.refl _ _ w).setCell ⟨b,0,none⟩ rfl _⟩
 ·have h0:=h.cell0
  have HH:=Lh h;clear h
  go_enter Tryz.func175, Tryz.ntmps175
  go_wp2
  rw [Lib.run_neq_ptr_same w _ Tryz.underlying72 hj]
  go_wp2
  go_end0
  exact ⟨rfl,HH.out,Wr.refl _ _ _⟩
theorem Wr.trans {B b:Nat} {w w' w'':World} (h:Wr B b w w') (h2:Wr B b w' w''):Wr B b w w'':=⟨h.below.trans h2.below,h.others.trans h2.others⟩
theorem Wr.alloc {B b:Nat} {w w':World} (h:Wr B b w w') (hB:B<=w.heap.size) (o:Obj):Wr B b w (w'.alloc o):=⟨h.below.alloc (Nat.le_trans hB h.below.size) o,h.others.alloc o⟩
theorem yc0 (B b:Nat) (l:List UInt8) (s:ByteArray) (w:World) (h:PB B b l w) (hl:l.length+s.size<=140737488355328) (hB:B<=w.heap.size) :
  Calls Tryz.prog 129 #[pp b,.string s] w fun e w'=>e=.returned (.tuple #[.int .i64 s.size,.nilIface])/\PB B b (l++bL s) w'/\Wr B b w w':=by
 obtain ⟨i0,hi,hz0,hz1,hz2⟩:=info_parts T1.info5;have CH:=Lh (yp9 B b (Lib.byteCells l) w h)
 go_enter Tryz.func129, Tryz.ntmps129
 go_wp2_with fail
 refine CH.out.mono ?_
 rintro e w1 ⟨rfl,hp1,hw1⟩;have HW1:=Lh hw1;have hs1:=hw1.below.size;clear hw1 CH;obtain ⟨hBb,v,hbk,hown,hne⟩:=hp1;have HBK:=Lh hbk;have HOW:=Lh hown;have HNE:=Lh hne;have c1:w1.cell? ⟨b,1,none⟩=some v:=by rw [Lib.cell_of_heap hbk]; rfl
 have hlb:(Lib.byteCells l).length=l.length:=Lib.byteCells_length l;clear hbk hown hne;go_wp2_with (at_builtin; refine Lib.wpList_append_own_stringF _ rfl _ _ 73 9 rfl B 5 i0 Tryz.underlying73 Tryz.underlying9 hi hz0 hz1 hz2 _ _ _ rfl HOW.out s rfl ?_ ?_ ?_ ?_)
 ·rw [hlb]; unfold maxLen; omega
 ·rw [hlb]; omega
 ·omega
 ·intro v' w2 ho2 hg2 _
  have HO2:=Lh ho2;have HG2:=Lh hg2;have hbl:b<w1.heap.size:=Bk.lt HBK.out;have hb2:Bk w2 b #[pp b,v] 77 := (hg2.block b hbl (fun e=>HNE.out e.symm)).trans HBK.out;have HB2:=Lh hb2;have d1:=hb2.cell 1 v rfl;have d0:=hb2.cell 0 _ rfl;have f1:=hb2.frz 1;obtain ⟨a2,n2,c2,rfl⟩ : ∃ a2 n2 c2,v'=.slice a2 n2 c2:=by
   rcases ho2.2 with ⟨hv,_⟩ | ⟨g,cap,cur,fz,hv,_⟩
   ·exact ⟨_,_,_,hv⟩
   ·exact ⟨_,_,_,hv⟩
  clear ho2 hg2 hb2 hbl;go_wp2_with fail
  go_ret2
  have e1:Lib.byteCells l++Lib.strCells s=Lib.byteCells (l++bL s):=by simp [Lib.byteCells,Lib.strCells,bL]
  refine ⟨rfl,.inr ?_,HW1.out.below.trans ?_,HW1.out.others.trans ?_⟩
  ·rw [<- e1]
   exact Lib.BuilderAtF.put hBb HB2.out (by have:=HO2.out; rw [List.length_append,Lib.strCells_length,hlb]; exact this) (by decide)
  ·exact ((Below.refl B w1).grown HG2.out (by omega) (fun k hk=>(HOW.out.lt k hk).1)).setCell (p:=⟨b,1,none⟩) hBb _
  ·exact ((Lib.OthersKept.refl _ _ w1).grown HG2.out (Lib.ownsRowF_kind HOW.out)).setCell ⟨b,1,none⟩ rfl _
theorem PB.alloc {B b:Nat} {l:List UInt8} {w:World} (h:PB B b l w) (o:Obj):PB B b l (w.alloc o):=h.imp (fun x=>x.alloc o) (fun x=>x.alloc o)
theorem PB.lt {B b:Nat} {l:List UInt8} {w:World} (h:PB B b l w):b<w.heap.size:=h.elim (fun x=>x.lt) (fun x=>x.lt)
theorem PB.kept {B b:Nat} {l:List UInt8} {w w':World} (h:PB B b l w) (hb:Below w.heap.size w w'):PB B b l w':=by
 have key:∀ {p:Value},PAt B b p (Lib.byteCells l) w->PAt B b p (Lib.byteCells l) w':=by
  intro p h;have hlt:=h.lt;obtain ⟨hB,v,hbk,hown,hne⟩:=h;refine ⟨hB,v,(hb.block b hlt).trans hbk,⟨hown.1,hown.2.imp id ?_⟩,hne⟩;rintro ⟨g,cap,cur,fz,e1,e2,e3,r⟩;have hg:g<w.heap.size:=by
   rcases Nat.lt_or_ge g w.heap.size with h' | h'
   ·exact h'
   ·rw [Array.getElem?_eq_none h'] at e3; cases e3
  exact ⟨g,cap,cur,fz,e1,e2,(hb.block g hg).trans e3,r⟩
 exact h.imp key key
theorem Bk.wr {W W':World} {B b k:Nat} {cs:Array Value} {T:TypeId} (h:Bk W k cs T) (hw:Wr B b W W') (hk:k≠b) (hT:T ≠ 5):Bk W' k cs T :=
 hw.others k _ h (fun e=>hk (Option.some.inj e)) (fun c fz e=>by injection e with _ e2 _; exact absurd e2 hT)
def LaidB (B:Nat) (w:World):Prop:=∀ w',Below B w w'->T1.LaidP w'
theorem LaidB.kept {B:Nat} {w w':World} (h:LaidB B w) (hb:Below B w w'):LaidB B w':=fun w2 h2=>h w2 (hb.trans h2)
theorem LaidB.is {B:Nat} {w:World} (h:LaidB B w):T1.LaidP w:=h w (Below.refl _ _)
def PP (B b:Nat) (l a:List UInt8) (w:World) (e:Ending) (w':World):Prop:=e=.returned (.tuple #[])/\PB B b (l++a) w'/\Wr B b w w'
theorem zN1 {xs:List ByteArray} {i:Nat} {s:ByteArray} (h:xs[i]?=some s):((xs.take (i+1)).map bL).flatten=((xs.take i).map bL).flatten++bL s:=by
 rw [zG2 h,List.map_append,List.flatten_append]; simp
theorem flat_le (xs:List ByteArray) (i:Nat):((xs.take i).map bL).flatten.length<=(xs.map bL).flatten.length:=by
 have:(xs.map bL).flatten=((xs.take i).map bL).flatten++((xs.drop i).map bL).flatten:=by rw [<- List.flatten_append, <- List.map_append,List.take_append_drop]
 rw [this,List.length_append]; omega
theorem zQ1 (ps:List ByteArray) (B b r:Nat) (l:List UInt8) (w:World) (hr:Bk w r (ps.map Value.string).toArray 9) (hrb:r≠b) (h:PB B b l w) (n:Nat) (hn:ps.length=n) (hs:n<=100000)
  (hl:l.length+(ps.map bL).flatten.length<=140737488355328) (hB:B<=w.heap.size) :
  Calls Tryz.prog 61 #[pp b,.slice (some ⟨r,0,none⟩) n n] w (PP B b l (ps.map bL).flatten w):=by
 have HR:=Lh hr;have HP:=Lh h;have HN:=Lh hn;have HLL:=Lh hl;have hni:(n:Int)<=100000:=by omega
 clear hr h hn hl
 go_enter Tryz.func61, Tryz.ntmps61
 go_wp2_with fail
 go_loopw [8] (fun v wr=>∃ i:Nat,i<=n/\v=.int .i64 i/\Hid (PB B b (l++((ps.take i).map bL).flatten) wr/\Wr B b w wr)) (fun v _=>n-(intOf v).toNat)
 case atStart=>exact ⟨0,Nat.zero_le _,rfl,Lh ⟨by simpa using HP.out,Wr.refl _ _ _⟩⟩
 case round =>
  obtain ⟨i,hi,rfl,hr⟩:=hrel;by_cases hlt:i<n
  ·obtain ⟨s,hx⟩ : ∃ s,ps[i]?=some s:=⟨_,List.getElem?_eq_getElem (by rw [HN.out]; exact hlt)⟩
   have HX:=Lh hx;have c0:wr.cell? ⟨r,i,none⟩=some (.string s):=(HR.out.wr hr.out.2 hrb (by decide)).cell i (.string s) (by simp [hx]);have hsz:=hr.out.2.below.size;have hfl:=flat_le ps (i+1);rw [zN1 hx,List.length_append,za5] at hfl;have hll:=HLL.out;have CALL:=Lh (yc0 B b (l++((ps.take i).map bL).flatten) s wr hr.out.1 (by rw [List.length_append]; omega) (by omega));clear hx hfl hll;go_wp2_with fail;refine CALL.out.mono ?_
   rintro e w1 ⟨rfl,hp1,hw1⟩;have HP1:Hid (PB B b (l++((ps.take (i+1)).map bL).flatten) w1):=Lh (by rw [zN1 HX.out, <- List.append_assoc]; exact hp1);have HW1:=Lh (hr.out.2.trans hw1);clear hp1 hw1;go_wp2_with fail
   go_roundw
   case rel=>exact ⟨i+1,by omega,by go_num,Lh ⟨HP1.out,HW1.out⟩⟩
   case measure=>simp [intOf]; omega
  ·have:i=n:=by omega
   subst this;have HF:Hid (PB B b (l++(ps.map bL).flatten) wr):=Lh (by have:=hr.out.1; rwa [List.take_of_length_le (by rw [HN.out]; exact Nat.le_refl _)] at this);go_wp2_with fail
   go_end0
   exact ⟨rfl,HF.out,hr.out.2⟩
theorem PP.of {B b:Nat} {l a:List UInt8} {w w0:World} {e:Ending} {w':World} (h:PP B b l a w e w') (hw:Wr B b w0 w):PP B b l a w0 e w':=⟨h.1,h.2.1,hw.trans h.2.2⟩
theorem put1 (x:ByteArray) (B b r:Nat) (l:List UInt8) (w:World) (hr:w.heap.size=r) (h:PB B b l w) (hl:l.length+x.size<=140737488355328) (hB:B<=w.heap.size) :
  Calls Tryz.prog 61 #[pp b,.slice (some ⟨r,0,none⟩) 1 1] (w.alloc (.cells #[.string x] 9 (0,0))) (PP B b l (bL x) w):=by
 subst hr;have h1:=zQ1 [x] B b w.heap.size l _ (Bk.new w #[.string x] 9) (by have:=h.lt; omega) (h.alloc _) 1 rfl (by omega) (by simp [za5]; omega) (by simp; omega);refine h1.mono ?_
 intro e w' h2;have h3:=h2.of ((Wr.refl B b w).alloc hB _);simpa using h3
theorem put2 (x y:ByteArray) (B b r:Nat) (l:List UInt8) (w:World) (hr:w.heap.size=r) (h:PB B b l w) (hl:l.length+x.size+y.size<=140737488355328) (hB:B<=w.heap.size) :
  Calls Tryz.prog 61 #[pp b,.slice (some ⟨r,0,none⟩) 2 2] (w.alloc (.cells #[.string x,.string y] 9 (0,0))) (PP B b l (bL x++bL y) w):=by
 subst hr;have h1:=zQ1 [x,y] B b w.heap.size l _ (Bk.new w #[.string x,.string y] 9) (by have:=h.lt; omega) (h.alloc _) 2 rfl (by omega) (by simp [za5]; omega) (by simp; omega);refine h1.mono ?_
 intro e w' h2;have h3:=h2.of ((Wr.refl B b w).alloc hB _);simpa using h3
theorem put3 (x y z:ByteArray) (B b r:Nat) (l:List UInt8) (w:World) (hr:w.heap.size=r) (h:PB B b l w) (hl:l.length+x.size+y.size+z.size<=140737488355328) (hB:B<=w.heap.size) :
  Calls Tryz.prog 61 #[pp b,.slice (some ⟨r,0,none⟩) 3 3] (w.alloc (.cells #[.string x,.string y,.string z] 9 (0,0))) (PP B b l (bL x++(bL y++bL z)) w):=by
 subst hr;have h1:=zQ1 [x,y,z] B b w.heap.size l _ (Bk.new w #[.string x,.string y,.string z] 9) (by have:=h.lt; omega) (h.alloc _) 3 rfl (by omega) (by simp [za5]; omega) (by simp; omega);refine h1.mono ?_
 intro e w' h2;have h3:=h2.of ((Wr.refl B b w).alloc hB _);simpa using h3
def zg1 (B b:Nat) (W:World) (F:Nat) (v:Value) (a:List UInt8):Prop:=∀ l,PB B b l W->LaidB B W->l.length+a.length<=140737488355328->B<=W.heap.size->Calls Tryz.prog F #[pp b,v] W (PP B b l a W)
def ValR (w:World) (B:Nat) (f:Nat->Value) (x:VT):Prop:=Rd w B (.agg #[f 0,f 1,f 2,f 3,f 4]) x
def ValsR (w:World) (B:Nat) (v:Value) (xs:List VT):Prop :=
 ∃ A c,v=.slice A xs.length c/\True/\xs.length*80<=big/\∃ V:Nat->Nat->Value,
  (0<xs.length->∃ a,A=some a/\a.block<B/\∀ i,i<xs.length->∀ j,j<5->w.cell? (at_ (a.add (i*5)) j)=some (V i j))/\∀ i x,xs[i]?=some x->ValR w B (V i) x
theorem ValR.stays:Stays ValR:=⟨fun h hb=>Rd.kept h hb,fun h hb=>Rd.mono h hb⟩
theorem zY7 (B b:Nat) (xs:List (ByteArray × VT)) (tx:(ByteArray × VT)->List UInt8) (hF:∀ x∈xs, ∀ (f:Nat->Value) (W:World),ArgR W B f x->zg1 B b W 211 (.agg #[f 0,f 1,f 2,f 3,f 4,f 5]) (tx x))
  (sep:ByteArray) (v:Value) (l:List UInt8) (w:World) (h:ArgsR w B v xs) (hp:PB B b l w) (hL:LaidB B w) (hl:l.length+(jn (bL sep) (xs.map tx)).length<=140737488355328) (hB:B<=w.heap.size) :
  Calls Tryz.prog 210 #[pp b,v,.string sep,.func (.func 211) #[pp b] #[]] w (PP B b l (jn (bL sep) (xs.map tx)) w):=by
 obtain ⟨A,c,rfl,hc,hbg,V,hA,hr⟩:=h;unfold big at hbg;obtain ⟨len,hlen⟩ : ∃ len,xs.length=len:=⟨_,rfl⟩;rw [hlen] at hA hbg ⊢;have hlm:(len:Int)<=140737488351232:=by omega
 have HLEN:=Lh hlen;have HF:=Lh hF;have HA:=Lh hA;have HR:=Lh hr;have HP:=Lh hp;have HL:=Lh hL;have HLL:=Lh hl;have HBB:=Lh hB;clear hlen hF hA hr hp hL hl hc hbg
 go_enter Tryz.func210, Tryz.ntmps210
 go_wp2_with fail
 go_loopw [12] (fun u wr=>∃ i:Nat,i<=len/\u=.int .i64 i/\Hid (PB B b (l++jn (bL sep) ((xs.take i).map tx)) wr/\Wr B b w wr)) (fun u _=>len-(intOf u).toNat)
 case atStart=>exact ⟨0,Nat.zero_le _,rfl,Lh ⟨by simpa [jn] using HP.out,Wr.refl _ _ _⟩⟩
 case round =>
  obtain ⟨i,hi,rfl,hr⟩:=hrel;by_cases hlt:i<len
  ·obtain ⟨x,hxi⟩ : ∃ x,xs[i]?=some x:=⟨_,List.getElem?_eq_getElem (by rw [HLEN.out]; exact hlt)⟩
   have hlt':(i:Int)<len:=by omega
   have HXI:=Lh hxi;have hx:ArgR wr B (V i) x:=ArgR.stays.kept (HR.out i x hxi) hr.out.2.below;have HF1:=Lh (HF.out x (List.mem_of_getElem? hxi));obtain ⟨a,rfl,ha,hc0⟩:=HA.out (by omega);have hcc:∀ j,j<6->wr.cell? (at_ (a.add (i*6)) j)=some (V i j):=fun j hj=>(hr.out.2.below.cell (by rw [zb5,za1]; exact ha)).trans (hc0 i hlt j hj);have k0:wr.cell? (a.add (i*6))=some (V i 0):=hcc 0 (by omega);have k1:wr.cell? ⟨((a.add (i*6))).block,((a.add (i*6))).off+1,none⟩=some (V i 1):=hcc 1 (by omega);have k2:wr.cell? ⟨((a.add (i*6))).block,((a.add (i*6))).off+2,none⟩=some (V i 2):=hcc 2 (by omega);have k3:wr.cell? ⟨((a.add (i*6))).block,((a.add (i*6))).off+3,none⟩=some (V i 3):=hcc 3 (by omega);have k4:wr.cell? ⟨((a.add (i*6))).block,((a.add (i*6))).off+4,none⟩=some (V i 4):=hcc 4 (by omega);have k5:wr.cell? ⟨((a.add (i*6))).block,((a.add (i*6))).off+5,none⟩=some (V i 5):=hcc 5 (by omega);obtain ⟨k,n,s,VA,vli,vci,VK,vlk,vck,e1,e2,e3,e4,e5⟩:=Rd.form hx.val;have e0:=hx.name;rw [e0] at k0;rw [e1] at k1;rw [e2] at k2;rw [e3] at k3;rw [e4] at k4;rw [e5] at k5;have HX:=Lh hx;have HE:Hid (#[V i 0,V i 1,V i 2,V i 3,V i 4,V i 5]=#[.string x.1,.int .i64 k,.int .i64 n,.string s,.slice VA vli vci,.slice VK vlk vck]):=Lh (by rw [e0,e1,e2,e3,e4,e5]);clear hc0 hcc hx hxi e0 e1 e2 e3 e4 e5;have hsz:=hr.out.2.below.size;have HT:Hid ((xs.map tx)[i]?=some (tx x)):=Lh (by rw [List.getElem?_map,HXI.out]; rfl);have HST:=Lh (zh1 (bL sep) HT.out);have HTK:Hid (jn (bL sep) ((xs.take (i+1)).map tx)=jn (bL sep) ((xs.take i).map tx)++((if i=0 then [] else bL sep)++tx x)):=Lh (by
    rw [List.map_take,List.map_take]; exact zp8 (bL sep) HT.out)
   have HMT:Hid ((xs.map tx).take i=(xs.take i).map tx):=Lh (by rw [List.map_take]);have HB1:Hid (Wr B b w (wr.alloc (.cells #[.string x.1,.int .i64 k,.int .i64 n,.string s,.slice VA vli vci,.slice VK vlk vck] 88 (0,0)))):=Lh (hr.out.2.alloc HBB.out _);have HX1:Hid (ArgR (wr.alloc (.cells #[.string x.1,.int .i64 k,.int .i64 n,.string s,.slice VA vli vci,.slice VK vlk vck] 88 (0,0))) B (V i) x):=Lh (ArgR.stays.kept HX.out ((Below.refl B wr).alloc (by omega) _));have HP1:=Lh (hr.out.1.alloc (.cells #[.string x.1,.int .i64 k,.int .i64 n,.string s,.slice VA vli vci,.slice VK vlk vck] 88 (0,0)));have HK1:=Lh (Bk.new wr #[.string x.1,.int .i64 k,.int .i64 n,.string s,.slice VA vli vci,.slice VK vlk vck] 88);have hbw:=hr.out.1.lt;by_cases hi0:i=0
   ·have hi0':¬ (i:Int) > 0:=by omega
    have HI0:=Lh hi0;have CALL:=Lh (HF1.out (V i) _ HX1.out _ HP1.out (HL.out.kept HB1.out.below) (by
     have h1:=HST.out; rw [HMT.out,if_pos HI0.out] at h1; have h2:=HLL.out; simp only [List.length_append,List.length_nil] at h1 ⊢; omega) (Nat.le_trans HBB.out HB1.out.below.size))
    rw [HE.out] at CALL;clear hi0;go_wp2_with fail;refine CALL.out.mono ?_
    rintro e w5 ⟨rfl,hp5,hw5⟩;have HP5:Hid (PB B b (l++jn (bL sep) ((xs.take (i+1)).map tx)) w5):=Lh (by rw [HTK.out,if_pos HI0.out,List.nil_append, <- List.append_assoc]; exact hp5);have HW5:=Lh (HB1.out.trans hw5);clear hp5 hw5 CALL;go_wp2_with fail
    go_roundw
    case rel=>exact ⟨i+1,by omega,by go_num,Lh ⟨HP5.out,HW5.out⟩⟩
    case measure=>simp [intOf]; omega
   ·have hi0':(i:Int) > 0:=by omega
    have HI0:=Lh hi0;clear hi0;go_wp2_with fail;refine (put1 sep B b _ _ _ (by simp) HP1.out (by
     have h1:=HST.out; rw [HMT.out,if_neg HI0.out] at h1; have h2:=HLL.out; simp only [List.length_append,za5] at h1 h2 ⊢; omega) (Nat.le_trans HBB.out HB1.out.below.size)).mono ?_
    rintro e w4 ⟨rfl,hp4,hw4⟩;have HP4:=Lh hp4;have HW4:=Lh (HB1.out.trans hw4);have HX4:Hid (ArgR w4 B (V i) x):=Lh (ArgR.stays.kept HX1.out hw4.below);have hK4:Bk w4 wr.heap.size #[.string x.1,.int .i64 k,.int .i64 n,.string s,.slice VA vli vci,.slice VK vlk vck] 88 := HK1.out.wr hw4 (by omega) (by decide);have y0:=hK4.cell 0 _ rfl;have y1:=hK4.cell 1 _ rfl;have y2:=hK4.cell 2 _ rfl;have y3:=hK4.cell 3 _ rfl;have y4:=hK4.cell 4 _ rfl;have y5:=hK4.cell 5 _ rfl;clear hp4 hw4 hK4 k0 k1 k2 k3 k4 k5;have CALL:=Lh (HF1.out (V i) _ HX4.out _ HP4.out (HL.out.kept HW4.out.below) (by
     have h1:=HST.out; rw [HMT.out,if_neg HI0.out] at h1; have h2:=HLL.out; simp only [List.length_append] at h1 ⊢; omega) (Nat.le_trans HBB.out HW4.out.below.size))
    rw [HE.out] at CALL;go_wp2_with fail;refine CALL.out.mono ?_
    rintro e w5 ⟨rfl,hp5,hw5⟩;have HP5:Hid (PB B b (l++jn (bL sep) ((xs.take (i+1)).map tx)) w5):=Lh (by rw [HTK.out,if_neg HI0.out]; simpa only [List.append_assoc] using hp5);have HW5:=Lh (HW4.out.trans hw5);clear hp5 hw5 CALL y0 y1 y2 y3 y4 y5;go_wp2_with fail
    go_roundw
    case rel=>exact ⟨i+1,by omega,by go_num,Lh ⟨HP5.out,HW5.out⟩⟩
    case measure=>simp [intOf]; omega
  ·have:i=len:=by omega
   subst this;have HF:Hid (PB B b (l++jn (bL sep) (xs.map tx)) wr):=Lh (by have:=hr.out.1; rwa [List.take_of_length_le (by rw [HLEN.out]; exact Nat.le_refl _)] at this);go_wp2_with fail
   go_end0
   exact ⟨rfl,HF.out,hr.out.2⟩
theorem zY5 (B b:Nat) (xs:List DirT) (tx:DirT->List UInt8) (hF:∀ x∈xs, ∀ (f:Nat->Value) (W:World),DirR W B f x->zg1 B b W 178 (.agg #[f 0,f 1]) (tx x))
  (sep:ByteArray) (v:Value) (l:List UInt8) (w:World) (h:DirsR w B v xs) (hp:PB B b l w) (hL:LaidB B w) (hl:l.length+(jn (bL sep) (xs.map tx)).length<=140737488355328) (hB:B<=w.heap.size) :
  Calls Tryz.prog 177 #[pp b,v,.string sep,.func (.func 178) #[pp b] #[]] w (PP B b l (jn (bL sep) (xs.map tx)) w):=by
 obtain ⟨A,c,rfl,hc,hbg,V,hA,hr⟩:=h;unfold big at hbg;obtain ⟨len,hlen⟩ : ∃ len,xs.length=len:=⟨_,rfl⟩;rw [hlen] at hA hbg ⊢;have hlm:(len:Int)<=140737488351232:=by omega
 have HLEN:=Lh hlen;have HF:=Lh hF;have HA:=Lh hA;have HR:=Lh hr;have HP:=Lh hp;have HL:=Lh hL;have HLL:=Lh hl;have HBB:=Lh hB;clear hlen hF hA hr hp hL hl hc hbg
 go_enter Tryz.func177, Tryz.ntmps177
 go_wp2_with fail
 go_loopw [12] (fun u wr=>∃ i:Nat,i<=len/\u=.int .i64 i/\Hid (PB B b (l++jn (bL sep) ((xs.take i).map tx)) wr/\Wr B b w wr)) (fun u _=>len-(intOf u).toNat)
 case atStart=>exact ⟨0,Nat.zero_le _,rfl,Lh ⟨by simpa [jn] using HP.out,Wr.refl _ _ _⟩⟩
 case round =>
  obtain ⟨i,hi,rfl,hr⟩:=hrel;by_cases hlt:i<len
  ·obtain ⟨x,hxi⟩ : ∃ x,xs[i]?=some x:=⟨_,List.getElem?_eq_getElem (by rw [HLEN.out]; exact hlt)⟩
   have hlt':(i:Int)<len:=by omega
   have HXI:=Lh hxi;have hx:DirR wr B (V i) x:=DirR.stays.kept (HR.out i x hxi) hr.out.2.below;have HF1:=Lh (HF.out x (List.mem_of_getElem? hxi));obtain ⟨a,rfl,ha,hc0⟩:=HA.out (by omega);have hcc:∀ j,j<2->wr.cell? (at_ (a.add (i*2)) j)=some (V i j):=fun j hj=>(hr.out.2.below.cell (by rw [zb5,za1]; exact ha)).trans (hc0 i hlt j hj);have k0:wr.cell? (a.add (i*2))=some (V i 0):=hcc 0 (by omega);have k1:wr.cell? ⟨((a.add (i*2))).block,((a.add (i*2))).off+1,none⟩=some (V i 1):=hcc 1 (by omega);obtain ⟨A1,c1,e1,_,_⟩:=hx.args.form;have e0:=hx.name;rw [e0] at k0;rw [e1] at k1;have HX:=Lh hx;have HE:Hid (#[V i 0,V i 1]=#[.string x.name,.slice A1 x.args.length c1]):=Lh (by rw [e0,e1]);clear hc0 hcc hx hxi e0 e1;have hsz:=hr.out.2.below.size;have HT:Hid ((xs.map tx)[i]?=some (tx x)):=Lh (by rw [List.getElem?_map,HXI.out]; rfl);have HST:=Lh (zh1 (bL sep) HT.out);have HTK:Hid (jn (bL sep) ((xs.take (i+1)).map tx)=jn (bL sep) ((xs.take i).map tx)++((if i=0 then [] else bL sep)++tx x)):=Lh (by
    rw [List.map_take,List.map_take]; exact zp8 (bL sep) HT.out)
   have HMT:Hid ((xs.map tx).take i=(xs.take i).map tx):=Lh (by rw [List.map_take]);generalize x.args.length=n0 at k0 k1 HE;have HB1:Hid (Wr B b w (wr.alloc (.cells #[.string x.name,.slice A1 n0 c1] 85 (0,0)))):=Lh (hr.out.2.alloc HBB.out _);have HX1:Hid (DirR (wr.alloc (.cells #[.string x.name,.slice A1 n0 c1] 85 (0,0))) B (V i) x):=Lh (DirR.stays.kept HX.out ((Below.refl B wr).alloc (by omega) _));have HP1:=Lh (hr.out.1.alloc (.cells #[.string x.name,.slice A1 n0 c1] 85 (0,0)));have HK1:=Lh (Bk.new wr #[.string x.name,.slice A1 n0 c1] 85);have hbw:=hr.out.1.lt;by_cases hi0:i=0
   ·have hi0':¬ (i:Int) > 0:=by omega
    have HI0:=Lh hi0;have CALL:=Lh (HF1.out (V i) _ HX1.out _ HP1.out (HL.out.kept HB1.out.below) (by
     have h1:=HST.out; rw [HMT.out,if_pos HI0.out] at h1; have h2:=HLL.out; simp only [List.length_append,List.length_nil] at h1 ⊢; omega) (Nat.le_trans HBB.out HB1.out.below.size))
    rw [HE.out] at CALL;clear hi0;go_wp2_with fail;refine CALL.out.mono ?_
    rintro e w5 ⟨rfl,hp5,hw5⟩;have HP5:Hid (PB B b (l++jn (bL sep) ((xs.take (i+1)).map tx)) w5):=Lh (by rw [HTK.out,if_pos HI0.out,List.nil_append, <- List.append_assoc]; exact hp5);have HW5:=Lh (HB1.out.trans hw5);clear hp5 hw5 CALL;go_wp2_with fail
    go_roundw
    case rel=>exact ⟨i+1,by omega,by go_num,Lh ⟨HP5.out,HW5.out⟩⟩
    case measure=>simp [intOf]; omega
   ·have hi0':(i:Int) > 0:=by omega
    have HI0:=Lh hi0;clear hi0;go_wp2_with fail;refine (put1 sep B b _ _ _ (by simp) HP1.out (by
     have h1:=HST.out; rw [HMT.out,if_neg HI0.out] at h1; have h2:=HLL.out; simp only [List.length_append,za5] at h1 h2 ⊢; omega) (Nat.le_trans HBB.out HB1.out.below.size)).mono ?_
    rintro e w4 ⟨rfl,hp4,hw4⟩;have HP4:=Lh hp4;have HW4:=Lh (HB1.out.trans hw4);have HX4:Hid (DirR w4 B (V i) x):=Lh (DirR.stays.kept HX1.out hw4.below);have hK4:Bk w4 wr.heap.size #[.string x.name,.slice A1 n0 c1] 85 := HK1.out.wr hw4 (by omega) (by decide);obtain ⟨y0,y1⟩:=hK4.c2;clear hp4 hw4 hK4 k0 k1;have CALL:=Lh (HF1.out (V i) _ HX4.out _ HP4.out (HL.out.kept HW4.out.below) (by
     have h1:=HST.out; rw [HMT.out,if_neg HI0.out] at h1; have h2:=HLL.out; simp only [List.length_append] at h1 ⊢; omega) (Nat.le_trans HBB.out HW4.out.below.size))
    rw [HE.out] at CALL;go_wp2_with fail;refine CALL.out.mono ?_
    rintro e w5 ⟨rfl,hp5,hw5⟩;have HP5:Hid (PB B b (l++jn (bL sep) ((xs.take (i+1)).map tx)) w5):=Lh (by rw [HTK.out,if_neg HI0.out]; simpa only [List.append_assoc] using hp5);have HW5:=Lh (HW4.out.trans hw5);clear hp5 hw5 CALL y0 y1;go_wp2_with fail
    go_roundw
    case rel=>exact ⟨i+1,by omega,by go_num,Lh ⟨HP5.out,HW5.out⟩⟩
    case measure=>simp [intOf]; omega
  ·have:i=len:=by omega
   subst this;have HF:Hid (PB B b (l++jn (bL sep) (xs.map tx)) wr):=Lh (by have:=hr.out.1; rwa [List.take_of_length_le (by rw [HLEN.out]; exact Nat.le_refl _)] at this);go_wp2_with fail
   go_end0
   exact ⟨rfl,HF.out,hr.out.2⟩
end Go.Proofs.YtfgelheiknmjgaaGreatDoor

