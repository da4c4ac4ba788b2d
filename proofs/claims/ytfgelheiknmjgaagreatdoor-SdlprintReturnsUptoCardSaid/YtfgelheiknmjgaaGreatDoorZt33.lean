
/-
 Texts joined: W4 Tj Se Sf SbArg SbDir RCompare.
-/
import Derived.Test.YtfgelheiknmjgaaGreatDoorZt32
set_option maxRecDepth 1000000
set_option maxHeartbeats 8000000
namespace Go.Proofs.YtfgelheiknmjgaaGreatDoor
open Go.RowKit
theorem zJ3 (t:VT):zc0 true t=true->zc0 false t=t.closed:=by
 induction t using VT.ind with
 | h k n s is ks ih =>
   have hl:∀ (l:List VT),(∀ (i:Nat) (t:VT),l[i]?=some t->zc0 true t=true->zc0 false t=t.closed)->zj8 true l=true->zj8 false l=VT.closeds l:=by
    intro l
    induction l with
    | nil=>intro _ _; rw [zj8,VT.closeds]
    | cons t r ihr =>
      intro hm hw;rw [zj8,Bool.and_eq_true] at hw;rw [zj8,VT.closeds,hm 0 t rfl hw.1,ihr (fun i t h=>hm (i+1) t h) hw.2]
   intro hw;rw [zc0,Bool.and_eq_true] at hw;rw [zc0,VT.closed,hl is ih hw.2];have hn:nodeB false (.mk k n s is ks)=decide (k≠7):=by
    have h1:=hw.1;unfold nodeB keysB at h1 ⊢;by_cases e0:k=0
    ·subst e0; simpa using h1
    by_cases e1:k=1
    ·subst e1; simpa using h1
    by_cases e2:k=2
    ·subst e2; simpa using h1
    by_cases e3:k=3
    ·subst e3; simpa using h1
    by_cases e4:k=4
    ·subst e4; simpa using h1
    by_cases e5:k=5
    ·subst e5; simpa using h1
    by_cases e6:k=6
    ·subst e6
     simp at h1 ⊢
     exact ⟨h1.1,h1.2.2⟩
    by_cases e7:k=7
    ·subst e7; simp
    ·simp [e0,e1,e2,e3,e4,e5,e6,e7] at h1
   rw [hn,Bool.and_comm]
theorem lit_eq (t:VT):litOk t=(zd9 true t&&t.closed):=by
 unfold litOk
 cases h:zd9 true t with
 | false=>rfl
 | true =>
   rw [Bool.true_and,Bool.true_and];unfold zd9 at h ⊢;simp only [Bool.and_eq_true] at h;rw [h.1.1,h.1.2,zJ3 t h.2]; rfl
theorem null_eq (t:VT):dflOk false t=nulB t:=by
 obtain ⟨k,n,s,is,ks⟩:=t;show (decide (k=0)&&zd9 false (.mk k n s is ks))=(decide (k=0)&&(decide (n=0)&&(decide (s.size=0)&&(decide (is.length=0)&&decide (ks.length=0)))));by_cases hk:k=0
 ·subst hk
  rw [decide_eq_true rfl,Bool.true_and,Bool.true_and]
  cases is with
  | nil =>
    unfold zd9;rw [zc0,zj8];unfold nodeB leafB;simp [VT.size,VT.sizes,VT.depth,VT.depths];cases decide (n=0) <;> cases decide (s=ByteArray.empty) <;> cases decide (ks=[]) <;> rfl
  | cons a r =>
    unfold zd9;rw [zc0];unfold nodeB leafB;simp
 ·rw [decide_eq_false hk]; rfl
theorem zv5 {α:Type} (a b:Nat) (xs:List α) (p : α->Bool):inB a b xs p=ltB a b xs p:=by
 unfold inB ltB;rw [Bool.and_assoc]
 congr 1
 ·exact decide_eq_decide.2 (by omega)
 ·congr 1
  exact decide_eq_decide.2 (by omega)
theorem inB_zero {α:Type} (xs:List α) (p : α->Bool):inB 0 0 xs p=decide (xs.length=0):=by
 cases xs with
 | nil=>simp [inB]
 | cons a r=>simp [inB]; omega
theorem arg_eq:argOk=zu5:=by funext x; unfold argOk zu5; rw [lit_eq]
theorem dir_eq:dirOk=zu3:=by
 funext x
 unfold dirOk zu3;have h:=zv5 0 16 x.args argOk;rw [show inB 0 16 x.args argOk=_ from h,arg_eq];unfold ltB;simp
theorem zI1:zv9=zd3:=by
 funext l
 unfold zv9 zd3;rw [show inB 0 16 l dirOk=_ from zv5 0 16 l dirOk,dir_eq]
theorem dfl_eq (has:Bool) (t:VT):dflOk has t=if has then zd9 true t&&t.closed else nulB t:=by
 cases has with
 | true=>exact lit_eq t
 | false=>exact null_eq t
theorem inp_eq:inpOk=zo4:=by
 funext x
 unfold inpOk zo4;rw [zI1,dfl_eq]
 congr 2
 exact Bool.and_comm _ _
theorem inps_eq:ym6=zg5:=by
 funext l
 unfold ym6 zg5;rw [show inB 0 16 l inpOk=_ from zv5 0 16 l inpOk,inp_eq]
theorem fld_eq:fldOk=zo5:=by funext x; unfold fldOk zo5; rw [zI1,inps_eq]
theorem memU_eq:zr7=zj3 true:=by
 funext x
 unfold zr7 zj3
 congr 1
 by_cases h:x.dirs.length=0
 ·have e:x.dirs=[]:=List.length_eq_zero_iff.1 h
  rw [e]; decide
 ·have h2:0<x.dirs.length:=by omega
  rw [decide_eq_false h,decide_eq_true h2]; simp
theorem memE_eq:zv1=zj3 false:=by
 funext x
 unfold zv1 zj3;rw [zI1]; simp
theorem def_eq:defOk=ze2:=by
 funext x
 unfold defOk ze2 zH0 zw4 zo7;rw [zI1]
 congr 2
 have h64:inB 0 64 x.impl nmA=(decide (x.impl.length<=64)&&x.impl.all nmA):=by rw [show inB 0 64 x.impl nmA=_ from zv5 0 64 x.impl nmA]; unfold ltB; simp
 have hf:inB 1 64 x.fields fldOk=zj9 x.fields:=by rw [show inB 1 64 x.fields fldOk=_ from zv5 1 64 _ _,fld_eq]; rfl
 have hmu:inB 1 64 x.members zr7=zf6 true x.members:=by rw [show inB 1 64 x.members zr7=_ from zv5 1 64 _ _,memU_eq]; rfl
 have hme:inB 1 64 x.members zv1=zf6 false x.members:=by rw [show inB 1 64 x.members zv1=_ from zv5 1 64 _ _,memE_eq]; rfl
 have hi:inB 1 16 x.inputs inpOk=(decide (x.inputs.length≠0)&&zg5 x.inputs):=by
  rw [show inB 1 16 x.inputs inpOk=_ from zv5 1 16 _ _,inp_eq];unfold zg5 ltB;simp only [Nat.zero_le,decide_true,Bool.true_and]
  congr 1
  exact decide_eq_decide.2 (by omega)
 have hz:x.impl.length=0->(decide (x.impl.length<=64)&&x.impl.all nmA)=true:=fun h=>by rw [List.length_eq_zero_iff.1 h]; rfl
 simp only [inB_zero,h64,hf,hmu,hme,hi]
 by_cases k1:x.kind=1
 ·simp only [k1,if_true,Bool.and_assoc]
 by_cases k2:x.kind=2
 ·simp only [k2,if_true]
  by_cases h:x.impl.length=0
  ·have:=hz h; simp only [Bool.and_eq_true] at this; simp [h,this.2]
  ·simp [h]
 by_cases k3:x.kind=3
 ·simp only [k3,if_true]
  by_cases h:x.impl.length=0
  ·have:=hz h; simp only [Bool.and_eq_true] at this; simp [h,this.2]
  ·simp [h]
 by_cases k4:x.kind=4
 ·simp only [k4,if_true]
  by_cases h:x.impl.length=0
  ·have:=hz h; simp only [Bool.and_eq_true] at this; simp [h,this.2]
  ·simp [h]
 by_cases k5:x.kind=5
 ·simp only [k5,if_true]
  by_cases h:x.impl.length=0
  ·have:=hz h; simp only [Bool.and_eq_true] at this; simp [h,this.2]
  ·simp [h]
 ·simp [k1,k2,k3,k4,k5]
theorem doc_eq (l:List DefT):docOk l=ltB 1 64 l ze2:=by
 unfold docOk;rw [show inB 1 64 l defOk=_ from zv5 1 64 l defOk,def_eq]
theorem yf3 (xs:List DefT):allS sDef xs xs=true:=zf3 fun x _=>yf6 x
theorem Sl.form3 {α:Type} {k bytes:Nat} {R:World->Nat->(Nat->Value)->α->Prop} {w:World} {B:Nat} {v:Value} {xs:List α} (h:Sl k bytes R w B v xs):∃ A l c,v=.slice A l c:=by
 obtain ⟨A,c,e,_⟩:=h;exact ⟨A,_,c,e⟩
theorem Rd.form5 {w:World} {B:Nat} {c0 c1 c2 c3 c4:Value} {t:VT} (h:Rd w B (.agg #[c0,c1,c2,c3,c4]) t):∃ (k n:Int) (s:ByteArray) (A:Option Addr) (l c:Nat) (K:Option Addr) (lk ck:Nat),c0=.int .i64 k/\c1=.int .i64 n/\c2=.string s/\c3=.slice A l c/\c4=.slice K lk ck:=by
 cases h
 exact ⟨_,_,_,_,_,_,_,_,_,rfl,rfl,rfl,rfl,rfl⟩
theorem InpR.form3 {w:World} {B:Nat} {f:Nat->Value} {x:InpT} (h:InpR w B f x):∃ (zs0:ByteArray) (zs1:ByteArray) (zA2:Option Addr) (zl2:Nat) (zc2:Nat) (zb3:Bool) (zi4:Int) (zi5:Int) (zs6:ByteArray) (zA7:Option Addr) (zl7:Nat) (zc7:Nat) (zA8:Option Addr) (zl8:Nat) (zc8:Nat) (zA9:Option Addr) (zl9:Nat) (zc9:Nat),f 0=.string zs0/\f 1=.string zs1/\f 2=.slice zA2 zl2 zc2/\f 3=.bool zb3/\f 4=.int .i64 zi4/\f 5=.int .i64 zi5/\f 6=.string zs6/\f 7=.slice zA7 zl7 zc7/\f 8=.slice zA8 zl8 zc8/\f 9=.slice zA9 zl9 zc9:=by
 obtain ⟨k,n,s,A,l,c,K,lk,ck,e1,e2,e3,e4,e5⟩:=h.val.form5;obtain ⟨A2,l2,c2,e6⟩:=Sl.form3 h.type.wraps;obtain ⟨A9,l9,c9,e9⟩:=Sl.form3 h.dirs;exact ⟨_,_,A2,l2,c2,_,k,n,s,A,l,c,K,lk,ck,A9,l9,c9,h.name,h.type.name,e6,h.has,e1,e2,e3,e4,e5,e9⟩
theorem FldR.form3 {w:World} {B:Nat} {f:Nat->Value} {x:FldT} (h:FldR w B f x):∃ (zs0:ByteArray) (zA1:Option Addr) (zl1:Nat) (zc1:Nat) (zs2:ByteArray) (zA3:Option Addr) (zl3:Nat) (zc3:Nat) (zA4:Option Addr) (zl4:Nat) (zc4:Nat),f 0=.string zs0/\f 1=.slice zA1 zl1 zc1/\f 2=.string zs2/\f 3=.slice zA3 zl3 zc3/\f 4=.slice zA4 zl4 zc4:=by
 obtain ⟨A1,l1,c1,e1⟩:=Sl.form3 h.args;obtain ⟨A2,l2,c2,e6⟩:=Sl.form3 h.type.wraps;obtain ⟨A9,l9,c9,e9⟩:=Sl.form3 h.dirs;exact ⟨_,A1,l1,c1,_,A2,l2,c2,A9,l9,c9,h.name,e1,h.type.name,e6,e9⟩
theorem DefR.form3 {w:World} {B:Nat} {f:Nat->Value} {x:DefT} (h:DefR w B f x):∃ (zi0:Int) (zs1:ByteArray) (zA2:Option Addr) (zl2:Nat) (zc2:Nat) (zA3:Option Addr) (zl3:Nat) (zc3:Nat) (zA4:Option Addr) (zl4:Nat) (zc4:Nat) (zA5:Option Addr) (zl5:Nat) (zc5:Nat) (zA6:Option Addr) (zl6:Nat) (zc6:Nat),f 0=.int .i64 zi0/\f 1=.string zs1/\f 2=.slice zA2 zl2 zc2/\f 3=.slice zA3 zl3 zc3/\f 4=.slice zA4 zl4 zc4/\f 5=.slice zA5 zl5 zc5/\f 6=.slice zA6 zl6 zc6:=by
 obtain ⟨A2,l2,c2,e2⟩:=Sl.form3 h.impl;obtain ⟨A3,l3,c3,e3⟩:=Sl.form3 h.dirs;obtain ⟨A4,l4,c4,e4⟩:=Sl.form3 h.fields;obtain ⟨A5,l5,c5,e5⟩:=Sl.form3 h.members;obtain ⟨A6,l6,c6,e6⟩:=Sl.form3 h.inputs;exact ⟨_,_,A2,l2,c2,A3,l3,c3,A4,l4,c4,A5,l5,c5,A6,l6,c6,h.kind,h.name,e2,e3,e4,e5,e6⟩
theorem zq3 {is:List VT} {ks:List ByteArray} {is':List VT} {ks':List ByteArray} {j:Nat} (h:j=min is.length is'.length):zf1 is ks is' ks' j=Lib.compareInt is.length is'.length:=by
 by_cases h1:j<is.length∨j<is'.length
 ·unfold zf1 Lib.compareInt
  by_cases h2:j<is.length
  ·rw [List.drop_eq_getElem_cons h2,List.drop_of_length_le (by omega:is'.length<=j),VT.cmps,if_neg (by omega),if_pos (by omega)]
  ·have h3:j<is'.length:=by omega
   rw [List.drop_of_length_le (by omega:is.length<=j),List.drop_eq_getElem_cons h3,VT.cmps,if_pos (by omega)]
 ·rw [zS3 (by omega) (by omega)]
  unfold Lib.compareInt;rw [if_neg (by omega),if_neg (by omega)]
theorem zg3 (y:Int):orE 0 y=y:=by unfold orE; rw [if_pos rfl]
theorem zl0 {x:Int} (y:Int) (h:x≠0):orE x y=x:=by unfold orE; rw [if_neg h]
theorem zH2 (x y z:Int):orE (orE x y) z=orE x (orE y z):=by
 unfold orE;by_cases h:x=0
 ·rw [if_pos h,if_pos h]
 ·rw [if_neg h,if_neg h,if_neg h]
theorem zL1 (t:VT):CmpAt 182 t:=by
 induction t using VT.ind with
 | h k n s items keys ih =>
 intro t' w B v v' h h' hB;have HRD:=Lh h;have HRD':=Lh h';have IH:=Lh ih;clear ih
 cases h with
 | @mk _ _ _ A li ci K lk ck _ _ V hk hn hs hks hli hlk hbi hbk hA hr hK =>
 cases h' with
 | @mk k' n' s' A' li' ci' K' lk' ck' items' keys' V' hk' hn' hs' hks' hli' hlk' hbi' hbk' hA' hr' hK' =>
 have HA:=Lh hA;have HR:=Lh hr;have HL:=Lh hli;have HA':=Lh hA';have HR':=Lh hr';have HL':=Lh hli';clear hA hr hA' hr' hli hli' hK hK' hks hks' hk hk' hn hn' hs hs' hlk hlk' hbk hbk';obtain ⟨f1,f2,f3⟩:=Box.two w (.int .i64 k) (.int .i64 n) (.string s) (.slice A li ci) (.slice K lk ck) (.int .i64 k') (.int .i64 n') (.string s') (.slice A' li' ci') (.slice K' lk' ck');have F1:=Lh f1;have F2:=Lh f2;have F3:=Lh f3;clear f1 f2 f3;have hlm:(li:Int)<=140737488351232:=by omega
 have hlm':(li':Int)<=140737488351232:=by omega
 have HE:Hid ((VT.mk k n s items keys).cmp (VT.mk k' n' s' items' keys')=orE (orE (Lib.compareInt k k') (orE (Lib.compareInt n n') (cmpB s s'))) (zf1 items keys items' keys' 0)):=Lh (by unfold VT.cmp; rw [<- zH2]; rfl);generalize (VT.mk k n s items keys).cmp (VT.mk k' n' s' items' keys')=res at *;by_cases e1:Lib.compareInt k k'=0
 ·have E1:Hid (Lib.compareInt k k'=0):=Lh e1
  have e1':(Lib.compareInt k k'==0)=true:=by simp [e1]
  clear e1;by_cases e2:Lib.compareInt n n'=0
  ·have HS:Hid (res=orE (cmpB s s') (zf1 items keys items' keys' 0)):=Lh (by rw [HE.out,E1.out,e2,zg3,zg3])
   have e2':(Lib.compareInt n n'==0)=true:=by simp [e2]
   clear e2
   go_enter Tryz.func182, Tryz.ntmps182
   go_wp2_with fail
   refine (zh8 _ _ _).mono ?_
   rintro e w' ⟨rfl,rfl⟩;go_wp2_with fail;refine (zh8 _ _ _).mono ?_
   rintro e w' ⟨rfl,rfl⟩;go_wp2_with fail;refine (zn1 _ _ _).mono ?_
   rintro e w' ⟨rfl,rfl⟩;go_wp2_with fail
   go_loopw [5,6] (fun o i wr=>∃ (j:Nat) (c:Int),j<=min li li'+1/\(c=0->j<=min li li')/\i=.int .i64 j/\o=.int .i64 c/\res=orE c (zf1 items keys items' keys' j)/\Below w.heap.size w wr /\
    Box wr w.heap.size (.int .i64 k) (.int .i64 n) (.string s) (.slice A li ci) (.slice K lk ck)/\Box wr (w.heap.size+1) (.int .i64 k') (.int .i64 n') (.string s') (.slice A' li' ci') (.slice K' lk' ck')) (fun _ i _=>min li li'+2-(intOf i).toNat)
   case atStart=>exact ⟨0,cmpB s s',Nat.zero_le _,fun _=>Nat.zero_le _,rfl,rfl,HS.out,F3.out,F1.out,F2.out⟩
   case round =>
    obtain ⟨j,c,hj,hjc,rfl,rfl,hres,hb,hx1,hx2⟩:=hrel;have HRES:=Lh hres;have HB:=Lh hb;have hl1:=hx1.lt;have hl2:=hx2.lt;have HX1:=Lh hx1;have HX2:=Lh hx2;obtain ⟨p0,p1,p2,p3,p4⟩:=hx1.cells;obtain ⟨q0,q1,q2,q3,q4⟩:=hx2.cells;clear hres hb hx1 hx2;by_cases hc:c=0
    ·subst hc
     have hj':j<=min li li':=hjc rfl;clear hjc;by_cases hlt:j<min li li'
     ·have h1:j<li:=by omega
      have h2:j<li':=by omega
      obtain ⟨a,t,k1,n1,s1,A1,li1,ci1,K1,lk1,ck1,rfl,ht,e,hrd,_,_,_,_,_⟩:=zj2 HA.out HR.out HL.out (Below.refl _ _) h1;obtain ⟨a',t',k1',n1',s1',A1',li1',ci1',K1',lk1',ck1',rfl,ht',e',hrd',_,_,_,_,_⟩:=zj2 HA'.out HR'.out HL'.out (Below.refl _ _) h2;have HC:Hid (C5 w (a.add (j*5)) (V j)):=Lh (by obtain ⟨_,e,_,h⟩:=HA.out (by omega); cases e; exact h j h1);have HC':Hid (C5 w (a'.add (j*5)) (V' j)):=Lh (by obtain ⟨_,e,_,h⟩:=HA'.out (by omega); cases e; exact h j h2);have hab:(a.add (j*5)).block<B:=by obtain ⟨_,e,h,_⟩:=HA.out (by omega); cases e; rw [za1]; exact h
      have hab':(a'.add (j*5)).block<B:=by obtain ⟨_,e,h,_⟩:=HA'.out (by omega); cases e; rw [za1]; exact h
      have HST:Hid (res=orE (cmpB (keyI keys j) (keyI keys' j)) (orE (t.cmp t') (zf1 items keys items' keys' (j+1)))):=Lh (by
       rw [HRES.out,zg3,zt2 (.inl (by have:=HL.out; omega))];unfold zC2;rw [ht,ht', <- zH2])
      have IHH:=Lh (IH.out j t ht t');have E:=Lh e;have E':=Lh e';have HT:=Lh hrd;have HT':=Lh hrd';clear e e' hrd hrd' ht ht';go_wp2_with fail;refine za7 (fun W=>Box W w.heap.size (.int .i64 k) (.int .i64 n) (.string s) (.slice (some a) li ci) (.slice K lk ck)/\Box W (w.heap.size+1) (.int .i64 k') (.int .i64 n') (.string s') (.slice (some a') li' ci') (.slice K' lk' ck')/\Below w.heap.size w W) ⟨HX1.out,HX2.out,HB.out⟩ (by kernel_rfl) ?_
      clear p0 p1 p2 p3 p4 q0 q1 q2 q3 q4;intro W ⟨f1,f2,f3⟩ _;obtain ⟨p0,p1,p2,p3,p4⟩:=f1.past;obtain ⟨q0,q1,q2,q3,q4⟩:=f2.past;have G1:=Lh f1;have G2:=Lh f2;have G3:=Lh f3;clear f1 f2 f3;have C1:Hid (∀ x:Past W,Calls Tryz.prog 217 #[.agg #[.int .i64 k,.int .i64 n,.string s,.slice (some a) li ci,.slice K lk ck],.int .i64 j] x.w fun e w''=>e=.returned (.string (keyI keys j))/\∃ y:Past W,w''=y.w) :=
       Lh fun x=>zh5 x (zq9 _ j _ W.heap.size _ (((HRD.out.mono hB).kept G3.out).kept (x.b.mono G3.out.size) |>.mono G3.out.size) x.le (by omega))
      have C2:Hid (∀ x:Past W,Calls Tryz.prog 217 #[.agg #[.int .i64 k',.int .i64 n',.string s',.slice (some a') li' ci',.slice K' lk' ck'],.int .i64 j] x.w fun e w''=>e=.returned (.string (keyI keys' j))/\∃ y:Past W,w''=y.w) :=
       Lh fun x=>zh5 x (zq9 _ j _ W.heap.size _ (((HRD'.out.mono hB).kept G3.out).kept (x.b.mono G3.out.size) |>.mono G3.out.size) x.le (by omega))
      generalize keyI keys j=y at *;generalize keyI keys' j=y' at *;have C3:Hid (∀ x:Past W,Calls Tryz.prog 216 #[.string y,.string y'] x.w fun e w''=>e=.returned (.int .i64 (cmpB y y'))/\∃ y:Past W,w''=y.w) :=
       Lh fun x=>zB3 x (zn1 y y' x.w)
      repeat (go_big_quiet_step (first | with_reducible exact C1.out _ | with_reducible exact C2.out _ | with_reducible exact C3.out _))
      refine wpQuiet_nil ?_
      intro _ hw';obtain ⟨x,rfl⟩:=hw';have HBx:=Lh (G3.out.trans (x.b.mono G3.out.size));have HX1':=Lh (G1.out.kept x.b);have HX2':=Lh (G2.out.kept x.b);clear p0 p1 p2 p3 p4 q0 q1 q2 q3 q4;generalize x.w=wx at *;generalize cmpB y y'=c1 at *;by_cases hc:c1=0
      ·subst hc
       have HST2:Hid (res=orE (t.cmp t') (zf1 items keys items' keys' (j+1))):=Lh (by rw [HST.out,zg3]);go_wp2_with fail
       refine za7 (fun W=>Box W w.heap.size (.int .i64 k) (.int .i64 n) (.string s) (.slice (some a) li ci) (.slice K lk ck)/\Box W (w.heap.size+1) (.int .i64 k') (.int .i64 n') (.string s') (.slice (some a') li' ci') (.slice K' lk' ck')/\Below w.heap.size w W) ⟨HX1'.out,HX2'.out,HBx.out⟩ (by kernel_rfl) ?_
       intro W2 ⟨f1,f2,f3⟩ _;obtain ⟨p0,p1,p2,p3,p4⟩:=f1.past;obtain ⟨q0,q1,q2,q3,q4⟩:=f2.past;obtain ⟨r0,r1,r2,r3,r4⟩:=(HC.out.kept (by omega) f3).past E.out (Nat.lt_of_lt_of_le (Nat.lt_of_lt_of_le hab hB) f3.size);obtain ⟨u0,u1,u2,u3,u4⟩:=(HC'.out.kept (by omega) f3).past E'.out (Nat.lt_of_lt_of_le (Nat.lt_of_lt_of_le hab' hB) f3.size);have Z1:=Lh f1;have Z2:=Lh f2;have Z3:=Lh f3;clear f1 f2 f3;have C4:Hid (∀ x:Past W2,Calls Tryz.prog 182 #[.agg #[.int .i64 k1,.int .i64 n1,.string s1,.slice A1 li1 ci1,.slice K1 lk1 ck1],.agg #[.int .i64 k1',.int .i64 n1',.string s1',.slice A1' li1' ci1',.slice K1' lk1' ck1']] x.w fun e w''=>e=.returned (.int .i64 (t.cmp t'))/\∃ y:Past W2,w''=y.w) :=
        Lh fun x=>zh5 x (by
         have g:=Z3.out.trans (x.b.mono Z3.out.size);have:=IHH.out x.w B (V j) (V' j) (HT.out.kept (g.mono hB)) (HT'.out.kept (g.mono hB)) (Nat.le_trans hB g.size)
         rwa [E.out,E'.out] at this)
       have hi0:(0:Int)<=(j:Int):=by omega
       have hi1:(j:Int)<(li:Int):=by omega
       have hi2:(j:Int)<(li':Int):=by omega
       repeat (go_big_quiet_step (with_reducible exact C4.out _))
       refine wpQuiet_nil ?_
       intro _ hw';obtain ⟨x,rfl⟩:=hw';have HBy:=Lh (Z3.out.trans (x.b.mono Z3.out.size));have HY1:=Lh (Z1.out.kept x.b);have HY2:=Lh (Z2.out.kept x.b);clear p0 p1 p2 p3 p4 q0 q1 q2 q3 q4 r0 r1 r2 r3 r4 u0 u1 u2 u3 u4;generalize x.w=wy at *;go_wp2_with fail
       go_roundw
       case rel=>exact ⟨j+1,t.cmp t',by omega,fun _=>by omega,by go_num,rfl,HST2.out,HBy.out,HY1.out,HY2.out⟩
       case measure=>simp [intOf]; omega
      ·have hc':(c1==0)=false:=by simp [hc]
       have HST2:Hid (res=orE c1 (zf1 items keys items' keys' (j+1))):=Lh (by rw [HST.out,zl0 _ hc,zl0 _ hc]);have HCN:=Lh hc;clear hc;go_wp2_with fail
       go_roundw
       case rel=>exact ⟨j+1,c1,by omega,fun h=>absurd h HCN.out,by go_num,rfl,HST2.out,HBx.out,HX1'.out,HX2'.out⟩
       case measure=>simp [intOf]; omega
     ·have hj2:j=min items.length items'.length:=by have:=HL.out; have:=HL'.out; omega
      have HJ:Hid (res=Lib.compareInt li li'):=Lh (by rw [HRES.out,zg3,zq3 hj2,HL.out,HL'.out]);clear hj2;by_cases h1:li<=j
      ·have h1':(li:Int)<=(j:Int):=by omega
       have hd:decide (li<=j)=true:=by simpa using h1
       go_wp2_with fail
       refine (zh8 _ _ _).mono ?_
       rintro e w' ⟨rfl,rfl⟩;go_wp2_with fail;go_ret
       exact ⟨by rw [HJ.out]; rfl,HB.out⟩
      ·have h2:li'<=j:=by omega
       have h2':(li':Int)<=(j:Int):=by omega
       have hd:decide (li<=j)=false:=by simpa using h1
       have hd2:decide (li'<=j)=true:=by simpa using h2
       go_wp2_with fail
       refine (zh8 _ _ _).mono ?_
       rintro e w' ⟨rfl,rfl⟩;go_wp2_with fail;go_ret
       exact ⟨by rw [HJ.out]; rfl,HB.out⟩
    ·have hc':(c==0)=false:=by simp [hc]
     have HR2:Hid (res=c):=Lh (by rw [HRES.out,zl0 _ hc]);clear hc hjc;go_wp2_with fail;go_ret
     exact ⟨by rw [HR2.out]; rfl,HB.out⟩
  ·have HS:Hid (res=orE (Lib.compareInt n n') (zf1 items keys items' keys' 0)):=Lh (by rw [HE.out,E1.out,zg3,zl0 _ e2])
   have e2':(Lib.compareInt n n'==0)=false:=by simp [e2]
   clear e2
   go_enter Tryz.func182, Tryz.ntmps182
   go_wp2_with fail
   refine (zh8 _ _ _).mono ?_
   rintro e w' ⟨rfl,rfl⟩;go_wp2_with fail;refine (zh8 _ _ _).mono ?_
   rintro e w' ⟨rfl,rfl⟩;go_wp2_with fail
   go_loopw [5,6] (fun o i wr=>∃ (j:Nat) (c:Int),j<=min li li'+1/\(c=0->j<=min li li')/\i=.int .i64 j/\o=.int .i64 c/\res=orE c (zf1 items keys items' keys' j)/\Below w.heap.size w wr /\
    Box wr w.heap.size (.int .i64 k) (.int .i64 n) (.string s) (.slice A li ci) (.slice K lk ck)/\Box wr (w.heap.size+1) (.int .i64 k') (.int .i64 n') (.string s') (.slice A' li' ci') (.slice K' lk' ck')) (fun _ i _=>min li li'+2-(intOf i).toNat)
   case atStart=>exact ⟨0,Lib.compareInt n n',Nat.zero_le _,fun _=>Nat.zero_le _,rfl,rfl,HS.out,F3.out,F1.out,F2.out⟩
   case round =>
    obtain ⟨j,c,hj,hjc,rfl,rfl,hres,hb,hx1,hx2⟩:=hrel;have HRES:=Lh hres;have HB:=Lh hb;have hl1:=hx1.lt;have hl2:=hx2.lt;have HX1:=Lh hx1;have HX2:=Lh hx2;obtain ⟨p0,p1,p2,p3,p4⟩:=hx1.cells;obtain ⟨q0,q1,q2,q3,q4⟩:=hx2.cells;clear hres hb hx1 hx2;by_cases hc:c=0
    ·subst hc
     have hj':j<=min li li':=hjc rfl;clear hjc;by_cases hlt:j<min li li'
     ·have h1:j<li:=by omega
      have h2:j<li':=by omega
      obtain ⟨a,t,k1,n1,s1,A1,li1,ci1,K1,lk1,ck1,rfl,ht,e,hrd,_,_,_,_,_⟩:=zj2 HA.out HR.out HL.out (Below.refl _ _) h1;obtain ⟨a',t',k1',n1',s1',A1',li1',ci1',K1',lk1',ck1',rfl,ht',e',hrd',_,_,_,_,_⟩:=zj2 HA'.out HR'.out HL'.out (Below.refl _ _) h2;have HC:Hid (C5 w (a.add (j*5)) (V j)):=Lh (by obtain ⟨_,e,_,h⟩:=HA.out (by omega); cases e; exact h j h1);have HC':Hid (C5 w (a'.add (j*5)) (V' j)):=Lh (by obtain ⟨_,e,_,h⟩:=HA'.out (by omega); cases e; exact h j h2);have hab:(a.add (j*5)).block<B:=by obtain ⟨_,e,h,_⟩:=HA.out (by omega); cases e; rw [za1]; exact h
      have hab':(a'.add (j*5)).block<B:=by obtain ⟨_,e,h,_⟩:=HA'.out (by omega); cases e; rw [za1]; exact h
      have HST:Hid (res=orE (cmpB (keyI keys j) (keyI keys' j)) (orE (t.cmp t') (zf1 items keys items' keys' (j+1)))):=Lh (by
       rw [HRES.out,zg3,zt2 (.inl (by have:=HL.out; omega))];unfold zC2;rw [ht,ht', <- zH2])
      have IHH:=Lh (IH.out j t ht t');have E:=Lh e;have E':=Lh e';have HT:=Lh hrd;have HT':=Lh hrd';clear e e' hrd hrd' ht ht';go_wp2_with fail;refine za7 (fun W=>Box W w.heap.size (.int .i64 k) (.int .i64 n) (.string s) (.slice (some a) li ci) (.slice K lk ck)/\Box W (w.heap.size+1) (.int .i64 k') (.int .i64 n') (.string s') (.slice (some a') li' ci') (.slice K' lk' ck')/\Below w.heap.size w W) ⟨HX1.out,HX2.out,HB.out⟩ (by kernel_rfl) ?_
      clear p0 p1 p2 p3 p4 q0 q1 q2 q3 q4;intro W ⟨f1,f2,f3⟩ _;obtain ⟨p0,p1,p2,p3,p4⟩:=f1.past;obtain ⟨q0,q1,q2,q3,q4⟩:=f2.past;have G1:=Lh f1;have G2:=Lh f2;have G3:=Lh f3;clear f1 f2 f3;have C1:Hid (∀ x:Past W,Calls Tryz.prog 217 #[.agg #[.int .i64 k,.int .i64 n,.string s,.slice (some a) li ci,.slice K lk ck],.int .i64 j] x.w fun e w''=>e=.returned (.string (keyI keys j))/\∃ y:Past W,w''=y.w) :=
       Lh fun x=>zh5 x (zq9 _ j _ W.heap.size _ (((HRD.out.mono hB).kept G3.out).kept (x.b.mono G3.out.size) |>.mono G3.out.size) x.le (by omega))
      have C2:Hid (∀ x:Past W,Calls Tryz.prog 217 #[.agg #[.int .i64 k',.int .i64 n',.string s',.slice (some a') li' ci',.slice K' lk' ck'],.int .i64 j] x.w fun e w''=>e=.returned (.string (keyI keys' j))/\∃ y:Past W,w''=y.w) :=
       Lh fun x=>zh5 x (zq9 _ j _ W.heap.size _ (((HRD'.out.mono hB).kept G3.out).kept (x.b.mono G3.out.size) |>.mono G3.out.size) x.le (by omega))
      generalize keyI keys j=y at *;generalize keyI keys' j=y' at *;have C3:Hid (∀ x:Past W,Calls Tryz.prog 216 #[.string y,.string y'] x.w fun e w''=>e=.returned (.int .i64 (cmpB y y'))/\∃ y:Past W,w''=y.w) :=
       Lh fun x=>zB3 x (zn1 y y' x.w)
      repeat (go_big_quiet_step (first | with_reducible exact C1.out _ | with_reducible exact C2.out _ | with_reducible exact C3.out _))
      refine wpQuiet_nil ?_
      intro _ hw';obtain ⟨x,rfl⟩:=hw';have HBx:=Lh (G3.out.trans (x.b.mono G3.out.size));have HX1':=Lh (G1.out.kept x.b);have HX2':=Lh (G2.out.kept x.b);clear p0 p1 p2 p3 p4 q0 q1 q2 q3 q4;generalize x.w=wx at *;generalize cmpB y y'=c1 at *;by_cases hc:c1=0
      ·subst hc
       have HST2:Hid (res=orE (t.cmp t') (zf1 items keys items' keys' (j+1))):=Lh (by rw [HST.out,zg3]);go_wp2_with fail
       refine za7 (fun W=>Box W w.heap.size (.int .i64 k) (.int .i64 n) (.string s) (.slice (some a) li ci) (.slice K lk ck)/\Box W (w.heap.size+1) (.int .i64 k') (.int .i64 n') (.string s') (.slice (some a') li' ci') (.slice K' lk' ck')/\Below w.heap.size w W) ⟨HX1'.out,HX2'.out,HBx.out⟩ (by kernel_rfl) ?_
       intro W2 ⟨f1,f2,f3⟩ _;obtain ⟨p0,p1,p2,p3,p4⟩:=f1.past;obtain ⟨q0,q1,q2,q3,q4⟩:=f2.past;obtain ⟨r0,r1,r2,r3,r4⟩:=(HC.out.kept (by omega) f3).past E.out (Nat.lt_of_lt_of_le (Nat.lt_of_lt_of_le hab hB) f3.size);obtain ⟨u0,u1,u2,u3,u4⟩:=(HC'.out.kept (by omega) f3).past E'.out (Nat.lt_of_lt_of_le (Nat.lt_of_lt_of_le hab' hB) f3.size);have Z1:=Lh f1;have Z2:=Lh f2;have Z3:=Lh f3;clear f1 f2 f3;have C4:Hid (∀ x:Past W2,Calls Tryz.prog 182 #[.agg #[.int .i64 k1,.int .i64 n1,.string s1,.slice A1 li1 ci1,.slice K1 lk1 ck1],.agg #[.int .i64 k1',.int .i64 n1',.string s1',.slice A1' li1' ci1',.slice K1' lk1' ck1']] x.w fun e w''=>e=.returned (.int .i64 (t.cmp t'))/\∃ y:Past W2,w''=y.w) :=
        Lh fun x=>zh5 x (by
         have g:=Z3.out.trans (x.b.mono Z3.out.size);have:=IHH.out x.w B (V j) (V' j) (HT.out.kept (g.mono hB)) (HT'.out.kept (g.mono hB)) (Nat.le_trans hB g.size)
         rwa [E.out,E'.out] at this)
       have hi0:(0:Int)<=(j:Int):=by omega
       have hi1:(j:Int)<(li:Int):=by omega
       have hi2:(j:Int)<(li':Int):=by omega
       repeat (go_big_quiet_step (with_reducible exact C4.out _))
       refine wpQuiet_nil ?_
       intro _ hw';obtain ⟨x,rfl⟩:=hw';have HBy:=Lh (Z3.out.trans (x.b.mono Z3.out.size));have HY1:=Lh (Z1.out.kept x.b);have HY2:=Lh (Z2.out.kept x.b);clear p0 p1 p2 p3 p4 q0 q1 q2 q3 q4 r0 r1 r2 r3 r4 u0 u1 u2 u3 u4;generalize x.w=wy at *;go_wp2_with fail
       go_roundw
       case rel=>exact ⟨j+1,t.cmp t',by omega,fun _=>by omega,by go_num,rfl,HST2.out,HBy.out,HY1.out,HY2.out⟩
       case measure=>simp [intOf]; omega
      ·have hc':(c1==0)=false:=by simp [hc]
       have HST2:Hid (res=orE c1 (zf1 items keys items' keys' (j+1))):=Lh (by rw [HST.out,zl0 _ hc,zl0 _ hc]);have HCN:=Lh hc;clear hc;go_wp2_with fail
       go_roundw
       case rel=>exact ⟨j+1,c1,by omega,fun h=>absurd h HCN.out,by go_num,rfl,HST2.out,HBx.out,HX1'.out,HX2'.out⟩
       case measure=>simp [intOf]; omega
     ·have hj2:j=min items.length items'.length:=by have:=HL.out; have:=HL'.out; omega
      have HJ:Hid (res=Lib.compareInt li li'):=Lh (by rw [HRES.out,zg3,zq3 hj2,HL.out,HL'.out]);clear hj2;by_cases h1:li<=j
      ·have h1':(li:Int)<=(j:Int):=by omega
       have hd:decide (li<=j)=true:=by simpa using h1
       go_wp2_with fail
       refine (zh8 _ _ _).mono ?_
       rintro e w' ⟨rfl,rfl⟩;go_wp2_with fail;go_ret
       exact ⟨by rw [HJ.out]; rfl,HB.out⟩
      ·have h2:li'<=j:=by omega
       have h2':(li':Int)<=(j:Int):=by omega
       have hd:decide (li<=j)=false:=by simpa using h1
       have hd2:decide (li'<=j)=true:=by simpa using h2
       go_wp2_with fail
       refine (zh8 _ _ _).mono ?_
       rintro e w' ⟨rfl,rfl⟩;go_wp2_with fail;go_ret
       exact ⟨by rw [HJ.out]; rfl,HB.out⟩
    ·have hc':(c==0)=false:=by simp [hc]
     have HR2:Hid (res=c):=Lh (by rw [HRES.out,zl0 _ hc]);clear hc hjc;go_wp2_with fail;go_ret
     exact ⟨by rw [HR2.out]; rfl,HB.out⟩
 ·have HS:Hid (res=orE (Lib.compareInt k k') (zf1 items keys items' keys' 0)):=Lh (by rw [HE.out,zl0 _ e1])
  have e1':(Lib.compareInt k k'==0)=false:=by simp [e1]
  clear e1
  go_enter Tryz.func182, Tryz.ntmps182
  go_wp2_with fail
  refine (zh8 _ _ _).mono ?_
  rintro e w' ⟨rfl,rfl⟩;go_wp2_with fail
  go_loopw [5,6] (fun o i wr=>∃ (j:Nat) (c:Int),j<=min li li'+1/\(c=0->j<=min li li')/\i=.int .i64 j/\o=.int .i64 c/\res=orE c (zf1 items keys items' keys' j)/\Below w.heap.size w wr /\
   Box wr w.heap.size (.int .i64 k) (.int .i64 n) (.string s) (.slice A li ci) (.slice K lk ck)/\Box wr (w.heap.size+1) (.int .i64 k') (.int .i64 n') (.string s') (.slice A' li' ci') (.slice K' lk' ck')) (fun _ i _=>min li li'+2-(intOf i).toNat)
  case atStart=>exact ⟨0,Lib.compareInt k k',Nat.zero_le _,fun _=>Nat.zero_le _,rfl,rfl,HS.out,F3.out,F1.out,F2.out⟩
  case round =>
   obtain ⟨j,c,hj,hjc,rfl,rfl,hres,hb,hx1,hx2⟩:=hrel;have HRES:=Lh hres;have HB:=Lh hb;have hl1:=hx1.lt;have hl2:=hx2.lt;have HX1:=Lh hx1;have HX2:=Lh hx2;obtain ⟨p0,p1,p2,p3,p4⟩:=hx1.cells;obtain ⟨q0,q1,q2,q3,q4⟩:=hx2.cells;clear hres hb hx1 hx2;by_cases hc:c=0
   ·subst hc
    have hj':j<=min li li':=hjc rfl;clear hjc;by_cases hlt:j<min li li'
    ·have h1:j<li:=by omega
     have h2:j<li':=by omega
     obtain ⟨a,t,k1,n1,s1,A1,li1,ci1,K1,lk1,ck1,rfl,ht,e,hrd,_,_,_,_,_⟩:=zj2 HA.out HR.out HL.out (Below.refl _ _) h1;obtain ⟨a',t',k1',n1',s1',A1',li1',ci1',K1',lk1',ck1',rfl,ht',e',hrd',_,_,_,_,_⟩:=zj2 HA'.out HR'.out HL'.out (Below.refl _ _) h2;have HC:Hid (C5 w (a.add (j*5)) (V j)):=Lh (by obtain ⟨_,e,_,h⟩:=HA.out (by omega); cases e; exact h j h1);have HC':Hid (C5 w (a'.add (j*5)) (V' j)):=Lh (by obtain ⟨_,e,_,h⟩:=HA'.out (by omega); cases e; exact h j h2);have hab:(a.add (j*5)).block<B:=by obtain ⟨_,e,h,_⟩:=HA.out (by omega); cases e; rw [za1]; exact h
     have hab':(a'.add (j*5)).block<B:=by obtain ⟨_,e,h,_⟩:=HA'.out (by omega); cases e; rw [za1]; exact h
     have HST:Hid (res=orE (cmpB (keyI keys j) (keyI keys' j)) (orE (t.cmp t') (zf1 items keys items' keys' (j+1)))):=Lh (by
      rw [HRES.out,zg3,zt2 (.inl (by have:=HL.out; omega))];unfold zC2;rw [ht,ht', <- zH2])
     have IHH:=Lh (IH.out j t ht t');have E:=Lh e;have E':=Lh e';have HT:=Lh hrd;have HT':=Lh hrd';clear e e' hrd hrd' ht ht';go_wp2_with fail;refine za7 (fun W=>Box W w.heap.size (.int .i64 k) (.int .i64 n) (.string s) (.slice (some a) li ci) (.slice K lk ck)/\Box W (w.heap.size+1) (.int .i64 k') (.int .i64 n') (.string s') (.slice (some a') li' ci') (.slice K' lk' ck')/\Below w.heap.size w W) ⟨HX1.out,HX2.out,HB.out⟩ (by kernel_rfl) ?_
     clear p0 p1 p2 p3 p4 q0 q1 q2 q3 q4;intro W ⟨f1,f2,f3⟩ _;obtain ⟨p0,p1,p2,p3,p4⟩:=f1.past;obtain ⟨q0,q1,q2,q3,q4⟩:=f2.past;have G1:=Lh f1;have G2:=Lh f2;have G3:=Lh f3;clear f1 f2 f3;have C1:Hid (∀ x:Past W,Calls Tryz.prog 217 #[.agg #[.int .i64 k,.int .i64 n,.string s,.slice (some a) li ci,.slice K lk ck],.int .i64 j] x.w fun e w''=>e=.returned (.string (keyI keys j))/\∃ y:Past W,w''=y.w) :=
      Lh fun x=>zh5 x (zq9 _ j _ W.heap.size _ (((HRD.out.mono hB).kept G3.out).kept (x.b.mono G3.out.size) |>.mono G3.out.size) x.le (by omega))
     have C2:Hid (∀ x:Past W,Calls Tryz.prog 217 #[.agg #[.int .i64 k',.int .i64 n',.string s',.slice (some a') li' ci',.slice K' lk' ck'],.int .i64 j] x.w fun e w''=>e=.returned (.string (keyI keys' j))/\∃ y:Past W,w''=y.w) :=
      Lh fun x=>zh5 x (zq9 _ j _ W.heap.size _ (((HRD'.out.mono hB).kept G3.out).kept (x.b.mono G3.out.size) |>.mono G3.out.size) x.le (by omega))
     generalize keyI keys j=y at *;generalize keyI keys' j=y' at *;have C3:Hid (∀ x:Past W,Calls Tryz.prog 216 #[.string y,.string y'] x.w fun e w''=>e=.returned (.int .i64 (cmpB y y'))/\∃ y:Past W,w''=y.w) :=
      Lh fun x=>zB3 x (zn1 y y' x.w)
     repeat (go_big_quiet_step (first | with_reducible exact C1.out _ | with_reducible exact C2.out _ | with_reducible exact C3.out _))
     refine wpQuiet_nil ?_
     intro _ hw';obtain ⟨x,rfl⟩:=hw';have HBx:=Lh (G3.out.trans (x.b.mono G3.out.size));have HX1':=Lh (G1.out.kept x.b);have HX2':=Lh (G2.out.kept x.b);clear p0 p1 p2 p3 p4 q0 q1 q2 q3 q4;generalize x.w=wx at *;generalize cmpB y y'=c1 at *;by_cases hc:c1=0
     ·subst hc
      have HST2:Hid (res=orE (t.cmp t') (zf1 items keys items' keys' (j+1))):=Lh (by rw [HST.out,zg3]);go_wp2_with fail
      refine za7 (fun W=>Box W w.heap.size (.int .i64 k) (.int .i64 n) (.string s) (.slice (some a) li ci) (.slice K lk ck)/\Box W (w.heap.size+1) (.int .i64 k') (.int .i64 n') (.string s') (.slice (some a') li' ci') (.slice K' lk' ck')/\Below w.heap.size w W) ⟨HX1'.out,HX2'.out,HBx.out⟩ (by kernel_rfl) ?_
      intro W2 ⟨f1,f2,f3⟩ _;obtain ⟨p0,p1,p2,p3,p4⟩:=f1.past;obtain ⟨q0,q1,q2,q3,q4⟩:=f2.past;obtain ⟨r0,r1,r2,r3,r4⟩:=(HC.out.kept (by omega) f3).past E.out (Nat.lt_of_lt_of_le (Nat.lt_of_lt_of_le hab hB) f3.size);obtain ⟨u0,u1,u2,u3,u4⟩:=(HC'.out.kept (by omega) f3).past E'.out (Nat.lt_of_lt_of_le (Nat.lt_of_lt_of_le hab' hB) f3.size);have Z1:=Lh f1;have Z2:=Lh f2;have Z3:=Lh f3;clear f1 f2 f3;have C4:Hid (∀ x:Past W2,Calls Tryz.prog 182 #[.agg #[.int .i64 k1,.int .i64 n1,.string s1,.slice A1 li1 ci1,.slice K1 lk1 ck1],.agg #[.int .i64 k1',.int .i64 n1',.string s1',.slice A1' li1' ci1',.slice K1' lk1' ck1']] x.w fun e w''=>e=.returned (.int .i64 (t.cmp t'))/\∃ y:Past W2,w''=y.w) :=
       Lh fun x=>zh5 x (by
        have g:=Z3.out.trans (x.b.mono Z3.out.size);have:=IHH.out x.w B (V j) (V' j) (HT.out.kept (g.mono hB)) (HT'.out.kept (g.mono hB)) (Nat.le_trans hB g.size)
        rwa [E.out,E'.out] at this)
      have hi0:(0:Int)<=(j:Int):=by omega
      have hi1:(j:Int)<(li:Int):=by omega
      have hi2:(j:Int)<(li':Int):=by omega
      repeat (go_big_quiet_step (with_reducible exact C4.out _))
      refine wpQuiet_nil ?_
      intro _ hw';obtain ⟨x,rfl⟩:=hw';have HBy:=Lh (Z3.out.trans (x.b.mono Z3.out.size));have HY1:=Lh (Z1.out.kept x.b);have HY2:=Lh (Z2.out.kept x.b);clear p0 p1 p2 p3 p4 q0 q1 q2 q3 q4 r0 r1 r2 r3 r4 u0 u1 u2 u3 u4;generalize x.w=wy at *;go_wp2_with fail
      go_roundw
      case rel=>exact ⟨j+1,t.cmp t',by omega,fun _=>by omega,by go_num,rfl,HST2.out,HBy.out,HY1.out,HY2.out⟩
      case measure=>simp [intOf]; omega
     ·have hc':(c1==0)=false:=by simp [hc]
      have HST2:Hid (res=orE c1 (zf1 items keys items' keys' (j+1))):=Lh (by rw [HST.out,zl0 _ hc,zl0 _ hc]);have HCN:=Lh hc;clear hc;go_wp2_with fail
      go_roundw
      case rel=>exact ⟨j+1,c1,by omega,fun h=>absurd h HCN.out,by go_num,rfl,HST2.out,HBx.out,HX1'.out,HX2'.out⟩
      case measure=>simp [intOf]; omega
    ·have hj2:j=min items.length items'.length:=by have:=HL.out; have:=HL'.out; omega
     have HJ:Hid (res=Lib.compareInt li li'):=Lh (by rw [HRES.out,zg3,zq3 hj2,HL.out,HL'.out]);clear hj2;by_cases h1:li<=j
     ·have h1':(li:Int)<=(j:Int):=by omega
      have hd:decide (li<=j)=true:=by simpa using h1
      go_wp2_with fail
      refine (zh8 _ _ _).mono ?_
      rintro e w' ⟨rfl,rfl⟩;go_wp2_with fail;go_ret
      exact ⟨by rw [HJ.out]; rfl,HB.out⟩
     ·have h2:li'<=j:=by omega
      have h2':(li':Int)<=(j:Int):=by omega
      have hd:decide (li<=j)=false:=by simpa using h1
      have hd2:decide (li'<=j)=true:=by simpa using h2
      go_wp2_with fail
      refine (zh8 _ _ _).mono ?_
      rintro e w' ⟨rfl,rfl⟩;go_wp2_with fail;go_ret
      exact ⟨by rw [HJ.out]; rfl,HB.out⟩
   ·have hc':(c==0)=false:=by simp [hc]
    have HR2:Hid (res=c):=Lh (by rw [HRES.out,zl0 _ hc]);clear hc hjc;go_wp2_with fail;go_ret
    exact ⟨by rw [HR2.out]; rfl,HB.out⟩
end Go.Proofs.YtfgelheiknmjgaaGreatDoor

