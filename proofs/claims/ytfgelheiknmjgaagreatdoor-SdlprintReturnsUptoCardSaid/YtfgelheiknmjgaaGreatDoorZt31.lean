
/-
 Texts joined: D5.
-/
import Derived.Test.YtfgelheiknmjgaaGreatDoorZt30
set_option maxRecDepth 1000000
set_option maxHeartbeats 8000000
namespace Go.Proofs.YtfgelheiknmjgaaGreatDoor
open Go.RowKit
mutual
def VT.closed:VT->Bool
 | .mk k _ _ is _=>VT.closeds is&&decide (k≠7)
def VT.closeds:List VT->Bool
 | []=>true
 | t::r=>t.closed&&VT.closeds r
end
theorem zS4 (l:List VT):VT.closeds l=l.all VT.closed:=by
 induction l with
 | nil=>simp [VT.closeds]
 | cons t r ih=>simp [VT.closeds,ih]
theorem zb4 {α:Type} {xs:List α} {p : α->Bool} {i:Nat} {x : α} (h:xs[i]?=some x) (hp:p x=false):xs.all p=false:=by
 rw [Bool.eq_false_iff];intro h1;rw [List.all_eq_true] at h1;rw [h1 x (List.mem_of_getElem? h)] at hp;cases hp
theorem zk7 {α:Type} {xs:List α} {p : α->Bool} (h:∀ (j:Nat) (y : α),j<xs.length->xs[j]?=some y->p y=true):xs.all p=true:=by
 rw [List.all_eq_true];intro x hx;obtain ⟨i,hi,rfl⟩:=List.mem_iff_getElem.1 hx;exact h i _ hi (List.getElem?_eq_getElem hi)
theorem zf7 {α:Type} {xs:List α} {p : α->Bool} {i:Nat} {x : α} (h:∀ (j:Nat) (y : α),j<i->xs[j]?=some y->p y=true) (hx:xs[i]?=some x) (hp:p x=true):∀ (j:Nat) (y : α),j<i+1->xs[j]?=some y->p y=true:=by
 intro j y hj hy;rcases Nat.lt_or_ge j i with h1 | h1
 ·exact h j y h1 hy
 ·have:j=i:=by omega
  subst this;rw [hx] at hy; cases hy; exact hp
theorem zp2 (s:ByteArray) (w:World) (hs:s.size<=big):Calls Tryz.prog 42 #[.string s] w fun e w'=>e=.returned (.bool (nmA s))/\w=w':=zd8 s w (by unfold maxLen; unfold big at hs; omega)
theorem zA0 (t:VT):∀ (w:World) (B:Nat) (v:Value),Rd w B v t->B<=w.heap.size->Calls Tryz.prog 96 #[v] w (BP t.closed w):=by
 induction t using VT.ind with
 | h k n s items keys ih =>
 intro w B v h hB
 cases h with
 | @mk _ _ _ A li ci K lk ck _ _ V hk hn hs hks hli hlk hbi hbk hA hr hK =>
 have HB0:Hid (Below w.heap.size w (w.alloc (.cells #[.int .i64 k,.int .i64 n,.string s,.slice A li ci,.slice K lk ck] 53 (0,0)))):=Lh (za0 _ _);have HX0:Hid (Bk (w.alloc (.cells #[.int .i64 k,.int .i64 n,.string s,.slice A li ci,.slice K lk ck] 53 (0,0))) w.heap.size #[.int .i64 k,.int .i64 n,.string s,.slice A li ci,.slice K lk ck] 53):=Lh (Bk.new _ _ _);have HV:Hid ((VT.mk k n s items keys).closed=(items.all VT.closed&&decide (k≠7))):=Lh (by rw [<- zS4]; simp [VT.closed]);generalize (VT.mk k n s items keys).closed=RB at *;have HA:=Lh hA;have HR:=Lh hr;have HLI:=Lh hli;have IH:=Lh ih;have hlm:(li:Int)<=140737488351232:=by omega
 clear hA hr hK hli hlk ih hks hbi hbk hk hn hs
 go_enter Tryz.func96, Tryz.ntmps96
 go_wp2_with fail
 go_loopw [3] (fun u wr=>∃ j:Nat,j<=li/\u=.int .i64 j/\Hid ((∀ (i:Nat) (y:VT),i<j->items[i]?=some y->y.closed=true)/\Below w.heap.size w wr/\Bk wr w.heap.size #[.int .i64 k,.int .i64 n,.string s,.slice A li ci,.slice K lk ck] 53)) (fun u _=>li-(intOf u).toNat)
 case atStart=>exact ⟨0,Nat.zero_le _,rfl,Lh ⟨fun _ _ h=>absurd h (Nat.not_lt_zero _),HB0.out,HX0.out⟩⟩
 case round =>
  obtain ⟨j,hj,rfl,hr⟩:=hrel;have q0:=hr.out.2.2.cell 0 _ rfl;have q3:=hr.out.2.2.cell 3 _ rfl;by_cases hlt:j<li
  ·have hlt':(j:Int)<li:=by omega
   have hbw:=hr.out.2.1;obtain ⟨a,t,k1,n1,s1,A1,l1,c1,K1,lk1,ck1,rfl,ht,hvj,hrd,x0,x1,x2,x3,x4⟩:=zj2 HA.out HR.out HLI.out (hbw.mono hB) hlt;rw [hvj] at hrd;have HRD:=Lh hrd;have HBW:=Lh hbw;have HT:=Lh ht;clear hbw hrd ht hvj
   cases hc:t.closed with
   | true =>
     have HC:=Lh hc;clear hc;go_wp2_with fail;refine (IH.out j t HT.out _ B _ HRD.out (by have:=HBW.out.size; omega)).mono ?_
     rintro e w1 ⟨rfl,hb⟩;rw [HC.out];have HB1:=Lh (HBW.out.trans (hb.mono HBW.out.size));have HX1:=Lh (hr.out.2.2.stay hb);clear hb q0 q3 x0 x1 x2 x3 x4;go_wp2_with fail
     go_roundw
     case rel=>exact ⟨j+1,by omega,by simp,Lh ⟨zf7 hr.out.1 HT.out HC.out,HB1.out,HX1.out⟩⟩
     case measure=>simp [intOf]; omega
   | false =>
     have HC:=Lh hc;clear hc;go_wp2_with fail;refine (IH.out j t HT.out _ B _ HRD.out (by have:=HBW.out.size; omega)).mono ?_
     rintro e w1 ⟨rfl,hb⟩;rw [HC.out];have HB1:=Lh (HBW.out.trans (hb.mono HBW.out.size));clear hb q0 q3 x0 x1 x2 x3 x4;go_wp2_with fail;go_ret
     exact ⟨by rw [HV.out,zb4 HT.out HC.out]; rfl,HB1.out⟩
  ·have:j=li:=by omega
   subst this;have HV2:Hid (RB=decide (k≠7)):=Lh (by rw [HV.out,zk7 fun i y h1 h2=>hr.out.1 i y (by have:=HLI.out; omega) h2]; rfl);by_cases hk7:k=7
   ·subst hk7
    go_wp2_with fail
    go_ret
    exact ⟨by rw [HV2.out]; rfl,hr.out.2.1⟩
   ·have hk7':(k != 7)=true:=by rw [bne_iff_ne]; exact hk7
    have HV3:Hid (RB=true):=Lh (by rw [HV2.out]; exact decide_eq_true hk7);clear hk7;go_wp2_with fail;go_ret
    exact ⟨by rw [HV3.out]; rfl,hr.out.2.1⟩
def zu5 (x:ByteArray × VT):Bool:=nmA x.1&&(zd9 true x.2&&x.2.closed)
def ltB {α:Type} (least most:Nat) (xs:List α) (p : α->Bool):Bool:=decide (least<=xs.length)&&(decide (xs.length<=most)&&xs.all p)
def zu3 (x:DirT):Bool:=nmA x.name&&(decide (x.args.length<=16)&&x.args.all zu5)
def zd3 (l:List DirT):Bool:=ltB 0 16 l zu3
def nulB:VT->Bool | .mk k n s is ks=>decide (k=0)&&(decide (n=0)&&(decide (s.size=0)&&(decide (is.length=0)&&decide (ks.length=0))))
def zo4 (x:InpT):Bool:=nmA x.name&&(K.okB x.tn x.tw&&(zd3 x.dirs&&if x.has then zd9 true x.dflt&&x.dflt.closed else nulB x.dflt))
def zg5 (l:List InpT):Bool:=ltB 0 16 l zo4
def zo5 (x:FldT):Bool:=nmA x.name&&(zg5 x.args&&(K.okB x.tn x.tw&&zd3 x.dirs))
def zj9 (l:List FldT):Bool:=ltB 1 64 l zo5
def zj3 (plain:Bool) (x:MemT):Bool:=nmA x.name&&(zd3 x.dirs&&!(plain&&decide (0<x.dirs.length)))
def zf6 (plain:Bool) (l:List MemT):Bool:=ltB 1 64 l (zj3 plain)
def dirsZ (l:List DirT):Prop:=∀ d∈l, ∀ a∈d.args,a.2.size<=2000000
def inpsZ (l:List InpT):Prop:=∀ x∈l,x.dflt.size<=2000000/\dirsZ x.dirs
def fldsZ (l:List FldT):Prop:=∀ x∈l,inpsZ x.args/\dirsZ x.dirs
def memsZ (l:List MemT):Prop:=∀ x∈l,dirsZ x.dirs
theorem yg1 (t:VT) (w:World) (B:Nat) (v:Value) (h:Rd w B v t):Calls Tryz.prog 98 #[v] w (BP (nulB t) w):=by
 obtain ⟨k,n,s,is,ks⟩:=t
 cases h with
 | @mk _ _ _ A li ci K lk ck _ _ V hk hn hs hks hli hlk hbi hbk hA hr hK =>
 have HB0:Hid (Below w.heap.size w (w.alloc (.cells #[.int .i64 k,.int .i64 n,.string s,.slice A li ci,.slice K lk ck] 53 (0,0)))):=Lh (za0 _ _);have HV:Hid (nulB (.mk k n s is ks)=(decide (k=0)&&(decide (n=0)&&(decide (s.size=0)&&(decide (li=0)&&decide (lk=0)))))):=Lh (by rw [<- hli, <- hlk]; rfl);generalize nulB (.mk k n s is ks)=RB at *;clear hk hn hs hks hli hlk hA hr hK;have e0:(s.toList==[])=decide (s.size=0):=by
  rw [zp7,decide_eq_decide]
  constructor
  ·rintro rfl; rfl
  ·intro h; have:=zx7 h; rw [Lib.toList_data] at this; obtain ⟨d⟩:=s; simp only [ByteArray.mk.injEq]; exact Array.toList_inj.1 this
 by_cases k0:k=0
 ·subst k0
  by_cases k1:n=0
  ·subst k1
   by_cases k2:s.size=0
   ·rw [decide_eq_true k2] at e0 HV
    clear k2;by_cases k3:li=0
    ·subst k3
     by_cases k4:lk=0
     ·subst k4
      have HV2:Hid (RB=true):=Lh (by rw [HV.out]; rfl);clear HV
      go_enter Tryz.func98, Tryz.ntmps98
      go_wp2_with fail
      go_ret
      exact ⟨by rw [HV2.out]; rfl,HB0.out⟩
     ·have HV2:Hid (RB=false):=Lh (by rw [HV.out,decide_eq_false k4]; simp)
      have k4':((lk:Int)==0)=false:=by rw [beq_eq_false_iff_ne]; omega
      clear k4 HV
      go_enter Tryz.func98, Tryz.ntmps98
      go_wp2_with fail
      go_ret
      exact ⟨by rw [HV2.out]; rfl,HB0.out⟩
    ·have HV2:Hid (RB=false):=Lh (by rw [HV.out,decide_eq_false k3]; simp)
     have k3':((li:Int)==0)=false:=by rw [beq_eq_false_iff_ne]; omega
     clear k3 HV
     go_enter Tryz.func98, Tryz.ntmps98
     go_wp2_with fail
     go_ret
     exact ⟨by rw [HV2.out]; rfl,HB0.out⟩
   ·have HV2:Hid (RB=false):=Lh (by rw [HV.out,decide_eq_false k2]; simp)
    rw [decide_eq_false k2] at e0;clear k2 HV
    go_enter Tryz.func98, Tryz.ntmps98
    go_wp2_with fail
    go_ret
    exact ⟨by rw [HV2.out]; rfl,HB0.out⟩
  ·have HV2:Hid (RB=false):=Lh (by rw [HV.out,decide_eq_false k1]; simp)
   have k1':(n==0)=false:=by rw [beq_eq_false_iff_ne]; exact k1
   clear k1 HV
   go_enter Tryz.func98, Tryz.ntmps98
   go_wp2_with fail
   go_ret
   exact ⟨by rw [HV2.out]; rfl,HB0.out⟩
 ·have HV2:Hid (RB=false):=Lh (by rw [HV.out,decide_eq_false k0]; simp)
  have k0':(k==0)=false:=by rw [beq_eq_false_iff_ne]; exact k0
  clear k0 HV
  go_enter Tryz.func98, Tryz.ntmps98
  go_wp2_with fail
  go_ret
  exact ⟨by rw [HV2.out]; rfl,HB0.out⟩
theorem zf8 (xs:List DirT) (v:Value) (w:World) (h:DirsR w w.heap.size v xs) (hz:dirsZ xs):Calls Tryz.prog 43 #[v] w (BP (zd3 xs) w):=by
 have HZ:=Lh hz;clear hz;have HV:Hid (zd3 xs=(decide (0<=xs.length)&&(decide (xs.length<=16)&&xs.all zu3))):=Lh rfl;generalize zd3 xs=RB at *;obtain ⟨A,c,rfl,hc,hb,V,hA,hr⟩:=h;have HA:=Lh hA;have HR:=Lh hr;unfold big at hb;obtain ⟨len,hlen⟩ : ∃ len,len=xs.length:=⟨_,rfl⟩;rw [<- hlen] at HV HA hb ⊢;have HL:=Lh hlen;clear hA hr hc hlen;have hlm:(len:Int)<=140737488351232:=by omega
 clear hb;by_cases hg:16<len
 ·have hg2:(len:Int) > 16:=by omega
  have HV2:Hid (RB=false):=Lh (by rw [HV.out,decide_eq_false (by omega:¬ len<=16)]; simp);clear hg
  go_enter Tryz.func43, Tryz.ntmps43
  go_wp2_with fail
  go_ret
  exact ⟨by rw [HV2.out]; rfl,Below.refl _ _⟩
 have hg2:¬ (len:Int) > 16:=by omega
 have HV2:Hid (RB=xs.all zu3):=Lh (by rw [HV.out,decide_eq_true (by omega:0<=len),decide_eq_true (by omega:len<=16)]; rfl)
 go_enter Tryz.func43, Tryz.ntmps43
 go_wp2_with fail
 clear hg hg2
 go_loopw [3] (fun u wr=>∃ i:Nat,i<=len/\u=.int .i64 i/\Hid ((∀ (j:Nat) (y:DirT),j<i->xs[j]?=some y->zu3 y=true)/\Below w.heap.size w wr)) (fun u _=>len-(intOf u).toNat)
 case atStart=>exact ⟨0,Nat.zero_le _,rfl,Lh ⟨fun _ _ h=>absurd h (Nat.not_lt_zero _),Below.refl _ _⟩⟩
 case round =>
  obtain ⟨i,hi,rfl,hr⟩:=hrel;by_cases hlt:i<len
  ·skip
   have hlt':(i:Int)<len:=by omega
   obtain ⟨a,rfl,ha,hcell⟩:=HA.out (by omega);have hcell:=hcell i hlt;obtain ⟨x,hx⟩ : ∃ x,xs[i]?=some x:=⟨_,List.getElem?_eq_getElem (by have:=HL.out; omega)⟩;have hrx:=HR.out i x hx;obtain ⟨A1,c1,e1,hc1,hb1,VA,hA1,hR1⟩:=hrx.args;have e0:=hrx.name;have HCE:Hid (∀ W:World,Below w.heap.size w W->W.cell? (a.add (i*2))=some (.string x.name)/\W.cell? ⟨(a.add (i*2)).block,(a.add (i*2)).off+1,none⟩=some (.slice A1 x.args.length c1)):=Lh fun W hW=>by
    have hh:∀ j,j<2->W.cell? (at_ (a.add (i*2)) j)=some (V i j):=fun j hj=>(hW.cell (by rw [zb5,za1]; exact ha)).trans (hcell j hj);exact ⟨(hh 0 (by omega)).trans (congrArg some e0),(hh 1 (by omega)).trans (congrArg some e1)⟩
   have HARG:Hid (∃ VA:Nat->Nat->Value,(0<x.args.length->∃ a,A1=some a/\a.block<w.heap.size/\∀ i,i<x.args.length->∀ j,j<6->w.cell? (at_ (a.add (i*6)) j)=some (VA i j))/\∀ i y,x.args[i]?=some y->ArgR w w.heap.size (VA i) y):=Lh ⟨VA,hA1,hR1⟩;clear hA1 hR1 hb1 hc1;have HN:=Lh hrx.size;have HZX:=Lh (HZ.out x (List.mem_of_getElem? hx));have HPX:Hid (zu3 x=(nmA x.name&&(decide (x.args.length<=16)&&x.args.all zu5))):=Lh rfl;have HX:=Lh hx;have HB0:=Lh hr.out.2;clear hcell hrx hx e0 e1;obtain ⟨k0,k1⟩:=HCE.out _ HB0.out;go_wp2_with fail;refine (zp2 x.name _ HN.out).mono ?_
   rintro e w1 ⟨rfl,rfl⟩
   cases v:nmA x.name with
   | false =>
     have v0:=Lh v;clear v;go_wp2_with fail;go_ret
     exact ⟨by rw [HV2.out,zb4 HX.out (by rw [HPX.out,v0.out,Bool.false_and])]; rfl,HB0.out⟩
   | true =>
     have v0:=Lh v;clear v;obtain ⟨l1,hl1⟩ : ∃ l1,l1=x.args.length:=⟨_,rfl⟩;rw [<- hl1] at HPX k1 HCE HARG;have HL1:=Lh hl1;clear hl1;by_cases hg1:16<l1
     ·have hg3:(l1:Int) > 16:=by omega
      have v1:Hid (decide (l1<=16)=false):=Lh (decide_eq_false (by omega));clear hg1;go_wp2_with fail;go_ret
      exact ⟨by rw [HV2.out,zb4 HX.out (by rw [HPX.out,v0.out,Bool.true_and,v1.out,Bool.false_and])]; rfl,HB0.out⟩
     have hg3:¬ (l1:Int) > 16:=by omega
     have v1:Hid (decide (l1<=16)=true):=Lh (decide_eq_true (by omega));have hl1m:(l1:Int)<=140737488351232:=by omega
     clear hg1;go_wp2_with fail;clear hg3;clear k0 k1
     go_loopw [4] (fun u wr=>∃ i2:Nat,i2<=l1/\u=.int .i64 i2/\Hid ((∀ (j:Nat) (y:ByteArray × VT),j<i2->x.args[j]?=some y->zu5 y=true)/\Below w.heap.size w wr)) (fun u _=>l1-(intOf u).toNat)
     case atStart=>exact ⟨0,Nat.zero_le _,rfl,Lh ⟨fun _ _ h=>absurd h (Nat.not_lt_zero _),HB0.out⟩⟩
     case round =>
      obtain ⟨i2,hi2,rfl,hr2⟩:=hrel;obtain ⟨k0,k1⟩:=HCE.out _ hr2.out.2;by_cases hlt2:i2<l1
      ·skip
       have hlt2':(i2:Int)<l1:=by omega
       obtain ⟨VA,hA2,hR2⟩:=HARG.out;obtain ⟨a2,ea2,ha2,hcell2⟩:=hA2 (by omega);have hcell2:=hcell2 i2 hlt2;obtain ⟨y,hy⟩ : ∃ y,x.args[i2]?=some y:=⟨_,List.getElem?_eq_getElem (by have:=HL1.out; omega)⟩;have hry:=hR2 i2 y hy;obtain ⟨k,n,s,A5,li,ci,KA,lk,ck,e1,e2,e3,e4,e5⟩:=Rd.form hry.val;have e0:=hry.name;subst ea2;have p0:wr.cell? (a2.add (i2*6))=some (.string y.1):=((hr2.out.2.cell (by rw [zb5,za1]; exact ha2)).trans (hcell2 0 (by omega))).trans (congrArg some e0);have p1:wr.cell? ⟨(a2.add (i2*6)).block,(a2.add (i2*6)).off+1,none⟩=some (.int .i64 k):=((hr2.out.2.cell (by rw [zb5,za1]; exact ha2)).trans (hcell2 1 (by omega))).trans (congrArg some e1);have p2:wr.cell? ⟨(a2.add (i2*6)).block,(a2.add (i2*6)).off+2,none⟩=some (.int .i64 n):=((hr2.out.2.cell (by rw [zb5,za1]; exact ha2)).trans (hcell2 2 (by omega))).trans (congrArg some e2);have p3:wr.cell? ⟨(a2.add (i2*6)).block,(a2.add (i2*6)).off+3,none⟩=some (.string s):=((hr2.out.2.cell (by rw [zb5,za1]; exact ha2)).trans (hcell2 3 (by omega))).trans (congrArg some e3);have p4:wr.cell? ⟨(a2.add (i2*6)).block,(a2.add (i2*6)).off+4,none⟩=some (.slice A5 li ci):=((hr2.out.2.cell (by rw [zb5,za1]; exact ha2)).trans (hcell2 4 (by omega))).trans (congrArg some e4);have p5:wr.cell? ⟨(a2.add (i2*6)).block,(a2.add (i2*6)).off+5,none⟩=some (.slice KA lk ck):=((hr2.out.2.cell (by rw [zb5,za1]; exact ha2)).trans (hcell2 5 (by omega))).trans (congrArg some e5);have HRV:=hry.val;rw [e1,e2,e3,e4,e5] at HRV;replace HRV:=Lh HRV;have HN2:=Lh hry.size;have HZY:=Lh (HZX.out y (List.mem_of_getElem? hy));have HY:=Lh hy;have HPY:Hid (zu5 y=(nmA y.1&&(zd9 true y.2&&y.2.closed))):=Lh rfl;clear hA2 hR2 hcell2 hry hy e0 e1 e2 e3 e4 e5;have HB1:Hid (Below w.heap.size w (wr.alloc (.cells #[.string y.1,.int .i64 k,.int .i64 n,.string s,.slice A5 li ci,.slice KA lk ck] 88 (0,0)))):=Lh (hr2.out.2.trans ((za0 _ _).mono hr2.out.2.size));have HXB1:Hid (Bk (wr.alloc (.cells #[.string y.1,.int .i64 k,.int .i64 n,.string s,.slice A5 li ci,.slice KA lk ck] 88 (0,0))) wr.heap.size #[.string y.1,.int .i64 k,.int .i64 n,.string s,.slice A5 li ci,.slice KA lk ck] 88):=Lh (Bk.new _ _ _);go_wp2_with fail;clear k0 k1 p0 p1 p2 p3 p4 p5;refine (zp2 y.1 _ HN2.out).mono ?_;rintro e w1 ⟨rfl,rfl⟩
       cases v:nmA y.1 with
       | false =>
         have u0:=Lh v;clear v;go_wp2_with fail;go_ret
         exact ⟨by rw [HV2.out,zb4 HX.out (by rw [HPX.out,v0.out,Bool.true_and,v1.out,Bool.true_and]; exact zb4 HY.out (by rw [HPY.out,u0.out,Bool.false_and]))]; rfl,HB1.out⟩
       | true =>
         have u0:=Lh v;clear v;have q0:=HXB1.out.cell 0 _ rfl;have q1:=HXB1.out.cell 1 _ rfl;have q2:=HXB1.out.cell 2 _ rfl;have q3:=HXB1.out.cell 3 _ rfl;have q4:=HXB1.out.cell 4 _ rfl;have q5:=HXB1.out.cell 5 _ rfl;go_wp2_with fail;refine (zx4 zK9 y.2 _ w.heap.size _ (HRV.out.kept HB1.out) HB1.out.size HZY.out).mono ?_
         rintro e w2 ⟨rfl,hb⟩;clear q0 q1 q2 q3 q4 q5;have HB2:=Lh (HB1.out.trans (Below.mono hb HB1.out.size));have HXB2:=Lh (HXB1.out.stay hb);clear hb;have q0:=HXB2.out.cell 0 _ rfl;have q1:=HXB2.out.cell 1 _ rfl;have q2:=HXB2.out.cell 2 _ rfl;have q3:=HXB2.out.cell 3 _ rfl;have q4:=HXB2.out.cell 4 _ rfl;have q5:=HXB2.out.cell 5 _ rfl
         cases v:zd9 true y.2 with
         | false =>
           have u1:=Lh v;clear v;go_wp2_with fail;go_ret
           exact ⟨by rw [HV2.out,zb4 HX.out (by rw [HPX.out,v0.out,Bool.true_and,v1.out,Bool.true_and]; exact zb4 HY.out (by rw [HPY.out,u0.out,Bool.true_and,u1.out,Bool.false_and]))]; rfl,HB2.out⟩
         | true =>
           have u1:=Lh v;clear v;go_wp2_with fail;refine (zA0 y.2 _ w.heap.size _ (HRV.out.kept HB2.out) HB2.out.size).mono ?_
           rintro e w3 ⟨rfl,hb⟩;clear q0 q1 q2 q3 q4 q5;have HB3:=Lh (HB2.out.trans (Below.mono hb HB2.out.size));have HXB3:=Lh (HXB2.out.stay hb);clear hb
           cases v:y.2.closed with
           | false =>
             have u2:=Lh v;clear v;go_wp2_with fail;go_ret
             exact ⟨by rw [HV2.out,zb4 HX.out (by rw [HPX.out,v0.out,Bool.true_and,v1.out,Bool.true_and]; exact zb4 HY.out (by rw [HPY.out,u0.out,Bool.true_and,u1.out,Bool.true_and,u2.out]))]; rfl,HB3.out⟩
           | true =>
             have u2:=Lh v;clear v;go_wp2_with fail
             go_roundw
             case rel=>exact ⟨i2+1,by omega,by simp,Lh ⟨zf7 hr2.out.1 HY.out (by rw [HPY.out,u0.out,Bool.true_and,u1.out,Bool.true_and,u2.out]),HB3.out⟩⟩
             case measure=>simp [intOf]; omega
      ·have:i2=l1:=by omega
       subst this;have v2:Hid (x.args.all zu5=true):=Lh (zk7 fun j y h1 h2=>hr2.out.1 j y (by have:=HL1.out; omega) h2);go_wp2_with fail
       go_roundw
       case rel=>exact ⟨i+1,by omega,by simp,Lh ⟨zf7 hr.out.1 HX.out (by rw [HPX.out,v0.out,Bool.true_and,v1.out,Bool.true_and,v2.out]),hr2.out.2⟩⟩
       case measure=>simp [intOf]; omega
  ·have:i=len:=by omega
   subst this;have HVT:Hid (RB=true):=Lh (by rw [HV2.out]; exact zk7 fun j y h1 h2=>hr.out.1 j y (by have:=HL.out; omega) h2);go_wp2_with fail
   go_ret
   exact ⟨by rw [HVT.out]; rfl,hr.out.2⟩
theorem zo3 (xs:List InpT) (v:Value) (w:World) (h:InpsR w w.heap.size v xs) (hz:inpsZ xs):Calls Tryz.prog 46 #[v] w (BP (zg5 xs) w):=by
 have HZ:=Lh hz;clear hz;have HV:Hid (zg5 xs=(decide (0<=xs.length)&&(decide (xs.length<=16)&&xs.all zo4))):=Lh rfl;generalize zg5 xs=RB at *;obtain ⟨A,c,rfl,hc,hb,V,hA,hr⟩:=h;have HA:=Lh hA;have HR:=Lh hr;unfold big at hb;obtain ⟨len,hlen⟩ : ∃ len,len=xs.length:=⟨_,rfl⟩;rw [<- hlen] at HV HA hb ⊢;have HL:=Lh hlen;clear hA hr hc hlen;have hlm:(len:Int)<=140737488351232:=by omega
 clear hb;by_cases hg:16<len
 ·have hg2:(len:Int) > 16:=by omega
  have HV2:Hid (RB=false):=Lh (by rw [HV.out,decide_eq_false (by omega:¬ len<=16)]; simp);clear hg
  go_enter Tryz.func46, Tryz.ntmps46
  go_wp2_with fail
  go_ret
  exact ⟨by rw [HV2.out]; rfl,Below.refl _ _⟩
 have hg2:¬ (len:Int) > 16:=by omega
 have HV2:Hid (RB=xs.all zo4):=Lh (by rw [HV.out,decide_eq_true (by omega:0<=len),decide_eq_true (by omega:len<=16)]; rfl)
 go_enter Tryz.func46, Tryz.ntmps46
 go_wp2_with fail
 clear hg hg2
 go_loopw [3] (fun u wr=>∃ i:Nat,i<=len/\u=.int .i64 i/\Hid ((∀ (j:Nat) (y:InpT),j<i->xs[j]?=some y->zo4 y=true)/\Below w.heap.size w wr)) (fun u _=>len-(intOf u).toNat)
 case atStart=>exact ⟨0,Nat.zero_le _,rfl,Lh ⟨fun _ _ h=>absurd h (Nat.not_lt_zero _),Below.refl _ _⟩⟩
 case round =>
  obtain ⟨i,hi,rfl,hr⟩:=hrel;by_cases hlt:i<len
  ·skip
   have hlt':(i:Int)<len:=by omega
   obtain ⟨a,rfl,ha,hcell⟩:=HA.out (by omega);have hcell:=hcell i hlt;obtain ⟨x,hx⟩ : ∃ x,xs[i]?=some x:=⟨_,List.getElem?_eq_getElem (by have:=HL.out; omega)⟩;have hrx:=HR.out i x hx;obtain ⟨k,n,s,A4,li,ci,KA,lk,ck,e4,e5,e6,e7,e8⟩:=Rd.form hrx.val;obtain ⟨A2,c2,e2,_,_⟩:=hrx.type.wraps.form;obtain ⟨A9,c9,e9,_,_⟩:=hrx.dirs.form;have e0:=hrx.name;have e1:=hrx.type.name;have e3:=hrx.has;have HCE:Hid (∀ W:World,Below w.heap.size w W->W.cell? (a.add (i*10))=some (.string x.name)/\W.cell? ⟨(a.add (i*10)).block,(a.add (i*10)).off+1,none⟩=some (.string x.tn)/\W.cell? ⟨(a.add (i*10)).block,(a.add (i*10)).off+2,none⟩=some (.slice A2 x.tw.length c2)/\W.cell? ⟨(a.add (i*10)).block,(a.add (i*10)).off+3,none⟩=some (.bool x.has)/\W.cell? ⟨(a.add (i*10)).block,(a.add (i*10)).off+4,none⟩=some (.int .i64 k)/\W.cell? ⟨(a.add (i*10)).block,(a.add (i*10)).off+5,none⟩=some (.int .i64 n)/\W.cell? ⟨(a.add (i*10)).block,(a.add (i*10)).off+6,none⟩=some (.string s)/\W.cell? ⟨(a.add (i*10)).block,(a.add (i*10)).off+7,none⟩=some (.slice A4 li ci)/\W.cell? ⟨(a.add (i*10)).block,(a.add (i*10)).off+8,none⟩=some (.slice KA lk ck)/\W.cell? ⟨(a.add (i*10)).block,(a.add (i*10)).off+9,none⟩=some (.slice A9 x.dirs.length c9)):=Lh fun W hW=>by
    have hh:∀ j,j<10->W.cell? (at_ (a.add (i*10)) j)=some (V i j):=fun j hj=>(hW.cell (by rw [zb5,za1]; exact ha)).trans (hcell j hj);exact ⟨(hh 0 (by omega)).trans (congrArg some e0),(hh 1 (by omega)).trans (congrArg some e1),(hh 2 (by omega)).trans (congrArg some e2),(hh 3 (by omega)).trans (congrArg some e3),(hh 4 (by omega)).trans (congrArg some e4),(hh 5 (by omega)).trans (congrArg some e5),(hh 6 (by omega)).trans (congrArg some e6),(hh 7 (by omega)).trans (congrArg some e7),(hh 8 (by omega)).trans (congrArg some e8),(hh 9 (by omega)).trans (congrArg some e9)⟩
   have HR:=hrx.val;rw [e4,e5,e6,e7,e8] at HR;replace HR:=Lh HR;have HT:=hrx.type;rw [e1,e2] at HT;replace HT:=Lh HT;have HD:=hrx.dirs;rw [e9] at HD;replace HD:=Lh HD;have HN:=Lh hrx.size;have HZX:=Lh (HZ.out x (List.mem_of_getElem? hx));have HPX:Hid (zo4 x=(nmA x.name&&(K.okB x.tn x.tw&&(zd3 x.dirs&&if x.has then zd9 true x.dflt&&x.dflt.closed else nulB x.dflt)))):=Lh rfl;have HX:=Lh hx;have HB0:=Lh hr.out.2;clear hcell hrx hx e0 e1 e2 e3 e4 e5 e6 e7 e8 e9;obtain ⟨k0,k1,k2,k3,k4,k5,k6,k7,k8,k9⟩:=HCE.out _ HB0.out;go_wp2_with fail;clear k0 k1 k2 k3 k4 k5 k6 k7 k8 k9;have HB1:Hid (Below w.heap.size w (wr.alloc (.cells #[.string x.name,.string x.tn,.slice A2 x.tw.length c2,.bool x.has,.int .i64 k,.int .i64 n,.string s,.slice A4 li ci,.slice KA lk ck,.slice A9 x.dirs.length c9] 55 (0,0)))):=Lh (HB0.out.trans ((za0 _ _).mono HB0.out.size));have HXB1:Hid (Bk (wr.alloc (.cells #[.string x.name,.string x.tn,.slice A2 x.tw.length c2,.bool x.has,.int .i64 k,.int .i64 n,.string s,.slice A4 li ci,.slice KA lk ck,.slice A9 x.dirs.length c9] 55 (0,0))) wr.heap.size #[.string x.name,.string x.tn,.slice A2 x.tw.length c2,.bool x.has,.int .i64 k,.int .i64 n,.string s,.slice A4 li ci,.slice KA lk ck,.slice A9 x.dirs.length c9] 55):=Lh (Bk.new _ _ _);refine (zp2 x.name _ HN.out).mono ?_;rintro e w1 ⟨rfl,rfl⟩
   cases v:nmA x.name with
   | false =>
     have v0:=Lh v;clear v;go_wp2_with fail;go_ret
     exact ⟨by rw [HV2.out,zb4 HX.out (by rw [HPX.out,v0.out,Bool.false_and])]; rfl,HB1.out⟩
   | true =>
     have v0:=Lh v;clear v;obtain ⟨q0,q1,q2,q3,q4,q5,q6,q7,q8,q9⟩:=HXB1.out.c10;go_wp2_with fail;refine (K.zE1 x.tn x.tw _ _ (zz9 ((HT.out.kept HB1.out).mono HB1.out.size)) (by have:=HT.out.size; unfold maxLen; unfold big at this; omega)).mono ?_
     rintro e w3 ⟨rfl,hb⟩;clear q0 q1 q2 q3 q4 q5 q6 q7 q8 q9;have HB2:=Lh (HB1.out.trans (Below.mono hb HB1.out.size));have HXB2:=Lh (HXB1.out.stay hb);clear hb;obtain ⟨q0,q1,q2,q3,q4,q5,q6,q7,q8,q9⟩:=HXB2.out.c10
     cases v:K.okB x.tn x.tw with
     | false =>
       have v1:=Lh v;clear v;go_wp2_with fail;go_ret
       exact ⟨by rw [HV2.out,zb4 HX.out (by rw [HPX.out,v0.out,Bool.true_and,v1.out,Bool.false_and])]; rfl,HB2.out⟩
     | true =>
       have v1:=Lh v;clear v;go_wp2_with fail;refine (zf8 x.dirs _ _ ((HD.out.kept HB2.out).mono HB2.out.size) HZX.out.2).mono ?_
       rintro e w4 ⟨rfl,hb⟩;clear q0 q1 q2 q3 q4 q5 q6 q7 q8 q9;have HB3:=Lh (HB2.out.trans (Below.mono hb HB2.out.size));have HXB3:=Lh (HXB2.out.stay hb);clear hb;obtain ⟨q0,q1,q2,q3,q4,q5,q6,q7,q8,q9⟩:=HXB3.out.c10
       cases v:zd3 x.dirs with
       | false =>
         have v2:=Lh v;clear v;go_wp2_with fail;go_ret
         exact ⟨by rw [HV2.out,zb4 HX.out (by rw [HPX.out,v0.out,Bool.true_and,v1.out,Bool.true_and,v2.out,Bool.false_and])]; rfl,HB3.out⟩
       | true =>
         have v2:=Lh v;clear v
         cases vh:x.has with
         | true =>
           rw [vh] at q3;have VH:Hid ((if x.has then zd9 true x.dflt&&x.dflt.closed else nulB x.dflt)=(zd9 true x.dflt&&x.dflt.closed)):=Lh (by rw [vh]; rfl);have VB:=Lh vh;clear vh;go_wp2_with fail;refine (zx4 zK9 x.dflt _ w.heap.size _ (HR.out.kept HB3.out) HB3.out.size HZX.out.1).mono ?_
           rintro e w5 ⟨rfl,hb⟩;clear q0 q1 q2 q3 q4 q5 q6 q7 q8 q9;have HB4:=Lh (HB3.out.trans (Below.mono hb HB3.out.size));have HXB4:=Lh (HXB3.out.stay hb);clear hb;obtain ⟨q0,q1,q2,q3,q4,q5,q6,q7,q8,q9⟩:=HXB4.out.c10;rw [VB.out] at q3
           cases v:zd9 true x.dflt with
           | false =>
             have v3:=Lh v;clear v;go_wp2_with fail;go_ret
             exact ⟨by rw [HV2.out,zb4 HX.out (by rw [HPX.out,v0.out,Bool.true_and,v1.out,Bool.true_and,v2.out,Bool.true_and,VH.out,v3.out,Bool.false_and])]; rfl,HB4.out⟩
           | true =>
             have v3:=Lh v;clear v;go_wp2_with fail;refine (zA0 x.dflt _ w.heap.size _ (HR.out.kept HB4.out) HB4.out.size).mono ?_
             rintro e w6 ⟨rfl,hb⟩;clear q0 q1 q2 q3 q4 q5 q6 q7 q8 q9;have HB5:=Lh (HB4.out.trans (Below.mono hb HB4.out.size));have HXB5:=Lh (HXB4.out.stay hb);clear hb;obtain ⟨q0,q1,q2,q3,q4,q5,q6,q7,q8,q9⟩:=HXB5.out.c10;rw [VB.out] at q3
             cases v:x.dflt.closed with
             | false =>
               have v4:=Lh v;clear v;go_wp2_with fail;go_ret
               exact ⟨by rw [HV2.out,zb4 HX.out (by rw [HPX.out,v0.out,Bool.true_and,v1.out,Bool.true_and,v2.out,Bool.true_and,VH.out,v3.out,Bool.true_and,v4.out])]; rfl,HB5.out⟩
             | true =>
               have v4:=Lh v;clear v;go_wp2_with fail
               go_roundw
               case rel=>exact ⟨i+1,by omega,by simp,Lh ⟨zf7 hr.out.1 HX.out (by rw [HPX.out,v0.out,Bool.true_and,v1.out,Bool.true_and,v2.out,Bool.true_and,VH.out,v3.out,Bool.true_and,v4.out]),HB5.out⟩⟩
               case measure=>simp [intOf]; omega
         | false =>
           rw [vh] at q3;have VH:Hid ((if x.has then zd9 true x.dflt&&x.dflt.closed else nulB x.dflt)=nulB x.dflt):=Lh (by rw [vh]; rfl);have VB:=Lh vh;clear vh;go_wp2_with fail;refine (yg1 x.dflt _ w.heap.size _ (HR.out.kept HB3.out)).mono ?_
           rintro e w5 ⟨rfl,hb⟩;clear q0 q1 q2 q3 q4 q5 q6 q7 q8 q9;have HB4:=Lh (HB3.out.trans (Below.mono hb HB3.out.size));have HXB4:=Lh (HXB3.out.stay hb);clear hb;obtain ⟨q0,q1,q2,q3,q4,q5,q6,q7,q8,q9⟩:=HXB4.out.c10;rw [VB.out] at q3
           cases v:nulB x.dflt with
           | false =>
             have v3:=Lh v;clear v;go_wp2_with fail;go_ret
             exact ⟨by rw [HV2.out,zb4 HX.out (by rw [HPX.out,v0.out,Bool.true_and,v1.out,Bool.true_and,v2.out,Bool.true_and,VH.out,v3.out])]; rfl,HB4.out⟩
           | true =>
             have v3:=Lh v;clear v;go_wp2_with fail
             go_roundw
             case rel=>exact ⟨i+1,by omega,by simp,Lh ⟨zf7 hr.out.1 HX.out (by rw [HPX.out,v0.out,Bool.true_and,v1.out,Bool.true_and,v2.out,Bool.true_and,VH.out,v3.out]),HB4.out⟩⟩
             case measure=>simp [intOf]; omega
  ·have:i=len:=by omega
   subst this;have HVT:Hid (RB=true):=Lh (by rw [HV2.out]; exact zk7 fun j y h1 h2=>hr.out.1 j y (by have:=HL.out; omega) h2);go_wp2_with fail
   go_ret
   exact ⟨by rw [HVT.out]; rfl,hr.out.2⟩
theorem zo6 (xs:List FldT) (v:Value) (w:World) (h:FldsR w w.heap.size v xs) (hz:fldsZ xs):Calls Tryz.prog 44 #[v] w (BP (zj9 xs) w):=by
 have HZ:=Lh hz;clear hz;have HV:Hid (zj9 xs=(decide (1<=xs.length)&&(decide (xs.length<=64)&&xs.all zo5))):=Lh rfl;generalize zj9 xs=RB at *;obtain ⟨A,c,rfl,hc,hb,V,hA,hr⟩:=h;have HA:=Lh hA;have HR:=Lh hr;unfold big at hb;obtain ⟨len,hlen⟩ : ∃ len,len=xs.length:=⟨_,rfl⟩;rw [<- hlen] at HV HA hb ⊢;have HL:=Lh hlen;clear hA hr hc hlen;have hlm:(len:Int)<=140737488351232:=by omega
 clear hb;by_cases hz1:len<1
 ·have hz2:(len:Int)<1:=by omega
  have HV2:Hid (RB=false):=Lh (by rw [HV.out,decide_eq_false (by omega)]; rfl);clear hz1
  go_enter Tryz.func44, Tryz.ntmps44
  go_wp2_with fail
  go_ret
  exact ⟨by rw [HV2.out]; rfl,Below.refl _ _⟩
 have hz2:¬ (len:Int)<1:=by omega
 by_cases hg:64<len
 ·have hg2:(len:Int) > 64:=by omega
  have HV2:Hid (RB=false):=Lh (by rw [HV.out,decide_eq_false (by omega:¬ len<=64)]; simp);clear hg
  go_enter Tryz.func44, Tryz.ntmps44
  go_wp2_with fail
  go_ret
  exact ⟨by rw [HV2.out]; rfl,Below.refl _ _⟩
 have hg2:¬ (len:Int) > 64:=by omega
 have HV2:Hid (RB=xs.all zo5):=Lh (by rw [HV.out,decide_eq_true (by omega:1<=len),decide_eq_true (by omega:len<=64)]; rfl)
 go_enter Tryz.func44, Tryz.ntmps44
 go_wp2_with fail
 clear hg hg2 hz1 hz2
 go_loopw [3] (fun u wr=>∃ i:Nat,i<=len/\u=.int .i64 i/\Hid ((∀ (j:Nat) (y:FldT),j<i->xs[j]?=some y->zo5 y=true)/\Below w.heap.size w wr)) (fun u _=>len-(intOf u).toNat)
 case atStart=>exact ⟨0,Nat.zero_le _,rfl,Lh ⟨fun _ _ h=>absurd h (Nat.not_lt_zero _),Below.refl _ _⟩⟩
 case round =>
  obtain ⟨i,hi,rfl,hr⟩:=hrel;by_cases hlt:i<len
  ·skip
   have hlt':(i:Int)<len:=by omega
   obtain ⟨a,rfl,ha,hcell⟩:=HA.out (by omega);have hcell:=hcell i hlt;obtain ⟨x,hx⟩ : ∃ x,xs[i]?=some x:=⟨_,List.getElem?_eq_getElem (by have:=HL.out; omega)⟩;have hrx:=HR.out i x hx;obtain ⟨A1,c1,e1,_,_⟩:=hrx.args.form;obtain ⟨A3,c3,e3,_,_⟩:=hrx.type.wraps.form;obtain ⟨A4,c4,e4,_,_⟩:=hrx.dirs.form;have e0:=hrx.name;have e2:=hrx.type.name;have HCE:Hid (∀ W:World,Below w.heap.size w W->W.cell? (a.add (i*5))=some (.string x.name)/\W.cell? ⟨(a.add (i*5)).block,(a.add (i*5)).off+1,none⟩=some (.slice A1 x.args.length c1)/\W.cell? ⟨(a.add (i*5)).block,(a.add (i*5)).off+2,none⟩=some (.string x.tn)/\W.cell? ⟨(a.add (i*5)).block,(a.add (i*5)).off+3,none⟩=some (.slice A3 x.tw.length c3)/\W.cell? ⟨(a.add (i*5)).block,(a.add (i*5)).off+4,none⟩=some (.slice A4 x.dirs.length c4)):=Lh fun W hW=>by
    have hh:∀ j,j<5->W.cell? (at_ (a.add (i*5)) j)=some (V i j):=fun j hj=>(hW.cell (by rw [zb5,za1]; exact ha)).trans (hcell j hj);exact ⟨(hh 0 (by omega)).trans (congrArg some e0),(hh 1 (by omega)).trans (congrArg some e1),(hh 2 (by omega)).trans (congrArg some e2),(hh 3 (by omega)).trans (congrArg some e3),(hh 4 (by omega)).trans (congrArg some e4)⟩
   have HI:=hrx.args;rw [e1] at HI;replace HI:=Lh HI;have HT:=hrx.type;rw [e2,e3] at HT;replace HT:=Lh HT;have HD:=hrx.dirs;rw [e4] at HD;replace HD:=Lh HD;have HN:=Lh hrx.size;have HZX:=Lh (HZ.out x (List.mem_of_getElem? hx));have HPX:Hid (zo5 x=(nmA x.name&&(zg5 x.args&&(K.okB x.tn x.tw&&zd3 x.dirs)))):=Lh rfl;have HX:=Lh hx;have HB0:=Lh hr.out.2;clear hcell hrx hx e0 e1 e2 e3 e4;obtain ⟨k0,k1,k2,k3,k4⟩:=HCE.out _ HB0.out;go_wp2_with fail;refine (zp2 x.name _ HN.out).mono ?_
   rintro e w1 ⟨rfl,rfl⟩
   skip
   cases v:nmA x.name with
   | false =>
     have v0:=Lh v;clear v;go_wp2_with fail;go_ret
     exact ⟨by rw [HV2.out,zb4 HX.out (by rw [HPX.out,v0.out,Bool.false_and])]; rfl,HB0.out⟩
   | true =>
     have v0:=Lh v;clear v;go_wp2_with fail;refine (zo3 x.args _ _ ((HI.out.kept HB0.out).mono HB0.out.size) HZX.out.1).mono ?_
     rintro e w2 ⟨rfl,hb⟩;clear k0 k1 k2 k3 k4;have HB1:=Lh (HB0.out.trans (Below.mono hb HB0.out.size));clear hb;obtain ⟨k0,k1,k2,k3,k4⟩:=HCE.out _ HB1.out
     skip
     cases v:zg5 x.args with
     | false =>
       have v1:=Lh v;clear v;go_wp2_with fail;go_ret
       exact ⟨by rw [HV2.out,zb4 HX.out (by rw [HPX.out,v0.out,Bool.true_and,v1.out,Bool.false_and])]; rfl,HB1.out⟩
     | true =>
       have v1:=Lh v;clear v;go_wp2_with fail;refine (K.zE1 x.tn x.tw _ _ (zz9 ((HT.out.kept HB1.out).mono HB1.out.size)) (by have:=HT.out.size; unfold maxLen; unfold big at this; omega)).mono ?_
       rintro e w3 ⟨rfl,hb⟩;clear k0 k1 k2 k3 k4;have HB2:=Lh (HB1.out.trans (Below.mono hb HB1.out.size));clear hb;obtain ⟨k0,k1,k2,k3,k4⟩:=HCE.out _ HB2.out
       skip
       cases v:K.okB x.tn x.tw with
       | false =>
         have v2:=Lh v;clear v;go_wp2_with fail;go_ret
         exact ⟨by rw [HV2.out,zb4 HX.out (by rw [HPX.out,v0.out,Bool.true_and,v1.out,Bool.true_and,v2.out,Bool.false_and])]; rfl,HB2.out⟩
       | true =>
         have v2:=Lh v;clear v;go_wp2_with fail;refine (zf8 x.dirs _ _ ((HD.out.kept HB2.out).mono HB2.out.size) HZX.out.2).mono ?_
         rintro e w4 ⟨rfl,hb⟩;clear k0 k1 k2 k3 k4;have HB3:=Lh (HB2.out.trans (Below.mono hb HB2.out.size));clear hb;obtain ⟨k0,k1,k2,k3,k4⟩:=HCE.out _ HB3.out
         skip
         cases v:zd3 x.dirs with
         | false =>
           have v3:=Lh v;clear v;go_wp2_with fail;go_ret
           exact ⟨by rw [HV2.out,zb4 HX.out (by rw [HPX.out,v0.out,Bool.true_and,v1.out,Bool.true_and,v2.out,Bool.true_and,v3.out])]; rfl,HB3.out⟩
         | true =>
           have v3:=Lh v;clear v;go_wp2_with fail
           go_roundw
           case rel=>exact ⟨i+1,by omega,by simp,Lh ⟨zf7 hr.out.1 HX.out (by rw [HPX.out,v0.out,Bool.true_and,v1.out,Bool.true_and,v2.out,Bool.true_and,v3.out]),HB3.out⟩⟩
           case measure=>simp [intOf]; omega
  ·have:i=len:=by omega
   subst this;have HVT:Hid (RB=true):=Lh (by rw [HV2.out]; exact zk7 fun j y h1 h2=>hr.out.1 j y (by have:=HL.out; omega) h2);go_wp2_with fail
   go_ret
   exact ⟨by rw [HVT.out]; rfl,hr.out.2⟩
theorem zu1 (xs:List MemT) (v:Value) (w:World) (h:MemsR w w.heap.size v xs) (hz:memsZ xs):Calls Tryz.prog 45 #[v,.bool true] w (BP (zf6 true xs) w):=by
 have HZ:=Lh hz;clear hz;have HV:Hid (zf6 true xs=(decide (1<=xs.length)&&(decide (xs.length<=64)&&xs.all (zj3 true)))):=Lh rfl;generalize zf6 true xs=RB at *;obtain ⟨A,c,rfl,hc,hb,V,hA,hr⟩:=h;have HA:=Lh hA;have HR:=Lh hr;unfold big at hb;obtain ⟨len,hlen⟩ : ∃ len,len=xs.length:=⟨_,rfl⟩;rw [<- hlen] at HV HA hb ⊢;have HL:=Lh hlen;clear hA hr hc hlen;have hlm:(len:Int)<=140737488351232:=by omega
 clear hb;by_cases hz1:len<1
 ·have hz2:(len:Int)<1:=by omega
  have HV2:Hid (RB=false):=Lh (by rw [HV.out,decide_eq_false (by omega)]; rfl);clear hz1
  go_enter Tryz.func45, Tryz.ntmps45
  go_wp2_with fail
  go_ret
  exact ⟨by rw [HV2.out]; rfl,Below.refl _ _⟩
 have hz2:¬ (len:Int)<1:=by omega
 by_cases hg:64<len
 ·have hg2:(len:Int) > 64:=by omega
  have HV2:Hid (RB=false):=Lh (by rw [HV.out,decide_eq_false (by omega:¬ len<=64)]; simp);clear hg
  go_enter Tryz.func45, Tryz.ntmps45
  go_wp2_with fail
  go_ret
  exact ⟨by rw [HV2.out]; rfl,Below.refl _ _⟩
 have hg2:¬ (len:Int) > 64:=by omega
 have HV2:Hid (RB=xs.all (zj3 true)):=Lh (by rw [HV.out,decide_eq_true (by omega:1<=len),decide_eq_true (by omega:len<=64)]; rfl)
 go_enter Tryz.func45, Tryz.ntmps45
 go_wp2_with fail
 clear hg hg2 hz1 hz2
 go_loopw [5] (fun u wr=>∃ i:Nat,i<=len/\u=.int .i64 i/\Hid ((∀ (j:Nat) (y:MemT),j<i->xs[j]?=some y->(zj3 true) y=true)/\Below w.heap.size w wr)) (fun u _=>len-(intOf u).toNat)
 case atStart=>exact ⟨0,Nat.zero_le _,rfl,Lh ⟨fun _ _ h=>absurd h (Nat.not_lt_zero _),Below.refl _ _⟩⟩
 case round =>
  obtain ⟨i,hi,rfl,hr⟩:=hrel;by_cases hlt:i<len
  ·skip
   have hlt':(i:Int)<len:=by omega
   obtain ⟨a,rfl,ha,hcell⟩:=HA.out (by omega);have hcell:=hcell i hlt;obtain ⟨x,hx⟩ : ∃ x,xs[i]?=some x:=⟨_,List.getElem?_eq_getElem (by have:=HL.out; omega)⟩;have hrx:=HR.out i x hx;obtain ⟨A1,c1,e1,_,_⟩:=hrx.dirs.form;have e0:=hrx.name;have HCE:Hid (∀ W:World,Below w.heap.size w W->W.cell? (a.add (i*2))=some (.string x.name)/\W.cell? ⟨(a.add (i*2)).block,(a.add (i*2)).off+1,none⟩=some (.slice A1 x.dirs.length c1)):=Lh fun W hW=>by
    have hh:∀ j,j<2->W.cell? (at_ (a.add (i*2)) j)=some (V i j):=fun j hj=>(hW.cell (by rw [zb5,za1]; exact ha)).trans (hcell j hj);exact ⟨(hh 0 (by omega)).trans (congrArg some e0),(hh 1 (by omega)).trans (congrArg some e1)⟩
   have HD:=hrx.dirs;rw [e1] at HD;replace HD:=Lh HD;have HN:=Lh hrx.size;have HPX:Hid (zj3 true x=(nmA x.name&&(zd3 x.dirs&&decide (x.dirs.length=0)))):=Lh (by unfold zj3; cases hq:decide (x.dirs.length=0) <;> simp_all [Nat.pos_iff_ne_zero]);have HX:=Lh hx;have HB0:=Lh hr.out.2;clear hcell hrx hx e0 e1;obtain ⟨k0,k1⟩:=HCE.out _ HB0.out;go_wp2_with fail;refine (zp2 x.name _ HN.out).mono ?_
   rintro e w1 ⟨rfl,rfl⟩
   cases v:nmA x.name with
   | false =>
     have v0:=Lh v;clear v;go_wp2_with fail;go_ret
     exact ⟨by rw [HV2.out,zb4 HX.out (by rw [HPX.out,v0.out,Bool.false_and])]; rfl,HB0.out⟩
   | true =>
     have v0:=Lh v;clear v;go_wp2_with fail;refine (zf8 x.dirs _ _ ((HD.out.kept HB0.out).mono HB0.out.size) (HZ.out x (List.mem_of_getElem? HX.out))).mono ?_
     rintro e w2 ⟨rfl,hb⟩;clear k0 k1;have HB1:=Lh (HB0.out.trans (Below.mono hb HB0.out.size));clear hb;obtain ⟨k0,k1⟩:=HCE.out _ HB1.out
     cases v:zd3 x.dirs with
     | false =>
       have v1:=Lh v;clear v;go_wp2_with fail;go_ret
       exact ⟨by rw [HV2.out,zb4 HX.out (by rw [HPX.out,v0.out,Bool.true_and,v1.out,Bool.false_and])]; rfl,HB1.out⟩
     | true =>
       have v1:=Lh v;clear v;by_cases hd:x.dirs.length=0
       ·have hd2:¬ (x.dirs.length:Int) > 0:=by omega
        have v2:Hid (decide (x.dirs.length=0)=true):=Lh (decide_eq_true hd);clear hd;go_wp2_with fail
        go_roundw
        case rel=>exact ⟨i+1,by omega,by simp,Lh ⟨zf7 hr.out.1 HX.out (by rw [HPX.out,v0.out,Bool.true_and,v1.out,Bool.true_and,v2.out]),HB1.out⟩⟩
        case measure=>simp [intOf]; omega
       ·have hd2:(x.dirs.length:Int) > 0:=by omega
        have v2:Hid (decide (x.dirs.length=0)=false):=Lh (decide_eq_false hd);clear hd;go_wp2_with fail;go_ret
        exact ⟨by rw [HV2.out,zb4 HX.out (by rw [HPX.out,v0.out,Bool.true_and,v1.out,Bool.true_and,v2.out])]; rfl,HB1.out⟩
  ·have:i=len:=by omega
   subst this;have HVT:Hid (RB=true):=Lh (by rw [HV2.out]; exact zk7 fun j y h1 h2=>hr.out.1 j y (by have:=HL.out; omega) h2);go_wp2_with fail
   go_ret
   exact ⟨by rw [HVT.out]; rfl,hr.out.2⟩
theorem zu2 (xs:List MemT) (v:Value) (w:World) (h:MemsR w w.heap.size v xs) (hz:memsZ xs):Calls Tryz.prog 45 #[v,.bool false] w (BP (zf6 false xs) w):=by
 have HZ:=Lh hz;clear hz;have HV:Hid (zf6 false xs=(decide (1<=xs.length)&&(decide (xs.length<=64)&&xs.all (zj3 false)))):=Lh rfl;generalize zf6 false xs=RB at *;obtain ⟨A,c,rfl,hc,hb,V,hA,hr⟩:=h;have HA:=Lh hA;have HR:=Lh hr;unfold big at hb;obtain ⟨len,hlen⟩ : ∃ len,len=xs.length:=⟨_,rfl⟩;rw [<- hlen] at HV HA hb ⊢;have HL:=Lh hlen;clear hA hr hc hlen;have hlm:(len:Int)<=140737488351232:=by omega
 clear hb;by_cases hz1:len<1
 ·have hz2:(len:Int)<1:=by omega
  have HV2:Hid (RB=false):=Lh (by rw [HV.out,decide_eq_false (by omega)]; rfl);clear hz1
  go_enter Tryz.func45, Tryz.ntmps45
  go_wp2_with fail
  go_ret
  exact ⟨by rw [HV2.out]; rfl,Below.refl _ _⟩
 have hz2:¬ (len:Int)<1:=by omega
 by_cases hg:64<len
 ·have hg2:(len:Int) > 64:=by omega
  have HV2:Hid (RB=false):=Lh (by rw [HV.out,decide_eq_false (by omega:¬ len<=64)]; simp);clear hg
  go_enter Tryz.func45, Tryz.ntmps45
  go_wp2_with fail
  go_ret
  exact ⟨by rw [HV2.out]; rfl,Below.refl _ _⟩
 have hg2:¬ (len:Int) > 64:=by omega
 have HV2:Hid (RB=xs.all (zj3 false)):=Lh (by rw [HV.out,decide_eq_true (by omega:1<=len),decide_eq_true (by omega:len<=64)]; rfl)
 go_enter Tryz.func45, Tryz.ntmps45
 go_wp2_with fail
 clear hg hg2 hz1 hz2
 go_loopw [5] (fun u wr=>∃ i:Nat,i<=len/\u=.int .i64 i/\Hid ((∀ (j:Nat) (y:MemT),j<i->xs[j]?=some y->(zj3 false) y=true)/\Below w.heap.size w wr)) (fun u _=>len-(intOf u).toNat)
 case atStart=>exact ⟨0,Nat.zero_le _,rfl,Lh ⟨fun _ _ h=>absurd h (Nat.not_lt_zero _),Below.refl _ _⟩⟩
 case round =>
  obtain ⟨i,hi,rfl,hr⟩:=hrel;by_cases hlt:i<len
  ·skip
   have hlt':(i:Int)<len:=by omega
   obtain ⟨a,rfl,ha,hcell⟩:=HA.out (by omega);have hcell:=hcell i hlt;obtain ⟨x,hx⟩ : ∃ x,xs[i]?=some x:=⟨_,List.getElem?_eq_getElem (by have:=HL.out; omega)⟩;have hrx:=HR.out i x hx;obtain ⟨A1,c1,e1,_,_⟩:=hrx.dirs.form;have e0:=hrx.name;have HCE:Hid (∀ W:World,Below w.heap.size w W->W.cell? (a.add (i*2))=some (.string x.name)/\W.cell? ⟨(a.add (i*2)).block,(a.add (i*2)).off+1,none⟩=some (.slice A1 x.dirs.length c1)):=Lh fun W hW=>by
    have hh:∀ j,j<2->W.cell? (at_ (a.add (i*2)) j)=some (V i j):=fun j hj=>(hW.cell (by rw [zb5,za1]; exact ha)).trans (hcell j hj);exact ⟨(hh 0 (by omega)).trans (congrArg some e0),(hh 1 (by omega)).trans (congrArg some e1)⟩
   have HD:=hrx.dirs;rw [e1] at HD;replace HD:=Lh HD;have HN:=Lh hrx.size;have HPX:Hid (zj3 false x=(nmA x.name&&zd3 x.dirs)):=Lh (by unfold zj3; simp);have HX:=Lh hx;have HB0:=Lh hr.out.2;clear hcell hrx hx e0 e1;obtain ⟨k0,k1⟩:=HCE.out _ HB0.out;go_wp2_with fail;refine (zp2 x.name _ HN.out).mono ?_
   rintro e w1 ⟨rfl,rfl⟩
   cases v:nmA x.name with
   | false =>
     have v0:=Lh v;clear v;go_wp2_with fail;go_ret
     exact ⟨by rw [HV2.out,zb4 HX.out (by rw [HPX.out,v0.out,Bool.false_and])]; rfl,HB0.out⟩
   | true =>
     have v0:=Lh v;clear v;go_wp2_with fail;refine (zf8 x.dirs _ _ ((HD.out.kept HB0.out).mono HB0.out.size) (HZ.out x (List.mem_of_getElem? HX.out))).mono ?_
     rintro e w2 ⟨rfl,hb⟩;clear k0 k1;have HB1:=Lh (HB0.out.trans (Below.mono hb HB0.out.size));clear hb;obtain ⟨k0,k1⟩:=HCE.out _ HB1.out
     cases v:zd3 x.dirs with
     | false =>
       have v1:=Lh v;clear v;go_wp2_with fail;go_ret
       exact ⟨by rw [HV2.out,zb4 HX.out (by rw [HPX.out,v0.out,Bool.true_and,v1.out])]; rfl,HB1.out⟩
     | true =>
       have v1:=Lh v;clear v;go_wp2_with fail
       go_roundw
       case rel=>exact ⟨i+1,by omega,by simp,Lh ⟨zf7 hr.out.1 HX.out (by rw [HPX.out,v0.out,Bool.true_and,v1.out]),HB1.out⟩⟩
       case measure=>simp [intOf]; omega
  ·have:i=len:=by omega
   subst this;have HVT:Hid (RB=true):=Lh (by rw [HV2.out]; exact zk7 fun j y h1 h2=>hr.out.1 j y (by have:=HL.out; omega) h2);go_wp2_with fail
   go_ret
   exact ⟨by rw [HVT.out]; rfl,hr.out.2⟩
end Go.Proofs.YtfgelheiknmjgaaGreatDoor

