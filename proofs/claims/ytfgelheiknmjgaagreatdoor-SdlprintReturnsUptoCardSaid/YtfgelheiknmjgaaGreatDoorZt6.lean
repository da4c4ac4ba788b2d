
/-
 Texts joined: Name Val Past Distinct Cmp.
-/
import Derived.Test.YtfgelheiknmjgaaGreatDoorZt5
import Derived.Deep.MidRow
import Derived.Maps.Own
import Derived.StringKeys
import Derived.Maps.OwnOps
import Derived.Maps.OwnSet
import Derived.Lib.Bytealg
import Derived.Lib.Small
set_option maxRecDepth 1000000
set_option maxHeartbeats 8000000
namespace Go.Proofs.YtfgelheiknmjgaaGreatDoor
open Go.RowKit
def digB (n:Int):Bool:=decide (48<=n)&&decide (n<=57)
def letB (n:Int):Bool:=(decide (97<=n)&&decide (n<=122))||(decide (65<=n)&&decide (n<=90))
def nmB (n:Int):Bool:=letB n||digB n||n==95
def allNm (l:List UInt8):Bool:=l.all fun c=>nmB (c.toNat:Int)
def nameL (l:List UInt8):Bool:=!l.isEmpty&&decide (l.length<=64)&&!digB ((l.getD 0 0).toNat:Int)&&allNm l
theorem zq7 (l:List UInt8) (p:UInt8->Bool) (k:Nat) (h:k<l.length) (hp:p l[k]=false):l.all p=false:=by
 rw [List.all_eq_false]; exact ⟨l[k],List.getElem_mem h,by simp [hp]⟩
theorem zi2 (l:List UInt8) (p:UInt8->Bool) (k:Nat) (h:k<l.length) (ha:(l.take k).all p=true) (hp:p l[k]=true):(l.take (k+1)).all p=true:=by
 rw [zt4 l k h,List.all_append,ha]; simp [hp]
def letU (n:Int):Bool:=letB n||n==95
theorem zi7 (n:Int) (w:World) (h0:0<=n) (h1:n<=255) :
  Calls Tryz.prog 94 #[.int .u8 n] w fun e w'=>e=.returned (.bool (digB n))/\w=w':=by
 go_enter Tryz.func94,Tryz.ntmps94
 go_wp2
 all_goals go_ret
 all_goals (simp [digB, *]; try omega)
theorem ze3 (n:Int) (w:World) (h0:0<=n) (h1:n<=255) :
  Calls Tryz.prog 93 #[.int .u8 n] w fun e w'=>e=.returned (.bool (letU n))/\w=w':=by
 go_enter Tryz.func93,Tryz.ntmps93
 go_wp2
 all_goals go_ret
 all_goals refine ⟨congrArg Ending.returned (congrArg Value.bool ?_),rfl⟩
 all_goals (rw [Bool.eq_iff_iff]; simp [letU,letB, *]; try omega)
theorem zs9 (s:ByteArray) (w:World) (h:s.size=0) :
  Calls Tryz.prog 42 #[.string s] w fun e w'=>e=.returned (.bool false)/\w=w':=by
 have h':(s.size:Int)<1:=by omega
 clear h;go_enter Tryz.func42,Tryz.ntmps42;go_wp2_with fail
 go_ret
 exact ⟨rfl,rfl⟩
theorem zw6 (s:ByteArray) (w:World) (hs:s.size<=maxLen) (h:64<s.size) :
  Calls Tryz.prog 42 #[.string s] w fun e w'=>e=.returned (.bool false)/\w=w':=by
 unfold maxLen at hs;go_enter Tryz.func42,Tryz.ntmps42;go_wp2_with fail
 go_ret
 exact ⟨rfl,rfl⟩
theorem nm_of (n:Int):nmB n=(letU n||digB n):=by unfold nmB letU; cases letB n <;> cases digB n <;> simp
def zq8 (l:List UInt8) (k:Nat):Prop:=allNm (l.take k)=true/\(0<k->digB ((l.getD 0 0).toNat:Int)=false)
theorem zt1 (l:List UInt8):zq8 l 0:=⟨rfl,fun h=>absurd h (by omega)⟩
theorem zm1 {l:List UInt8} {k:Nat} (h:zq8 l k) (hk:k<l.length) (h1:nmB (l[k].toNat:Int)=true) (h2:k=0->digB (l[k].toNat:Int)=false):zq8 l (k+1):=by
 refine ⟨zi2 l (fun c=>nmB (c.toNat:Int)) k hk h.1 h1,fun _=>?_⟩
 by_cases e:k=0
 ·subst e; rw [List.getD_eq_getElem?_getD,List.getElem?_eq_getElem hk]; exact h2 rfl
 ·exact h.2 (by omega)
theorem zw9 {l:List UInt8} (h:zq8 l l.length) (h0:0<l.length) (h1:l.length<=64):nameL l=true:=by
 unfold nameL;have e:=h.1;rw [List.take_length] at e;rw [h.2 h0,e]
 cases l with
 | nil=>simp at h0
 | cons a l=>simp at h1 ⊢; omega
theorem zw7 {l:List UInt8} {k:Nat} (hk:k<l.length) (h:nmB (l[k].toNat:Int)=false):nameL l=false:=by
 unfold nameL;rw [show allNm l=false from zq7 l (fun c=>nmB (c.toNat:Int)) k hk h]; simp
theorem zp6 {l:List UInt8} (hk:0<l.length) (h:digB (l[0].toNat:Int)=true):nameL l=false:=by
 unfold nameL;rw [List.getD_eq_getElem?_getD,List.getElem?_eq_getElem hk,Option.getD_some,h]; simp
theorem zw5 (s:ByteArray) (w:World) (h0:0<s.size) (h:s.size<=64) :
  Calls Tryz.prog 42 #[.string s] w fun e w'=>e=.returned (.bool (nameL s.data.toList))/\w=w':=by
 have hl:=Lh (size_eq s);go_enter Tryz.func42,Tryz.ntmps42;go_wp2_with fail
 go_loop [3] (fun i=>∃ k:Nat,k<=s.size/\i=.int .i64 k/\zq8 s.data.toList k) (fun i=>s.size-(intOf i).toNat)
 case atStart=>exact ⟨0,Nat.zero_le _,rfl,zt1 _⟩
 case round =>
  obtain ⟨k,hk,rfl,hH⟩:=hrel;by_cases hlt:k<s.size
  ·have hbk:=zg9 s[k]
   have hlk:k<s.data.toList.length:=by rw [hl.out]; exact hlt
   cases n1:letU (s[k].toNat:Int)
   ·cases n2:digB (s[k].toNat:Int)
    ·have H2:Hid (nameL s.data.toList=false):=Lh (zw7 hlk (by show nmB (s[k].toNat:Int)=false; rw [nm_of,n1,n2]; rfl))
     go_wp2_with (first | (go_at_call 93; refine (ze3 _ _ (by omega) (by omega)).mono ?_; rintro e w' ⟨rfl,rfl⟩) | (go_at_call 94; refine (zi7 _ _ (by omega) (by omega)).mono ?_; rintro e w' ⟨rfl,rfl⟩))
     all_goals go_ret
     all_goals exact ⟨by rw [H2.out]; rfl,rfl⟩
    ·by_cases hd:k=0
     ·subst hd
      have H2:Hid (nameL s.data.toList=false):=Lh (zp6 hlk n2);go_wp2_with (first | (go_at_call 93; refine (ze3 _ _ (by omega) (by omega)).mono ?_; rintro e w' ⟨rfl,rfl⟩) | (go_at_call 94; refine (zi7 _ _ (by omega) (by omega)).mono ?_; rintro e w' ⟨rfl,rfl⟩))
      all_goals go_ret
      all_goals exact ⟨by rw [H2.out]; rfl,rfl⟩
     ·have hd':((k:Int)==0)=false:=by rw [beq_eq_false_iff_ne]; omega
      have H3:=Lh (zm1 hH hlk (by show nmB (s[k].toNat:Int)=true; rw [nm_of,n1,n2]; rfl) (fun e=>absurd e hd));clear hH;go_wp2_with (first | (go_at_call 93; refine (ze3 _ _ (by omega) (by omega)).mono ?_; rintro e w' ⟨rfl,rfl⟩) | (go_at_call 94; refine (zi7 _ _ (by omega) (by omega)).mono ?_; rintro e w' ⟨rfl,rfl⟩))
      go_round
      case rel=>exact ⟨k+1,by omega,by go_num,H3.out⟩
      case measure=>simp [intOf]; omega
   ·have hnd:digB (s[k].toNat:Int)=false:=by
     unfold letU letB at n1; unfold digB; simp at n1 ⊢; omega
    have H3:=Lh (zm1 hH hlk (by show nmB (s[k].toNat:Int)=true; rw [nm_of,n1]; rfl) (fun _=>hnd));clear hH hnd;go_wp2_with (go_at_call 93; refine (ze3 _ _ (by omega) (by omega)).mono ?_; rintro e w' ⟨rfl,rfl⟩)
    go_round
    case rel=>exact ⟨k+1,by omega,by go_num,H3.out⟩
    case measure=>simp [intOf]; omega
  ·obtain rfl:k=s.size:=by omega
   have H1:Hid (nameL s.data.toList=true):=Lh (zw9 (by rw [hl.out]; exact hH) (by rw [hl.out]; exact h0) (by rw [hl.out]; exact h))
   go_wp2
   go_ret
   exact ⟨by rw [H1.out]; rfl,rfl⟩
theorem zd8 (s:ByteArray) (w:World) (hs:s.size<=maxLen) :
  Calls Tryz.prog 42 #[.string s] w fun e w'=>e=.returned (.bool (nameL s.data.toList))/\w=w':=by
 have hl:=size_eq s;by_cases h0:s.size=0
 ·have e:s.data.toList=[]:=List.eq_nil_of_length_eq_zero (by omega)
  rw [e]; exact zs9 s w h0
 by_cases h1:64<s.size
 ·have e:nameL s.data.toList=false:=by unfold nameL; rw [hl]; simp; omega
  rw [e]; exact zw6 s w hs h1
 exact zw5 s w (by omega) (by omega)
inductive VT where
 | mk (k n:Int) (s:ByteArray) (items:List VT) (keys:List ByteArray)
mutual
def VT.size:VT->Nat
 | .mk _ _ _ is _=>1+VT.sizes is
def VT.sizes:List VT->Nat
 | []=>0
 | t::r=>t.size+VT.sizes r
end
mutual
def VT.depth:VT->Nat
 | .mk _ _ _ is _=>1+VT.depths is
def VT.depths:List VT->Nat
 | []=>0
 | t::r=>max t.depth (VT.depths r)
end
theorem VT.ind {P:VT->Prop} (h:∀ k n s is ks,(∀ (i:Nat) (t:VT),is[i]?=some t->P t)->P (.mk k n s is ks)) (t:VT):P t :=
 VT.rec (motive_1:=P) (motive_2:=fun l=>∀ (i:Nat) (t:VT),l[i]?=some t->P t) (fun k n s is ks ih=>h k n s is ks ih)
  (fun i t hi=>by simp at hi) (fun x r hx hr i t hi=>by
    cases i with
    | zero=>simp at hi; subst hi; exact hx
    | succ j=>exact hr j t (by simpa using hi)) t
def C5 (w:World) (a:Addr) (v:Value):Prop:=∃ c0 c1 c2 c3 c4,v=.agg #[c0,c1,c2,c3,c4]/\w.cell? a=some c0/\w.cell? ⟨a.block,a.off+1,none⟩=some c1/\w.cell? ⟨a.block,a.off+2,none⟩=some c2/\w.cell? ⟨a.block,a.off+3,none⟩=some c3/\w.cell? ⟨a.block,a.off+4,none⟩=some c4
def KeysAt (w:World) (B:Nat) (K:Option Addr) (keys:List ByteArray):Prop :=
 0<keys.length->∃ a,K=some a/\a.block<B/\∀ i s,keys[i]?=some s->w.cell? (a.add i)=some (.string s)
def small (k:Int):Prop:=-9223372036854775808<=k/\k<=9223372036854775807
inductive Rd (w:World) (B:Nat):Value->VT->Prop
 | mk {k n:Int} {s:ByteArray} {A:Option Addr} {li ci:Nat} {K:Option Addr} {lk ck:Nat} {items:List VT} {keys:List ByteArray} (V:Nat->Value)
    (hk:small k) (hn:small n) (hs:s.size<=140737488351232) (hks:∀ s∈keys,s.size<=140737488351232)
    (hli:items.length=li) (hlk:keys.length=lk) (hbi:li*80<=140737488351232) (hbk:lk*16<=140737488351232/\lk<=ck)
    (hA:0<li->∃ a,A=some a/\a.block<B/\∀ i,i<li->C5 w (a.add (i*5)) (V i))
    (hr:∀ (i:Nat) (t:VT),items[i]?=some t->Rd w B (V i) t)
    (hK:KeysAt w B K keys) :
    Rd w B (.agg #[.int .i64 k,.int .i64 n,.string s,.slice A li ci,.slice K lk ck]) (.mk k n s items keys)
theorem za1 (a:Addr) (n:Nat):(a.add n).block=a.block:=by unfold Addr.add; split <;> rfl
theorem C5.kept {w w':World} {B:Nat} {a:Addr} {v:Value} (h:C5 w a v) (ha:a.block<B) (hb:Below B w w'):C5 w' a v:=by
 obtain ⟨c0,c1,c2,c3,c4,e,h0,h1,h2,h3,h4⟩:=h;exact ⟨c0,c1,c2,c3,c4,e,(hb.cell ha).trans h0,(hb.cell (p:=⟨a.block,a.off+1,none⟩) ha).trans h1,(hb.cell (p:=⟨a.block,a.off+2,none⟩) ha).trans h2,(hb.cell (p:=⟨a.block,a.off+3,none⟩) ha).trans h3,(hb.cell (p:=⟨a.block,a.off+4,none⟩) ha).trans h4⟩
theorem KeysAt.kept {w w':World} {B:Nat} {K:Option Addr} {keys:List ByteArray} (h:KeysAt w B K keys) (hb:Below B w w'):KeysAt w' B K keys:=by
 intro hl;obtain ⟨a,e,ha,hc⟩:=h hl;exact ⟨a,e,ha,fun i s hi=>(hb.cell (by rw [za1]; exact ha)).trans (hc i s hi)⟩
theorem Rd.kept {w w':World} {B:Nat} {v:Value} {t:VT} (h:Rd w B v t) (hb:Below B w w'):Rd w' B v t:=by
 induction h with
 | mk V hk hn hs hks hli hlk hbi hbk hA hr hK ih =>
   refine .mk V hk hn hs hks hli hlk hbi hbk (fun h0=>?_) ih (hK.kept hb)
   obtain ⟨a,e,ha,hc⟩:=hA h0;exact ⟨a,e,ha,fun i hi=>(hc i hi).kept (by rw [za1]; exact ha) hb⟩
theorem Rd.mono {w:World} {B B':Nat} {v:Value} {t:VT} (h:Rd w B v t) (hb:B<=B'):Rd w B' v t:=by
 induction h with
 | mk V hk hn hs hks hli hlk hbi hbk hA hr hK ih =>
   refine .mk V hk hn hs hks hli hlk hbi hbk (fun h0=>?_) ih (fun h0=>?_)
   ·obtain ⟨a,e,ha,hc⟩:=hA h0
    exact ⟨a,e,by omega,hc⟩
   ·obtain ⟨a,e,ha,hc⟩:=hK h0
    exact ⟨a,e,by omega,hc⟩
theorem Rd.cells {w w':World} {B:Nat} {v:Value} {t:VT} {a:Addr} (h:Rd w B v t) (hc:C5 w' a v) :
  ∃ (k n:Int) (s:ByteArray) (A:Option Addr) (li ci:Nat) (K:Option Addr) (lk ck:Nat),v=.agg #[.int .i64 k,.int .i64 n,.string s,.slice A li ci,.slice K lk ck] /\
   w'.cell? a=some (.int .i64 k)/\w'.cell? ⟨a.block,a.off+1,none⟩=some (.int .i64 n)/\w'.cell? ⟨a.block,a.off+2,none⟩=some (.string s) /\
   w'.cell? ⟨a.block,a.off+3,none⟩=some (.slice A li ci)/\w'.cell? ⟨a.block,a.off+4,none⟩=some (.slice K lk ck):=by
 cases h with
 | mk V hk hn hs hks hli hlk hbi hbk hA hr hK =>
   obtain ⟨c0,c1,c2,c3,c4,e,h0,h1,h2,h3,h4⟩:=hc;simp only [Value.agg.injEq,Array.mk.injEq,List.cons.injEq,and_true] at e;obtain ⟨rfl,rfl,rfl,rfl,rfl⟩:=e;exact ⟨_,_,_,_,_,_,_,_,_,rfl,h0,h1,h2,h3,h4⟩
theorem items_at {items:List VT} {li j:Nat} (hli:items.length=li) (hj:j<li):∃ t,items[j]?=some t:=⟨items[j]'(by omega),List.getElem?_eq_getElem (by omega)⟩
theorem zY0 (l:List VT) (k:Nat) (t:VT) (h:l[k]?=some t):VT.sizes (l.take (k+1))=VT.sizes (l.take k)+t.size:=by
 induction l generalizing k with
 | nil=>simp at h
 | cons x r ih =>
   cases k with
   | zero=>simp at h; subst h; simp [VT.sizes]
   | succ j=>simp only [List.take_succ_cons,VT.sizes]; rw [ih j (by simpa using h)]; omega
theorem zG5 (l:List VT) (k:Nat):VT.sizes (l.take k)<=VT.sizes l:=by
 induction l generalizing k with
 | nil=>simp
 | cons x r ih =>
   cases k with
   | zero=>simp [VT.sizes]
   | succ j=>simp only [List.take_succ_cons,VT.sizes]; have:=ih j; omega
theorem zj2 {w wr:World} {B li j:Nat} {A:Option Addr} {V:Nat->Value} {items:List VT} (hA:0<li->∃ a,A=some a/\a.block<B/\∀ i,i<li->C5 w (a.add (i*5)) (V i))
  (hR:∀ (i:Nat) (t:VT),items[i]?=some t->Rd w B (V i) t) (hli:items.length=li) (hb:Below B w wr) (hj:j<li) :
  ∃ (a:Addr) (t:VT) (k n:Int) (s:ByteArray) (A1:Option Addr) (l1 c1:Nat) (K:Option Addr) (lk ck:Nat),A=some a/\items[j]?=some t/\V j=.agg #[.int .i64 k,.int .i64 n,.string s,.slice A1 l1 c1,.slice K lk ck]/\Rd wr B (V j) t /\
   wr.cell? (a.add (j*5))=some (.int .i64 k)/\wr.cell? ⟨(a.add (j*5)).block,(a.add (j*5)).off+1,none⟩=some (.int .i64 n)/\wr.cell? ⟨(a.add (j*5)).block,(a.add (j*5)).off+2,none⟩=some (.string s) /\
   wr.cell? ⟨(a.add (j*5)).block,(a.add (j*5)).off+3,none⟩=some (.slice A1 l1 c1)/\wr.cell? ⟨(a.add (j*5)).block,(a.add (j*5)).off+4,none⟩=some (.slice K lk ck):=by
 obtain ⟨a,e,ha,hc⟩:=hA (by omega);obtain ⟨t,ht⟩:=items_at hli hj;have hrd:=(hR j t ht).kept hb;obtain ⟨k,n,s,A1,l1,c1,K,lk,ck,e1,h⟩:=hrd.cells ((hc j hj).kept (by rw [za1]; exact ha) hb);exact ⟨a,t,k,n,s,A1,l1,c1,K,lk,ck,e,ht,e1,hrd,h⟩
theorem zS1 (l:List VT) (k:Nat) (t:VT) (h:l[k]?=some t):VT.depths (l.take (k+1))=max (VT.depths (l.take k)) t.depth:=by
 induction l generalizing k with
 | nil=>simp at h
 | cons x r ih =>
   cases k with
   | zero=>simp at h; subst h; simp [VT.depths]
   | succ j=>simp only [List.take_succ_cons,VT.depths]; rw [ih j (by simpa using h)]; omega
theorem zr9 (l:List VT) (k:Nat):VT.depths (l.take k)<=VT.depths l:=by
 induction l generalizing k with
 | nil=>simp
 | cons x r ih =>
   cases k with
   | zero=>simp [VT.depths]
   | succ j=>simp only [List.take_succ_cons,VT.depths]; have:=ih j; omega
mutual
theorem VT.depth_le (t:VT):t.depth<=t.size:=by
 cases t with
 | mk k n s is ks=>simp only [VT.depth,VT.size]; have:=VT.depths_le is; omega
theorem VT.depths_le (l:List VT):VT.depths l<=VT.sizes l:=by
 cases l with
 | nil=>simp [VT.depths]
 | cons t r=>simp only [VT.depths,VT.sizes]; have:=VT.depth_le t; have:=VT.depths_le r; omega
end
structure Past (W:World) where
 w:World
 b:Below W.heap.size W w
instance {W:World}:Nonempty (Past W):=⟨⟨W,Below.refl _ _⟩⟩
theorem Past.le {W:World} (x:Past W):W.heap.size<=x.w.heap.size:=x.b.size
theorem zh5 {P:Program} {W:World} {f:FuncId} {args:Array Value} {v:Value} (x:Past W) (h:Calls P f args x.w fun e w'=>e=.returned v/\Below x.w.heap.size x.w w') :
  Calls P f args x.w fun e w''=>e=.returned v/\∃ y:Past W,w''=y.w :=
 h.mono fun _ _ ⟨he,hb⟩=>⟨he,⟨_,x.b.trans (hb.mono x.le)⟩,rfl⟩
theorem zB3 {P:Program} {W:World} {f:FuncId} {args:Array Value} {v:Value} (x:Past W) (h:Calls P f args x.w fun e w'=>e=.returned v/\x.w=w') :
  Calls P f args x.w fun e w''=>e=.returned v/\∃ y:Past W,w''=y.w :=
 h.mono fun _ _ ⟨he,hb⟩=>⟨he,x,hb.symm⟩
theorem zE4 {W:World} {b:Nat} {o:Obj} (h:W.heap[b]?=some o) (x:Past W):x.w.heap[b]?=some o:=by
 have hb:b<W.heap.size:=by
  rcases Nat.lt_or_ge b W.heap.size with h' | h'
  ·exact h'
  ·rw [Array.getElem?_eq_none h'] at h; cases h
 exact (x.b.block b hb).trans h
def Box (W:World) (b:Nat) (c0 c1 c2 c3 c4:Value):Prop:=W.heap[b]?=some (.cells #[c0,c1,c2,c3,c4] 53 (0,0))
theorem Box.cells {W:World} {b:Nat} {c0 c1 c2 c3 c4:Value} (h:Box W b c0 c1 c2 c3 c4) :
  W.cell? ⟨b,0,none⟩=some c0/\W.cell? ⟨b,1,none⟩=some c1/\W.cell? ⟨b,2,none⟩=some c2/\W.cell? ⟨b,3,none⟩=some c3/\W.cell? ⟨b,4,none⟩=some c4:=by
 refine ⟨?_, ?_, ?_, ?_, ?_⟩ <;> rw [cell_of_row _ _ _ _ _ _ h] <;> rfl
theorem Box.past {W:World} {b:Nat} {c0 c1 c2 c3 c4:Value} (h:Box W b c0 c1 c2 c3 c4) :
  (∀ x:Past W,x.w.cell? ⟨b,0,none⟩=some c0)/\(∀ x:Past W,x.w.cell? ⟨b,1,none⟩=some c1)/\(∀ x:Past W,x.w.cell? ⟨b,2,none⟩=some c2)/\(∀ x:Past W,x.w.cell? ⟨b,3,none⟩=some c3)/\(∀ x:Past W,x.w.cell? ⟨b,4,none⟩=some c4):=by
 have hx:=fun x:Past W=>Box.cells (W:=x.w) (zE4 h x);exact ⟨fun x=>(hx x).1,fun x=>(hx x).2.1,fun x=>(hx x).2.2.1,fun x=>(hx x).2.2.2.1,fun x=>(hx x).2.2.2.2⟩
theorem Box.kept {W W':World} {b:Nat} {c0 c1 c2 c3 c4:Value} (h:Box W b c0 c1 c2 c3 c4) (hb:Below W.heap.size W W'):Box W' b c0 c1 c2 c3 c4:=zE4 h ⟨W',hb⟩
theorem Box.new (W:World) (c0 c1 c2 c3 c4:Value):Box (W.alloc (.cells #[c0,c1,c2,c3,c4] 53 (0,0))) W.heap.size c0 c1 c2 c3 c4:=heap_alloc_new _ _
theorem Box.alloc {W:World} {b:Nat} {c0 c1 c2 c3 c4:Value} (h:Box W b c0 c1 c2 c3 c4) (o:Obj):Box (W.alloc o) b c0 c1 c2 c3 c4:=h.kept ((Below.refl _ _).alloc (Nat.le_refl _) _)
theorem Box.lt {W:World} {b:Nat} {c0 c1 c2 c3 c4:Value} (h:Box W b c0 c1 c2 c3 c4):b<W.heap.size:=by
 unfold Box at h;rcases Nat.lt_or_ge b W.heap.size with h' | h'
 ·exact h'
 ·rw [Array.getElem?_eq_none h'] at h; cases h
theorem Box.two (w:World) (c0 c1 c2 c3 c4 d0 d1 d2 d3 d4:Value):let W:=(w.alloc (.cells #[c0,c1,c2,c3,c4] 53 (0,0))).alloc (.cells #[d0,d1,d2,d3,d4] 53 (0,0))
  Box W w.heap.size c0 c1 c2 c3 c4/\Box W (w.heap.size+1) d0 d1 d2 d3 d4/\Below w.heap.size w W:=by
 refine ⟨(Box.new _ _ _ _ _ _).alloc _, ?_,((Below.refl _ _).alloc (Nat.le_refl _) _).alloc (by simp) _⟩
 have:=Box.new (w.alloc (.cells #[c0,c1,c2,c3,c4] 53 (0,0))) d0 d1 d2 d3 d4;simpa using this
theorem C5.past {W:World} {a:Addr} {c0 c1 c2 c3 c4:Value} {v:Value} (h:C5 W a v) (e:v=.agg #[c0,c1,c2,c3,c4]) (ha:a.block<W.heap.size) :
  (∀ x:Past W,x.w.cell? a=some c0)/\(∀ x:Past W,x.w.cell? ⟨a.block,a.off+1,none⟩=some c1)/\(∀ x:Past W,x.w.cell? ⟨a.block,a.off+2,none⟩=some c2)/\(∀ x:Past W,x.w.cell? ⟨a.block,a.off+3,none⟩=some c3)/\(∀ x:Past W,x.w.cell? ⟨a.block,a.off+4,none⟩=some c4):=by
 subst e;have hx:=fun x:Past W=>h.kept ha x.b;refine ⟨fun x=>?_,fun x=>?_,fun x=>?_,fun x=>?_,fun x=>?_⟩
 all_goals
  obtain ⟨d0,d1,d2,d3,d4,e,h0,h1,h2,h3,h4⟩:=hx x;simp only [Value.agg.injEq,Array.mk.injEq,List.cons.injEq,and_true] at e;obtain ⟨rfl,rfl,rfl,rfl,rfl⟩:=e
  assumption
theorem za7 {id:Nat} {Q:Exit->Act->World->Prop} {a:Act} {w:World} {l:List Oper} (F:World->Prop) (hF:F w) (hB:Region.lexB .any l.toArray=true)
  (h:∀ W,F W->Below w.heap.size w W->wpQuiet Tryz.prog l.toArray (fun w'=>∃ x:Past W,w'=x.w) (fun a'=>∀ w',(∃ x:Past W,w'=x.w)->Q .normal a' w') l a):(Code.region id l.toArray true).wp Tryz.prog Q a w :=
 wp_region_quiet (C:=fun w'=>∃ x:Past w,w'=x.w) (by kernel_rfl) hB ⟨⟨_,(Below.refl _ _).drew⟩,rfl⟩ (by simpa using h w hF (Below.refl _ _))
end Go.Proofs.YtfgelheiknmjgaaGreatDoor
namespace Go.Proofs.YtfgelheiknmjgaaGreatDoor
open Go.RowKit Go.Maps
theorem zu6 {H:Type} {P:Program} {e:TypeId} (he:P.underlying e=some .bool) {v:Value} {z:DataW H × List MemPlace} (h:plainElem P e v=some z):∃ x,v=.bool x/\z=(.lit (.bool x),[]):=by
 unfold plainElem at h;rw [he] at h;cases v <;> simp at h;exact ⟨_,rfl,h.symm⟩
theorem yq5 {H:Type} (u z:DataW H) (k:Lit):∀ (acc:List Lit) (m:DataW H),IsMap m->(∀ x∈acc,WideAt.IsKeyLit x)->(acc.foldl (fun m x=>m.put x u) m).atKey k z=if acc.any (fun x=>x.sameKey k) then u else m.atKey k z
 | [],m,_,_=>by simp
 | x::r,m,hm,h=>by
   rw [List.foldl_cons,yq5 u z k r (m.put x u) (hm.put x u) (fun y hy=>h y (by simp [hy])),List.any_cons];by_cases e:k=x
   ·subst e
    rw [atKey_put_same hm (h k (by simp)),WideAt.sameKey_self (h k (by simp))];simp
   ·rw [atKey_put_other e,sameKey_ne (fun e'=>e e'.symm)]
    simp
instance decBA:DecidableEq ByteArray:=fun a b=>decidable_of_iff (a.data=b.data) ⟨fun h=>by cases a; cases b; simp at h; subst h; rfl,fun h=>by rw [h]⟩
instance memBA (s:ByteArray) (l:List ByteArray):Decidable (s∈l):=decidable_of_iff (l.any (fun a=>decide (a=s))=true) (by simp)
def lits (l:List ByteArray):List Lit:=l.map fun s=>.string s.data.toList
def setD (l:List ByteArray):DataW Unit:=setOf (.lit (.bool true)) (lits l)
theorem lit_inj {a b:ByteArray}:(Lit.string a.data.toList=Lit.string b.data.toList) ↔ a=b:=by
 constructor
 ·intro h
  injection h with h;obtain ⟨a⟩:=a; obtain ⟨b⟩:=b;simp only [ByteArray.mk.injEq];exact Array.toList_inj.1 h
 ·rintro rfl; rfl
theorem ym1 (s:ByteArray):WideAt.IsKeyLit (.string s.data.toList):=by first | exact trivial | simp [WideAt.IsKeyLit]
theorem any_lits (l:List ByteArray) (s:ByteArray):(lits l).any (fun x=>x.sameKey (.string s.data.toList))=decide (s∈l):=by
 unfold lits
 induction l with
 | nil=>simp
 | cons a r ih =>
   rw [List.map_cons,List.any_cons,ih];by_cases e:a=s
   ·subst e; rw [WideAt.sameKey_self (ym1 a)]; simp
   ·rw [sameKey_ne (fun h=>e (lit_inj.1 h))]
    have e2:¬ s=a:=fun h=>e h.symm;simp [e2]
theorem setD_at (l:List ByteArray) (s:ByteArray):(setD l).atKey (.string s.data.toList) (.lit (.bool false))=.lit (.bool (decide (s∈l))):=by
 unfold setD setOf;rw [yq5 _ _ _ _ _ isMap_empty (fun x hx=>by obtain ⟨s,_,rfl⟩:=List.mem_map.1 hx; exact ym1 s),any_lits];by_cases h:s∈l
 ·simp [h]
 ·simp [h,DataW.atKey]
theorem yf0 (l:List ByteArray) (s:ByteArray):setD (l++[s])=(setD l).put (.string s.data.toList) (.lit (.bool true)):=by
 unfold setD lits; rw [List.map_append]; exact setOf_snoc _ _ _
theorem ya6 {l:List ByteArray} {k:Nat} (h:k<l.length):(l.take (k+1)).Nodup ↔ (l.take k).Nodup/\l[k] ∉ l.take k:=by
 rw [List.take_succ_eq_append_getElem h,List.nodup_append]
 constructor
 ·rintro ⟨h1,_,h3⟩
  exact ⟨h1,fun hm=>h3 _ hm _ (by simp) rfl⟩
 ·rintro ⟨h1,h2⟩
  exact ⟨h1,by simp,fun a ha b hb=>by simp at hb; subst hb; exact fun e=>h2 (e▸ha)⟩
theorem ya5 {l:List ByteArray} {k:Nat} (h:l.Nodup):(l.take k).Nodup:=h.sublist (List.take_sublist _ _)
theorem zi3 {H:Type} {P:Program} (w:World) {ops:Array Oper} {rest:List Oper} {o:Oper} {a:Act} {Q:Exit->Act->World->Prop}
  (hg:o.guard=none) (m x:Operand) (t:TypeId) (hop:o.op=Op.lookup t m x false)
  (k e:TypeId) (K:Keyed P k) (ht:P.underlying t=some (.map k e)) (he:P.underlying e=some .bool) (hz:(zeroValue e).run P w=.ok (.bool false) w) (b n:Nat) (D:DataW H)
  (hm:a.eval m=.map (some b)) (hown:w.ownsMap P k (plainElem P e) b n D) (key:Value) (kl:Lit) (hx:a.eval x=key) (hkey:keyOf P k key=some kl)
  (y:Bool) (hy:D.atKey kl (.lit (.bool false))=.lit (.bool y)) (hK:wpList P ops Q rest (a.put o.dst (.bool y)) w) :
  wpList P ops Q (o::rest) a w:=by
 refine wpList_plain hg fun K' hK'=>?_
 obtain ⟨v,ps,hrun,hv⟩:=hown.lookup K ht hz (plainElem_bool he false) hkey;obtain ⟨c,rfl,hc⟩:=zu6 he hv;simp only [Prod.mk.injEq] at hc;rw [hy] at hc;obtain ⟨hc,_⟩:=hc;injection hc with hc;injection hc with hc;subst hc;unfold Oper.wp;simp [execOp,hop,hm,hx,hrun,Result.andThen];exact hK' _ _ hK
theorem ym2:Keyed Tryz.prog 9 := string_keyed Tryz.underlying9
theorem zeroB (w:World):(zeroValue 4).run Tryz.prog w=.ok (.bool false) w:=by kernel_rfl
end Go.Proofs.YtfgelheiknmjgaaGreatDoor
namespace Go.Proofs.YtfgelheiknmjgaaGreatDoor
def orE (x y:Int):Int:=if x=0 then y else x
def keyD (ks:List ByteArray):ByteArray:=ks.headD ⟨#[]⟩
def cmpB (a b:ByteArray):Int:=Lib.compareBytes a.data.toList b.data.toList
mutual
def VT.cmp:VT->VT->Int
 | .mk k n s is ks,.mk k' n' s' is' ks'=>orE (Lib.compareInt k k') (orE (orE (Lib.compareInt n n') (cmpB s s')) (VT.cmps is ks is' ks'))
def VT.cmps:List VT->List ByteArray->List VT->List ByteArray->Int
 | [],_,[],_=>0
 | [],_,_::_,_=>-1
 | _::_,_,[],_=>1
 | t::r,ks,t'::r',ks'=>orE (orE (cmpB (keyD ks) (keyD ks')) (t.cmp t')) (VT.cmps r ks.tail r' ks'.tail)
end
def Tri (x y z:Int):Prop:=(x=0->z=y)/\(y=0->z=x)/\(x=y->z=x)
theorem zB5 {x y x' y':Int} (h:x'=-x) (h':y'=-y):orE x' y'=-orE x y:=by
 unfold orE;by_cases hx:x=0
 ·rw [if_pos (by omega),if_pos hx,h']
 ·rw [if_neg (by omega),if_neg hx,h]
theorem zW2 (a b:Int):Lib.compareInt b a=-Lib.compareInt a b:=by
 unfold Lib.compareInt;by_cases h1:a<b
 ·rw [if_neg (by omega),if_pos (by omega),if_pos h1]; rfl
 ·by_cases h2:b<a
  ·rw [if_pos h2,if_neg h1,if_pos (by omega)]
  ·rw [if_neg h2,if_neg (by omega),if_neg h1,if_neg (by omega)]; rfl
theorem zI6:∀ a b:List UInt8,Lib.compareBytes b a=-Lib.compareBytes a b
 | [],[]=>rfl
 | [],_::_=>rfl
 | _::_,[]=>rfl
 | a::xs,b::bs=>by
   unfold Lib.compareBytes;have ih:=zI6 xs bs;simp only [UInt8.lt_iff_toNat_lt];by_cases h1:a.toNat<b.toNat
   ·rw [if_neg (by omega),if_pos h1,if_pos h1]; rfl
   ·by_cases h2:b.toNat<a.toNat
    ·rw [if_pos h2,if_neg h1,if_pos h2]
    ·rw [if_neg h2,if_neg h1,if_neg h1,if_neg h2,ih]
mutual
theorem VT.cmp_neg (a b:VT):b.cmp a=-a.cmp b:=by
 cases a with
 | mk k n s is ks =>
   cases b with
   | mk k' n' s' is' ks' =>
     simp only [VT.cmp]
     exact zB5 (zW2 _ _) (zB5 (zB5 (zW2 _ _) (zI6 _ _)) (VT.cmps_neg is ks is' ks'))
theorem VT.cmps_neg (is:List VT) (ks:List ByteArray) (is':List VT) (ks':List ByteArray):VT.cmps is' ks' is ks=-VT.cmps is ks is' ks':=by
 match is,is' with
 | [],[]=>rfl
 | [],_::_=>rfl
 | _::_,[]=>rfl
 | t::r,t'::r' =>
   simp only [VT.cmps]
   exact zB5 (zB5 (zI6 _ _) (VT.cmp_neg t t')) (VT.cmps_neg r ks.tail r' ks'.tail)
end
theorem VT.cmp_self (a:VT):a.cmp a=0:=by have:=VT.cmp_neg a a; omega
def keyI (ks:List ByteArray) (i:Nat):ByteArray:=(ks[i]?).getD ⟨#[]⟩
def zC2 (is:List VT) (ks:List ByteArray) (is':List VT) (ks':List ByteArray) (i:Nat):Int :=
 match is[i]?,is'[i]? with
 | none,_=>-1
 | some _,none=>1
 | some t,some t'=>orE (cmpB (keyI ks i) (keyI ks' i)) (t.cmp t')
def zf1 (is:List VT) (ks:List ByteArray) (is':List VT) (ks':List ByteArray) (j:Nat):Int:=VT.cmps (is.drop j) (ks.drop j) (is'.drop j) (ks'.drop j)
theorem zM5 (ks:List ByteArray) (j:Nat):keyD (ks.drop j)=keyI ks j:=by
 unfold keyD keyI;rw [List.headD_eq_head?_getD,List.head?_drop]
theorem zS3 {is:List VT} {ks:List ByteArray} {is':List VT} {ks':List ByteArray} {j:Nat} (h:is.length<=j) (h':is'.length<=j):zf1 is ks is' ks' j=0:=by
 unfold zf1;rw [List.drop_of_length_le h,List.drop_of_length_le h']
 rfl
theorem zt2 {is:List VT} {ks:List ByteArray} {is':List VT} {ks':List ByteArray} {j:Nat} (h:j<is.length∨j<is'.length):zf1 is ks is' ks' j=orE (zC2 is ks is' ks' j) (zf1 is ks is' ks' (j+1)):=by
 unfold zf1 zC2;by_cases h1:j<is.length
 ·by_cases h2:j<is'.length
  ·rw [List.drop_eq_getElem_cons h1,List.drop_eq_getElem_cons h2,VT.cmps,List.getElem?_eq_getElem h1,List.getElem?_eq_getElem h2,zM5,zM5,List.tail_drop,List.tail_drop]
  ·rw [List.drop_eq_getElem_cons h1,List.drop_of_length_le (by omega:is'.length<=j),VT.cmps,List.getElem?_eq_getElem h1,List.getElem?_eq_none (by omega:is'.length<=j)]
   rfl
 ·have h2:j<is'.length:=by omega
  rw [List.drop_of_length_le (by omega:is.length<=j),List.drop_eq_getElem_cons h2,VT.cmps,List.getElem?_eq_none (by omega:is.length<=j)]
  rfl
theorem zF1:∀ a b:List UInt8,Lib.compareBytes a b=-1∨Lib.compareBytes a b=0∨Lib.compareBytes a b=1
 | [],[]=>by simp [Lib.compareBytes]
 | [],_::_=>by simp [Lib.compareBytes]
 | _::_,[]=>by simp [Lib.compareBytes]
 | a::xs,b::bs=>by
   unfold Lib.compareBytes
   split
   ·simp
   ·split
    ·simp
    ·exact zF1 xs bs
end Go.Proofs.YtfgelheiknmjgaaGreatDoor

