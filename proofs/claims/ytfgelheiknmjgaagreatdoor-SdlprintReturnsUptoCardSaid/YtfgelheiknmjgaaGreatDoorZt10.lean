
/-
 Texts joined: YReg G5 E1f.
-/
import Derived.Orders
import Derived.Test.YtfgelheiknmjgaaGreatDoorZt9
set_option maxRecDepth 1000000
set_option maxHeartbeats 8000000
namespace Go.Proofs.YtfgelheiknmjgaaGreatDoor.K
open Go.RowKit
section
variable {P:Program} {ops:Array Oper} {n s:Nat} {Q:Exit->Act->World->Prop}
theorem any_mem {α:Type} {xs:Array α} {p : α->Bool} (h:xs.any p=true):∃ e,e∈xs/\p e=true:=by
 rw [<- Array.any_toList,List.any_eq_true] at h;obtain ⟨e,he,hp⟩:=h;exact ⟨e,by simpa using he,hp⟩
def lowB (ops:Array Oper):Bool:=(List.range ops.size).all fun i=>match ops[i]? with | none=>true | some o=>o.after.all fun e=>!Region.binds .any e||decide (e.on<i)
theorem low_of (h:lowB ops=true) {i:Nat} {o:Oper} (ho:ops[i]?=some o):∀ e∈o.after,Region.binds .any e=true->e.on<i:=by
 intro e he hb;have hi:i<ops.size:=(Array.getElem?_eq_some_iff.1 ho).1;have:=List.all_eq_true.1 h i (List.mem_range.2 hi);rw [ho] at this;have h2:=(Array.all_eq_true_iff_forall_mem.1 this) e he;rw [hb] at h2;simpa using h2
theorem zZ4 (h:lowB ops=true) {L:Array Bool} (hr:Region.ready .any ops L=[]):∀ i,i<ops.size->L.getD i true=true:=by
 intro i
 induction i using Nat.strongRecOn with
 | ind i ih =>
 intro hi
 cases q:L.getD i true with
 | true=>rfl
 | false =>
   have hm:i∈Region.ready .any ops L:=mem_ready.2 ⟨q,ops[i],Array.getElem?_eq_getElem hi,fun e he hb=>by
    have hl:=low_of h (Array.getElem?_eq_getElem hi) e he hb;have:=ih e.on hl (by omega);have hs:e.on<L.size:=by
     rcases Nat.lt_or_ge e.on L.size with h' | h'
     ·exact h'
     ·exfalso
      have h2:i<L.size:=by
       rcases Nat.lt_or_ge i L.size with h3 | h3
       ·exact h3
       ·simp [Array.getD_eq_getD_getElem?,Array.getElem?_eq_none h3] at q
      omega
    rw [Array.getD_eq_getD_getElem?,Array.getElem?_eq_getElem hs] at this ⊢;simpa using this⟩
   rw [hr] at hm;cases hm
def unl (L:Array Bool):Nat:=L.toList.countP (fun b=>!b)
theorem unl_set {L:Array Bool} {i:Nat} (h:L.getD i true=false):unl (L.setIfInBounds i true)+1=unl L:=by
 have hi:i<L.size:=by
  rcases Nat.lt_or_ge i L.size with h3 | h3
  ·exact h3
  ·simp [Array.getD_eq_getD_getElem?,Array.getElem?_eq_none h3] at h
 have hv:L[i]=false:=by simpa [Array.getD_eq_getD_getElem?,Array.getElem?_eq_getElem hi] using h
 unfold unl;rw [Array.toList_setIfInBounds,List.countP_set (by simpa using hi)];have hp:0<L.toList.countP (fun b=>!b):=List.countP_pos_iff.2 ⟨L[i],by simp,by simp [hv]⟩;rw [show L.toList[i]'(by simpa using hi)=false from by simpa using hv];simp only [Bool.not_false,Bool.not_true,if_true,Bool.false_eq_true,if_false]
 omega
theorem unl_zero {L:Array Bool} (h:unl L=0) (i:Nat):L.getD i true=true:=by
 unfold unl at h;rw [List.countP_eq_zero] at h;rcases Nat.lt_or_ge i L.size with h3 | h3
 ·have:=h L[i] (by simp)
  rw [Array.getD_eq_getD_getElem?,Array.getElem?_eq_getElem h3];simpa using this
 ·simp [Array.getD_eq_getD_getElem?,Array.getElem?_eq_none h3]
theorem ym4 (hl:lowB ops=true) (I:Array Bool->Act->World->Prop)
  (hstep:∀ L a w i,L.size=ops.size->I L a w->i∈Region.ready .any ops L->wpOp P ops Q i (I (L.setIfInBounds i true)) a w)
  (hend:∀ L a w,L.size=ops.size->(∀ i,i<ops.size->L.getD i true=true)->I L a w->Q .normal a w) :
  ∀ (fuel:Nat) (L:Array Bool) (a:Act) (w:World),L.size=ops.size->unl L<=fuel->I L a w->wpAny P .any ops Q fuel L a w
 | 0,L,a,w,hs,hu,h=>by
   have hz:=unl_zero (L:=L) (by omega);refine ⟨?_,hend L a w hs (fun i _=>hz i) h⟩
   cases hr:Region.ready .any ops L with
   | nil=>rfl
   | cons i r =>
     have:=(mem_ready.1 (show i∈Region.ready .any ops L by rw [hr]; simp)).1;rw [hz i] at this; cases this
 | fuel+1,L,a,w,hs,hu,h=>by
   refine ⟨fun hr=>hend L a w hs (zZ4 hl hr) h,fun i hi=>?_⟩
   refine wpOp_mono (fun a' w' h'=>?_) (hstep L a w i hs h hi)
   exact ym4 hl I hstep hend fuel _ a' w' (by simpa using hs) (by have:=unl_set (mem_ready.1 hi).1; omega) h'
theorem zm9 (hm:P.follows .mixedOrders=true) {id:Nat} {a:Act} {w:World} (hl:lowB ops=true) (I:Array Bool->Act->World->Prop)
  (h0:I (Array.replicate ops.size false) a w.drew)
  (hstep:∀ L a w i,L.size=ops.size->I L a w->i∈Region.ready .any ops L->wpOp P ops Q i (I (L.setIfInBounds i true)) a w)
  (hend:∀ L a w,L.size=ops.size->(∀ i,i<ops.size->L.getD i true=true)->I L a w->Q .normal a w):(Code.region id ops true).wp P Q a w :=
 wp_region_any hm (ym4 hl I hstep hend ops.size _ a _ (by simp) (by unfold unl; simp only [Array.toList_replicate,List.countP_replicate]; simp) h0)
def dstOf (ops:Array Oper) (i:Nat):Option Tmp:=(ops[i]?).bind (·.dst)
def vof (ops:Array Oper) (a:Act) (i:Nat):Value:=match dstOf ops i with | some d=>a.tmps.getD d undef | none=>undef
def dstB (ops:Array Oper) (n s:Nat):Bool:=(List.range ops.size).all fun i=>(match dstOf ops i with | some d=>decide (d<n)&&decide (i≠s) | none=>decide (i=s))&&(List.range ops.size).all fun j=>decide (i=j)||decide (dstOf ops i≠dstOf ops j)||decide (dstOf ops i=none)
theorem dst_in (h:dstB ops n s=true) {i d:Nat} (hd:dstOf ops i=some d):d<n:=by
 have hi:i<ops.size:=by
  rcases Nat.lt_or_ge i ops.size with h' | h'
  ·exact h'
  ·simp [dstOf,Array.getElem?_eq_none h'] at hd
 have:=List.all_eq_true.1 h i (List.mem_range.2 hi);rw [hd,Bool.and_eq_true,Bool.and_eq_true] at this;simpa using this.1.1
theorem dst_nes (h:dstB ops n s=true) {i d:Nat} (hd:dstOf ops i=some d):i≠s:=by
 have hi:i<ops.size:=by
  rcases Nat.lt_or_ge i ops.size with h' | h'
  ·exact h'
  ·simp [dstOf,Array.getElem?_eq_none h'] at hd
 have:=List.all_eq_true.1 h i (List.mem_range.2 hi);rw [hd,Bool.and_eq_true,Bool.and_eq_true] at this;simpa using this.1.2
theorem dst_some (h:dstB ops n s=true) {i:Nat} (hi:i<ops.size) (hs:i≠s):∃ d,dstOf ops i=some d:=by
 have:=List.all_eq_true.1 h i (List.mem_range.2 hi);rw [Bool.and_eq_true] at this
 cases q:dstOf ops i with
 | some d=>exact ⟨d,rfl⟩
 | none=>rw [q] at this; exact absurd (by simpa using this.1) hs
theorem dst_ne (h:dstB ops n s=true) {i j d:Nat} (hd:dstOf ops i=some d) (hj:dstOf ops j=some d):i=j:=by
 have hi:i<ops.size:=by
  rcases Nat.lt_or_ge i ops.size with h' | h'
  ·exact h'
  ·simp [dstOf,Array.getElem?_eq_none h'] at hd
 have hj':j<ops.size:=by
  rcases Nat.lt_or_ge j ops.size with h' | h'
  ·exact h'
  ·simp [dstOf,Array.getElem?_eq_none h'] at hj
 have:=List.all_eq_true.1 h i (List.mem_range.2 hi);rw [Bool.and_eq_true] at this;have:=List.all_eq_true.1 this.2 j (List.mem_range.2 hj');rw [hd,hj] at this;simpa using this
def Fr (ops:Array Oper) (a0 a:Act):Prop:=a.defers=a0.defers/\a.tmps.size=a0.tmps.size/\∀ k,(∀ i,dstOf ops i≠some k)->a.tmps[k]?=a0.tmps[k]?
theorem Fr.put {a0 a:Act} (h:Fr ops a0 a) {i:Nat} {o:Oper} (ho:ops[i]?=some o) (v:Value):Fr ops a0 (a.put o.dst v):=by
 obtain ⟨h1,h2,h3⟩:=h
 cases q:o.dst with
 | none=>exact ⟨h1,h2,h3⟩
 | some d =>
   refine ⟨h1,by simpa [Act.put] using h2,fun k hk=>?_⟩
   have hne:d≠k:=fun e=>hk i (by simp [dstOf,ho,q,e]);simp only [Act.put]
   rw [Array.getElem?_setIfInBounds_ne hne];exact h3 k hk
theorem zP1 {a0 a:Act} (hb:dstB ops a0.tmps.size s=true) (h:Fr ops a0 a) {i j:Nat} {o:Oper} (ho:ops[i]?=some o) (v:Value):vof ops (a.put o.dst v) j=if i=j/\i≠s then v else vof ops a j:=by
 unfold vof;have hdi:dstOf ops i=o.dst:=by simp [dstOf,ho]
 have hil:i<ops.size:=(Array.getElem?_eq_some_iff.1 ho).1
 cases q:dstOf ops j with
 | none =>
   rw [if_neg];rintro ⟨rfl,hs⟩;obtain ⟨d,hd⟩:=dst_some hb hil hs;rw [hd] at q; cases q
 | some d =>
   simp only
   cases qi:o.dst with
   | none =>
     rw [if_neg]
     ·rfl
     ·rintro ⟨rfl,_⟩
      rw [hdi,qi] at q; cases q
   | some d' =>
     simp only [Act.put]
     by_cases e:d'=d
     ·subst e
      have hij:=dst_ne hb (hdi.trans qi) q;have hs:d'<a.tmps.size:=by rw [h.2.1]; exact dst_in hb q
      subst hij;rw [if_pos ⟨rfl,dst_nes hb q⟩];simp [Array.getD_eq_getD_getElem?,hs]
     ·rw [if_neg]
      ·simp only [Array.getD_eq_getD_getElem?]
       rw [Array.getElem?_setIfInBounds_ne e]
      ·rintro ⟨rfl,_⟩
       rw [hdi,qi] at q;exact e (by injection q)
def Runs (P:Program) (ops:Array Oper) (Q:Exit->Act->World->Prop) (o:Oper) (a:Act) (w:World) (R:Value->World->Prop):Prop :=
 Region.wanted o (yielded ops a.tmps)=true/\o.wp P a w (fun a' w'=>∃ v,a'=a.put o.dst v/\R v w') Q
end
def over (a0:Act) (ds:List Tmp) (f:Tmp->Value):Act:=ds.foldl (fun a d=>a.put (some d) (f d)) a0
theorem yi8 (ds:List Tmp) (f:Tmp->Value):∀ a0:Act,(over a0 ds f).tmps.size=a0.tmps.size/\(over a0 ds f).defers=a0.defers:=by
 induction ds with
 | nil=>intro a0; exact ⟨rfl,rfl⟩
 | cons d r ih=>intro a0; have:=ih (a0.put (some d) (f d)); simpa [over,Act.put] using this
theorem over_get (ds:List Tmp) (f:Tmp->Value):∀ (a0:Act) (k:Nat),(over a0 ds f).tmps[k]?=if k∈ds/\k<a0.tmps.size then some (f k) else a0.tmps[k]?:=by
 induction ds with
 | nil=>intro a0 k; simp [over]
 | cons d r ih =>
   intro a0 k;have:=ih (a0.put (some d) (f d)) k;rw [show over a0 (d::r) f=over (a0.put (some d) (f d)) r f from rfl,this];simp only [Act.put,Array.size_setIfInBounds,List.mem_cons];by_cases h1:k∈r/\k<a0.tmps.size
   ·rw [if_pos h1,if_pos ⟨.inr h1.1,h1.2⟩]
   ·rw [if_neg h1]
    by_cases e:d=k
    ·subst e
     by_cases h2:d<a0.tmps.size
     ·rw [if_pos ⟨.inl rfl,h2⟩]; simp [h2]
     ·have h4:a0.tmps.size<=d:=Nat.le_of_not_lt h2
      rw [if_neg (fun h=>h2 h.2),Array.getElem?_eq_none (by simpa using h4),Array.getElem?_eq_none h4]
    ·rw [Array.getElem?_setIfInBounds_ne e,if_neg]
     rintro ⟨h | h,h2⟩
     ·exact e h.symm
     ·exact h1 ⟨h,h2⟩
theorem over_of {ops:Array Oper} {a0 a:Act} (h:Fr ops a0 a) (ds:List Tmp) (hd:∀ i k,dstOf ops i=some k->k∈ds):a=over a0 ds (fun d=>a.tmps.getD d undef):=by
 obtain ⟨h1,h2,h3⟩:=h;obtain ⟨s1,s2⟩:=yi8 ds (fun d=>a.tmps.getD d undef) a0;have ht:a.tmps=(over a0 ds (fun d=>a.tmps.getD d undef)).tmps:=by
  apply Array.ext_getElem?
  intro k;rw [over_get];by_cases hk:k∈ds/\k<a0.tmps.size
  ·rw [if_pos hk,Array.getD_eq_getD_getElem?,Array.getElem?_eq_getElem (by omega)]; rfl
  ·rw [if_neg hk]
   by_cases hm:k∈ds
   ·have h4:a0.tmps.size<=k:=by
     rcases Nat.lt_or_ge k a0.tmps.size with h | h
     ·exact absurd ⟨hm,h⟩ hk
     ·exact h
    rw [Array.getElem?_eq_none (by omega),Array.getElem?_eq_none h4]
   ·exact h3 k (fun i e=>hm (hd i k e))
 cases a
 generalize over _ _ _=o at *;cases o
 simp_all
theorem Fr.slot {ops:Array Oper} {a0 a:Act} (h:Fr ops a0 a) (k:Nat) (hk:((List.range ops.size).all fun i=>decide (dstOf ops i≠some k))=true):a.tmps.getD k undef=a0.tmps.getD k undef:=by
 rw [Array.getD_eq_getD_getElem?,Array.getD_eq_getD_getElem?,h.2.2 k];intro i e;have hi:i<ops.size:=by
  rcases Nat.lt_or_ge i ops.size with h' | h'
  ·exact h'
  ·simp [dstOf,Array.getElem?_eq_none h'] at e
 have:=List.all_eq_true.1 hk i (List.mem_range.2 hi);exact (of_decide_eq_true this) e
theorem zK5 {P:Program} {ops:Array Oper} {Q:Exit->Act->World->Prop} {o:Oper} {a:Act} {w:World} {R:Value->World->Prop} (hw:Region.wanted o (yielded ops a.tmps)=true) (f:FuncId) (xs:Array Operand) (ts:Array TypeId)
  (ho:o.op=.call { callee:=.value (.func f),args:=xs,argTypes:=ts }) (hen:∀ (args:Array Value) (w:World),(callFunc f args).run P w=.ok (.enter f args) w) (vs:Array Value) (hx:xs.map a.eval=vs)
  (hc:Calls P f vs w fun e w'=>∃ v,e=.returned v/\R v w'):Runs P ops Q o a w R:=by
 refine ⟨hw, ?_⟩
 unfold Oper.wp;have he:(execOp a.eval o).run P w=.ok (.enter f vs) w:=by
  simp [execOp,ho,go_sem,hx,hen]
 rw [he];exact hc.mono fun e w' ⟨v,hv,hr⟩=>by subst hv; exact ⟨v,rfl,hr⟩
theorem zb0 {P:Program} {ops:Array Oper} {Q:Exit->Act->World->Prop} {o:Oper} {a:Act} {w w':World} {v:Value} {R:Value->World->Prop} (hw:Region.wanted o (yielded ops a.tmps)=true)
  (he:(execOp a.eval o).run P w=.ok (.value v) w') (h:R v w'):Runs P ops Q o a w R:=by
 refine ⟨hw, ?_⟩
 unfold Oper.wp;rw [he];exact ⟨v,rfl,h⟩
theorem zz8 {P:Program} {ops:Array Oper} {Q:Exit->Act->World->Prop} {o:Oper} {a:Act} {w w':World} {R:Value->World->Prop} (hw:Region.wanted o (yielded ops a.tmps)=true)
  (he:(execOp a.eval o).run P w=.ok .skip w') (h:R undef w'):Runs P ops Q o a w R:=by
 refine ⟨hw, ?_⟩
 unfold Oper.wp;rw [he];exact ⟨undef,rfl,h⟩
theorem map1 {α β:Type} (f : α->β) (x : α):(#[x]:Array α).map f=#[f x]:=by simp
theorem map2 {α β:Type} (f : α->β) (x y : α):(#[x,y]:Array α).map f=#[f x,f y]:=by simp
structure Fact where
 R:Value->World->Prop
 pers:∀ v w w',R v w->Below w.heap.size w w'->R v w'
def Fact.is (v:Value):Fact:=⟨fun u _=>u=v,fun _ _ _ h _=>h⟩
def Fact.any:Fact:=⟨fun _ _=>True,fun _ _ _ _ _=>trivial⟩
section
variable {P:Program} {ops:Array Oper} {Q:Exit->Act->World->Prop}
def dstsB (ops:Array Oper) (ds:List Tmp):Bool:=(List.range ops.size).all fun i=>match dstOf ops i with | none=>true | some d=>ds.contains d
theorem zg2 {a0 a:Act} (h:Fr ops a0 a) (ds:List Tmp) (hd:dstsB ops ds=true):a=over a0 ds (fun d=>a.tmps.getD d undef):=by
 refine over_of h ds fun i k hk=>?_
 have hi:i<ops.size:=by
  rcases Nat.lt_or_ge i ops.size with h' | h'
  ·exact h'
  ·rw [dstOf,Array.getElem?_eq_none h'] at hk; cases hk
 have:=List.all_eq_true.1 hd i (List.mem_range.2 hi);rw [hk] at this;simpa using this
end
section
variable {ops:Array Oper} {Q:Exit->Act->World->Prop} {o:Oper} {a:Act} {w:World} {R:Value->World->Prop}
theorem rc_neq (hw:Region.wanted o (yielded ops a.tmps)=true) (x y:Operand) {n m:Int} {b:Bool}
  (ho:o.op=.binOp .neq 3 x y 3) (hx:a.eval x=.int .i64 n) (hy:a.eval y=.int .i64 m) (hc:(n != m)=b) (h:R (.bool b) w):Runs Tryz.prog ops Q o a w R :=
 zb0 hw (by generalize a.eval=ρ at hx hy; subst hc; simp [execOp,ho,go_sem,hx,hy]) h
end
end Go.Proofs.YtfgelheiknmjgaaGreatDoor.K
namespace Go.Proofs.YtfgelheiknmjgaaGreatDoor.K
open Go.RowKit
def coverB (ops:Array Oper) (k:Nat):Bool:=(List.range k).all fun i=>(List.range (k+1)).any fun j=>decide (i<j)&&(match ops[j]? with | none=>false | some o=>o.after.any fun e=>Region.binds .any e&&decide (e.on=i))
theorem zI5 {ops:Array Oper} {k:Nat} (h:coverB ops k=true) {d:Nat->Bool} (hc:∀ i o,ops[i]?=some o->(d i=true∨i=k)->∀ e∈o.after,Region.binds .any e=true->d e.on=true):∀ (n i:Nat),k-i<=n->i<k->d i=true
 | 0,i,hn,hi=>by omega
 | n+1,i,hn,hi=>by
   have h1:=List.all_eq_true.1 h i (List.mem_range.2 hi);obtain ⟨j,hj,h2⟩:=List.any_eq_true.1 h1;rw [Bool.and_eq_true,decide_eq_true_eq] at h2;obtain ⟨hij,h3⟩:=h2;have hjk:=List.mem_range.1 hj
   cases ho:ops[j]? with
   | none=>rw [ho] at h3; cases h3
   | some o =>
     rw [ho] at h3;obtain ⟨e,he,h4⟩:=any_mem h3;rw [Bool.and_eq_true,decide_eq_true_eq] at h4;rw [<- h4.2];refine hc j o ho ?_ e he h4.1;by_cases hjk2:j=k
     ·exact .inr hjk2
     ·exact .inl (zI5 h hc n j (by omega) (by omega))
structure LJ (ops:Array Oper) (k:Nat) (F:List Fact) (W0:World) (C:Value->World->Prop) (d:Nat->Bool) (v:Nat->Value) (w:World):Prop where
 cl:∀ i o,ops[i]?=some o->d i=true->∀ e∈o.after,Region.binds .any e=true->d e.on=true
 pre:d k=false->Below W0.heap.size W0 w/\∀ i,i<k->d i=true->(F.getD i Fact.any).R (v i) w
 post:d k=true->C (v k) w/\(d (k+1)=true->v (k+1)=v k)
theorem zd1 {P:Program} {ops:Array Oper} {Q:Exit->Act->World->Prop} (hm:P.follows .mixedOrders=true) {id:Nat} {a0:Act} {W0:World} (hl:lowB ops=true) (hb:dstB ops a0.tmps.size ops.size=true) (k:Nat) (hk:coverB ops k=true) (hk2:ops.size<=k+2) (hk1:k<ops.size)
  (hk3:∀ o,ops[k+1]?=some o->∃ e∈o.after,Region.binds .any e=true/\e.on=k) (F:List Fact) (C:Value->World->Prop)
  (hop:∀ i o,ops[i]?=some o->i<k->∀ a w,Fr ops a0 a->Below W0.heap.size W0 w->(∀ e∈o.after,Region.binds .any e=true->(F.getD e.on Fact.any).R (vof ops a e.on) w)->Runs P ops Q o a w fun v w'=>Below w.heap.size w w'/\(F.getD i Fact.any).R v w')
  (hcall:∀ o,ops[k]?=some o->∀ a w,Fr ops a0 a->Below W0.heap.size W0 w->(∀ i,i<k->(F.getD i Fact.any).R (vof ops a i) w)->Runs P ops Q o a w C)
  (hass:∀ o,ops[k+1]?=some o->∀ a w,Fr ops a0 a->C (vof ops a k) w->Runs P ops Q o a w fun v w'=>w'=w/\v=vof ops a k)
  (hend:∀ a w,Fr ops a0 a->C (vof ops a k) w->(k+1<ops.size->vof ops a (k+1)=vof ops a k)->Q .normal a w) :
  (Code.region id ops true).wp P Q a0 W0:=by
 refine zm9 hm hl (fun L a w=>Fr ops a0 a/\LJ ops k F W0 C (fun j=>L.getD j false) (fun j=>vof ops a j) w) ?_ ?_ ?_
 ·have hz:∀ i,(Array.replicate ops.size false).getD i false=false:=fun i=>by
   rw [Array.getD_eq_getD_getElem?,Array.getElem?_replicate]; split <;> rfl
  exact ⟨⟨rfl,rfl,fun _ _=>rfl⟩,⟨fun i _ _ h=>(by rw [hz i] at h; cases h),fun _=>⟨(Below.refl _ _).drew,fun i _ h=>(by rw [hz i] at h; cases h)⟩,fun h=>(by rw [hz k] at h; cases h)⟩⟩
 ·intro L a w i hs ⟨hf,hJ⟩ hi
  obtain ⟨h0,o,ho,hall⟩:=mem_ready.1 hi;have hil:i<ops.size:=(Array.getElem?_eq_some_iff.1 ho).1;have hLi:i<L.size:=by omega
  have hset:∀ j,(L.setIfInBounds i true).getD j false=if i=j then true else L.getD j false:=fun j=>by
   by_cases e:i=j
   ·subst e; rw [if_pos rfl]; simp [Array.getD_eq_getD_getElem?,hLi]
   ·rw [if_neg e,Array.getD_eq_getD_getElem?,Array.getD_eq_getD_getElem?,Array.getElem?_setIfInBounds_ne e]
  have hi0:L.getD i false=false:=by
   rw [Array.getD_eq_getD_getElem?,Array.getElem?_eq_getElem hLi] at h0 ⊢; simpa using h0
  have hv:∀ (u:Value) j,vof ops (a.put o.dst u) j=if i=j then u else vof ops a j:=fun u j=>by
   rw [zP1 hb hf ho u];by_cases e:i=j
   ·rw [if_pos ⟨e,by omega⟩,if_pos e]
   ·rw [if_neg (fun h=>e h.1),if_neg e]
  have hcl2:∀ i' o',ops[i']?=some o'->(L.setIfInBounds i true).getD i' false=true->∀ e∈o'.after,Region.binds .any e=true->(L.setIfInBounds i true).getD e.on false=true:=by
   intro i' o' ho' hd e he hbd;rw [hset] at hd ⊢
   split
   ·rfl
   ·by_cases e2:i=i'
    ·subst e2; rw [ho] at ho'; cases ho'; exact hall e he hbd
    ·rw [if_neg e2] at hd; exact hJ.cl i' o' ho' hd e he hbd
  have wrap:∀ (K:Act->World->Prop),(Region.wanted o (yielded ops a.tmps)=true/\o.wp P a w K Q)->wpOp P ops Q i K a w:=fun K h=>by
   unfold wpOp; rw [ho]; simp only [h.1,if_true]; exact .inl h.2
  by_cases e1:i<k
  ·have hkf:L.getD k false=false:=by
    cases hh:L.getD k false with
    | false=>rfl
    | true =>
      have:=zI5 hk (d:=fun j=>L.getD j false) (fun i' o' ho' h e he hbd=>by
       rcases h with h | rfl
       ·exact hJ.cl i' o' ho' h e he hbd
       ·exact hJ.cl _ o' ho' hh e he hbd) _ i (Nat.le_refl _) e1
      rw [hi0] at this; cases this
   obtain ⟨hbl,hG⟩:=hJ.pre hkf;obtain ⟨hw,hr⟩:=hop i o ho e1 a w hf hbl (fun e he hbd=>hG _ (Nat.lt_trans (low_of hl ho e he hbd) e1) (hall e he hbd));refine wrap _ ⟨hw,Oper.wp_mono (fun a' w' ⟨v,e,hb2,hv2⟩=>?_) hr⟩;subst e;refine ⟨hf.put ho v,⟨hcl2,fun _=>⟨hbl.trans (hb2.mono hbl.size),fun j hj hd=>?_⟩,fun hd=>?_⟩⟩
   ·rw [hv]
    rw [hset] at hd;by_cases e:i=j
    ·subst e; rw [if_pos rfl]; exact hv2
    ·rw [if_neg e] at hd; rw [if_neg e]; exact (F.getD j Fact.any).pers _ _ _ (hG j hj hd) hb2
   ·simp only [hset] at hd
    rw [if_neg (by omega),hkf] at hd; cases hd
  by_cases e2:i=k
  ·subst e2
   obtain ⟨hbl,hG⟩:=hJ.pre hi0;have hallk:=zI5 hk (d:=fun j=>L.getD j false) (fun i' o' ho' h e he hbd=>by
    rcases h with h | rfl
    ·exact hJ.cl i' o' ho' h e he hbd
    ·rw [ho] at ho'; cases ho'; exact hall e he hbd)
   obtain ⟨hw,hr⟩:=hcall o ho a w hf hbl (fun j hj=>hG j hj (hallk _ j (Nat.le_refl _) hj));refine wrap _ ⟨hw,Oper.wp_mono (fun a' w' ⟨v,e,hv2⟩=>?_) hr⟩;subst e;refine ⟨hf.put ho v,⟨hcl2,fun hd=>?_,fun _=>⟨by rw [hv,if_pos rfl]; exact hv2,fun hd=>?_⟩⟩⟩
   ·simp only [hset,if_true] at hd; cases hd
   ·simp only [hset] at hd
    rw [if_neg (by omega)] at hd
    cases ho1:ops[i+1]? with
    | none =>
      have hn:L.size<=i+1:=by rw [hs]; exact Array.getElem?_eq_none_iff.1 ho1
      rw [Array.getD_eq_getD_getElem?,Array.getElem?_eq_none hn] at hd; cases hd
    | some o1 =>
      obtain ⟨e,he,hbd,hon⟩:=hk3 o1 ho1;have:=hJ.cl (i+1) o1 ho1 hd e he hbd;simp only [hon] at this;rw [hi0] at this; cases this
  ·obtain rfl:i=k+1:=by omega
   obtain ⟨e,he,hbd,hon⟩:=hk3 o ho;have hkt:L.getD k false=true:=hon▸hall e he hbd;obtain ⟨hC,_⟩:=hJ.post hkt;obtain ⟨hw,hr⟩:=hass o ho a w hf hC;refine wrap _ ⟨hw,Oper.wp_mono (fun a' w' ⟨v,e,e5,hv2⟩=>?_) hr⟩;subst e; subst e5;refine ⟨hf.put ho v,⟨hcl2,fun hd=>?_,fun _=>⟨by rw [hv,if_neg (by omega)]; exact hC,fun _=>by rw [hv,hv,if_pos rfl,if_neg (by omega)]; exact hv2⟩⟩⟩;simp only [hset] at hd
   rw [if_neg (by omega),hkt] at hd; cases hd
 ·intro L a w hs hall ⟨hf,hJ⟩
  have hd:∀ i,i<ops.size->L.getD i false=true:=fun i hi=>by
   have:=hall i hi;rw [Array.getD_eq_getD_getElem?,Array.getElem?_eq_getElem (by omega)] at this ⊢; simpa using this
  obtain ⟨hC,h1⟩:=hJ.post (hd k hk1);exact hend a w hf hC fun h=>h1 (hd _ h)
end Go.Proofs.YtfgelheiknmjgaaGreatDoor.K
namespace Go.Proofs.YtfgelheiknmjgaaGreatDoor
open Go.RowKit
abbrev zI0 (s:Nat) (ps:String) (c:Int):Array Oper :=
 #[{ dst:=some s,op:=.move (.tmp 0),type := 146,pos:=ps,after:=#[],guard:=none },
  { dst:=some (s+1),op:=.nilCheck (.tmp s),type:=0,pos:=ps,after:=#[{ on:=0,ground:=.data }],guard:=none },
  { dst:=some (s+2),op:=.fieldAddr 65 (.tmp (s+1)) 1,type:=0,pos:=ps,after:=#[{ on:=1,ground:=.data }],guard:=none },
  { dst:=some (s+3),op:=.load 63 (.tmp (s+2)),type := 63,pos:=ps,after:=#[{ on:=2,ground:=.data }],guard:=none },
  { dst:=some (s+4),op:=.move (.tmp 0),type := 146,pos:=ps,after:=#[],guard:=none },
  { dst:=some (s+5),op:=.call { callee:=.value (.func 52),args:=#[.tmp (s+4)],argTypes:=#[146] },type := 99,pos:=ps,after:=#[{ on:=4,ground:=.data }],guard:=none },
  { dst:=some (s+6),op:=.call { callee:=.value (.tmp (s+3)),args:=#[.tmp (s+5),.const (.int .i64 c)],argTypes:=#[99, 29] },type:=0,pos:=ps,after:=#[{ on:=3,ground:=.data }, { on:=5,ground:=.data }, { on:=5,ground:=.chain }],guard:=none }]
theorem en_next:∀ (args:Array Value) (w:World),(callFunc 52 args).run Tryz.prog w=.ok (.enter 52 args) w:=enters_of Tryz.func52 (by kernel_rfl) rfl
abbrev malP (x:Er):List PanicEntry:=[{ v:=.iface 61 (.agg #[.int .i64 x.1,.int .i64 x.2]),recovered:=false }]
section
variable {ops:Array Oper} {Q:Exit->Act->World->Prop} {o:Oper} {a:Act} {w:World} {R:Value->World->Prop}
theorem zb9 (hw:Region.wanted o (yielded ops a.tmps)=true) (x:Operand) {v:Value} (ho:o.op=.move x) (hx:a.eval x=v) (h:R v w):K.Runs Tryz.prog ops Q o a w R :=
 K.zb0 hw (by generalize a.eval=ρ at hx; simp [execOp,ho,go_sem,hx]) h
theorem zm7 (hw:Region.wanted o (yielded ops a.tmps)=true) (x:Operand) {p i:Nat} (ho:o.op=.nilCheck x) (hx:a.eval x=.pointer (some ⟨p,i,none⟩)) (h:R (.pointer (some ⟨p,i,none⟩)) w):K.Runs Tryz.prog ops Q o a w R :=
 K.zb0 hw (by generalize a.eval=ρ at hx; simp [execOp,ho,go_sem,hx]) h
theorem rp_fa1 (hw:Region.wanted o (yielded ops a.tmps)=true) (x:Operand) {p:Nat} (ho:o.op=.fieldAddr 65 x 1) (hx:a.eval x=.pointer (some ⟨p,0,none⟩)) (h:R (.pointer (some ⟨p,1,none⟩)) w):K.Runs Tryz.prog ops Q o a w R :=
 K.zb0 hw (by generalize a.eval=ρ at hx; simp [execOp,ho,go_sem,hx]) h
theorem zp1 (hw:Region.wanted o (yielded ops a.tmps)=true) (x:Operand) {p:Nat} (ho:o.op=.fieldAddr 67 x 0) (hx:a.eval x=.pointer (some ⟨p,0,none⟩)) (h:R (.pointer (some ⟨p,0,none⟩)) w):K.Runs Tryz.prog ops Q o a w R :=
 K.zb0 hw (by generalize a.eval=ρ at hx; simp [execOp,ho,go_sem,hx]) h
theorem rp_ldF (hw:Region.wanted o (yielded ops a.tmps)=true) (x:Operand) {g i:Nat} {v:Value} (ho:o.op=.load 63 x) (hx:a.eval x=.pointer (some ⟨g,i,none⟩)) (hc:w.cell? ⟨g,i,none⟩=some v) (h:R v w):K.Runs Tryz.prog ops Q o a w R :=
 K.zb0 hw (by generalize a.eval=ρ at hx; simp [execOp,ho,go_sem,hx,hc]) h
theorem yg0 (hw:Region.wanted o (yielded ops a.tmps)=true) (x y:Operand) (t:Tk) (c:Int) (ts:Array TypeId) (ho:o.op=.call { callee:=.value x,args:=#[y,.const (.int .i64 c)],argTypes:=ts }) (hx:a.eval x=fnV) (hy:a.eval y=tkV t)
  (h:∀ w',Below w.heap.size w w'->Q (.panic (malP (t.2.2,c))) a w'):K.Runs Tryz.prog ops Q o a w R:=by
 refine ⟨hw, ?_⟩
 unfold Oper.wp;have hz:a.eval (.const (.int .i64 c))=.int .i64 c:=rfl;have he:(execOp a.eval o).run Tryz.prog w=.ok (.enter 27 #[tkV t,.int .i64 c]) w:=by
  generalize a.eval=ρ at hx hy hz;simp [execOp,ho,go_sem,hx,hy,hz]
 rw [he];refine (yh7 t c w).mono fun e w' h'=>?_;obtain ⟨rfl,hb⟩:=h';exact h w' hb
end
theorem zg8 {Q:Exit->Act->World->Prop} {id:Nat} (s:Nat) {ps:String} {c:Int} {a0:Act} {W:World} {p:Nat} {ts:List Tk} {n:Nat} (h:PSt W p ts n) (hb:K.dstB (zI0 s ps c) a0.tmps.size 7=true) (h0:a0.tmps.getD 0 undef=pP p)
  (hs:((List.range 7).all fun i=>decide (K.dstOf (zI0 s ps c) i≠some 0))=true) (hQ:∀ a w',K.Fr (zI0 s ps c) a0 a->Below W.heap.size W w'->Q (.panic (malP (erR ts c))) a w'):(Code.region id (zI0 s ps c) true).wp Tryz.prog Q a0 W:=by
 refine K.zd1 (by kernel_rfl) (by kernel_rfl) hb 6 (by kernel_rfl) (Nat.le_refl 7 |> fun h=>Nat.le_succ_of_le h) (Nat.lt_succ_self 6) (fun o ho=>by cases ho) [K.Fact.is (pP p),K.Fact.is (pP p),K.Fact.is (.pointer (some ⟨p,1,none⟩)),K.Fact.is fnV,K.Fact.is (pP p),K.Fact.is (tkV (hd ts))] (fun _ _=>False) ?_ ?_ (fun o ho=>by cases ho) (fun _ _ _ h _=>h.elim)
 ·intro i o ho hi a w hf hbl had
  have e0:a.tmps.getD 0 undef=pP p:=(hf.slot 0 hs).trans h0;have hc:i=0∨i=1∨i=2∨i=3∨i=4∨i=5:=by omega
  rcases hc with rfl | rfl | rfl | rfl | rfl | rfl
  ·cases ho
   exact zb9 rfl (.tmp 0) rfl e0 ⟨Below.refl _ _,rfl⟩
  ·cases ho
   have h1:K.vof _ a 0=pP p:=had ⟨0,.data⟩ (by simp) rfl;exact zm7 rfl (.tmp s) rfl h1 ⟨Below.refl _ _,rfl⟩
  ·cases ho
   have h1:K.vof _ a 1=pP p:=had ⟨1,.data⟩ (by simp) rfl;exact rp_fa1 rfl (.tmp (s+1)) rfl h1 ⟨Below.refl _ _,rfl⟩
  ·cases ho
   have h1:K.vof _ a 2=.pointer (some ⟨p,1,none⟩):=had ⟨2,.data⟩ (by simp) rfl;exact rp_ldF rfl (.tmp (s+2)) rfl h1 (h.stay hbl).fail ⟨Below.refl _ _,rfl⟩
  ·cases ho
   exact zb9 rfl (.tmp 0) rfl e0 ⟨Below.refl _ _,rfl⟩
  ·cases ho
   have h1:K.vof _ a 4=pP p:=had ⟨4,.data⟩ (by simp) rfl;exact K.zK5 rfl _ _ _ rfl en_next #[pP p] (by rw [K.map1]; exact congrArg (fun x=>#[x]) h1) ((zh4 (h.stay hbl)).mono fun e w' ⟨he,hb2⟩=>⟨_,he,hb2,rfl⟩)
 ·intro o ho a w hf hbl hF
  cases ho
  have h3:K.vof _ a 3=fnV:=hF 3 (by omega);have h5:K.vof _ a 5=tkV (hd ts):=hF 5 (by omega);exact yg0 rfl (.tmp (s+3)) (.tmp (s+5)) (hd ts) c _ rfl h3 h5 fun w' hb2=>hQ a w' hf (hbl.trans (hb2.mono hbl.size))
end Go.Proofs.YtfgelheiknmjgaaGreatDoor

