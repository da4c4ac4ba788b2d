
/-
 Texts joined: KList E0 E1 YReg G5.
-/
import Derived.Test.YtfgelheiknmjgaaGreatDoorZs9
import Derived.Test.YtfgelheiknmjgaaGreatDoorZs6
import Derived.Test.YtfgelheiknmjgaaGreatDoorZs3
import Derived.Test.YtfgelheiknmjgaaGreatDoorZs4
import Derived.Orders
namespace Go.Proofs.YtfgelheiknmjgaaGreatDoor.K
open Go.RowKit
abbrev Tz:=Int × List UInt8 × Int
def zC (zs:List Tz):List Value:=zs.flatMap fun p => [.int .i64 p.1,.string ⟨p.2.1.toArray⟩,.int .i64 p.2.2]
def tz (ts:List Tk):List Tz:=ts.map fun p => (p.1,p.2.1,(p.2.2:Int))
def C3 (w:World) (a:Addr) (p:Tz):Prop:=w.cell? a = some (.int .i64 p.1) ∧ w.cell? ⟨a.block,a.off + 1,none⟩ = some (.string ⟨p.2.1.toArray⟩) ∧ w.cell? ⟨a.block,a.off + 2,none⟩ = some (.int .i64 p.2.2)
theorem za1 (a:Addr) (n:Nat):(a.add n).block = a.block:=by
 unfold Addr.add; split <;> rfl
def ZAt (w:World) (B:Nat) (A:Option Addr) (zs:List Tz):Prop:=0 < zs.length → ∃ a,A = some a ∧ a.block < B ∧ ∀ i p,zs[i]? = some p → C3 w (a.add (i * 3)) p
def OwnZ (T:TypeId) (w:World) (base:Nat) (v:Value) (zs:List Tz):Prop:=w.ownsRow base T 3 v zs.length (zC zs)
def OwnS (w:World) (base:Nat) (v:Value) (ss:List (List UInt8)):Prop:=w.ownsRow base 9 1 v ss.length (ss.map fun s => .string ⟨s.toArray⟩)
end Go.Proofs.YtfgelheiknmjgaaGreatDoor.K
namespace Go.Proofs.YtfgelheiknmjgaaGreatDoor
open Go.RowKit
abbrev Tk:=Int × List UInt8 × Nat
abbrev Er:=Nat × Int
def tkV (t:Tk):Value:=.agg #[.int .i64 t.1,.string ⟨t.2.1.toArray⟩,.int .i64 t.2.2]
def hd (ts:List Tk):Tk:=ts.headD (0,[],0)
structure TkOk (t:Tk):Prop where
 k0:0 ≤ t.1
 k5:t.1 ≤ 5
 len:t.2.1.length ≤ 1000000
 at_:t.2.2 ≤ 1000000
structure Good (ts:List Tk):Prop where
 last:∃ i t,ts = i ++ [t] ∧ t.1 = 5
 ok:∀ t ∈ ts,TkOk t
 len:ts.length ≤ 1000000
def TAt (w:World) (B:Nat) (A:Option Addr) (ts:List Tk):Prop :=
 ∃ a,A = some a ∧ a.block < B ∧ ∀ i t,ts[i]? = some t → w.cell? (a.add (i * 3)) = some (.int .i64 t.1) ∧ w.cell? ⟨(a.add (i * 3)).block,(a.add (i * 3)).off + 1,none⟩ = some (.string ⟨t.2.1.toArray⟩) ∧ w.cell? ⟨(a.add (i * 3)).block,(a.add (i * 3)).off + 2,none⟩ = some (.int .i64 t.2.2)
abbrev fnV:Value:=.func (.func 27) #[] #[]
abbrev rdC (A:Option Addr) (l c:Nat) (n:Int):Array Value:=#[.slice A l c,fnV,.bool false,.int .i64 n]
structure PSt (w:World) (p:Nat) (ts:List Tk) (n:Nat):Prop where
 box:∃ A c,Bk w p (rdC A ts.length c n) 67 ∧ ts.length ≤ c ∧ TAt w p A ts
 good:Good ts
 hn:n ≤ 4097
 laid:∀ w2,Below p w w2 → T1.Laid w2
structure Tw (p N:Nat) (w w':World):Prop where
 os:w'.os = w.os
 tape:w'.tape = w.tape
 output:w'.output = w.output
 size:w.heap.size ≤ w'.heap.size
 block:∀ k,k < N → k ≠ p → w'.heap[k]? = w.heap[k]?
abbrev pP (p:Nat):Value:=.pointer (some ⟨p,0,none⟩)
def isSg (s:List UInt8) (ts:List Tk):Bool:=decide ((hd ts).1 = 1) && decide ((hd ts).2.1 = s)
def isNm (ts:List Tk):Bool:=decide ((hd ts).1 = 2)
def erR (ts:List Tk) (c:Int):Er:=((hd ts).2.2,c)
def sgR (s:List UInt8) (ts:List Tk):Except Er (List Tk):=if isSg s ts then .ok ts.tail else .error (erR ts 3)
def nmR (ts:List Tk):Except Er (ByteArray × List Tk):=if isNm ts then .ok (⟨(hd ts).2.1.toArray⟩,ts.tail) else .error (erR ts 3)
def bgR (can:Bool) (count most:Nat) (ts:List Tk):Except Er Unit:=if can then (if count = most then .error (erR ts 4) else .ok ()) else .error (erR ts 3)
def badV (x:Er):Ending:=.panicked [{ v:=.iface 61 (.agg #[.int .i64 x.1,.int .i64 x.2]),recovered:=false }]
end Go.Proofs.YtfgelheiknmjgaaGreatDoor
namespace Go.Proofs.YtfgelheiknmjgaaGreatDoor
open Go.RowKit
end Go.Proofs.YtfgelheiknmjgaaGreatDoor
namespace Go.Proofs.YtfgelheiknmjgaaGreatDoor.K
open Go.RowKit
section
variable {P:Program} {ops:Array Oper} {n s:Nat} {Q:Exit → Act → World → Prop}
def lowB (ops:Array Oper):Bool:=(List.range ops.size).all fun i => match ops[i]? with | none => true | some o => o.after.all fun e => !Region.binds .any e || decide (e.on < i)
theorem low_of (h:lowB ops = true) {i:Nat} {o:Oper} (ho:ops[i]? = some o):∀ e ∈ o.after,Region.binds .any e = true → e.on < i:=by
 intro e he hb
 have hi:i < ops.size:=(Array.getElem?_eq_some_iff.1 ho).1
 have:=List.all_eq_true.1 h i (List.mem_range.2 hi)
 rw [ho] at this
 have h2:=(Array.all_eq_true_iff_forall_mem.1 this) e he
 rw [hb] at h2
 simpa using h2
theorem zK0 (h:lowB ops = true) {L:Array Bool} (hr:Region.ready .any ops L = []):∀ i,i < ops.size → L.getD i true = true:=by
 intro i
 induction i using Nat.strongRecOn with
 | ind i ih =>
 intro hi
 cases q:L.getD i true with
 | true => rfl
 | false =>
   have hm:i ∈ Region.ready .any ops L:=mem_ready.2 ⟨q,ops[i],Array.getElem?_eq_getElem hi,fun e he hb => by
    have hl:=low_of h (Array.getElem?_eq_getElem hi) e he hb
    have:=ih e.on hl (by omega)
    have hs:e.on < L.size:=by
     rcases Nat.lt_or_ge e.on L.size with h' | h'
     ·exact h'
     ·exfalso
      have h2:i < L.size:=by
       rcases Nat.lt_or_ge i L.size with h3 | h3
       ·exact h3
       ·simp [Array.getD_eq_getD_getElem?,Array.getElem?_eq_none h3] at q
      omega
    rw [Array.getD_eq_getD_getElem?,Array.getElem?_eq_getElem hs] at this ⊢
    simpa using this⟩
   rw [hr] at hm
   cases hm
def unl (L:Array Bool):Nat:=L.toList.countP (fun b => !b)
theorem unl_set {L:Array Bool} {i:Nat} (h:L.getD i true = false):unl (L.setIfInBounds i true) + 1 = unl L:=by
 have hi:i < L.size:=by
  rcases Nat.lt_or_ge i L.size with h3 | h3
  ·exact h3
  ·simp [Array.getD_eq_getD_getElem?,Array.getElem?_eq_none h3] at h
 have hv:L[i] = false:=by simpa [Array.getD_eq_getD_getElem?,Array.getElem?_eq_getElem hi] using h
 unfold unl
 rw [Array.toList_setIfInBounds,List.countP_set (by simpa using hi)]
 have hp:0 < L.toList.countP (fun b => !b):=List.countP_pos_iff.2 ⟨L[i],by simp,by simp [hv]⟩
 rw [show L.toList[i]'(by simpa using hi) = false from by simpa using hv]
 simp only [Bool.not_false,Bool.not_true,if_true,Bool.false_eq_true,if_false]
 omega
theorem unl_zero {L:Array Bool} (h:unl L = 0) (i:Nat):L.getD i true = true:=by
 unfold unl at h
 rw [List.countP_eq_zero] at h
 rcases Nat.lt_or_ge i L.size with h3 | h3
 ·have:=h L[i] (by simp)
  rw [Array.getD_eq_getD_getElem?,Array.getElem?_eq_getElem h3]
  simpa using this
 ·simp [Array.getD_eq_getD_getElem?,Array.getElem?_eq_none h3]
theorem zQ1 (hl:lowB ops = true) (I:Array Bool → Act → World → Prop)
  (hstep:∀ L a w i,L.size = ops.size → I L a w → i ∈ Region.ready .any ops L → wpOp P ops Q i (I (L.setIfInBounds i true)) a w)
  (hend:∀ L a w,L.size = ops.size → (∀ i,i < ops.size → L.getD i true = true) → I L a w → Q .normal a w) :
  ∀ (fuel:Nat) (L:Array Bool) (a:Act) (w:World),L.size = ops.size → unl L ≤ fuel → I L a w → wpAny P .any ops Q fuel L a w
 | 0,L,a,w,hs,hu,h => by
   have hz:=unl_zero (L:=L) (by omega)
   refine ⟨?_,hend L a w hs (fun i _ => hz i) h⟩
   cases hr:Region.ready .any ops L with
   | nil => rfl
   | cons i r =>
     have:=(mem_ready.1 (show i ∈ Region.ready .any ops L by rw [hr]; simp)).1
     rw [hz i] at this; cases this
 | fuel + 1,L,a,w,hs,hu,h => by
   refine ⟨fun hr => hend L a w hs (zK0 hl hr) h,fun i hi => ?_⟩
   refine wpOp_mono (fun a' w' h' => ?_) (hstep L a w i hs h hi)
   exact zQ1 hl I hstep hend fuel _ a' w' (by simpa using hs) (by have:=unl_set (mem_ready.1 hi).1; omega) h'
theorem zw5 (hm:P.follows .mixedOrders = true) {id:Nat} {a:Act} {w:World} (hl:lowB ops = true) (I:Array Bool → Act → World → Prop)
  (h0:I (Array.replicate ops.size false) a w.drew)
  (hstep:∀ L a w i,L.size = ops.size → I L a w → i ∈ Region.ready .any ops L → wpOp P ops Q i (I (L.setIfInBounds i true)) a w)
  (hend:∀ L a w,L.size = ops.size → (∀ i,i < ops.size → L.getD i true = true) → I L a w → Q .normal a w):(Code.region id ops true).wp P Q a w :=
 wp_region_any hm (zQ1 hl I hstep hend ops.size _ a _ (by simp) (by unfold unl; simp only [Array.toList_replicate,List.countP_replicate]; simp) h0)
def dstOf (ops:Array Oper) (i:Nat):Option Tmp:=(ops[i]?).bind (·.dst)
def vof (ops:Array Oper) (a:Act) (i:Nat):Value:=match dstOf ops i with | some d => a.tmps.getD d undef | none => undef
def dstB (ops:Array Oper) (n s:Nat):Bool:=(List.range ops.size).all fun i => (match dstOf ops i with | some d => decide (d < n) && decide (i ≠ s) | none => decide (i = s)) && (List.range ops.size).all fun j => decide (i = j) || decide (dstOf ops i ≠ dstOf ops j) || decide (dstOf ops i = none)
theorem dst_in (h:dstB ops n s = true) {i d:Nat} (hd:dstOf ops i = some d):d < n:=by
 have hi:i < ops.size:=by
  rcases Nat.lt_or_ge i ops.size with h' | h'
  ·exact h'
  ·simp [dstOf,Array.getElem?_eq_none h'] at hd
 have:=List.all_eq_true.1 h i (List.mem_range.2 hi)
 rw [hd,Bool.and_eq_true,Bool.and_eq_true] at this
 simpa using this.1.1
theorem dst_nes (h:dstB ops n s = true) {i d:Nat} (hd:dstOf ops i = some d):i ≠ s:=by
 have hi:i < ops.size:=by
  rcases Nat.lt_or_ge i ops.size with h' | h'
  ·exact h'
  ·simp [dstOf,Array.getElem?_eq_none h'] at hd
 have:=List.all_eq_true.1 h i (List.mem_range.2 hi)
 rw [hd,Bool.and_eq_true,Bool.and_eq_true] at this
 simpa using this.1.2
theorem dst_some (h:dstB ops n s = true) {i:Nat} (hi:i < ops.size) (hs:i ≠ s):∃ d,dstOf ops i = some d:=by
 have:=List.all_eq_true.1 h i (List.mem_range.2 hi)
 rw [Bool.and_eq_true] at this
 cases q:dstOf ops i with
 | some d => exact ⟨d,rfl⟩
 | none => rw [q] at this; exact absurd (by simpa using this.1) hs
theorem dst_ne (h:dstB ops n s = true) {i j d:Nat} (hd:dstOf ops i = some d) (hj:dstOf ops j = some d):i = j:=by
 have hi:i < ops.size:=by
  rcases Nat.lt_or_ge i ops.size with h' | h'
  ·exact h'
  ·simp [dstOf,Array.getElem?_eq_none h'] at hd
 have hj':j < ops.size:=by
  rcases Nat.lt_or_ge j ops.size with h' | h'
  ·exact h'
  ·simp [dstOf,Array.getElem?_eq_none h'] at hj
 have:=List.all_eq_true.1 h i (List.mem_range.2 hi)
 rw [Bool.and_eq_true] at this
 have:=List.all_eq_true.1 this.2 j (List.mem_range.2 hj')
 rw [hd,hj] at this
 simpa using this
def Fr (ops:Array Oper) (a0 a:Act):Prop:=a.defers = a0.defers ∧ a.tmps.size = a0.tmps.size ∧ ∀ k,(∀ i,dstOf ops i ≠ some k) → a.tmps[k]? = a0.tmps[k]?
theorem Fr.put {a0 a:Act} (h:Fr ops a0 a) {i:Nat} {o:Oper} (ho:ops[i]? = some o) (v:Value):Fr ops a0 (a.put o.dst v):=by
 obtain ⟨h1,h2,h3⟩:=h
 cases q:o.dst with
 | none => exact ⟨h1,h2,h3⟩
 | some d =>
   refine ⟨h1,by simpa [Act.put] using h2,fun k hk => ?_⟩
   have hne:d ≠ k:=fun e => hk i (by simp [dstOf,ho,q,e])
   simp only [Act.put]
   rw [Array.getElem?_setIfInBounds_ne hne]
   exact h3 k hk
theorem vof_put {a0 a:Act} (hb:dstB ops a0.tmps.size s = true) (h:Fr ops a0 a) {i j:Nat} {o:Oper} (ho:ops[i]? = some o) (v:Value):vof ops (a.put o.dst v) j = if i = j ∧ i ≠ s then v else vof ops a j:=by
 unfold vof
 have hdi:dstOf ops i = o.dst:=by simp [dstOf,ho]
 have hil:i < ops.size:=(Array.getElem?_eq_some_iff.1 ho).1
 cases q:dstOf ops j with
 | none =>
   rw [if_neg]
   rintro ⟨rfl,hs⟩
   obtain ⟨d,hd⟩:=dst_some hb hil hs
   rw [hd] at q; cases q
 | some d =>
   simp only
   cases qi:o.dst with
   | none =>
     rw [if_neg]
     ·rfl
     ·rintro ⟨rfl,_⟩
      rw [hdi,qi] at q; cases q
   | some d' =>
     simp only [Act.put]
     by_cases e:d' = d
     ·subst e
      have hij:=dst_ne hb (hdi.trans qi) q
      have hs:d' < a.tmps.size:=by rw [h.2.1]; exact dst_in hb q
      subst hij
      rw [if_pos ⟨rfl,dst_nes hb q⟩]
      simp [Array.getD_eq_getD_getElem?,hs]
     ·rw [if_neg]
      ·simp only [Array.getD_eq_getD_getElem?]
       rw [Array.getElem?_setIfInBounds_ne e]
      ·rintro ⟨rfl,_⟩
       rw [hdi,qi] at q
       exact e (by injection q)
def Runs (P:Program) (ops:Array Oper) (Q:Exit → Act → World → Prop) (o:Oper) (a:Act) (w:World) (R:Value → World → Prop):Prop :=
 Region.wanted o (yielded ops a.tmps) = true ∧ o.wp P a w (fun a' w' => ∃ v,a' = a.put o.dst v ∧ R v w') Q
end
def over (a0:Act) (ds:List Tmp) (f:Tmp → Value):Act:=ds.foldl (fun a d => a.put (some d) (f d)) a0
theorem zO1 (ds:List Tmp) (f:Tmp → Value):∀ a0:Act,(over a0 ds f).tmps.size = a0.tmps.size ∧ (over a0 ds f).defers = a0.defers:=by
 induction ds with
 | nil => intro a0; exact ⟨rfl,rfl⟩
 | cons d r ih => intro a0; have:=ih (a0.put (some d) (f d)); simpa [over,Act.put] using this
theorem over_get (ds:List Tmp) (f:Tmp → Value):∀ (a0:Act) (k:Nat),(over a0 ds f).tmps[k]? = if k ∈ ds ∧ k < a0.tmps.size then some (f k) else a0.tmps[k]?:=by
 induction ds with
 | nil => intro a0 k; simp [over]
 | cons d r ih =>
   intro a0 k
   have:=ih (a0.put (some d) (f d)) k
   rw [show over a0 (d :: r) f = over (a0.put (some d) (f d)) r f from rfl,this]
   simp only [Act.put,Array.size_setIfInBounds,List.mem_cons]
   by_cases h1:k ∈ r ∧ k < a0.tmps.size
   ·rw [if_pos h1,if_pos ⟨.inr h1.1,h1.2⟩]
   ·rw [if_neg h1]
    by_cases e:d = k
    ·subst e
     by_cases h2:d < a0.tmps.size
     ·rw [if_pos ⟨.inl rfl,h2⟩]; simp [h2]
     ·have h4:a0.tmps.size ≤ d:=Nat.le_of_not_lt h2
      rw [if_neg (fun h => h2 h.2),Array.getElem?_eq_none (by simpa using h4),Array.getElem?_eq_none h4]
    ·rw [Array.getElem?_setIfInBounds_ne e,if_neg]
     rintro ⟨h | h,h2⟩
     ·exact e h.symm
     ·exact h1 ⟨h,h2⟩
theorem over_of {ops:Array Oper} {a0 a:Act} (h:Fr ops a0 a) (ds:List Tmp) (hd:∀ i k,dstOf ops i = some k → k ∈ ds):a = over a0 ds (fun d => a.tmps.getD d undef):=by
 obtain ⟨h1,h2,h3⟩:=h
 obtain ⟨s1,s2⟩:=zO1 ds (fun d => a.tmps.getD d undef) a0
 have ht:a.tmps = (over a0 ds (fun d => a.tmps.getD d undef)).tmps:=by
  apply Array.ext_getElem?
  intro k
  rw [over_get]
  by_cases hk:k ∈ ds ∧ k < a0.tmps.size
  ·rw [if_pos hk,Array.getD_eq_getD_getElem?,Array.getElem?_eq_getElem (by omega)]; rfl
  ·rw [if_neg hk]
   by_cases hm:k ∈ ds
   ·have h4:a0.tmps.size ≤ k:=by
     rcases Nat.lt_or_ge k a0.tmps.size with h | h
     ·exact absurd ⟨hm,h⟩ hk
     ·exact h
    rw [Array.getElem?_eq_none (by omega),Array.getElem?_eq_none h4]
   ·exact h3 k (fun i e => hm (hd i k e))
 cases a
 generalize over _ _ _ = o at *
 cases o
 simp_all
theorem Fr.slot {ops:Array Oper} {a0 a:Act} (h:Fr ops a0 a) (k:Nat) (hk:((List.range ops.size).all fun i => decide (dstOf ops i ≠ some k)) = true):a.tmps.getD k undef = a0.tmps.getD k undef:=by
 rw [Array.getD_eq_getD_getElem?,Array.getD_eq_getD_getElem?,h.2.2 k]
 intro i e
 have hi:i < ops.size:=by
  rcases Nat.lt_or_ge i ops.size with h' | h'
  ·exact h'
  ·simp [dstOf,Array.getElem?_eq_none h'] at e
 have:=List.all_eq_true.1 hk i (List.mem_range.2 hi)
 exact (of_decide_eq_true this) e
theorem zh2 {P:Program} {ops:Array Oper} {Q:Exit → Act → World → Prop} {o:Oper} {a:Act} {w w':World} {v:Value} {R:Value → World → Prop} (hw:Region.wanted o (yielded ops a.tmps) = true)
  (he:(execOp a.eval o).run P w = .ok (.value v) w') (h:R v w'):Runs P ops Q o a w R:=by
 refine ⟨hw, ?_⟩
 unfold Oper.wp
 rw [he]
 exact ⟨v,rfl,h⟩
theorem map1 {α β:Type} (f : α → β) (x : α):(#[x]:Array α).map f = #[f x]:=by simp
theorem map2 {α β:Type} (f : α → β) (x y : α):(#[x,y]:Array α).map f = #[f x,f y]:=by simp
structure Fact where
 R:Value → World → Prop
 pers:∀ v w w',R v w → Below w.heap.size w w' → R v w'
def Fact.is (v:Value):Fact:=⟨fun u _ => u = v,fun _ _ _ h _ => h⟩
def Fact.any:Fact:=⟨fun _ _ => True,fun _ _ _ _ _ => trivial⟩
section
variable {P:Program} {ops:Array Oper} {Q:Exit → Act → World → Prop}
def dstsB (ops:Array Oper) (ds:List Tmp):Bool:=(List.range ops.size).all fun i => match dstOf ops i with | none => true | some d => ds.contains d
theorem zG3 {a0 a:Act} (h:Fr ops a0 a) (ds:List Tmp) (hd:dstsB ops ds = true):a = over a0 ds (fun d => a.tmps.getD d undef):=by
 refine over_of h ds fun i k hk => ?_
 have hi:i < ops.size:=by
  rcases Nat.lt_or_ge i ops.size with h' | h'
  ·exact h'
  ·rw [dstOf,Array.getElem?_eq_none h'] at hk; cases hk
 have:=List.all_eq_true.1 hd i (List.mem_range.2 hi)
 rw [hk] at this
 simpa using this
end
section
variable {ops:Array Oper} {Q:Exit → Act → World → Prop} {o:Oper} {a:Act} {w:World} {R:Value → World → Prop}
end
end Go.Proofs.YtfgelheiknmjgaaGreatDoor.K
namespace Go.Proofs.YtfgelheiknmjgaaGreatDoor.K
open Go.RowKit
def coverB (ops:Array Oper) (k:Nat):Bool:=(List.range k).all fun i => (List.range (k + 1)).any fun j => decide (i < j) && (match ops[j]? with | none => false | some o => o.after.any fun e => Region.binds .any e && decide (e.on = i))
structure LJ (ops:Array Oper) (k:Nat) (F:List Fact) (W0:World) (C:Value → World → Prop) (d:Nat → Bool) (v:Nat → Value) (w:World):Prop where
 cl:∀ i o,ops[i]? = some o → d i = true → ∀ e ∈ o.after,Region.binds .any e = true → d e.on = true
 pre:d k = false → Below W0.heap.size W0 w ∧ ∀ i,i < k → d i = true → (F.getD i Fact.any).R (v i) w
 post:d k = true → C (v k) w ∧ (d (k + 1) = true → v (k + 1) = v k)
end Go.Proofs.YtfgelheiknmjgaaGreatDoor.K

