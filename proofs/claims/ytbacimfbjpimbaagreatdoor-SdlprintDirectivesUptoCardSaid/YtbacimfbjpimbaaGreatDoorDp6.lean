
/-
  Texts joined: YReg G4 NR NO NO2 NW.
-/
import Derived.Test.YtbacimfbjpimbaaGreatDoorDp3
import Derived.Orders
import Derived.Test.YtbacimfbjpimbaaGreatDoorDp1
import Derived.Test.YtbacimfbjpimbaaGreatDoorDp2
import Derived.Test.YtbacimfbjpimbaaGreatDoorDp5
namespace Go.Proofs.YtbacimfbjpimbaaGreatDoor.K
open Go.RowKit
section
variable {P : Program} {ops : Array Oper} {n s : Nat} {Q : Exit → Act → World → Prop}
def lowB (ops : Array Oper) : Bool := (List.range ops.size).all fun i => match ops[i]? with | none => true | some o => o.after.all fun e => !Region.binds .any e || decide (e.on < i)
theorem low_of (h : lowB ops = true) {i : Nat} {o : Oper} (ho : ops[i]? = some o) : ∀ e ∈ o.after, Region.binds .any e = true → e.on < i := by
  intro e he hb
  have hi : i < ops.size := (Array.getElem?_eq_some_iff.1 ho).1
  have := List.all_eq_true.1 h i (List.mem_range.2 hi)
  rw [ho] at this
  have h2 := (Array.all_eq_true_iff_forall_mem.1 this) e he
  rw [hb] at h2
  simpa using h2
theorem ready_none (h : lowB ops = true) {L : Array Bool} (hr : Region.ready .any ops L = []) : ∀ i, i < ops.size → L.getD i true = true := by
  intro i
  induction i using Nat.strongRecOn with
  | ind i ih =>
  intro hi
  cases q : L.getD i true with
  | true => rfl
  | false =>
    have hm : i ∈ Region.ready .any ops L := mem_ready.2 ⟨q, ops[i], Array.getElem?_eq_getElem hi, fun e he hb => by
      have hl := low_of h (Array.getElem?_eq_getElem hi) e he hb
      have := ih e.on hl (by omega)
      have hs : e.on < L.size := by
        rcases Nat.lt_or_ge e.on L.size with h' | h'
        · exact h'
        · exfalso
          have h2 : i < L.size := by
            rcases Nat.lt_or_ge i L.size with h3 | h3
            · exact h3
            · simp [Array.getD_eq_getD_getElem?, Array.getElem?_eq_none h3] at q
          omega
      rw [Array.getD_eq_getD_getElem?, Array.getElem?_eq_getElem hs] at this ⊢
      simpa using this⟩
    rw [hr] at hm
    cases hm
def unl (L : Array Bool) : Nat := L.toList.countP (fun b => !b)
theorem unl_set {L : Array Bool} {i : Nat} (h : L.getD i true = false) : unl (L.setIfInBounds i true) + 1 = unl L := by
  have hi : i < L.size := by
    rcases Nat.lt_or_ge i L.size with h3 | h3
    · exact h3
    · simp [Array.getD_eq_getD_getElem?, Array.getElem?_eq_none h3] at h
  have hv : L[i] = false := by simpa [Array.getD_eq_getD_getElem?, Array.getElem?_eq_getElem hi] using h
  unfold unl
  rw [Array.toList_setIfInBounds, List.countP_set (by simpa using hi)]
  have hp : 0 < L.toList.countP (fun b => !b) := List.countP_pos_iff.2 ⟨L[i], by simp, by simp [hv]⟩
  rw [show L.toList[i]'(by simpa using hi) = false from by simpa using hv]
  simp only [Bool.not_false, Bool.not_true, if_true, Bool.false_eq_true, if_false]
  omega
theorem unl_zero {L : Array Bool} (h : unl L = 0) (i : Nat) : L.getD i true = true := by
  unfold unl at h
  rw [List.countP_eq_zero] at h
  rcases Nat.lt_or_ge i L.size with h3 | h3
  · have := h L[i] (by simp)
    rw [Array.getD_eq_getD_getElem?, Array.getElem?_eq_getElem h3]
    simpa using this
  · simp [Array.getD_eq_getD_getElem?, Array.getElem?_eq_none h3]
theorem inv_any (hl : lowB ops = true) (I : Array Bool → Act → World → Prop)
    (hstep : ∀ L a w i, L.size = ops.size → I L a w → i ∈ Region.ready .any ops L → wpOp P ops Q i (I (L.setIfInBounds i true)) a w)
    (hend : ∀ L a w, L.size = ops.size → (∀ i, i < ops.size → L.getD i true = true) → I L a w → Q .normal a w) :
    ∀ (fuel : Nat) (L : Array Bool) (a : Act) (w : World), L.size = ops.size → unl L ≤ fuel → I L a w → wpAny P .any ops Q fuel L a w
  | 0, L, a, w, hs, hu, h => by
    have hz := unl_zero (L := L) (by omega)
    refine ⟨?_, hend L a w hs (fun i _ => hz i) h⟩
    cases hr : Region.ready .any ops L with
    | nil => rfl
    | cons i r =>
      have := (mem_ready.1 (show i ∈ Region.ready .any ops L by rw [hr]; simp)).1
      rw [hz i] at this; cases this
  | fuel + 1, L, a, w, hs, hu, h => by
    refine ⟨fun hr => hend L a w hs (ready_none hl hr) h, fun i hi => ?_⟩
    refine wpOp_mono (fun a' w' h' => ?_) (hstep L a w i hs h hi)
    exact inv_any hl I hstep hend fuel _ a' w' (by simpa using hs) (by have := unl_set (mem_ready.1 hi).1; omega) h'
theorem wp_region_inv (hm : P.follows .mixedOrders = true) {id : Nat} {a : Act} {w : World} (hl : lowB ops = true) (I : Array Bool → Act → World → Prop)
    (h0 : I (Array.replicate ops.size false) a w.drew)
    (hstep : ∀ L a w i, L.size = ops.size → I L a w → i ∈ Region.ready .any ops L → wpOp P ops Q i (I (L.setIfInBounds i true)) a w)
    (hend : ∀ L a w, L.size = ops.size → (∀ i, i < ops.size → L.getD i true = true) → I L a w → Q .normal a w) : (Code.region id ops true).wp P Q a w :=
  wp_region_any hm (inv_any hl I hstep hend ops.size _ a _ (by simp) (by unfold unl; simp only [Array.toList_replicate, List.countP_replicate]; simp) h0)
def dstOf (ops : Array Oper) (i : Nat) : Option Tmp := (ops[i]?).bind (·.dst)
def vof (ops : Array Oper) (a : Act) (i : Nat) : Value := match dstOf ops i with | some d => a.tmps.getD d undef | none => undef
def dstB (ops : Array Oper) (n s : Nat) : Bool := (List.range ops.size).all fun i => (match dstOf ops i with | some d => decide (d < n) && decide (i ≠ s) | none => decide (i = s)) && (List.range ops.size).all fun j => decide (i = j) || decide (dstOf ops i ≠ dstOf ops j) || decide (dstOf ops i = none)
theorem dst_in (h : dstB ops n s = true) {i d : Nat} (hd : dstOf ops i = some d) : d < n := by
  have hi : i < ops.size := by
    rcases Nat.lt_or_ge i ops.size with h' | h'
    · exact h'
    · simp [dstOf, Array.getElem?_eq_none h'] at hd
  have := List.all_eq_true.1 h i (List.mem_range.2 hi)
  rw [hd, Bool.and_eq_true, Bool.and_eq_true] at this
  simpa using this.1.1
theorem dst_nes (h : dstB ops n s = true) {i d : Nat} (hd : dstOf ops i = some d) : i ≠ s := by
  have hi : i < ops.size := by
    rcases Nat.lt_or_ge i ops.size with h' | h'
    · exact h'
    · simp [dstOf, Array.getElem?_eq_none h'] at hd
  have := List.all_eq_true.1 h i (List.mem_range.2 hi)
  rw [hd, Bool.and_eq_true, Bool.and_eq_true] at this
  simpa using this.1.2
theorem dst_some (h : dstB ops n s = true) {i : Nat} (hi : i < ops.size) (hs : i ≠ s) : ∃ d, dstOf ops i = some d := by
  have := List.all_eq_true.1 h i (List.mem_range.2 hi)
  rw [Bool.and_eq_true] at this
  cases q : dstOf ops i with
  | some d => exact ⟨d, rfl⟩
  | none => rw [q] at this; exact absurd (by simpa using this.1) hs
theorem dst_ne (h : dstB ops n s = true) {i j d : Nat} (hd : dstOf ops i = some d) (hj : dstOf ops j = some d) : i = j := by
  have hi : i < ops.size := by
    rcases Nat.lt_or_ge i ops.size with h' | h'
    · exact h'
    · simp [dstOf, Array.getElem?_eq_none h'] at hd
  have hj' : j < ops.size := by
    rcases Nat.lt_or_ge j ops.size with h' | h'
    · exact h'
    · simp [dstOf, Array.getElem?_eq_none h'] at hj
  have := List.all_eq_true.1 h i (List.mem_range.2 hi)
  rw [Bool.and_eq_true] at this
  have := List.all_eq_true.1 this.2 j (List.mem_range.2 hj')
  rw [hd, hj] at this
  simpa using this
def Fr (ops : Array Oper) (a0 a : Act) : Prop := a.defers = a0.defers ∧ a.tmps.size = a0.tmps.size ∧ ∀ k, (∀ i, dstOf ops i ≠ some k) → a.tmps[k]? = a0.tmps[k]?
theorem Fr.put {a0 a : Act} (h : Fr ops a0 a) {i : Nat} {o : Oper} (ho : ops[i]? = some o) (v : Value) : Fr ops a0 (a.put o.dst v) := by
  obtain ⟨h1, h2, h3⟩ := h
  cases q : o.dst with
  | none => exact ⟨h1, h2, h3⟩
  | some d =>
    refine ⟨h1, by simpa [Act.put] using h2, fun k hk => ?_⟩
    have hne : d ≠ k := fun e => hk i (by simp [dstOf, ho, q, e])
    simp only [Act.put]
    rw [Array.getElem?_setIfInBounds_ne hne]
    exact h3 k hk
theorem vof_put {a0 a : Act} (hb : dstB ops a0.tmps.size s = true) (h : Fr ops a0 a) {i j : Nat} {o : Oper} (ho : ops[i]? = some o) (v : Value) : vof ops (a.put o.dst v) j = if i = j ∧ i ≠ s then v else vof ops a j := by
  unfold vof
  have hdi : dstOf ops i = o.dst := by simp [dstOf, ho]
  have hil : i < ops.size := (Array.getElem?_eq_some_iff.1 ho).1
  cases q : dstOf ops j with
  | none =>
    rw [if_neg]
    rintro ⟨rfl, hs⟩
    obtain ⟨d, hd⟩ := dst_some hb hil hs
    rw [hd] at q; cases q
  | some d =>
    simp only
    cases qi : o.dst with
    | none =>
      rw [if_neg]
      · rfl
      · rintro ⟨rfl, _⟩
        rw [hdi, qi] at q; cases q
    | some d' =>
      simp only [Act.put]
      by_cases e : d' = d
      · subst e
        have hij := dst_ne hb (hdi.trans qi) q
        have hs : d' < a.tmps.size := by rw [h.2.1]; exact dst_in hb q
        subst hij
        rw [if_pos ⟨rfl, dst_nes hb q⟩]
        simp [Array.getD_eq_getD_getElem?, hs]
      · rw [if_neg]
        · simp only [Array.getD_eq_getD_getElem?]
          rw [Array.getElem?_setIfInBounds_ne e]
        · rintro ⟨rfl, _⟩
          rw [hdi, qi] at q
          exact e (by injection q)
def Runs (P : Program) (ops : Array Oper) (Q : Exit → Act → World → Prop) (o : Oper) (a : Act) (w : World) (R : Value → World → Prop) : Prop :=
  Region.wanted o (yielded ops a.tmps) = true ∧ o.wp P a w (fun a' w' => ∃ v, a' = a.put o.dst v ∧ R v w') Q
end
def over (a0 : Act) (ds : List Tmp) (f : Tmp → Value) : Act := ds.foldl (fun a d => a.put (some d) (f d)) a0
theorem over_size (ds : List Tmp) (f : Tmp → Value) : ∀ a0 : Act, (over a0 ds f).tmps.size = a0.tmps.size ∧ (over a0 ds f).defers = a0.defers := by
  induction ds with
  | nil => intro a0; exact ⟨rfl, rfl⟩
  | cons d r ih => intro a0; have := ih (a0.put (some d) (f d)); simpa [over, Act.put] using this
theorem over_get (ds : List Tmp) (f : Tmp → Value) : ∀ (a0 : Act) (k : Nat), (over a0 ds f).tmps[k]? = if k ∈ ds ∧ k < a0.tmps.size then some (f k) else a0.tmps[k]? := by
  induction ds with
  | nil => intro a0 k; simp [over]
  | cons d r ih =>
    intro a0 k
    have := ih (a0.put (some d) (f d)) k
    rw [show over a0 (d :: r) f = over (a0.put (some d) (f d)) r f from rfl, this]
    simp only [Act.put, Array.size_setIfInBounds, List.mem_cons]
    by_cases h1 : k ∈ r ∧ k < a0.tmps.size
    · rw [if_pos h1, if_pos ⟨.inr h1.1, h1.2⟩]
    · rw [if_neg h1]
      by_cases e : d = k
      · subst e
        by_cases h2 : d < a0.tmps.size
        · rw [if_pos ⟨.inl rfl, h2⟩]; simp [h2]
        · have h4 : a0.tmps.size ≤ d := Nat.le_of_not_lt h2
          rw [if_neg (fun h => h2 h.2), Array.getElem?_eq_none (by simpa using h4), Array.getElem?_eq_none h4]
      · rw [Array.getElem?_setIfInBounds_ne e, if_neg]
        rintro ⟨h | h, h2⟩
        · exact e h.symm
        · exact h1 ⟨h, h2⟩
theorem over_of {ops : Array Oper} {a0 a : Act} (h : Fr ops a0 a) (ds : List Tmp) (hd : ∀ i k, dstOf ops i = some k → k ∈ ds) : a = over a0 ds (fun d => a.tmps.getD d undef) := by
  obtain ⟨h1, h2, h3⟩ := h
  obtain ⟨s1, s2⟩ := over_size ds (fun d => a.tmps.getD d undef) a0
  have ht : a.tmps = (over a0 ds (fun d => a.tmps.getD d undef)).tmps := by
    apply Array.ext_getElem?
    intro k
    rw [over_get]
    by_cases hk : k ∈ ds ∧ k < a0.tmps.size
    · rw [if_pos hk, Array.getD_eq_getD_getElem?, Array.getElem?_eq_getElem (by omega)]; rfl
    · rw [if_neg hk]
      by_cases hm : k ∈ ds
      · have h4 : a0.tmps.size ≤ k := by
          rcases Nat.lt_or_ge k a0.tmps.size with h | h
          · exact absurd ⟨hm, h⟩ hk
          · exact h
        rw [Array.getElem?_eq_none (by omega), Array.getElem?_eq_none h4]
      · exact h3 k (fun i e => hm (hd i k e))
  cases a
  generalize over _ _ _ = o at *
  cases o
  simp_all
theorem Fr.slot {ops : Array Oper} {a0 a : Act} (h : Fr ops a0 a) (k : Nat) (hk : ((List.range ops.size).all fun i => decide (dstOf ops i ≠ some k)) = true) : a.tmps.getD k undef = a0.tmps.getD k undef := by
  rw [Array.getD_eq_getD_getElem?, Array.getD_eq_getD_getElem?, h.2.2 k]
  intro i e
  have hi : i < ops.size := by
    rcases Nat.lt_or_ge i ops.size with h' | h'
    · exact h'
    · simp [dstOf, Array.getElem?_eq_none h'] at e
  have := List.all_eq_true.1 hk i (List.mem_range.2 hi)
  exact (of_decide_eq_true this) e
theorem runs_value {P : Program} {ops : Array Oper} {Q : Exit → Act → World → Prop} {o : Oper} {a : Act} {w w' : World} {v : Value} {R : Value → World → Prop} (hw : Region.wanted o (yielded ops a.tmps) = true)
    (he : (execOp a.eval o).run P w = .ok (.value v) w') (h : R v w') : Runs P ops Q o a w R := by
  refine ⟨hw, ?_⟩
  unfold Oper.wp
  rw [he]
  exact ⟨v, rfl, h⟩
theorem map1 {α β : Type} (f : α → β) (x : α) : (#[x] : Array α).map f = #[f x] := by simp
theorem map2 {α β : Type} (f : α → β) (x y : α) : (#[x, y] : Array α).map f = #[f x, f y] := by simp
structure Fact where
  R : Value → World → Prop
  pers : ∀ v w w', R v w → Below w.heap.size w w' → R v w'
def Fact.is (v : Value) : Fact := ⟨fun u _ => u = v, fun _ _ _ h _ => h⟩
def Fact.any : Fact := ⟨fun _ _ => True, fun _ _ _ _ _ => trivial⟩
section
variable {P : Program} {ops : Array Oper} {Q : Exit → Act → World → Prop}
def dstsB (ops : Array Oper) (ds : List Tmp) : Bool := (List.range ops.size).all fun i => match dstOf ops i with | none => true | some d => ds.contains d
theorem over_ofB {a0 a : Act} (h : Fr ops a0 a) (ds : List Tmp) (hd : dstsB ops ds = true) : a = over a0 ds (fun d => a.tmps.getD d undef) := by
  refine over_of h ds fun i k hk => ?_
  have hi : i < ops.size := by
    rcases Nat.lt_or_ge i ops.size with h' | h'
    · exact h'
    · rw [dstOf, Array.getElem?_eq_none h'] at hk; cases hk
  have := List.all_eq_true.1 hd i (List.mem_range.2 hi)
  rw [hk] at this
  simpa using this
end
section
variable {ops : Array Oper} {Q : Exit → Act → World → Prop} {o : Oper} {a : Act} {w : World} {R : Value → World → Prop}
end
end Go.Proofs.YtbacimfbjpimbaaGreatDoor.K
namespace Go.Proofs.YtbacimfbjpimbaaGreatDoor.K
open Go.RowKit
theorem wp_region_phase {P : Program} {ops : Array Oper} {Q : Exit → Act → World → Prop} (hm : P.follows .mixedOrders = true) {id : Nat} {a0 : Act} {W0 : World} (hl : lowB ops = true) (s : Nat) (hb : dstB ops a0.tmps.size s = true)
    (J : (Nat → Bool) → (Nat → Value) → World → Prop) (h0 : J (fun _ => false) (fun j => vof ops a0 j) W0.drew)
    (hop : ∀ i o, ops[i]? = some o → ∀ (d : Nat → Bool) (a : Act) (w : World), Fr ops a0 a → J d (fun j => vof ops a j) w → d i = false → (∀ e ∈ o.after, Region.binds .any e = true → d e.on = true) →
      Runs P ops Q o a w fun u w' => J (fun j => if i = j then true else d j) (fun j => if i = j ∧ i ≠ s then u else vof ops a j) w')
    (hend : ∀ (d : Nat → Bool) (a : Act) (w : World), Fr ops a0 a → (∀ i, i < ops.size → d i = true) → J d (fun j => vof ops a j) w → Q .normal a w) :
    (Code.region id ops true).wp P Q a0 W0 := by
  refine wp_region_inv hm hl (fun L a w => Fr ops a0 a ∧ J (fun j => L.getD j false) (fun j => vof ops a j) w) ?_ ?_ ?_
  · have hz : (fun i => (Array.replicate ops.size false).getD i false) = fun _ => false := by
      funext i
      rw [Array.getD_eq_getD_getElem?, Array.getElem?_replicate]; split <;> rfl
    exact ⟨⟨rfl, rfl, fun _ _ => rfl⟩, by rw [hz]; exact h0⟩
  · intro L a w i hs ⟨hf, hJ⟩ hi
    obtain ⟨h0, o, ho, hall⟩ := mem_ready.1 hi
    have hil : i < ops.size := (Array.getElem?_eq_some_iff.1 ho).1
    have hLi : i < L.size := by omega
    have hset : (fun j => (L.setIfInBounds i true).getD j false) = fun j => if i = j then true else L.getD j false := by
      funext j
      by_cases e : i = j
      · subst e; rw [if_pos rfl]; simp [Array.getD_eq_getD_getElem?, hLi]
      · rw [if_neg e, Array.getD_eq_getD_getElem?, Array.getD_eq_getD_getElem?, Array.getElem?_setIfInBounds_ne e]
    have hi0 : L.getD i false = false := by
      rw [Array.getD_eq_getD_getElem?, Array.getElem?_eq_getElem hLi] at h0 ⊢; simpa using h0
    obtain ⟨hw, hr⟩ := hop i o ho (fun j => L.getD j false) a w hf hJ hi0 (fun e he hbd => hall e he hbd)
    unfold wpOp
    rw [ho]
    simp only [hw, if_true]
    refine .inl (Oper.wp_mono (fun a' w' ⟨v, e, hv⟩ => ?_) hr)
    subst e
    refine ⟨hf.put ho v, ?_⟩
    rw [hset]
    have hvv : (fun j => vof ops (a.put o.dst v) j) = fun j => if i = j ∧ i ≠ s then v else vof ops a j := by
      funext j
      exact vof_put hb hf ho v
    rw [hvv]
    exact hv
  · intro L a w hs hall ⟨hf, hJ⟩
    refine hend _ a w hf (fun i hi => ?_) hJ
    have := hall i hi
    rw [Array.getD_eq_getD_getElem?, Array.getElem?_eq_getElem (by omega)] at this ⊢; simpa using this
end Go.Proofs.YtbacimfbjpimbaaGreatDoor.K
namespace Go.Proofs.YtbacimfbjpimbaaGreatDoor
open Go.RowKit
theorem runs_to {P : Program} {ops : Array Oper} {Q : Exit → Act → World → Prop} {o : Oper} {a : Act} {w : World} {R R' : Value → World → Prop} (h : K.Runs P ops Q o a w R) (hr : ∀ u w', R u w' → R' u w') : K.Runs P ops Q o a w R' :=
  ⟨h.1, Oper.wp_mono (fun _ _ ⟨v, e, hv⟩ => ⟨v, e, hr _ _ hv⟩) h.2⟩
theorem runs_calls {P : Program} {ops : Array Oper} {Q : Exit → Act → World → Prop} {o : Oper} {a : Act} {w : World} {R : Value → World → Prop} (hw : Region.wanted o (yielded ops a.tmps) = true) (f : FuncId) (xs : Array Operand) (ts : Array TypeId)
    (ho : o.op = .call { callee := .value (.func f), args := xs, argTypes := ts }) (hen : ∀ (args : Array Value) (w : World), (callFunc f args).run P w = .ok (.enter f args) w) (vs : Array Value) (hx : xs.map a.eval = vs)
    (hc : Calls P f vs w fun e w' => ∃ v, e = .returned v ∧ R v w') : K.Runs P ops Q o a w R := by
  refine ⟨hw, ?_⟩
  unfold Oper.wp
  have he : (execOp a.eval o).run P w = .ok (.enter f vs) w := by
    simp [execOp, ho, go_sem, hx, hen]
  rw [he]
  refine hc.mono fun e w' h => ?_
  obtain ⟨v, hv, hr⟩ := h
  subst hv; exact ⟨v, rfl, hr⟩
structure CJ (W1 : World) (v0 : Value) (pv : Nat → Option Value) (b c e x : Nat) (C : World → Prop) (G E : Value → World → Prop) (cl : (Nat → Bool) → Prop) (d : Nat → Bool) (v : Nat → Value) (w : World) : Prop where
  pure : ∀ i u, pv i = some u → d i = true → v i = u
  closed : cl d
  oc : d c = true → d b = true
  oe : d e = true → d c = true
  ox : d x = true → d e = true
  f0 : d b = false → w = W1
  fb : d b = true → d c = false → C w
  fc : d c = true → d e = false → G (v c) w
  fe : d e = true → E (v e) w
  fx : d x = true → v x = v e
  gx : d x = false → v x = v0
structure CJi (n : Nat) (pv : Nat → Option Value) (b c e x : Nat) : Prop where
  bc : b ≠ c
  be : b ≠ e
  bx : b ≠ x
  ce : c ≠ e
  cx : c ≠ x
  ex : e ≠ x
  nc : pv c = none
  ne : pv e = none
  nx : pv x = none
  b_ : b < n
  c_ : c < n
  e_ : e < n
def Closed (ops : Array Oper) (d : Nat → Bool) : Prop := ∀ i o, ops[i]? = some o → d i = true → ∀ y ∈ o.after, Region.binds .any y = true → d y.on = true
section
variable {W1 w : World} {v0 : Value} {pv : Nat → Option Value} {b c e x : Nat} {C : World → Prop} {G E : Value → World → Prop} {cl : (Nat → Bool) → Prop} {D : Nat → Bool} {V : Nat → Value}
theorem CJ.mkC (hp : ∀ i u, pv i = some u → D i = true → V i = u) (hc : cl D) (h1 : D b = true) (h2 : D c = false) (h3 : D e = false) (h4 : D x = false) (h5 : V x = v0) (h : C w) : CJ W1 v0 pv b c e x C G E cl D V w :=
  ⟨hp, hc, fun q => (by rw [h2] at q; cases q), fun q => (by rw [h3] at q; cases q), fun q => (by rw [h4] at q; cases q), fun q => (by rw [h1] at q; cases q), fun _ _ => h, fun q => (by rw [h2] at q; cases q), fun q => (by rw [h3] at q; cases q), fun q => (by rw [h4] at q; cases q), fun _ => h5⟩
theorem CJ.mkG (u : Value) (hp : ∀ i u, pv i = some u → D i = true → V i = u) (hc : cl D) (h1 : D b = true) (h2 : D c = true) (h3 : D e = false) (h4 : D x = false) (h5 : V x = v0) (hv : V c = u) (h : G u w) : CJ W1 v0 pv b c e x C G E cl D V w :=
  ⟨hp, hc, fun _ => h1, fun q => (by rw [h3] at q; cases q), fun q => (by rw [h4] at q; cases q), fun q => (by rw [h1] at q; cases q), fun _ q => (by rw [h2] at q; cases q), fun _ _ => (by rw [hv]; exact h), fun q => (by rw [h3] at q; cases q), fun q => (by rw [h4] at q; cases q), fun _ => h5⟩
theorem CJ.mkE (u : Value) (hp : ∀ i u, pv i = some u → D i = true → V i = u) (hc : cl D) (h1 : D b = true) (h2 : D c = true) (h3 : D e = true) (h4 : D x = false) (h5 : V x = v0) (hv : V e = u) (h : E u w) : CJ W1 v0 pv b c e x C G E cl D V w :=
  ⟨hp, hc, fun _ => h1, fun _ => h2, fun q => (by rw [h4] at q; cases q), fun q => (by rw [h1] at q; cases q), fun _ q => (by rw [h2] at q; cases q), fun _ q => (by rw [h3] at q; cases q), fun _ => (by rw [hv]; exact h), fun q => (by rw [h4] at q; cases q), fun _ => h5⟩
theorem CJ.mkX (u : Value) (hp : ∀ i u, pv i = some u → D i = true → V i = u) (hc : cl D) (h1 : D b = true) (h2 : D c = true) (h3 : D e = true) (h4 : D x = true) (hv : V e = u) (hx : V x = u) (h : E u w) : CJ W1 v0 pv b c e x C G E cl D V w :=
  ⟨hp, hc, fun _ => h1, fun _ => h2, fun _ => h3, fun q => (by rw [h1] at q; cases q), fun _ q => (by rw [h2] at q; cases q), fun _ q => (by rw [h3] at q; cases q), fun _ => (by rw [hv]; exact h), fun _ => (by rw [hx, hv]), fun q => (by rw [h4] at q; cases q)⟩
theorem CJ.same {d : Nat → Bool} {v : Nat → Value} (hJ : CJ W1 v0 pv b c e x C G E cl d v w) (hp : ∀ i u, pv i = some u → D i = true → V i = u) (hc : cl D) (h1 : D b = d b) (h2 : D c = d c) (h3 : D e = d e) (h4 : D x = d x) (q2 : V c = v c) (q3 : V e = v e) (q4 : V x = v x) : CJ W1 v0 pv b c e x C G E cl D V w :=
  ⟨hp, hc, by rw [h1, h2]; exact hJ.oc, by rw [h2, h3]; exact hJ.oe, by rw [h3, h4]; exact hJ.ox, by rw [h1]; exact hJ.f0, by rw [h1, h2]; exact hJ.fb, by rw [h2, h3, q2]; exact hJ.fc, by rw [h3, q3]; exact hJ.fe, by rw [h4, q3, q4]; exact hJ.fx, by rw [h4, q4]; exact hJ.gx⟩
end
theorem wp_region_puts {P : Program} {ops : Array Oper} {Q : Exit → Act → World → Prop} (hm : P.follows .mixedOrders = true) {id : Nat} {a0 : Act} {W0 : World} (hl : K.lowB ops = true)
    {pv : Nat → Option Value} {b c e x : Nat} {C : World → Prop} {G E : Value → World → Prop} (hb : K.dstB ops a0.tmps.size ops.size = true) (hi : CJi ops.size pv b c e x)
    (hdc : ∀ o, ops[c]? = some o → ∀ d, Closed ops d → (∀ y ∈ o.after, Region.binds .any y = true → d y.on = true) → d b = true)
    (hde : ∀ o, ops[e]? = some o → ∃ y ∈ o.after, Region.binds .any y = true ∧ y.on = c)
    (hdx : ∀ o, ops[x]? = some o → ∃ y ∈ o.after, Region.binds .any y = true ∧ y.on = e)
    (hpu : ∀ i o, ops[i]? = some o → i ≠ b → i ≠ c → i ≠ e → i ≠ x → ∀ (d : Nat → Bool) (a : Act) (w : World), K.Fr ops a0 a → Closed ops d → d i = false → (d x = false → K.vof ops a x = K.vof ops a0 x) → (∀ y ∈ o.after, Region.binds .any y = true → ∀ u, pv y.on = some u → K.vof ops a y.on = u) →
      (w = W0.drew ∨ C w ∨ (∃ u, G u w) ∨ (d e = true ∧ ∃ u, E u w)) → K.Runs P ops Q o a w fun u w' => w' = w ∧ ∀ z, pv i = some z → u = z)
    (hca : ∀ o, ops[b]? = some o → ∀ (a : Act), K.Fr ops a0 a → (∀ y ∈ o.after, Region.binds .any y = true → ∀ u, pv y.on = some u → K.vof ops a y.on = u) → K.Runs P ops Q o a W0.drew fun u w' => C w' ∧ ∀ z, pv b = some z → u = z)
    (hbu : ∀ o, ops[c]? = some o → ∀ (a : Act) (w : World), K.Fr ops a0 a → (∀ y ∈ o.after, Region.binds .any y = true → ∀ u, pv y.on = some u → K.vof ops a y.on = u) → C w → K.Runs P ops Q o a w G)
    (hap : ∀ o, ops[e]? = some o → ∀ (a : Act) (w : World), K.Fr ops a0 a → (∀ y ∈ o.after, Region.binds .any y = true → ∀ u, pv y.on = some u → K.vof ops a y.on = u) → G (K.vof ops a c) w → K.Runs P ops Q o a w E)
    (hst : ∀ o, ops[x]? = some o → ∀ (a : Act) (w : World), K.Fr ops a0 a → K.Runs P ops Q o a w fun u w' => w' = w ∧ u = K.vof ops a e)
    (hend : ∀ (a : Act) (w : World), K.Fr ops a0 a → E (K.vof ops a e) w → (x < ops.size → K.vof ops a x = K.vof ops a e) → Q .normal a w) :
    (Code.region id ops true).wp P Q a0 W0 := by
  refine K.wp_region_phase hm hl ops.size hb (fun d v w => CJ W0.drew (K.vof ops a0 x) pv b c e x C G E (Closed ops) d v w) ?_ ?_ ?_
  · exact ⟨fun _ _ _ h => (by cases h), fun _ _ _ h => (by cases h), fun h => (by cases h), fun h => (by cases h), fun h => (by cases h), fun _ => rfl, fun h => (by cases h), fun h => (by cases h), fun h => (by cases h), fun h => (by cases h), fun _ => rfl⟩
  · intro i o ho d a w hf hJ hd hall
    have hin : i < ops.size := (Array.getElem?_eq_some_iff.1 ho).1
    have hpv : ∀ y ∈ o.after, Region.binds .any y = true → ∀ u, pv y.on = some u → K.vof ops a y.on = u := fun y hy hbd u hu => hJ.pure _ _ hu (hall y hy hbd)
    have hcl : Closed ops (fun j => if i = j then true else d j) := fun j o' ho' hj y hy hbd => by
      by_cases e1 : i = j
      · subst e1; rw [ho] at ho'; cases ho'
        show (if i = y.on then true else d y.on) = true
        rw [hall y hy hbd]; split <;> rfl
      · have hj' : d j = true := by have : (if i = j then true else d j) = true := hj; rwa [if_neg e1] at this
        show (if i = y.on then true else d y.on) = true
        rw [hJ.closed j o' ho' hj' y hy hbd]; split <;> rfl
    have ud : ∀ k, i ≠ k → (if i = k then true else d k) = d k := fun k h => if_neg h
    have uv : ∀ (u : Value) k, i ≠ k → (if i = k ∧ i ≠ ops.size then u else K.vof ops a k) = K.vof ops a k := fun u k h => if_neg (fun q => h q.1)
    have ui : ∀ (u : Value), (if i = i ∧ i ≠ ops.size then u else K.vof ops a i) = u := fun u => if_pos ⟨rfl, by omega⟩
    have hpn : ∀ (u : Value), (∀ z, pv i = some z → u = z) → ∀ j z, pv j = some z → (if i = j then true else d j) = true → (if i = j ∧ i ≠ ops.size then u else K.vof ops a j) = z := by
      intro u hu j z hz hj
      by_cases e1 : i = j
      · subst e1; rw [ui]; exact hu z hz
      · rw [ud j e1] at hj; rw [uv u j e1]; exact hJ.pure j z hz hj
    by_cases e1 : i = b
    · subst e1
      have hw := hJ.f0 hd
      subst hw
      have c0 : d c = false := by cases q : d c with | false => rfl | true => rw [hJ.oc q] at hd; cases hd
      have e0 : d e = false := by cases q : d e with | false => rfl | true => rw [hJ.oe q] at c0; cases c0
      have x0 : d x = false := by cases q : d x with | false => rfl | true => rw [hJ.ox q] at e0; cases e0
      exact runs_to (hca o ho a hf hpv) fun u w' hu => CJ.mkC (hpn u hu.2) hcl (if_pos rfl) ((ud _ hi.bc).trans c0) ((ud _ hi.be).trans e0) ((ud _ hi.bx).trans x0) ((uv u _ hi.bx).trans (hJ.gx x0)) hu.1
    by_cases e2 : i = c
    · subst e2
      have b1 : d b = true := hdc o ho d hJ.closed hall
      have e0 : d e = false := by cases q : d e with | false => rfl | true => rw [hJ.oe q] at hd; cases hd
      have x0 : d x = false := by cases q : d x with | false => rfl | true => rw [hJ.ox q] at e0; cases e0
      exact runs_to (hbu o ho a w hf hpv (hJ.fb b1 hd)) fun u w' hu => CJ.mkG u (hpn u (fun z hz => by rw [hi.nc] at hz; cases hz)) hcl ((ud _ hi.bc.symm).trans b1) (if_pos rfl) ((ud _ hi.ce).trans e0) ((ud _ hi.cx).trans x0) ((uv u _ hi.cx).trans (hJ.gx x0)) (ui u) hu
    by_cases e3 : i = e
    · subst e3
      obtain ⟨y, hy, hbd, hon⟩ := hde o ho
      have c1 : d c = true := hon ▸ hall y hy hbd
      have b1 := hJ.oc c1
      have x0 : d x = false := by cases q : d x with | false => rfl | true => rw [hJ.ox q] at hd; cases hd
      exact runs_to (hap o ho a w hf hpv (hJ.fc c1 hd)) fun u w' hu => CJ.mkE u (hpn u (fun z hz => by rw [hi.ne] at hz; cases hz)) hcl ((ud _ hi.be.symm).trans b1) ((ud _ hi.ce.symm).trans c1) (if_pos rfl) ((ud _ hi.ex).trans x0) ((uv u _ hi.ex).trans (hJ.gx x0)) (ui u) hu
    by_cases e4 : i = x
    · subst e4
      obtain ⟨y, hy, hbd, hon⟩ := hdx o ho
      have e1' : d e = true := hon ▸ hall y hy hbd
      have c1 := hJ.oe e1'
      have b1 := hJ.oc c1
      refine runs_to (hst o ho a w hf) fun u w' hu => ?_
      obtain ⟨rfl, hu⟩ := hu
      exact CJ.mkX u (hpn u (fun z hz => by rw [hi.nx] at hz; cases hz)) hcl ((ud _ hi.bx.symm).trans b1) ((ud _ hi.cx.symm).trans c1) ((ud _ hi.ex.symm).trans e1') (if_pos rfl) ((uv u _ hi.ex.symm).trans hu.symm) (ui u) (by rw [hu]; exact hJ.fe e1')
    refine runs_to (hpu i o ho e1 e2 e3 e4 d a w hf hJ.closed hd hJ.gx hpv ?_) fun u w' hu => ?_
    · cases b1 : d b with
      | false => exact .inl (hJ.f0 b1)
      | true =>
        cases c1 : d c with
        | false => exact .inr (.inl (hJ.fb b1 c1))
        | true =>
          cases e1' : d e with
          | false => exact .inr (.inr (.inl ⟨_, hJ.fc c1 e1'⟩))
          | true => exact .inr (.inr (.inr ⟨rfl, _, hJ.fe e1'⟩))
    · obtain ⟨rfl, hu⟩ := hu
      exact hJ.same (hpn u hu) hcl (ud _ e1) (ud _ e2) (ud _ e3) (ud _ e4) (uv u _ e2) (uv u _ e3) (uv u _ e4)
  · intro d a w hf hall hJ
    exact hend a w hf (hJ.fe (hall e hi.e_)) fun hx => hJ.fx (hall x hx)
end Go.Proofs.YtbacimfbjpimbaaGreatDoor
namespace Go.Proofs.YtbacimfbjpimbaaGreatDoor
open Go.RowKit
section
variable {ops : Array Oper} {Q : Exit → Act → World → Prop} {o : Oper} {a : Act} {w : World} {R : Value → World → Prop}
theorem op_move (hw : Region.wanted o (yielded ops a.tmps) = true) (x : Operand) {v : Value} (ho : o.op = .move x) (hx : a.eval x = v) (h : R v w) : K.Runs Tryz.prog ops Q o a w R :=
  K.runs_value hw (by generalize a.eval = ρ at hx; simp [execOp, ho, go_sem, hx]) h
theorem op_assign (hw : Region.wanted o (yielded ops a.tmps) = true) (x : Operand) {v : Value} (ho : o.op = .assign x) (hx : a.eval x = v) (h : R v w) : K.Runs Tryz.prog ops Q o a w R :=
  K.runs_value hw (by generalize a.eval = ρ at hx; simp [execOp, ho, go_sem, hx]) h
theorem op_faI0 (hw : Region.wanted o (yielded ops a.tmps) = true) (x : Operand) {g : Nat} (ho : o.op = .fieldAddr 120 x 0) (hx : a.eval x = .pointer (some ⟨g, 0, none⟩)) (h : R (.pointer (some ⟨g, 0, none⟩)) w) : K.Runs Tryz.prog ops Q o a w R :=
  K.runs_value hw (by generalize a.eval = ρ at hx; simp [execOp, ho, go_sem, hx]) h
theorem op_faI1 (hw : Region.wanted o (yielded ops a.tmps) = true) (x : Operand) {g : Nat} (ho : o.op = .fieldAddr 120 x 1) (hx : a.eval x = .pointer (some ⟨g, 0, none⟩)) (h : R (.pointer (some ⟨g, 1, none⟩)) w) : K.Runs Tryz.prog ops Q o a w R :=
  K.runs_value hw (by generalize a.eval = ρ at hx; simp [execOp, ho, go_sem, hx]) h
theorem op_ldS (hw : Region.wanted o (yielded ops a.tmps) = true) (x : Operand) {p : Addr} {s : ByteArray} (ho : o.op = .load 9 x) (hx : a.eval x = .pointer (some p)) (hc : w.cell? p = some (.string s)) (h : R (.string s) w) : K.Runs Tryz.prog ops Q o a w R :=
  K.runs_value hw (by generalize a.eval = ρ at hx; simp [execOp, ho, go_sem, hx, hc]) h
theorem op_ldR (hw : Region.wanted o (yielded ops a.tmps) = true) (x : Operand) {g i : Nat} {s : ByteArray} {A : Option Addr} {l c : Nat} (ho : o.op = .load 43 x) (hx : a.eval x = .pointer (some ⟨g, i, none⟩)) (h0 : w.cell? ⟨g, i, none⟩ = some (.string s)) (h1 : w.cell? ⟨g, i + 1, none⟩ = some (.slice A l c)) (h : R (.agg #[.string s, .slice A l c]) w) : K.Runs Tryz.prog ops Q o a w R :=
  K.runs_value hw (by generalize a.eval = ρ at hx; simp [execOp, ho, go_sem, hx, h0, h1]) h
theorem op_mk3 (hw : Region.wanted o (yielded ops a.tmps) = true) (x y z : Operand) {s t u : ByteArray} (ho : o.op = .buildSlice 23 3 #[(0, x), (1, y), (2, z)]) (hx : a.eval x = .string s) (hy : a.eval y = .string t) (hz : a.eval z = .string u)
    (h : R (.slice (some ⟨w.heap.size, 0, none⟩) 3 3) (w.alloc (.cells #[.string s, .string t, .string u] 9 (0, 0)))) : K.Runs Tryz.prog ops Q o a w R :=
  K.runs_value hw (by generalize a.eval = ρ at hx hy hz; simp [execOp, ho, go_sem, hx, hy, hz]) h
theorem op_mk1 (hw : Region.wanted o (yielded ops a.tmps) = true) (x : Operand) {s : ByteArray} (ho : o.op = .buildSlice 23 1 #[(0, x)]) (hx : a.eval x = .string s)
    (h : R (.slice (some ⟨w.heap.size, 0, none⟩) 1 1) (w.alloc (.cells #[.string s] 9 (0, 0)))) : K.Runs Tryz.prog ops Q o a w R :=
  K.runs_value hw (by generalize a.eval = ρ at hx; simp [execOp, ho, go_sem, hx]) h
end
end Go.Proofs.YtbacimfbjpimbaaGreatDoor
namespace Go.Proofs.YtbacimfbjpimbaaGreatDoor
open Go.RowKit
section
variable {ops : Array Oper} {Q : Exit → Act → World → Prop} {o : Oper} {a : Act} {w : World} {R : Value → World → Prop}
theorem op_faV3 (hw : Region.wanted o (yielded ops a.tmps) = true) (x : Operand) {g : Nat} (ho : o.op = .fieldAddr 25 x 3) (hx : a.eval x = .pointer (some ⟨g, 0, none⟩)) (h : R (.pointer (some ⟨g, 3, none⟩)) w) : K.Runs Tryz.prog ops Q o a w R :=
  K.runs_value hw (by generalize a.eval = ρ at hx; simp [execOp, ho, go_sem, hx]) h
theorem op_faV4 (hw : Region.wanted o (yielded ops a.tmps) = true) (x : Operand) {g : Nat} (ho : o.op = .fieldAddr 25 x 4) (hx : a.eval x = .pointer (some ⟨g, 0, none⟩)) (h : R (.pointer (some ⟨g, 4, none⟩)) w) : K.Runs Tryz.prog ops Q o a w R :=
  K.runs_value hw (by generalize a.eval = ρ at hx; simp [execOp, ho, go_sem, hx]) h
theorem op_ldLS (hw : Region.wanted o (yielded ops a.tmps) = true) (x : Operand) {p : Addr} {A : Option Addr} {l c : Nat} (ho : o.op = .load 23 x) (hx : a.eval x = .pointer (some p)) (hc : w.cell? p = some (.slice A l c)) (h : R (.slice A l c) w) : K.Runs Tryz.prog ops Q o a w R :=
  K.runs_value hw (by generalize a.eval = ρ at hx; simp [execOp, ho, go_sem, hx, hc]) h
theorem op_ldLV (hw : Region.wanted o (yielded ops a.tmps) = true) (x : Operand) {p : Addr} {A : Option Addr} {l c : Nat} (ho : o.op = .load 22 x) (hx : a.eval x = .pointer (some p)) (hc : w.cell? p = some (.slice A l c)) (h : R (.slice A l c) w) : K.Runs Tryz.prog ops Q o a w R :=
  K.runs_value hw (by generalize a.eval = ρ at hx; simp [execOp, ho, go_sem, hx, hc]) h
theorem op_ixS (hw : Region.wanted o (yielded ops a.tmps) = true) (x y : Operand) {p : Addr} {l c i : Nat} (ho : o.op = .indexAddr 23 x y) (hx : a.eval x = .slice (some p) l c) (hy : a.eval y = .int .i64 i) (hi : i < l) (h : R (.pointer (some (p.add i))) w) : K.Runs Tryz.prog ops Q o a w R :=
  K.runs_value hw (by
    have hi' : (i : Int) < l := by omega
    generalize a.eval = ρ at hx hy
    simp [execOp, ho, go_sem, hx, hy, hi']) h
theorem op_ixV (hw : Region.wanted o (yielded ops a.tmps) = true) (x y : Operand) {p : Addr} {l c i : Nat} (ho : o.op = .indexAddr 22 x y) (hx : a.eval x = .slice (some p) l c) (hy : a.eval y = .int .i64 i) (hi : i < l) (h : R (.pointer (some (p.add (i * 5)))) w) : K.Runs Tryz.prog ops Q o a w R :=
  K.runs_value hw (by
    have hi' : (i : Int) < l := by omega
    generalize a.eval = ρ at hx hy
    simp [execOp, ho, go_sem, hx, hy, hi']) h
theorem op_ldV (hw : Region.wanted o (yielded ops a.tmps) = true) (x : Operand) {p : Addr} {k n : Int} {s : ByteArray} {A : Option Addr} {l c : Nat} {B : Option Addr} {l' c' : Nat} (ho : o.op = .load 25 x) (hx : a.eval x = .pointer (some p)) (h0 : w.cell? p = some (.int .i64 k)) (h1 : w.cell? ⟨p.block, p.off + 1, none⟩ = some (.int .i64 n)) (h2 : w.cell? ⟨p.block, p.off + 2, none⟩ = some (.string s)) (h3 : w.cell? ⟨p.block, p.off + 3, none⟩ = some (.slice A l c)) (h4 : w.cell? ⟨p.block, p.off + 4, none⟩ = some (.slice B l' c'))
    (h : R (.agg #[.int .i64 k, .int .i64 n, .string s, .slice A l c, .slice B l' c']) w) : K.Runs Tryz.prog ops Q o a w R :=
  K.runs_value hw (by generalize a.eval = ρ at hx; simp [execOp, ho, go_sem, hx, h0, h1, h2, h3, h4]) h
theorem op_cat (hw : Region.wanted o (yielded ops a.tmps) = true) (x y : Operand) {s t u : ByteArray} (ho : o.op = .binOp .add 9 x y 9) (hx : a.eval x = .string s) (hy : a.eval y = .string t) (hadd : ∀ w, (Op.stringOp .add s t).run Tryz.prog w = .ok (.string u) w) (h : R (.string u) w) : K.Runs Tryz.prog ops Q o a w R :=
  K.runs_value hw (by generalize a.eval = ρ at hx hy; simp [execOp, ho, go_sem, hx, hy, hadd]) h
theorem op_app (hw : Region.wanted o (yielded ops a.tmps) = true) (s x : Operand) (ho : o.op = .call { callee := .builtin .append, args := #[s, x], argTypes := #[23, 23] })
    (base : Nat) (v : Value) (ss : List ByteArray) (hs : a.eval s = v) (hown : OwnR w base v ss) (r : Nat) (p : ByteArray) (hx : a.eval x = .slice (some ⟨r, 0, none⟩) 1 1) (hnews : w.cell? ⟨r, 0, none⟩ = some (.string p))
    (hlen : ss.length + 1 ≤ 8000000000000) (hbase : base ≤ w.heap.size) (h : ∀ v' w', OwnR w' base v' (ss ++ [p]) → w.grownBy w' v.ownBlock → R v' w') : K.Runs Tryz.prog ops Q o a w R := by
  obtain ⟨i0, hi, hz0, hz1, hz2⟩ := info_parts infoStr
  obtain ⟨v', w', hr, h2, h3, _⟩ := run_append_own (P := Tryz.prog) w base 23 o.type 9 i0 (.string ⟨#[]⟩) 1 16 Tryz.underlying23 hi hz0 hz1 hz2 rfl (by decide) v ss.length _ hown ⟨r, 0, none⟩ 1 1 [.string p] rfl
    (fun j u hj => by cases j with | zero => cases hj; exact hnews | succ j => simp at hj) (fun u hu => by simp at hu; subst hu; rfl) (by unfold maxLen; omega) (by omega) hbase
  refine K.runs_value (v := v') (w' := w') hw ?_ (h v' w' ?_ h3)
  · generalize a.eval = ρ at hs hx
    unfold execOp
    simp only [ho, resolve, invoke, builtin, Sem.run_bind, Sem.run_pure, Result.andThen_ok, List.map_toArray, List.map_cons, List.map_nil, hs, hx, hr]
  · unfold OwnR
    rw [List.length_append, List.map_append]
    exact h2
end
abbrev OwnR.val {w : World} {base : Nat} {v : Value} {ss : List ByteArray} (_ : OwnR w base v ss) : Value := v
theorem bL_inj {s t : ByteArray} (h : bL s = bL t) : s = t := by
  obtain ⟨⟨a⟩⟩ := s
  obtain ⟨⟨b⟩⟩ := t
  have : a = b := h
  rw [this]
end Go.Proofs.YtbacimfbjpimbaaGreatDoor
namespace Go.Proofs.YtbacimfbjpimbaaGreatDoor
open Go.RowKit
theorem en_rvalue : ∀ (args : Array Value) (w : World), (callFunc 13 args).run Tryz.prog w = .ok (.enter 13 args) w := enters_of Tryz.func13 (by kernel_rfl) rfl
def pvO (row : Value) (g : Nat) (K : Value) (j : Nat) (ka : Addr) (y u1 : ByteArray) (A : Value) (ia : Addr) (it : Value) (o u2 : ByteArray) : Nat → Option Value
  | 0 => some row
  | 1 => some (.pointer (some ⟨g, 4, none⟩))
  | 2 => some K
  | 3 => some (.int .i64 j)
  | 4 => some (.pointer (some ka))
  | 5 => some (.string y)
  | 6 => some (.string u1)
  | 7 => some (.pointer (some ⟨g, 3, none⟩))
  | 8 => some A
  | 9 => some (.int .i64 j)
  | 10 => some (.pointer (some ia))
  | 11 => some it
  | 12 => some (.string o)
  | 13 => some (.string u2)
  | _ => none
set_option maxRecDepth 100000 in
set_option maxHeartbeats 8000000 in
theorem rvobj_any (n' : Int) (s' : ByteArray) (items : List VT) (keys : List ByteArray) (hkl : keys.length = items.length) (ih : ∀ (i : Nat) (t : VT), items[i]? = some t → t.fit ∧ RValAt t) (A : Option Addr) (li ci : Nat) (KQ : Option Addr) (lk ck : Nat) (w : World) (B : Nat)
    (h : Rd w B (.agg #[.int .i64 6, .int .i64 n', .string s', .slice A li ci, .slice KQ lk ck]) (.mk 6 n' s' items keys)) (hB : B ≤ w.heap.size) (hl : (123 :: (jn [44, 32] (objTxt keys items) ++ [125])).length ≤ 140737488355328) :
    Calls Tryz.prog 13 #[.agg #[.int .i64 6, .int .i64 n', .string s', .slice A li ci, .slice KQ lk ck]] w (SP (123 :: (jn [44, 32] (objTxt keys items) ++ [125])) w) := by
  obtain ⟨hlk, hli0, hbi, _, _, hK⟩ := h.keysOf
  obtain ⟨A', c', e', _, _, V, hA, hr⟩ := h.vals
  cases e'
  clear hli0
  rw [← hkl] at hbi hA
  rw [← hkl]
  obtain ⟨L, hL0⟩ : ∃ L, keys.length = L := ⟨_, rfl⟩
  rw [hL0] at hlk hbi hA ⊢
  subst hlk
  have hlm : (L : Int) ≤ 140737488351232 := by omega
  have HA := Lib.hid hA
  have HR := Lib.hid hr
  have HK := Lib.hid hK
  have IH := Lib.hid ih
  have HL0 := Lib.hid hL0
  have HKL := Lib.hid hkl
  have HLL := Lib.hid hl
  have HBB := Lib.hid hB
  have HBI := Lib.hid hbi
  have HB0 : Hid (Below w.heap.size w (w.alloc (.cells #[.int .i64 6, .int .i64 n', .string s', .slice A L ci, .slice KQ L ck] 25 (0, 0)))) := Lib.hid (below_new _ _)
  have HK0 := Lib.hid (Bk.new w #[.int .i64 6, .int .i64 n', .string s', .slice A L ci, .slice KQ L ck] 25)
  have HOL : Hid ((objTxt keys items).length = L) := Lib.hid (by unfold objTxt; rw [List.length_zipWith, List.length_map, ← HKL.out, HL0.out, Nat.min_self])
  clear hA hr ih hL0 hl hbi h hkl hK
  have y0 := HK0.out.cell 0 _ rfl
  have y1 := HK0.out.cell 1 _ rfl
  have y2 := HK0.out.cell 2 _ rfl
  have y3 := HK0.out.cell 3 _ rfl
  have y4 := HK0.out.cell 4 _ rfl
  go_enter Tryz.func13, Tryz.ntmps13
  go_wp2_with fail
  clear y0 y1 y2 y3 y4
  go_loopw [5, 6] (fun v i wr => ∃ (j : Nat) (ss : List ByteArray), j ≤ L ∧ i = .int .i64 j ∧ Hid (OwnR wr (w.heap.size + 1) v ss ∧ ss.map bL = (objTxt keys items).take j ∧ Below w.heap.size w wr ∧ Bk wr w.heap.size #[.int .i64 6, .int .i64 n', .string s', .slice A L ci, .slice KQ L ck] 25)) (fun _ i _ => L - (intOf i).toNat)
  case atStart => exact ⟨0, [], Nat.zero_le _, rfl, Lib.hid ⟨OwnR.nil _ _, by simp, HB0.out, HK0.out⟩⟩
  case round =>
    obtain ⟨j, ss, hj, rfl, hr⟩ := hrel
    obtain ⟨hown, hss, hb, hk⟩ := hr.out
    have HOW := Lib.hid hown
    have HSS := Lib.hid hss
    have HB := Lib.hid hb
    have HKB := Lib.hid hk
    have hwl := hk.lt
    clear hown hss hb hk hr
    have y0 := HKB.out.cell 0 _ rfl
    have y1 := HKB.out.cell 1 _ rfl
    have y2 := HKB.out.cell 2 _ rfl
    have y3 := HKB.out.cell 3 _ rfl
    have y4 := HKB.out.cell 4 _ rfl
    by_cases hlt : j < L
    · have hlt' : (j : Int) < L := by omega
      obtain ⟨x, hxi⟩ : ∃ x, items[j]? = some x := ⟨_, List.getElem?_eq_getElem (by rw [← HKL.out, HL0.out]; exact hlt)⟩
      obtain ⟨y, hyi⟩ : ∃ y, keys[j]? = some y := ⟨_, List.getElem?_eq_getElem (by rw [HL0.out]; exact hlt)⟩
      obtain ⟨a, eA, ha, hc0⟩ := HA.out (by omega)
      obtain ⟨a', eK, ha', hk0⟩ := HK.out (by rw [HL0.out]; omega)
      have EA := Lib.hid eA
      have EK := Lib.hid eK
      clear eA eK
      have HCC : Hid (∀ W, Below w.heap.size w W → ∀ q, q < 5 → W.cell? (at_ (a.add (j * 5)) q) = some (V j q)) := Lib.hid fun W hb q hq => ((hb.mono HBB.out).cell (by rw [at_block, add_block]; exact ha)).trans (hc0 j hlt q hq)
      have HKC : Hid (∀ W, Below w.heap.size w W → W.cell? (a'.add j) = some (.string y)) := Lib.hid fun W hb => ((hb.mono HBB.out).cell (by rw [add_block]; exact ha')).trans (hk0 j y hyi)
      have HXV : Hid (∀ W, Below w.heap.size w W → ValR W B (V j) x) := Lib.hid fun W hb => ValR.stays.kept (HR.out j x hxi) (hb.mono HBB.out)
      obtain ⟨k', n1, s1, VA, vli, vci, VK, vlk, vck, e0, e1, e2, e3, e4⟩ := Rd.form (HR.out j x hxi)
      have E0 := Lib.hid e0; have E1 := Lib.hid e1; have E2 := Lib.hid e2; have E3 := Lib.hid e3; have E4 := Lib.hid e4
      have hT : (objTxt keys items)[j]? = some (bL y ++ (58 :: 32 :: x.src)) := by unfold objTxt; rw [List.getElem?_zipWith, hyi, List.getElem?_map, hxi]; rfl
      have hst := jn_step_le [44, 32] hT
      have hll := HLL.out
      simp only [List.length_cons, List.length_append, bL_len] at hst hll
      have HXS : Hid ((objTxt keys items).take (j + 1) = (objTxt keys items).take j ++ [bL y ++ (58 :: 32 :: x.src)]) := Lib.hid (take_sn hT)
      obtain ⟨o, hob⟩ : ∃ o : ByteArray, bL o = x.src := ⟨⟨x.src.toArray⟩, bL_mk _⟩
      have hoz : o.size = x.src.length := by rw [← bL_len, hob]
      obtain ⟨u1, hu1, hadd1⟩ := cat_ex y ⟨#[58, 32]⟩ (by show y.size + 2 ≤ _; omega)
      have hu1z : u1.size = y.size + 2 := by rw [← bL_len, hu1, List.length_append, bL_len]; rfl
      obtain ⟨u2, hu2, hadd2⟩ := cat_ex u1 o (by rw [hu1z, hoz]; omega)
      have HU2 : Hid (bL u2 = bL y ++ (58 :: 32 :: x.src)) := Lib.hid (by rw [hu2, hu1, hob, List.append_assoc]; rfl)
      have HAD1 := Lib.hid hadd1
      have HAD2 := Lib.hid hadd2
      have CALL : Hid (∀ W, Below w.heap.size w W → Calls Tryz.prog 13 #[.agg #[.int .i64 k', .int .i64 n1, .string s1, .slice VA vli vci, .slice VK vlk vck]] W fun e w' => e = .returned (.string o) ∧ Below W.heap.size W w') := Lib.hid fun W hW => by
        have h1 := (IH.out j x hxi).2 W B _ (HXV.out W hW) (Nat.le_trans HBB.out hW.size) (IH.out j x hxi).1 (by omega)
        rw [E0.out, E1.out, E2.out, E3.out, E4.out] at h1
        refine h1.mono ?_
        rintro e w' ⟨⟨o', rfl, ho'⟩, hb⟩
        exact ⟨by rw [bL_inj (ho'.trans hob.symm)], hb⟩
      have HSL : Hid (ss.length = j) := Lib.hid (by have := congrArg List.length HSS.out; rw [List.length_map, List.length_take, HOL.out] at this; omega)
      clear hc0 hk0 e0 e1 e2 e3 e4 hxi hyi hT hst hll hob hoz hu1 hu1z hadd1 hu2 hadd2
      go_wp2_with fail
      clear y0 y1 y2 y3 y4
      obtain ⟨W, hW⟩ : ∃ W, wr.drew = W := ⟨_, rfl⟩
      have HBW : Hid (Below w.heap.size w W) := Lib.hid (hW ▸ HB.out.trans (Below.drew (Below.refl _ _)))
      have HKW : Hid (Bk W w.heap.size #[.int .i64 6, .int .i64 n', .string s', .slice A L ci, .slice KQ L ck] 25) := Lib.hid (hW ▸ HKB.out)
      have HOW2 : Hid (OwnR W (w.heap.size + 1) HOW.out.val ss) := Lib.hid (hW ▸ HOW.out.stay (Below.drew (Below.refl _ _)))
      have hzW : W.heap.size = wr.heap.size := by rw [← hW]; rfl
      refine wp_region_puts (pv := pvO HOW.out.val w.heap.size (.slice KQ L ck) j (a'.add j) y u1 (.slice A L ci) (a.add (j * 5)) (.agg #[.int .i64 k', .int .i64 n1, .string s1, .slice VA vli vci, .slice VK vlk vck]) o u2) (b := 12) (c := 14) (e := 15) (x := 16) (C := fun w1 => Below W.heap.size W w1)
        (G := fun u w2 => ∃ w1, Below W.heap.size W w1 ∧ u = .slice (some ⟨w1.heap.size, 0, none⟩) 1 1 ∧ w2 = w1.alloc (.cells #[.string u2] 9 (0, 0)))
        (E := fun u w3 => OwnR w3 (w.heap.size + 1) u (ss ++ [u2]) ∧ Below w.heap.size w w3 ∧ Bk w3 w.heap.size #[.int .i64 6, .int .i64 n', .string s', .slice A L ci, .slice KQ L ck] 25) (by kernel_rfl) (by kernel_rfl) (by kernel_rfl) ⟨by decide, by decide, by decide, by decide, by decide, by decide, rfl, rfl, rfl, by decide, by decide, by decide⟩ ?_ ?_ ?_ ?_ ?_ ?_ ?_ ?_ ?_
      · intro o ho d hcl hall; cases ho; exact hcl 13 _ rfl (hall ⟨13, .data⟩ (by simp) rfl) ⟨12, .data⟩ (by simp) rfl
      · intro o ho; cases ho; exact ⟨⟨14, .data⟩, by simp, rfl, rfl⟩
      · intro o ho; cases ho; exact ⟨⟨15, .data⟩, by simp, rfl, rfl⟩
      · intro i oo ho q1 q2 q3 q4 d a2 w2 hf hcl hdi hx0 had hw
        rw [hW] at hw
        have hi : i < 17 := (Array.getElem?_eq_some_iff.1 ho).1
        have hbx : (d 2 = false ∨ d 5 = false ∨ d 8 = false ∨ d 11 = false) → Below w.heap.size w w2 ∧ Bk w2 w.heap.size #[.int .i64 6, .int .i64 n', .string s', .slice A L ci, .slice KQ L ck] 25 := by
          intro hd
          rcases hw with rfl | hb | ⟨u, w1, hb, _, rfl⟩ | ⟨hde, _⟩
          · exact ⟨HBW.out, HKW.out⟩
          · exact ⟨HBW.out.trans (hb.mono HBW.out.size), HKW.out.stay hb⟩
          · exact ⟨(HBW.out.trans (hb.mono HBW.out.size)).trans ((below_new w1 _).mono (Nat.le_trans HBW.out.size hb.size)), (HKW.out.stay hb).stay (below_new _ _)⟩
          · have d14 : d 14 = true := hcl 15 _ rfl hde ⟨14, .data⟩ (by simp) rfl
            have d13 : d 13 = true := hcl 14 _ rfl d14 ⟨13, .data⟩ (by simp) rfl
            have d6 : d 6 = true := hcl 13 _ rfl d13 ⟨6, .data⟩ (by simp) rfl
            have d12 : d 12 = true := hcl 13 _ rfl d13 ⟨12, .data⟩ (by simp) rfl
            have d5 : d 5 = true := hcl 6 _ rfl d6 ⟨5, .data⟩ (by simp) rfl
            have d4 : d 4 = true := hcl 5 _ rfl d5 ⟨4, .data⟩ (by simp) rfl
            have d2 : d 2 = true := hcl 4 _ rfl d4 ⟨2, .data⟩ (by simp) rfl
            have d11 : d 11 = true := hcl 12 _ rfl d12 ⟨11, .data⟩ (by simp) rfl
            have d10 : d 10 = true := hcl 11 _ rfl d11 ⟨10, .data⟩ (by simp) rfl
            have d8 : d 8 = true := hcl 10 _ rfl d10 ⟨8, .data⟩ (by simp) rfl
            rw [d2, d5, d8, d11] at hd
            simp at hd
        have hc : i = 0 ∨ i = 1 ∨ i = 2 ∨ i = 3 ∨ i = 4 ∨ i = 5 ∨ i = 6 ∨ i = 7 ∨ i = 8 ∨ i = 9 ∨ i = 10 ∨ i = 11 ∨ i = 13 := by omega
        rcases hc with rfl | rfl | rfl | rfl | rfl | rfl | rfl | rfl | rfl | rfl | rfl | rfl | rfl
        · cases ho
          have d16 : d 16 = false := by
            cases q : d 16 with
            | false => rfl
            | true =>
              have d15 : d 15 = true := hcl 16 _ rfl q ⟨15, .data⟩ (by simp) rfl
              have d0 : d 0 = true := hcl 15 _ rfl d15 ⟨0, .data⟩ (by simp) rfl
              rw [d0] at hdi; cases hdi
          exact op_move rfl (.tmp 5) rfl (hx0 d16) ⟨rfl, fun z hz => by cases hz; rfl⟩
        · cases ho
          exact op_faV4 rfl (.tmp 1) rfl (K.Fr.slot hf 1 (by kernel_rfl)) ⟨rfl, fun z hz => by cases hz; rfl⟩
        · cases ho
          have hx : a2.eval (.tmp 72) = .pointer (some ⟨w.heap.size, 4, none⟩) := had ⟨1, .data⟩ (by simp) rfl _ rfl
          exact op_ldLS rfl (.tmp 72) rfl hx ((hbx (.inl hdi)).2.cell 4 _ rfl) ⟨rfl, fun z hz => by cases hz; rfl⟩
        · cases ho
          exact op_move rfl (.tmp 6) rfl (K.Fr.slot hf 6 (by kernel_rfl)) ⟨rfl, fun z hz => by cases hz; rfl⟩
        · cases ho
          have hx : a2.eval (.tmp 73) = .slice KQ L ck := had ⟨2, .data⟩ (by simp) rfl _ rfl
          have hy : a2.eval (.tmp 74) = .int .i64 j := had ⟨3, .data⟩ (by simp) rfl _ rfl
          rw [EK.out] at hx
          exact op_ixS rfl (.tmp 73) (.tmp 74) rfl hx hy hlt ⟨rfl, fun z hz => by cases hz; rfl⟩
        · cases ho
          have hx : a2.eval (.tmp 75) = .pointer (some (a'.add j)) := had ⟨4, .data⟩ (by simp) rfl _ rfl
          exact op_ldS rfl (.tmp 75) rfl hx (HKC.out _ (hbx (.inr (.inl hdi))).1) ⟨rfl, fun z hz => by cases hz; rfl⟩
        · cases ho
          have hx : a2.eval (.tmp 76) = .string y := had ⟨5, .data⟩ (by simp) rfl _ rfl
          exact op_cat rfl (.tmp 76) (.const (.string ⟨#[58, 32]⟩)) rfl hx rfl HAD1.out ⟨rfl, fun z hz => by cases hz; rfl⟩
        · cases ho
          exact op_faV3 rfl (.tmp 1) rfl (K.Fr.slot hf 1 (by kernel_rfl)) ⟨rfl, fun z hz => by cases hz; rfl⟩
        · cases ho
          have hx : a2.eval (.tmp 78) = .pointer (some ⟨w.heap.size, 3, none⟩) := had ⟨7, .data⟩ (by simp) rfl _ rfl
          exact op_ldLV rfl (.tmp 78) rfl hx ((hbx (.inr (.inr (.inl hdi)))).2.cell 3 _ rfl) ⟨rfl, fun z hz => by cases hz; rfl⟩
        · cases ho
          exact op_move rfl (.tmp 6) rfl (K.Fr.slot hf 6 (by kernel_rfl)) ⟨rfl, fun z hz => by cases hz; rfl⟩
        · cases ho
          have hx : a2.eval (.tmp 79) = .slice A L ci := had ⟨8, .data⟩ (by simp) rfl _ rfl
          have hy : a2.eval (.tmp 80) = .int .i64 j := had ⟨9, .data⟩ (by simp) rfl _ rfl
          rw [EA.out] at hx
          exact op_ixV rfl (.tmp 79) (.tmp 80) rfl hx hy hlt ⟨rfl, fun z hz => by cases hz; rfl⟩
        · cases ho
          have hx : a2.eval (.tmp 81) = .pointer (some (a.add (j * 5))) := had ⟨10, .data⟩ (by simp) rfl _ rfl
          have hcc := HCC.out _ (hbx (.inr (.inr (.inr hdi)))).1
          exact op_ldV rfl (.tmp 81) rfl hx ((hcc 0 (by omega)).trans (congrArg some E0.out)) ((hcc 1 (by omega)).trans (congrArg some E1.out)) ((hcc 2 (by omega)).trans (congrArg some E2.out)) ((hcc 3 (by omega)).trans (congrArg some E3.out)) ((hcc 4 (by omega)).trans (congrArg some E4.out)) ⟨rfl, fun z hz => by cases hz; rfl⟩
        · cases ho
          have hx : a2.eval (.tmp 77) = .string u1 := had ⟨6, .data⟩ (by simp) rfl _ rfl
          have hy : a2.eval (.tmp 83) = .string o := had ⟨12, .data⟩ (by simp) rfl _ rfl
          exact op_cat rfl (.tmp 77) (.tmp 83) rfl hx hy HAD2.out ⟨rfl, fun z hz => by cases hz; rfl⟩
      · intro oo ho a2 hf had
        cases ho
        rw [hW]
        have hx : a2.eval (.tmp 82) = .agg #[.int .i64 k', .int .i64 n1, .string s1, .slice VA vli vci, .slice VK vlk vck] := had ⟨11, .data⟩ (by simp) rfl _ rfl
        refine runs_calls rfl _ _ _ rfl en_rvalue #[.agg #[.int .i64 k', .int .i64 n1, .string s1, .slice VA vli vci, .slice VK vlk vck]] (by rw [K.map1, hx]) ?_
        refine (CALL.out _ HBW.out).mono ?_
        rintro e w4 ⟨rfl, hb⟩
        exact ⟨_, rfl, hb, fun z hz => by cases hz; rfl⟩
      · intro oo ho a2 w2 hf had hb
        cases ho
        have hx : a2.eval (.tmp 84) = .string u2 := had ⟨13, .data⟩ (by simp) rfl _ rfl
        exact op_mk1 rfl (.tmp 84) rfl hx ⟨w2, hb, rfl, rfl⟩
      · intro oo ho a2 w2 hf had ⟨w1, hb, hu, hw⟩
        cases ho
        subst hw
        refine op_app rfl (.tmp 71) (.tmp 85) rfl (w.heap.size + 1) HOW.out.val ss (had ⟨0, .data⟩ (by simp) rfl _ rfl) ((HOW2.out.stay hb).stay (below_new _ _)) w1.heap.size u2 hu ((Bk.new w1 #[.string u2] 9).cell 0 _ rfl) (by have := HSL.out; have := HBI.out; omega) (by have := hb.size; have := hzW; simp; omega) ?_
        intro v' w' ho' hg'
        have hbs : Below w.heap.size w (w1.alloc (.cells #[.string u2] 9 (0, 0))) := (HBW.out.trans (hb.mono HBW.out.size)).trans ((below_new w1 _).mono (Nat.le_trans HBW.out.size hb.size))
        have how := (HOW2.out.stay hb).stay (below_new w1 (.cells #[.string u2] 9 (0, 0)))
        exact ⟨ho', hbs.grown hg' hbs.size (fun k hk => by have := (how.lt k hk).1; omega), ((HKW.out.stay hb).stay (below_new _ _)).grown hg' (fun k hk => by have := (how.lt k hk).1; omega)⟩
      · intro oo ho a2 w2 hf
        cases ho
        exact op_assign rfl (.tmp 86) rfl rfl ⟨rfl, rfl⟩
      intro a2 w3 hf hE hx16
      have h5 : a2.tmps.getD 5 undef = a2.tmps.getD 86 undef := hx16 (by decide)
      obtain ⟨hown3, hb3, hk3⟩ := hE
      have hown3 : OwnR w3 (w.heap.size + 1) (a2.tmps.getD 86 undef) (ss ++ [u2]) := hown3
      rw [← h5] at hown3
      have hfa := _root_.Go.Proofs.YtbacimfbjpimbaaGreatDoor.K.over_ofB hf [71, 72, 73, 74, 75, 76, 77, 78, 79, 80, 81, 82, 83, 84, 85, 86, 5] (by kernel_rfl)
      have HO3 : Hid (OwnR w3 (w.heap.size + 1) ((fun d => a2.tmps.getD d undef) 5) (ss ++ [u2])) := Lib.hid hown3
      have HB3 := Lib.hid hb3
      have HK3 := Lib.hid hk3
      clear hown3 hb3 hk3 hx16 h5 hf
      generalize (fun d => a2.tmps.getD d undef) = f9 at hfa HO3
      subst hfa
      simp only [K.over, List.foldl_cons, List.foldl_nil, Act.put, List.setIfInBounds_toArray, List.set_cons_succ, List.set_cons_zero]
      generalize f9 71 = t71
      generalize f9 72 = t72
      generalize f9 73 = t73
      generalize f9 74 = t74
      generalize f9 75 = t75
      generalize f9 76 = t76
      generalize f9 77 = t77
      generalize f9 78 = t78
      generalize f9 79 = t79
      generalize f9 80 = t80
      generalize f9 81 = t81
      generalize f9 82 = t82
      generalize f9 83 = t83
      generalize f9 84 = t84
      generalize f9 85 = t85
      generalize f9 86 = t86
      generalize f9 5 = t5 at HO3 ⊢
      go_wp2_with fail
      go_roundw
      case rel => exact ⟨j + 1, ss ++ [u2], by omega, by go_num, Lib.hid ⟨HO3.out, by rw [HXS.out, List.map_append, HSS.out, List.map_cons, List.map_nil, HU2.out], HB3.out, HK3.out⟩⟩
      case measure => simp [intOf]; omega
    · have : j = L := by omega
      subst this
      obtain ⟨A2, c2, hv2, hst2⟩ := HOW.out.strs
      have HST2 := Lib.hid hst2
      have HFS : Hid (ss.map bL = objTxt keys items) := Lib.hid (by have := HSS.out; rwa [List.take_of_length_le (by rw [HOL.out]; exact Nat.le_refl _)] at this)
      have hsl : ss.length = j := by have := congrArg List.length HFS.out; rw [List.length_map, HOL.out] at this; exact this
      subst hv2
      rw [hsl]
      have HJ := Lib.hid (rjoin_any ss A2 j c2 ⟨#[44, 32]⟩ wr HST2.out hsl (by have := HBI.out; omega) (by rw [HFS.out, lit_bL]; have := HLL.out; simp only [List.length_cons, List.length_append] at this; omega))
      clear hst2 hsl HOW
      go_wp2_with fail
      refine HJ.out.mono ?_
      rintro e w7 ⟨⟨o, rfl, ho⟩, rfl⟩
      rw [HFS.out, show bL ⟨#[44, 32]⟩ = [44, 32] from rfl] at ho
      have hol : o.size = (jn [44, 32] (objTxt keys items)).length := by rw [← bL_len, ho]
      have hll := HLL.out
      simp only [List.length_cons, List.length_append, List.length_nil] at hll
      obtain ⟨q, hq, hadd1⟩ := cat_ex ⟨#[123]⟩ o (by show 1 + o.size ≤ _; omega)
      have hql : q.size = o.size + 1 := by rw [← bL_len, hq, List.length_append, bL_len o]; show 1 + o.size = _; omega
      obtain ⟨u, hu, hadd2⟩ := cat_ex q ⟨#[125]⟩ (by show q.size + 1 ≤ _; omega)
      have HU : Hid (bL u = 123 :: (jn [44, 32] (objTxt keys items) ++ [125])) := Lib.hid (by rw [hu, hq, ho]; rfl)
      clear hu hq hol hll hql ho
      go_wp2_with fail
      go_ret
      exact ⟨⟨u, rfl, HU.out⟩, HB.out⟩
end Go.Proofs.YtbacimfbjpimbaaGreatDoor
