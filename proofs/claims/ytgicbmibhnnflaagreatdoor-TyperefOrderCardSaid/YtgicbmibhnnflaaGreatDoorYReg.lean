
/-
  Regions that draw their order, by a list of facts.
-/
import Derived.Test.YtgicbmibhnnflaaGreatDoorKPast
import Derived.Orders
namespace Go.Proofs.YtgicbmibhnnflaaGreatDoor
open Go.RowKit
section
variable {P : Program} {ops : Array Oper} {n s : Nat} {Q : Exit → Act → World → Prop}
theorem any_mem {α : Type} {xs : Array α} {p : α → Bool} (h : xs.any p = true) : ∃ e, e ∈ xs ∧ p e = true := by
  rw [← Array.any_toList, List.any_eq_true] at h
  obtain ⟨e, he, hp⟩ := h
  exact ⟨e, by simpa using he, hp⟩
def lowB (ops : Array Oper) : Bool := (List.range ops.size).all fun i => match ops[i]? with | none => true | some o => o.after.all fun e => !Region.binds .any e || decide (e.on < i)
theorem low_of (h : lowB ops = true) {i : Nat} {o : Oper} (ho : ops[i]? = some o) : ∀ e ∈ o.after, Region.binds .any e = true → e.on < i := by
  intro e he hb
  have hi : i < ops.size := (Array.getElem?_eq_some_iff.1 ho).1
  have := List.all_eq_true.1 h i (List.mem_range.2 hi)
  rw [ho] at this
  have h2 := (Array.all_eq_true_iff_forall_mem.1 this) e he
  rw [hb] at h2
  simpa using h2
theorem ready_none (h : lowB ops = true) {L : Array Bool} (hr : Region.ready .any ops L = []) : ∀ i, i < ops.size → L.getD i true = true := by
  intro i
  induction i using Nat.strongRecOn with
  | ind i ih =>
  intro hi
  cases q : L.getD i true with
  | true => rfl
  | false =>
    have hm : i ∈ Region.ready .any ops L := mem_ready.2 ⟨q, ops[i], Array.getElem?_eq_getElem hi, fun e he hb => by
      have hl := low_of h (Array.getElem?_eq_getElem hi) e he hb
      have := ih e.on hl (by omega)
      have hs : e.on < L.size := by
        rcases Nat.lt_or_ge e.on L.size with h' | h'
        · exact h'
        · exfalso
          have h2 : i < L.size := by
            rcases Nat.lt_or_ge i L.size with h3 | h3
            · exact h3
            · simp [Array.getD_eq_getD_getElem?, Array.getElem?_eq_none h3] at q
          omega
      rw [Array.getD_eq_getD_getElem?, Array.getElem?_eq_getElem hs] at this ⊢
      simpa using this⟩
    rw [hr] at hm
    cases hm
def unl (L : Array Bool) : Nat := L.toList.countP (fun b => !b)
theorem unl_set {L : Array Bool} {i : Nat} (h : L.getD i true = false) : unl (L.setIfInBounds i true) + 1 = unl L := by
  have hi : i < L.size := by
    rcases Nat.lt_or_ge i L.size with h3 | h3
    · exact h3
    · simp [Array.getD_eq_getD_getElem?, Array.getElem?_eq_none h3] at h
  have hv : L[i] = false := by simpa [Array.getD_eq_getD_getElem?, Array.getElem?_eq_getElem hi] using h
  unfold unl
  rw [Array.toList_setIfInBounds, List.countP_set (by simpa using hi)]
  have hp : 0 < L.toList.countP (fun b => !b) := List.countP_pos_iff.2 ⟨L[i], by simp, by simp [hv]⟩
  rw [show L.toList[i]'(by simpa using hi) = false from by simpa using hv]
  simp only [Bool.not_false, Bool.not_true, if_true, Bool.false_eq_true, if_false]
  omega
theorem unl_zero {L : Array Bool} (h : unl L = 0) (i : Nat) : L.getD i true = true := by
  unfold unl at h
  rw [List.countP_eq_zero] at h
  rcases Nat.lt_or_ge i L.size with h3 | h3
  · have := h L[i] (by simp)
    rw [Array.getD_eq_getD_getElem?, Array.getElem?_eq_getElem h3]
    simpa using this
  · simp [Array.getD_eq_getD_getElem?, Array.getElem?_eq_none h3]
theorem inv_any (hl : lowB ops = true) (I : Array Bool → Act → World → Prop)
    (hstep : ∀ L a w i, L.size = ops.size → I L a w → i ∈ Region.ready .any ops L → wpOp P ops Q i (I (L.setIfInBounds i true)) a w)
    (hend : ∀ L a w, L.size = ops.size → (∀ i, i < ops.size → L.getD i true = true) → I L a w → Q .normal a w) :
    ∀ (fuel : Nat) (L : Array Bool) (a : Act) (w : World), L.size = ops.size → unl L ≤ fuel → I L a w → wpAny P .any ops Q fuel L a w
  | 0, L, a, w, hs, hu, h => by
    have hz := unl_zero (L := L) (by omega)
    refine ⟨?_, hend L a w hs (fun i _ => hz i) h⟩
    cases hr : Region.ready .any ops L with
    | nil => rfl
    | cons i r =>
      have := (mem_ready.1 (show i ∈ Region.ready .any ops L by rw [hr]; simp)).1
      rw [hz i] at this; cases this
  | fuel + 1, L, a, w, hs, hu, h => by
    refine ⟨fun hr => hend L a w hs (ready_none hl hr) h, fun i hi => ?_⟩
    refine wpOp_mono (fun a' w' h' => ?_) (hstep L a w i hs h hi)
    exact inv_any hl I hstep hend fuel _ a' w' (by simpa using hs) (by have := unl_set (mem_ready.1 hi).1; omega) h'
theorem wp_region_inv (hm : P.follows .mixedOrders = true) {id : Nat} {a : Act} {w : World} (hl : lowB ops = true) (I : Array Bool → Act → World → Prop)
    (h0 : I (Array.replicate ops.size false) a w.drew)
    (hstep : ∀ L a w i, L.size = ops.size → I L a w → i ∈ Region.ready .any ops L → wpOp P ops Q i (I (L.setIfInBounds i true)) a w)
    (hend : ∀ L a w, L.size = ops.size → (∀ i, i < ops.size → L.getD i true = true) → I L a w → Q .normal a w) : (Code.region id ops true).wp P Q a w :=
  wp_region_any hm (inv_any hl I hstep hend ops.size _ a _ (by simp) (by unfold unl; simp only [Array.toList_replicate, List.countP_replicate]; simp) h0)
def dstOf (ops : Array Oper) (i : Nat) : Option Tmp := (ops[i]?).bind (·.dst)
def vof (ops : Array Oper) (a : Act) (i : Nat) : Value := match dstOf ops i with | some d => a.tmps.getD d undef | none => undef
def dstB (ops : Array Oper) (n s : Nat) : Bool := (List.range ops.size).all fun i => (match dstOf ops i with | some d => decide (d < n) && decide (i ≠ s) | none => decide (i = s)) && (List.range ops.size).all fun j => decide (i = j) || decide (dstOf ops i ≠ dstOf ops j) || decide (dstOf ops i = none)
theorem dst_in (h : dstB ops n s = true) {i d : Nat} (hd : dstOf ops i = some d) : d < n := by
  have hi : i < ops.size := by
    rcases Nat.lt_or_ge i ops.size with h' | h'
    · exact h'
    · simp [dstOf, Array.getElem?_eq_none h'] at hd
  have := List.all_eq_true.1 h i (List.mem_range.2 hi)
  rw [hd, Bool.and_eq_true, Bool.and_eq_true] at this
  simpa using this.1.1
theorem dst_nes (h : dstB ops n s = true) {i d : Nat} (hd : dstOf ops i = some d) : i ≠ s := by
  have hi : i < ops.size := by
    rcases Nat.lt_or_ge i ops.size with h' | h'
    · exact h'
    · simp [dstOf, Array.getElem?_eq_none h'] at hd
  have := List.all_eq_true.1 h i (List.mem_range.2 hi)
  rw [hd, Bool.and_eq_true, Bool.and_eq_true] at this
  simpa using this.1.2
theorem dst_some (h : dstB ops n s = true) {i : Nat} (hi : i < ops.size) (hs : i ≠ s) : ∃ d, dstOf ops i = some d := by
  have := List.all_eq_true.1 h i (List.mem_range.2 hi)
  rw [Bool.and_eq_true] at this
  cases q : dstOf ops i with
  | some d => exact ⟨d, rfl⟩
  | none => rw [q] at this; exact absurd (by simpa using this.1) hs
theorem dst_ne (h : dstB ops n s = true) {i j d : Nat} (hd : dstOf ops i = some d) (hj : dstOf ops j = some d) : i = j := by
  have hi : i < ops.size := by
    rcases Nat.lt_or_ge i ops.size with h' | h'
    · exact h'
    · simp [dstOf, Array.getElem?_eq_none h'] at hd
  have hj' : j < ops.size := by
    rcases Nat.lt_or_ge j ops.size with h' | h'
    · exact h'
    · simp [dstOf, Array.getElem?_eq_none h'] at hj
  have := List.all_eq_true.1 h i (List.mem_range.2 hi)
  rw [Bool.and_eq_true] at this
  have := List.all_eq_true.1 this.2 j (List.mem_range.2 hj')
  rw [hd, hj] at this
  simpa using this
def Fr (ops : Array Oper) (a0 a : Act) : Prop := a.defers = a0.defers ∧ a.tmps.size = a0.tmps.size ∧ ∀ k, (∀ i, dstOf ops i ≠ some k) → a.tmps[k]? = a0.tmps[k]?
theorem Fr.put {a0 a : Act} (h : Fr ops a0 a) {i : Nat} {o : Oper} (ho : ops[i]? = some o) (v : Value) : Fr ops a0 (a.put o.dst v) := by
  obtain ⟨h1, h2, h3⟩ := h
  cases q : o.dst with
  | none => exact ⟨h1, h2, h3⟩
  | some d =>
    refine ⟨h1, by simpa [Act.put] using h2, fun k hk => ?_⟩
    have hne : d ≠ k := fun e => hk i (by simp [dstOf, ho, q, e])
    simp only [Act.put]
    rw [Array.getElem?_setIfInBounds_ne hne]
    exact h3 k hk
theorem vof_put {a0 a : Act} (hb : dstB ops a0.tmps.size s = true) (h : Fr ops a0 a) {i j : Nat} {o : Oper} (ho : ops[i]? = some o) (v : Value) : vof ops (a.put o.dst v) j = if i = j ∧ i ≠ s then v else vof ops a j := by
  unfold vof
  have hdi : dstOf ops i = o.dst := by simp [dstOf, ho]
  have hil : i < ops.size := (Array.getElem?_eq_some_iff.1 ho).1
  cases q : dstOf ops j with
  | none =>
    rw [if_neg]
    rintro ⟨rfl, hs⟩
    obtain ⟨d, hd⟩ := dst_some hb hil hs
    rw [hd] at q; cases q
  | some d =>
    simp only
    cases qi : o.dst with
    | none =>
      rw [if_neg]
      · rfl
      · rintro ⟨rfl, _⟩
        rw [hdi, qi] at q; cases q
    | some d' =>
      simp only [Act.put]
      by_cases e : d' = d
      · subst e
        have hij := dst_ne hb (hdi.trans qi) q
        have hs : d' < a.tmps.size := by rw [h.2.1]; exact dst_in hb q
        subst hij
        rw [if_pos ⟨rfl, dst_nes hb q⟩]
        simp [Array.getD_eq_getD_getElem?, hs]
      · rw [if_neg]
        · simp only [Array.getD_eq_getD_getElem?]
          rw [Array.getElem?_setIfInBounds_ne e]
        · rintro ⟨rfl, _⟩
          rw [hdi, qi] at q
          exact e (by injection q)
/- What an operation does in a frame: it is wanted, and it goes through. -/
def Runs (P : Program) (ops : Array Oper) (Q : Exit → Act → World → Prop) (o : Oper) (a : Act) (w : World) (R : Value → World → Prop) : Prop :=
  Region.wanted o (yielded ops a.tmps) = true ∧ o.wp P a w (fun a' w' => ∃ v, a' = a.put o.dst v ∧ R v w') Q
/- What came before operation o has given its fact. -/
def Had (ops : Array Oper) (s : Nat) (a : Act) (o : Oper) (F : Nat → Value → Prop) : Prop := ∀ e ∈ o.after, Region.binds .any e = true → e.on ≠ s → F e.on (vof ops a e.on)
def lateB (ops : Array Oper) (s al : Nat) (Pu : Nat → Bool) : Bool := match ops[s]? with
  | none => true
  | some o => (List.range ops.size).all (fun i => decide (i = s) || Pu i || o.after.any fun e => Region.binds .any e && decide (e.on = i)) && o.after.any fun e => Region.binds .any e && decide (e.on = al)
theorem wp_region_facts (hm : P.follows .mixedOrders = true) {id : Nat} {a0 : Act} {W0 : World} (hl : lowB ops = true) (s al : Nat) (hb : dstB ops a0.tmps.size s = true)
    (Pu : Nat → Bool) (hlate : lateB ops s al Pu = true) (Γ : Nat → Value → World → Prop) (Γp : Nat → Value → Prop) (Fin : Value → World → Prop)
    (hΓ : ∀ i v w, Γ i v w → Γp i v) (hpers : ∀ i v w w', Γ i v w → Below w.heap.size w w' → Γ i v w') (hpure : ∀ i v w, Pu i = true → Γp i v → Γ i v w)
    (hop : ∀ i o, ops[i]? = some o → i ≠ s → Pu i = false → ∀ a w, Fr ops a0 a → Below W0.heap.size W0 w → Had ops s a o (fun j v => Γ j v w) → Runs P ops Q o a w fun v w' => Below w.heap.size w w' ∧ Γ i v w')
    (hpu : ∀ i o, ops[i]? = some o → i ≠ s → Pu i = true → ∀ a w, Fr ops a0 a → Had ops s a o Γp → Runs P ops Q o a w fun v w' => w = w' ∧ Γp i v)
    (hst : ∀ o, ops[s]? = some o → ∀ a w, Fr ops a0 a → Below W0.heap.size W0 w → Had ops s a o (fun j v => Γ j v w) → Runs P ops Q o a w fun _ w' => Fin (vof ops a al) w')
    (hend : ∀ a w, Fr ops a0 a → (∀ i, i < ops.size → i ≠ s → Γp i (vof ops a i)) → (s < ops.size → Fin (vof ops a al) w) → (ops.size ≤ s → Below W0.heap.size W0 w ∧ ∀ i, i < ops.size → Γ i (vof ops a i) w) → Q .normal a w) :
    (Code.region id ops true).wp P Q a0 W0 := by
  refine wp_region_inv hm hl (fun L a w => Fr ops a0 a ∧ (∀ i, i < ops.size → i ≠ s → L.getD i false = true → Γp i (vof ops a i)) ∧
    (L.getD s false = false → Below W0.heap.size W0 w ∧ ∀ i, i < ops.size → i ≠ s → L.getD i false = true → Γ i (vof ops a i) w) ∧ (L.getD s false = true → Fin (vof ops a al) w ∧ L.getD al false = true ∧ ∀ o, ops[s]? = some o → ∀ e ∈ o.after, Region.binds .any e = true → L.getD e.on false = true)) ?_ ?_ ?_
  · have hz : ∀ i, (Array.replicate ops.size false).getD i false = false := fun i => by
      rw [Array.getD_eq_getD_getElem?, Array.getElem?_replicate]; split <;> rfl
    exact ⟨⟨rfl, rfl, fun _ _ => rfl⟩, fun i _ _ h => (by rw [hz i] at h; cases h), fun _ => ⟨(Below.refl _ _).drew, fun i _ _ h => (by rw [hz i] at h; cases h)⟩, fun h => (by rw [hz s] at h; cases h)⟩
  · intro L a w i hs ⟨hf, hp, hpre, hpost⟩ hi
    obtain ⟨h0, o, ho, hall⟩ := mem_ready.1 hi
    have hil : i < ops.size := (Array.getElem?_eq_some_iff.1 ho).1
    have hLi : i < L.size := by omega
    have hset : ∀ j, (L.setIfInBounds i true).getD j false = if i = j then true else L.getD j false := fun j => by
      by_cases e : i = j
      · subst e; rw [if_pos rfl]; simp [Array.getD_eq_getD_getElem?, hLi]
      · rw [if_neg e, Array.getD_eq_getD_getElem?, Array.getD_eq_getD_getElem?, Array.getElem?_setIfInBounds_ne e]
    have hi0 : L.getD i false = false := by
      rw [Array.getD_eq_getD_getElem?, Array.getElem?_eq_getElem hLi] at h0 ⊢; simpa using h0
    have hpredlt : ∀ e ∈ o.after, Region.binds .any e = true → e.on < ops.size := fun e he hbd => by have := low_of hl ho e he hbd; omega
    have wrap : ∀ (K : Act → World → Prop), (Region.wanted o (yielded ops a.tmps) = true ∧ o.wp P a w K Q) → wpOp P ops Q i K a w := fun K h => by
      unfold wpOp; rw [ho]; simp only [h.1, if_true]; exact .inl h.2
    by_cases his : i = s
    · subst his
      obtain ⟨hbl, hG⟩ := hpre hi0
      obtain ⟨hw, hr⟩ := hst o ho a w hf hbl (fun e he hbd hne => hG _ (hpredlt e he hbd) hne (hall e he hbd))
      refine wrap _ ⟨hw, Oper.wp_mono (fun a' w' ⟨v, e, hfin⟩ => ?_) hr⟩
      have hdn : o.dst = none := by
        cases q : o.dst with
        | none => rfl
        | some d => exact absurd rfl (dst_nes hb (i := i) (d := d) (by simp [dstOf, ho, q]))
      rw [hdn] at e
      subst e
      have hal : L.getD al false = true := by
        unfold lateB at hlate
        rw [ho] at hlate
        simp only [Bool.and_eq_true] at hlate
        obtain ⟨e, he, h2⟩ := any_mem hlate.2
        simp only [Bool.and_eq_true, decide_eq_true_eq] at h2
        rw [← h2.2]
        exact hall e he h2.1
      refine ⟨hf, fun j hj hjs h => ?_, fun h => ?_, fun _ => ⟨hfin, ?_, ?_⟩⟩
      · rw [hset, if_neg (Ne.symm hjs)] at h; exact hp j hj hjs h
      · rw [hset, if_pos rfl] at h; cases h
      · rw [hset]; split <;> simp [hal]
      · intro o' ho' e he hbd
        rw [ho] at ho'
        cases ho'
        rw [hset]; split
        · rfl
        · exact hall e he hbd
    · have hsne : ∀ {b}, (L.setIfInBounds i true).getD s false = b ↔ L.getD s false = b := fun {b} => by rw [hset, if_neg his]
      cases hpi : Pu i with
      | true =>
        obtain ⟨hw, hr⟩ := hpu i o ho his hpi a w hf (fun e he hbd hne => hp _ (hpredlt e he hbd) hne (hall e he hbd))
        refine wrap _ ⟨hw, Oper.wp_mono (fun a' w' ⟨v, e, e2, hv⟩ => ?_) hr⟩
        subst e e2
        have hvof : ∀ j, vof ops (a.put o.dst v) j = if i = j ∧ i ≠ s then v else vof ops a j := fun j => vof_put hb hf ho v
        refine ⟨hf.put ho v, fun j hj hjs h => ?_, fun h => ?_, fun h => ?_⟩
        · rw [hvof]
          rw [hset] at h
          by_cases e : i = j
          · subst e; rw [if_pos ⟨rfl, his⟩]; exact hv
          · rw [if_neg e] at h; rw [if_neg (fun h => e h.1)]; exact hp j hj hjs h
        · obtain ⟨hbl, hG⟩ := hpre (hsne.1 h)
          refine ⟨hbl, fun j hj hjs h => ?_⟩
          rw [hvof]
          rw [hset] at h
          by_cases e : i = j
          · subst e; rw [if_pos ⟨rfl, his⟩]; exact hpure i v w hpi hv
          · rw [if_neg e] at h; rw [if_neg (fun h => e h.1)]; exact hG j hj hjs h
        · obtain ⟨h1, h2, h3⟩ := hpost (hsne.1 h)
          have hne : i ≠ al := fun e => by rw [← e, hi0] at h2; cases h2
          refine ⟨by rw [hvof, if_neg (fun h => hne h.1)]; exact h1, by rw [hset, if_neg hne]; exact h2, fun o' ho' e he hbd => ?_⟩
          rw [hset]; split
          · rfl
          · exact h3 o' ho' e he hbd
      | false =>
        have hs0 : L.getD s false = false := by
          cases q : L.getD s false with
          | false => rfl
          | true =>
            exfalso
            obtain ⟨_, _, h3⟩ := hpost q
            have hsl : s < ops.size := by
              rcases Nat.lt_or_ge s ops.size with h' | h'
              · exact h'
              · rw [Array.getD_eq_getD_getElem?, Array.getElem?_eq_none (by omega)] at q; cases q
            unfold lateB at hlate
            rw [Array.getElem?_eq_getElem hsl] at hlate
            simp only [Bool.and_eq_true] at hlate
            have h4 := List.all_eq_true.1 hlate.1 i (List.mem_range.2 hil)
            simp only [Bool.or_eq_true, decide_eq_true_eq, hpi, Bool.false_eq_true, or_false] at h4
            rcases h4 with h4 | h4
            · exact his h4
            · obtain ⟨e, he, h5⟩ := any_mem h4
              simp only [Bool.and_eq_true, decide_eq_true_eq] at h5
              have := h3 _ (Array.getElem?_eq_getElem hsl) e he h5.1
              rw [h5.2, hi0] at this; cases this
        obtain ⟨hbl, hG⟩ := hpre hs0
        obtain ⟨hw, hr⟩ := hop i o ho his hpi a w hf hbl (fun e he hbd hne => hG _ (hpredlt e he hbd) hne (hall e he hbd))
        refine wrap _ ⟨hw, Oper.wp_mono (fun a' w' ⟨v, e, hb2, hv⟩ => ?_) hr⟩
        subst e
        have hvof : ∀ j, vof ops (a.put o.dst v) j = if i = j ∧ i ≠ s then v else vof ops a j := fun j => vof_put hb hf ho v
        refine ⟨hf.put ho v, fun j hj hjs h => ?_, fun _ => ⟨hbl.trans (hb2.mono hbl.size), fun j hj hjs h => ?_⟩, fun h => ?_⟩
        · rw [hvof]
          rw [hset] at h
          by_cases e : i = j
          · subst e; rw [if_pos ⟨rfl, his⟩]; exact hΓ _ _ _ hv
          · rw [if_neg e] at h; rw [if_neg (fun h => e h.1)]; exact hp j hj hjs h
        · rw [hvof]
          rw [hset] at h
          by_cases e : i = j
          · subst e; rw [if_pos ⟨rfl, his⟩]; exact hv
          · rw [if_neg e] at h; rw [if_neg (fun h => e h.1)]; exact hpers _ _ _ _ (hG j hj hjs h) hb2
        · rw [hsne, hs0] at h; cases h
  · intro L a w hs hall ⟨hf, hp, hpre, hpost⟩
    have hg : ∀ i, i < ops.size → L.getD i false = true := fun i hi => by
      have := hall i hi
      rw [Array.getD_eq_getD_getElem?, Array.getElem?_eq_getElem (by omega)] at this ⊢; simpa using this
    refine hend a w hf (fun i hi his => hp i hi his (hg i hi)) (fun h => (hpost (hg s h)).1) (fun h => ?_)
    have hs0 : L.getD s false = false := by rw [Array.getD_eq_getD_getElem?, Array.getElem?_eq_none (by omega)]; rfl
    obtain ⟨h1, h2⟩ := hpre hs0
    exact ⟨h1, fun i hi => h2 i hi (by omega) (hg i hi)⟩
end
def over (a0 : Act) (ds : List Tmp) (f : Tmp → Value) : Act := ds.foldl (fun a d => a.put (some d) (f d)) a0
theorem over_size (ds : List Tmp) (f : Tmp → Value) : ∀ a0 : Act, (over a0 ds f).tmps.size = a0.tmps.size ∧ (over a0 ds f).defers = a0.defers := by
  induction ds with
  | nil => intro a0; exact ⟨rfl, rfl⟩
  | cons d r ih => intro a0; have := ih (a0.put (some d) (f d)); simpa [over, Act.put] using this
theorem over_get (ds : List Tmp) (f : Tmp → Value) : ∀ (a0 : Act) (k : Nat), (over a0 ds f).tmps[k]? = if k ∈ ds ∧ k < a0.tmps.size then some (f k) else a0.tmps[k]? := by
  induction ds with
  | nil => intro a0 k; simp [over]
  | cons d r ih =>
    intro a0 k
    have := ih (a0.put (some d) (f d)) k
    rw [show over a0 (d :: r) f = over (a0.put (some d) (f d)) r f from rfl, this]
    simp only [Act.put, Array.size_setIfInBounds, List.mem_cons]
    by_cases h1 : k ∈ r ∧ k < a0.tmps.size
    · rw [if_pos h1, if_pos ⟨.inr h1.1, h1.2⟩]
    · rw [if_neg h1]
      by_cases e : d = k
      · subst e
        by_cases h2 : d < a0.tmps.size
        · rw [if_pos ⟨.inl rfl, h2⟩]; simp [h2]
        · have h4 : a0.tmps.size ≤ d := Nat.le_of_not_lt h2
          rw [if_neg (fun h => h2 h.2), Array.getElem?_eq_none (by simpa using h4), Array.getElem?_eq_none h4]
      · rw [Array.getElem?_setIfInBounds_ne e, if_neg]
        rintro ⟨h | h, h2⟩
        · exact e h.symm
        · exact h1 ⟨h, h2⟩
theorem over_of {ops : Array Oper} {a0 a : Act} (h : Fr ops a0 a) (ds : List Tmp) (hd : ∀ i k, dstOf ops i = some k → k ∈ ds) : a = over a0 ds (fun d => a.tmps.getD d undef) := by
  obtain ⟨h1, h2, h3⟩ := h
  obtain ⟨s1, s2⟩ := over_size ds (fun d => a.tmps.getD d undef) a0
  have ht : a.tmps = (over a0 ds (fun d => a.tmps.getD d undef)).tmps := by
    apply Array.ext_getElem?
    intro k
    rw [over_get]
    by_cases hk : k ∈ ds ∧ k < a0.tmps.size
    · rw [if_pos hk, Array.getD_eq_getD_getElem?, Array.getElem?_eq_getElem (by omega)]; rfl
    · rw [if_neg hk]
      by_cases hm : k ∈ ds
      · have h4 : a0.tmps.size ≤ k := by
          rcases Nat.lt_or_ge k a0.tmps.size with h | h
          · exact absurd ⟨hm, h⟩ hk
          · exact h
        rw [Array.getElem?_eq_none (by omega), Array.getElem?_eq_none h4]
      · exact h3 k (fun i e => hm (hd i k e))
  cases a
  generalize over _ _ _ = o at *
  cases o
  simp_all
theorem Fr.slot {ops : Array Oper} {a0 a : Act} (h : Fr ops a0 a) (k : Nat) (hk : ((List.range ops.size).all fun i => decide (dstOf ops i ≠ some k)) = true) : a.tmps.getD k undef = a0.tmps.getD k undef := by
  rw [Array.getD_eq_getD_getElem?, Array.getD_eq_getD_getElem?, h.2.2 k]
  intro i e
  have hi : i < ops.size := by
    rcases Nat.lt_or_ge i ops.size with h' | h'
    · exact h'
    · simp [dstOf, Array.getElem?_eq_none h'] at e
  have := List.all_eq_true.1 hk i (List.mem_range.2 hi)
  exact (of_decide_eq_true this) e
theorem runs_call {P : Program} {ops : Array Oper} {Q : Exit → Act → World → Prop} {o : Oper} {a : Act} {w : World} {R : Value → World → Prop} (hw : Region.wanted o (yielded ops a.tmps) = true) (f : FuncId) (xs : Array Operand) (ts : Array TypeId)
    (ho : o.op = .call { callee := .value (.func f), args := xs, argTypes := ts }) (hen : ∀ (args : Array Value) (w : World), (callFunc f args).run P w = .ok (.enter f args) w) (vs : Array Value) (hx : xs.map a.eval = vs)
    (hc : Calls P f vs w fun e w' => ∃ v, e = .returned v ∧ R v w') : Runs P ops Q o a w R := by
  refine ⟨hw, ?_⟩
  unfold Oper.wp
  have he : (execOp a.eval o).run P w = .ok (.enter f vs) w := by
    simp [execOp, ho, go_sem, hx, hen]
  rw [he]
  exact hc.mono fun e w' ⟨v, hv, hr⟩ => by subst hv; exact ⟨v, rfl, hr⟩
theorem runs_value {P : Program} {ops : Array Oper} {Q : Exit → Act → World → Prop} {o : Oper} {a : Act} {w w' : World} {v : Value} {R : Value → World → Prop} (hw : Region.wanted o (yielded ops a.tmps) = true)
    (he : (execOp a.eval o).run P w = .ok (.value v) w') (h : R v w') : Runs P ops Q o a w R := by
  refine ⟨hw, ?_⟩
  unfold Oper.wp
  rw [he]
  exact ⟨v, rfl, h⟩
theorem runs_skip {P : Program} {ops : Array Oper} {Q : Exit → Act → World → Prop} {o : Oper} {a : Act} {w w' : World} {R : Value → World → Prop} (hw : Region.wanted o (yielded ops a.tmps) = true)
    (he : (execOp a.eval o).run P w = .ok .skip w') (h : R undef w') : Runs P ops Q o a w R := by
  refine ⟨hw, ?_⟩
  unfold Oper.wp
  rw [he]
  exact ⟨undef, rfl, h⟩
theorem map1 {α β : Type} (f : α → β) (x : α) : (#[x] : Array α).map f = #[f x] := by simp
theorem map2 {α β : Type} (f : α → β) (x y : α) : (#[x, y] : Array α).map f = #[f x, f y] := by simp
structure Fact where
  R : Value → World → Prop
  pers : ∀ v w w', R v w → Below w.heap.size w w' → R v w'
def Fact.is (v : Value) : Fact := ⟨fun u _ => u = v, fun _ _ _ h _ => h⟩
def Fact.any : Fact := ⟨fun _ _ => True, fun _ _ _ _ _ => trivial⟩
section
variable {P : Program} {ops : Array Oper} {Q : Exit → Act → World → Prop}
theorem wp_region_list (hm : P.follows .mixedOrders = true) {id : Nat} {a0 : Act} {W0 : World} (hl : lowB ops = true) (hb : dstB ops a0.tmps.size ops.size = true) (F : List Fact)
    (hop : ∀ i o, ops[i]? = some o → ∀ a w, Fr ops a0 a → Below W0.heap.size W0 w → Had ops ops.size a o (fun j v => (F.getD j Fact.any).R v w) →
      Runs P ops Q o a w (fun v w' => Below w.heap.size w w' ∧ (F.getD i Fact.any).R v w') ∨ (Region.wanted o (yielded ops a.tmps) = false ∧ (F.getD i Fact.any).R undef w))
    (hend : ∀ a w, Fr ops a0 a → Below W0.heap.size W0 w → (∀ i, i < ops.size → (F.getD i Fact.any).R (vof ops a i) w) → Q .normal a w) :
    (Code.region id ops true).wp P Q a0 W0 := by
  refine wp_region_inv hm hl (fun L a w => Fr ops a0 a ∧ Below W0.heap.size W0 w ∧ ∀ i, i < ops.size → L.getD i false = true → (F.getD i Fact.any).R (vof ops a i) w) ?_ ?_ ?_
  · have hz : ∀ i, (Array.replicate ops.size false).getD i false = false := fun i => by
      rw [Array.getD_eq_getD_getElem?, Array.getElem?_replicate]; split <;> rfl
    exact ⟨⟨rfl, rfl, fun _ _ => rfl⟩, (Below.refl _ _).drew, fun i _ h => (by rw [hz i] at h; cases h)⟩
  · intro L a w i hs ⟨hf, hbl, hG⟩ hi
    obtain ⟨h0, o, ho, hall⟩ := mem_ready.1 hi
    have hil : i < ops.size := (Array.getElem?_eq_some_iff.1 ho).1
    have hLi : i < L.size := by omega
    have hset : ∀ j, (L.setIfInBounds i true).getD j false = if i = j then true else L.getD j false := fun j => by
      by_cases e : i = j
      · subst e; rw [if_pos rfl]; simp [Array.getD_eq_getD_getElem?, hLi]
      · rw [if_neg e, Array.getD_eq_getD_getElem?, Array.getD_eq_getD_getElem?, Array.getElem?_setIfInBounds_ne e]
    have hpredlt : ∀ e ∈ o.after, Region.binds .any e = true → e.on < ops.size := fun e he hbd => by have := low_of hl ho e he hbd; omega
    have key : ∀ v w', Below w.heap.size w w' → (F.getD i Fact.any).R v w' → Fr ops a0 (a.put o.dst v) ∧ Below W0.heap.size W0 w' ∧ ∀ j, j < ops.size → (L.setIfInBounds i true).getD j false = true → (F.getD j Fact.any).R (vof ops (a.put o.dst v) j) w' := by
      intro v w' hb2 hv
      refine ⟨hf.put ho v, hbl.trans (hb2.mono hbl.size), fun j hj h => ?_⟩
      rw [vof_put hb hf ho v]
      rw [hset] at h
      by_cases e : i = j
      · subst e; rw [if_pos ⟨rfl, by omega⟩]; exact hv
      · rw [if_neg e] at h; rw [if_neg (fun h => e h.1)]; exact (F.getD j Fact.any).pers _ _ _ (hG j hj h) hb2
    unfold wpOp
    rw [ho]
    rcases hop i o ho a w hf hbl (fun e he hbd _ => hG _ (hpredlt e he hbd) (hall e he hbd)) with ⟨hw, hr⟩ | ⟨hw, hr⟩
    · simp only [hw, if_true]
      refine .inl (Oper.wp_mono (fun a' w' ⟨v, e, hb2, hv⟩ => ?_) hr)
      subst e
      exact key v w' hb2 hv
    · simp only [hw, Bool.false_eq_true, if_false]
      exact key undef w (Below.refl _ _) hr
  · intro L a w hs hall ⟨hf, hbl, hG⟩
    refine hend a w hf hbl fun i hi => hG i hi ?_
    have := hall i hi
    rw [Array.getD_eq_getD_getElem?, Array.getElem?_eq_getElem (by omega)] at this ⊢; simpa using this
def dstsB (ops : Array Oper) (ds : List Tmp) : Bool := (List.range ops.size).all fun i => match dstOf ops i with | none => true | some d => ds.contains d
theorem over_ofB {a0 a : Act} (h : Fr ops a0 a) (ds : List Tmp) (hd : dstsB ops ds = true) : a = over a0 ds (fun d => a.tmps.getD d undef) := by
  refine over_of h ds fun i k hk => ?_
  have hi : i < ops.size := by
    rcases Nat.lt_or_ge i ops.size with h' | h'
    · exact h'
    · rw [dstOf, Array.getElem?_eq_none h'] at hk; cases hk
  have := List.all_eq_true.1 hd i (List.mem_range.2 hi)
  rw [hk] at this
  simpa using this
theorem yielded_of {a : Act} {j : Nat} {b : Bool} (hv : vof ops a j = .bool b) : yielded ops a.tmps j = some b := by
  unfold yielded
  unfold vof dstOf at hv
  cases e : (ops[j]?).bind (·.dst) with
  | none => rw [e] at hv; cases hv
  | some d =>
    rw [e] at hv
    simp only [Array.getD_eq_getD_getElem?] at hv
    simp only [Option.bind_some]
    cases e' : a.tmps[d]? with
    | none => rw [e'] at hv; cases hv
    | some v => rw [e'] at hv; simp only [Option.getD_some] at hv; rw [hv]
theorem yielded_un {a : Act} {j : Nat} (hv : vof ops a j = undef) : yielded ops a.tmps j = none := by
  unfold yielded
  unfold vof dstOf at hv
  cases e : (ops[j]?).bind (·.dst) with
  | none => rfl
  | some d =>
    rw [e] at hv
    simp only [Array.getD_eq_getD_getElem?] at hv
    simp only [Option.bind_some]
    cases e' : a.tmps[d]? with
    | none => rfl
    | some v => rw [e'] at hv; simp only [Option.getD_some] at hv; rw [hv]; rfl
theorem want_if {o : Oper} {a : Act} {j : Nat} {b : Bool} (hg : o.guard = some (j, b)) (hv : vof ops a j = .bool b) : Region.wanted o (yielded ops a.tmps) = true := by
  unfold Region.wanted; rw [hg]; simp only [yielded_of hv, beq_self_eq_true]
theorem want_not {o : Oper} {a : Act} {j : Nat} {b c : Bool} (hg : o.guard = some (j, b)) (hv : vof ops a j = .bool c) (hn : c ≠ b) : Region.wanted o (yielded ops a.tmps) = false := by
  unfold Region.wanted; rw [hg]; simp only [yielded_of hv]; simpa using hn
theorem want_un {o : Oper} {a : Act} {j : Nat} {b : Bool} (hg : o.guard = some (j, b)) (hv : vof ops a j = undef) : Region.wanted o (yielded ops a.tmps) = false := by
  unfold Region.wanted; rw [hg]; simp only [yielded_un hv]; rfl
theorem runs_pickF {o : Oper} {a : Act} {w : World} {R : Value → World → Prop} (hw : Region.wanted o (yielded ops a.tmps) = true) (c x y : Operand) {v : Value}
    (ho : o.op = .pick c x y) (hc : a.eval c = .bool false) (hy : a.eval y = v) (h : R v w) : Runs P ops Q o a w R :=
  runs_value hw (by generalize a.eval = ρ at hy hc; simp [execOp, ho, go_sem, hy, hc]) h
end
section
variable {ops : Array Oper} {Q : Exit → Act → World → Prop} {o : Oper} {a : Act} {w : World} {R : Value → World → Prop}
theorem rc_eql (hw : Region.wanted o (yielded ops a.tmps) = true) (x y : Operand) {n m : Int} {b : Bool}
    (ho : o.op = .binOp .eql 3 x y 3) (hx : a.eval x = .int .i64 n) (hy : a.eval y = .int .i64 m) (hc : (n == m) = b) (h : R (.bool b) w) : Runs Tryz.prog ops Q o a w R :=
  runs_value hw (by generalize a.eval = ρ at hx hy; subst hc; simp [execOp, ho, go_sem, hx, hy]) h
theorem rc_neq (hw : Region.wanted o (yielded ops a.tmps) = true) (x y : Operand) {n m : Int} {b : Bool}
    (ho : o.op = .binOp .neq 3 x y 3) (hx : a.eval x = .int .i64 n) (hy : a.eval y = .int .i64 m) (hc : (n != m) = b) (h : R (.bool b) w) : Runs Tryz.prog ops Q o a w R :=
  runs_value hw (by generalize a.eval = ρ at hx hy; subst hc; simp [execOp, ho, go_sem, hx, hy]) h
theorem rc_not (hw : Region.wanted o (yielded ops a.tmps) = true) (x : Operand) {b c : Bool}
    (ho : o.op = .unOp .not 4 x) (hx : a.eval x = .bool b) (hc : (!b) = c) (h : R (.bool c) w) : Runs Tryz.prog ops Q o a w R :=
  runs_value hw (by generalize a.eval = ρ at hx; subst hc; simp [execOp, ho, go_sem, hx]) h
theorem rc_len (hw : Region.wanted o (yielded ops a.tmps) = true) (x : Operand) {s : ByteArray}
    (ho : o.op = .call { callee := .builtin .len, args := #[x], argTypes := #[9] }) (hx : a.eval x = .string s) (h : R (.int .i64 s.size) w) : Runs Tryz.prog ops Q o a w R :=
  runs_value hw (by generalize a.eval = ρ at hx; simp [execOp, ho, go_sem, hx]) h
end

/- One store behind all that makes memory. -/
theorem wp_region_late {P : Program} {ops : Array Oper} {Q : Exit → Act → World → Prop} (hm : P.follows .mixedOrders = true) {id : Nat} {a0 : Act} {W0 : World} (hl : lowB ops = true) (s al : Nat) (hb : dstB ops a0.tmps.size s = true)
    (Pu : Nat → Bool) (hlate : lateB ops s al Pu = true) (hs : s < ops.size) (F : List Fact) (Fin : Value → World → Prop) (hpu0 : ∀ i v w w', Pu i = true → (F.getD i Fact.any).R v w → (F.getD i Fact.any).R v w')
    (hop : ∀ i o, ops[i]? = some o → i ≠ s → Pu i = false → ∀ a w, Fr ops a0 a → Below W0.heap.size W0 w → Had ops s a o (fun j v => (F.getD j Fact.any).R v w) → Runs P ops Q o a w fun v w' => Below w.heap.size w w' ∧ (F.getD i Fact.any).R v w')
    (hpu : ∀ i o, ops[i]? = some o → i ≠ s → Pu i = true → ∀ a w, Fr ops a0 a → Had ops s a o (fun j v => ∃ u, (F.getD j Fact.any).R v u) → Runs P ops Q o a w fun v w' => w = w' ∧ ∃ u, (F.getD i Fact.any).R v u)
    (hst : ∀ o, ops[s]? = some o → ∀ a w, Fr ops a0 a → Below W0.heap.size W0 w → Had ops s a o (fun j v => (F.getD j Fact.any).R v w) → Runs P ops Q o a w fun _ w' => Fin (vof ops a al) w')
    (hend : ∀ a w, Fr ops a0 a → (∀ i, i < ops.size → i ≠ s → ∃ u, (F.getD i Fact.any).R (vof ops a i) u) → Fin (vof ops a al) w → Q .normal a w) :
    (Code.region id ops true).wp P Q a0 W0 :=
  wp_region_facts hm hl s al hb Pu hlate (fun i v w => (F.getD i Fact.any).R v w) (fun i v => ∃ u, (F.getD i Fact.any).R v u) Fin (fun _ _ w h => ⟨w, h⟩) (fun i v w w' h hb => (F.getD i Fact.any).pers v w w' h hb)
    (fun i v w hp ⟨u, h⟩ => hpu0 i v u w hp h) hop hpu hst (fun a w hf h1 h2 _ => hend a w hf h1 (h2 hs))
end Go.Proofs.YtgicbmibhnnflaaGreatDoor
