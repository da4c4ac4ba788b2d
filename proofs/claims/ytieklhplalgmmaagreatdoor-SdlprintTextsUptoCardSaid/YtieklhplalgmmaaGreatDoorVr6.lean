
/-
  Texts joined: YReg G4 NR NO NO2.
-/
import Derived.Test.YtieklhplalgmmaaGreatDoorVr3
import Derived.Orders
import Derived.Test.YtieklhplalgmmaaGreatDoorVr1
import Derived.Test.YtieklhplalgmmaaGreatDoorVr2
import Derived.Test.YtieklhplalgmmaaGreatDoorVr5
namespace Go.Proofs.YtieklhplalgmmaaGreatDoor.K
open Go.RowKit
section
variable {P : Program} {ops : Array Oper} {n s : Nat} {Q : Exit → Act → World → Prop}
theorem any_mem {α : Type} {xs : Array α} {p : α → Bool} (h : xs.any p = true) : ∃ e, e ∈ xs ∧ p e = true := by
  rw [← Array.any_toList, List.any_eq_true] at h
  obtain ⟨e, he, hp⟩ := h
  exact ⟨e, by simpa using he, hp⟩
def lowB (ops : Array Oper) : Bool := (List.range ops.size).all fun i => match ops[i]? with | none => true | some o => o.after.all fun e => !Region.binds .any e || decide (e.on < i)
theorem low_of (h : lowB ops = true) {i : Nat} {o : Oper} (ho : ops[i]? = some o) : ∀ e ∈ o.after, Region.binds .any e = true → e.on < i := by
  intro e he hb
  have hi : i < ops.size := (Array.getElem?_eq_some_iff.1 ho).1
  have := List.all_eq_true.1 h i (List.mem_range.2 hi)
  rw [ho] at this
  have h2 := (Array.all_eq_true_iff_forall_mem.1 this) e he
  rw [hb] at h2
  simpa using h2
theorem ready_none (h : lowB ops = true) {L : Array Bool} (hr : Region.ready .any ops L = []) : ∀ i, i < ops.size → L.getD i true = true := by
  intro i
  induction i using Nat.strongRecOn with
  | ind i ih =>
  intro hi
  cases q : L.getD i true with
  | true => rfl
  | false =>
    have hm : i ∈ Region.ready .any ops L := mem_ready.2 ⟨q, ops[i], Array.getElem?_eq_getElem hi, fun e he hb => by
      have hl := low_of h (Array.getElem?_eq_getElem hi) e he hb
      have := ih e.on hl (by omega)
      have hs : e.on < L.size := by
        rcases Nat.lt_or_ge e.on L.size with h' | h'
        · exact h'
        · exfalso
          have h2 : i < L.size := by
            rcases Nat.lt_or_ge i L.size with h3 | h3
            · exact h3
            · simp [Array.getD_eq_getD_getElem?, Array.getElem?_eq_none h3] at q
          omega
      rw [Array.getD_eq_getD_getElem?, Array.getElem?_eq_getElem hs] at this ⊢
      simpa using this⟩
    rw [hr] at hm
    cases hm
def unl (L : Array Bool) : Nat := L.toList.countP (fun b => !b)
theorem unl_set {L : Array Bool} {i : Nat} (h : L.getD i true = false) : unl (L.setIfInBounds i true) + 1 = unl L := by
  have hi : i < L.size := by
    rcases Nat.lt_or_ge i L.size with h3 | h3
    · exact h3
    · simp [Array.getD_eq_getD_getElem?, Array.getElem?_eq_none h3] at h
  have hv : L[i] = false := by simpa [Array.getD_eq_getD_getElem?, Array.getElem?_eq_getElem hi] using h
  unfold unl
  rw [Array.toList_setIfInBounds, List.countP_set (by simpa using hi)]
  have hp : 0 < L.toList.countP (fun b => !b) := List.countP_pos_iff.2 ⟨L[i], by simp, by simp [hv]⟩
  rw [show L.toList[i]'(by simpa using hi) = false from by simpa using hv]
  simp only [Bool.not_false, Bool.not_true, if_true, Bool.false_eq_true, if_false]
  omega
theorem unl_zero {L : Array Bool} (h : unl L = 0) (i : Nat) : L.getD i true = true := by
  unfold unl at h
  rw [List.countP_eq_zero] at h
  rcases Nat.lt_or_ge i L.size with h3 | h3
  · have := h L[i] (by simp)
    rw [Array.getD_eq_getD_getElem?, Array.getElem?_eq_getElem h3]
    simpa using this
  · simp [Array.getD_eq_getD_getElem?, Array.getElem?_eq_none h3]
theorem inv_any (hl : lowB ops = true) (I : Array Bool → Act → World → Prop)
    (hstep : ∀ L a w i, L.size = ops.size → I L a w → i ∈ Region.ready .any ops L → wpOp P ops Q i (I (L.setIfInBounds i true)) a w)
    (hend : ∀ L a w, L.size = ops.size → (∀ i, i < ops.size → L.getD i true = true) → I L a w → Q .normal a w) :
    ∀ (fuel : Nat) (L : Array Bool) (a : Act) (w : World), L.size = ops.size → unl L ≤ fuel → I L a w → wpAny P .any ops Q fuel L a w
  | 0, L, a, w, hs, hu, h => by
    have hz := unl_zero (L := L) (by omega)
    refine ⟨?_, hend L a w hs (fun i _ => hz i) h⟩
    cases hr : Region.ready .any ops L with
    | nil => rfl
    | cons i r =>
      have := (mem_ready.1 (show i ∈ Region.ready .any ops L by rw [hr]; simp)).1
      rw [hz i] at this; cases this
  | fuel + 1, L, a, w, hs, hu, h => by
    refine ⟨fun hr => hend L a w hs (ready_none hl hr) h, fun i hi => ?_⟩
    refine wpOp_mono (fun a' w' h' => ?_) (hstep L a w i hs h hi)
    exact inv_any hl I hstep hend fuel _ a' w' (by simpa using hs) (by have := unl_set (mem_ready.1 hi).1; omega) h'
theorem wp_region_inv (hm : P.follows .mixedOrders = true) {id : Nat} {a : Act} {w : World} (hl : lowB ops = true) (I : Array Bool → Act → World → Prop)
    (h0 : I (Array.replicate ops.size false) a w.drew)
    (hstep : ∀ L a w i, L.size = ops.size → I L a w → i ∈ Region.ready .any ops L → wpOp P ops Q i (I (L.setIfInBounds i true)) a w)
    (hend : ∀ L a w, L.size = ops.size → (∀ i, i < ops.size → L.getD i true = true) → I L a w → Q .normal a w) : (Code.region id ops true).wp P Q a w :=
  wp_region_any hm (inv_any hl I hstep hend ops.size _ a _ (by simp) (by unfold unl; simp only [Array.toList_replicate, List.countP_replicate]; simp) h0)
def dstOf (ops : Array Oper) (i : Nat) : Option Tmp := (ops[i]?).bind (·.dst)
def vof (ops : Array Oper) (a : Act) (i : Nat) : Value := match dstOf ops i with | some d => a.tmps.getD d undef | none => undef
def dstB (ops : Array Oper) (n s : Nat) : Bool := (List.range ops.size).all fun i => (match dstOf ops i with | some d => decide (d < n) && decide (i ≠ s) | none => decide (i = s)) && (List.range ops.size).all fun j => decide (i = j) || decide (dstOf ops i ≠ dstOf ops j) || decide (dstOf ops i = none)
theorem dst_in (h : dstB ops n s = true) {i d : Nat} (hd : dstOf ops i = some d) : d < n := by
  have hi : i < ops.size := by
    rcases Nat.lt_or_ge i ops.size with h' | h'
    · exact h'
    · simp [dstOf, Array.getElem?_eq_none h'] at hd
  have := List.all_eq_true.1 h i (List.mem_range.2 hi)
  rw [hd, Bool.and_eq_true, Bool.and_eq_true] at this
  simpa using this.1.1
theorem dst_nes (h : dstB ops n s = true) {i d : Nat} (hd : dstOf ops i = some d) : i ≠ s := by
  have hi : i < ops.size := by
    rcases Nat.lt_or_ge i ops.size with h' | h'
    · exact h'
    · simp [dstOf, Array.getElem?_eq_none h'] at hd
  have := List.all_eq_true.1 h i (List.mem_range.2 hi)
  rw [hd, Bool.and_eq_true, Bool.and_eq_true] at this
  simpa using this.1.2
theorem dst_some (h : dstB ops n s = true) {i : Nat} (hi : i < ops.size) (hs : i ≠ s) : ∃ d, dstOf ops i = some d := by
  have := List.all_eq_true.1 h i (List.mem_range.2 hi)
  rw [Bool.and_eq_true] at this
  cases q : dstOf ops i with
  | some d => exact ⟨d, rfl⟩
  | none => rw [q] at this; exact absurd (by simpa using this.1) hs
theorem dst_ne (h : dstB ops n s = true) {i j d : Nat} (hd : dstOf ops i = some d) (hj : dstOf ops j = some d) : i = j := by
  have hi : i < ops.size := by
    rcases Nat.lt_or_ge i ops.size with h' | h'
    · exact h'
    · simp [dstOf, Array.getElem?_eq_none h'] at hd
  have hj' : j < ops.size := by
    rcases Nat.lt_or_ge j ops.size with h' | h'
    · exact h'
    · simp [dstOf, Array.getElem?_eq_none h'] at hj
  have := List.all_eq_true.1 h i (List.mem_range.2 hi)
  rw [Bool.and_eq_true] at this
  have := List.all_eq_true.1 this.2 j (List.mem_range.2 hj')
  rw [hd, hj] at this
  simpa using this
def Fr (ops : Array Oper) (a0 a : Act) : Prop := a.defers = a0.defers ∧ a.tmps.size = a0.tmps.size ∧ ∀ k, (∀ i, dstOf ops i ≠ some k) → a.tmps[k]? = a0.tmps[k]?
theorem Fr.put {a0 a : Act} (h : Fr ops a0 a) {i : Nat} {o : Oper} (ho : ops[i]? = some o) (v : Value) : Fr ops a0 (a.put o.dst v) := by
  obtain ⟨h1, h2, h3⟩ := h
  cases q : o.dst with
  | none => exact ⟨h1, h2, h3⟩
  | some d =>
    refine ⟨h1, by simpa [Act.put] using h2, fun k hk => ?_⟩
    have hne : d ≠ k := fun e => hk i (by simp [dstOf, ho, q, e])
    simp only [Act.put]
    rw [Array.getElem?_setIfInBounds_ne hne]
    exact h3 k hk
theorem vof_put {a0 a : Act} (hb : dstB ops a0.tmps.size s = true) (h : Fr ops a0 a) {i j : Nat} {o : Oper} (ho : ops[i]? = some o) (v : Value) : vof ops (a.put o.dst v) j = if i = j ∧ i ≠ s then v else vof ops a j := by
  unfold vof
  have hdi : dstOf ops i = o.dst := by simp [dstOf, ho]
  have hil : i < ops.size := (Array.getElem?_eq_some_iff.1 ho).1
  cases q : dstOf ops j with
  | none =>
    rw [if_neg]
    rintro ⟨rfl, hs⟩
    obtain ⟨d, hd⟩ := dst_some hb hil hs
    rw [hd] at q; cases q
  | some d =>
    simp only
    cases qi : o.dst with
    | none =>
      rw [if_neg]
      · rfl
      · rintro ⟨rfl, _⟩
        rw [hdi, qi] at q; cases q
    | some d' =>
      simp only [Act.put]
      by_cases e : d' = d
      · subst e
        have hij := dst_ne hb (hdi.trans qi) q
        have hs : d' < a.tmps.size := by rw [h.2.1]; exact dst_in hb q
        subst hij
        rw [if_pos ⟨rfl, dst_nes hb q⟩]
        simp [Array.getD_eq_getD_getElem?, hs]
      · rw [if_neg]
        · simp only [Array.getD_eq_getD_getElem?]
          rw [Array.getElem?_setIfInBounds_ne e]
        · rintro ⟨rfl, _⟩
          rw [hdi, qi] at q
          exact e (by injection q)
def Runs (P : Program) (ops : Array Oper) (Q : Exit → Act → World → Prop) (o : Oper) (a : Act) (w : World) (R : Value → World → Prop) : Prop :=
  Region.wanted o (yielded ops a.tmps) = true ∧ o.wp P a w (fun a' w' => ∃ v, a' = a.put o.dst v ∧ R v w') Q
def Had (ops : Array Oper) (s : Nat) (a : Act) (o : Oper) (F : Nat → Value → Prop) : Prop := ∀ e ∈ o.after, Region.binds .any e = true → e.on ≠ s → F e.on (vof ops a e.on)
def lateB (ops : Array Oper) (s al : Nat) (Pu : Nat → Bool) : Bool := match ops[s]? with
  | none => true
  | some o => (List.range ops.size).all (fun i => decide (i = s) || Pu i || o.after.any fun e => Region.binds .any e && decide (e.on = i)) && o.after.any fun e => Region.binds .any e && decide (e.on = al)
theorem wp_region_facts (hm : P.follows .mixedOrders = true) {id : Nat} {a0 : Act} {W0 : World} (hl : lowB ops = true) (s al : Nat) (hb : dstB ops a0.tmps.size s = true)
    (Pu : Nat → Bool) (hlate : lateB ops s al Pu = true) (Γ : Nat → Value → World → Prop) (Γp : Nat → Value → Prop) (Fin : Value → World → Prop)
    (hΓ : ∀ i v w, Γ i v w → Γp i v) (hpers : ∀ i v w w', Γ i v w → Below w.heap.size w w' → Γ i v w') (hpure : ∀ i v w, Pu i = true → Γp i v → Γ i v w)
    (hop : ∀ i o, ops[i]? = some o → i ≠ s → Pu i = false → ∀ a w, Fr ops a0 a → Below W0.heap.size W0 w → Had ops s a o (fun j v => Γ j v w) → Runs P ops Q o a w fun v w' => Below w.heap.size w w' ∧ Γ i v w')
    (hpu : ∀ i o, ops[i]? = some o → i ≠ s → Pu i = true → ∀ a w, Fr ops a0 a → Had ops s a o Γp → Runs P ops Q o a w fun v w' => w = w' ∧ Γp i v)
    (hst : ∀ o, ops[s]? = some o → ∀ a w, Fr ops a0 a → Below W0.heap.size W0 w → Had ops s a o (fun j v => Γ j v w) → Runs P ops Q o a w fun _ w' => Fin (vof ops a al) w')
    (hend : ∀ a w, Fr ops a0 a → (∀ i, i < ops.size → i ≠ s → Γp i (vof ops a i)) → (s < ops.size → Fin (vof ops a al) w) → (ops.size ≤ s → Below W0.heap.size W0 w ∧ ∀ i, i < ops.size → Γ i (vof ops a i) w) → Q .normal a w) :
    (Code.region id ops true).wp P Q a0 W0 := by
  refine wp_region_inv hm hl (fun L a w => Fr ops a0 a ∧ (∀ i, i < ops.size → i ≠ s → L.getD i false = true → Γp i (vof ops a i)) ∧
    (L.getD s false = false → Below W0.heap.size W0 w ∧ ∀ i, i < ops.size → i ≠ s → L.getD i false = true → Γ i (vof ops a i) w) ∧ (L.getD s false = true → Fin (vof ops a al) w ∧ L.getD al false = true ∧ ∀ o, ops[s]? = some o → ∀ e ∈ o.after, Region.binds .any e = true → L.getD e.on false = true)) ?_ ?_ ?_
  · have hz : ∀ i, (Array.replicate ops.size false).getD i false = false := fun i => by
      rw [Array.getD_eq_getD_getElem?, Array.getElem?_replicate]; split <;> rfl
    exact ⟨⟨rfl, rfl, fun _ _ => rfl⟩, fun i _ _ h => (by rw [hz i] at h; cases h), fun _ => ⟨(Below.refl _ _).drew, fun i _ _ h => (by rw [hz i] at h; cases h)⟩, fun h => (by rw [hz s] at h; cases h)⟩
  · intro L a w i hs ⟨hf, hp, hpre, hpost⟩ hi
    obtain ⟨h0, o, ho, hall⟩ := mem_ready.1 hi
    have hil : i < ops.size := (Array.getElem?_eq_some_iff.1 ho).1
    have hLi : i < L.size := by omega
    have hset : ∀ j, (L.setIfInBounds i true).getD j false = if i = j then true else L.getD j false := fun j => by
      by_cases e : i = j
      · subst e; rw [if_pos rfl]; simp [Array.getD_eq_getD_getElem?, hLi]
      · rw [if_neg e, Array.getD_eq_getD_getElem?, Array.getD_eq_getD_getElem?, Array.getElem?_setIfInBounds_ne e]
    have hi0 : L.getD i false = false := by
      rw [Array.getD_eq_getD_getElem?, Array.getElem?_eq_getElem hLi] at h0 ⊢; simpa using h0
    have hpredlt : ∀ e ∈ o.after, Region.binds .any e = true → e.on < ops.size := fun e he hbd => by have := low_of hl ho e he hbd; omega
    have wrap : ∀ (K : Act → World → Prop), (Region.wanted o (yielded ops a.tmps) = true ∧ o.wp P a w K Q) → wpOp P ops Q i K a w := fun K h => by
      unfold wpOp; rw [ho]; simp only [h.1, if_true]; exact .inl h.2
    by_cases his : i = s
    · subst his
      obtain ⟨hbl, hG⟩ := hpre hi0
      obtain ⟨hw, hr⟩ := hst o ho a w hf hbl (fun e he hbd hne => hG _ (hpredlt e he hbd) hne (hall e he hbd))
      refine wrap _ ⟨hw, Oper.wp_mono (fun a' w' ⟨v, e, hfin⟩ => ?_) hr⟩
      have hdn : o.dst = none := by
        cases q : o.dst with
        | none => rfl
        | some d => exact absurd rfl (dst_nes hb (i := i) (d := d) (by simp [dstOf, ho, q]))
      rw [hdn] at e
      subst e
      have hal : L.getD al false = true := by
        unfold lateB at hlate
        rw [ho] at hlate
        simp only [Bool.and_eq_true] at hlate
        obtain ⟨e, he, h2⟩ := any_mem hlate.2
        simp only [Bool.and_eq_true, decide_eq_true_eq] at h2
        rw [← h2.2]
        exact hall e he h2.1
      refine ⟨hf, fun j hj hjs h => ?_, fun h => ?_, fun _ => ⟨hfin, ?_, ?_⟩⟩
      · rw [hset, if_neg (Ne.symm hjs)] at h; exact hp j hj hjs h
      · rw [hset, if_pos rfl] at h; cases h
      · rw [hset]; split <;> simp [hal]
      · intro o' ho' e he hbd
        rw [ho] at ho'
        cases ho'
        rw [hset]; split
        · rfl
        · exact hall e he hbd
    · have hsne : ∀ {b}, (L.setIfInBounds i true).getD s false = b ↔ L.getD s false = b := fun {b} => by rw [hset, if_neg his]
      cases hpi : Pu i with
      | true =>
        obtain ⟨hw, hr⟩ := hpu i o ho his hpi a w hf (fun e he hbd hne => hp _ (hpredlt e he hbd) hne (hall e he hbd))
        refine wrap _ ⟨hw, Oper.wp_mono (fun a' w' ⟨v, e, e2, hv⟩ => ?_) hr⟩
        subst e e2
        have hvof : ∀ j, vof ops (a.put o.dst v) j = if i = j ∧ i ≠ s then v else vof ops a j := fun j => vof_put hb hf ho v
        refine ⟨hf.put ho v, fun j hj hjs h => ?_, fun h => ?_, fun h => ?_⟩
        · rw [hvof]
          rw [hset] at h
          by_cases e : i = j
          · subst e; rw [if_pos ⟨rfl, his⟩]; exact hv
          · rw [if_neg e] at h; rw [if_neg (fun h => e h.1)]; exact hp j hj hjs h
        · obtain ⟨hbl, hG⟩ := hpre (hsne.1 h)
          refine ⟨hbl, fun j hj hjs h => ?_⟩
          rw [hvof]
          rw [hset] at h
          by_cases e : i = j
          · subst e; rw [if_pos ⟨rfl, his⟩]; exact hpure i v w hpi hv
          · rw [if_neg e] at h; rw [if_neg (fun h => e h.1)]; exact hG j hj hjs h
        · obtain ⟨h1, h2, h3⟩ := hpost (hsne.1 h)
          have hne : i ≠ al := fun e => by rw [← e, hi0] at h2; cases h2
          refine ⟨by rw [hvof, if_neg (fun h => hne h.1)]; exact h1, by rw [hset, if_neg hne]; exact h2, fun o' ho' e he hbd => ?_⟩
          rw [hset]; split
          · rfl
          · exact h3 o' ho' e he hbd
      | false =>
        have hs0 : L.getD s false = false := by
          cases q : L.getD s false with
          | false => rfl
          | true =>
            exfalso
            obtain ⟨_, _, h3⟩ := hpost q
            have hsl : s < ops.size := by
              rcases Nat.lt_or_ge s ops.size with h' | h'
              · exact h'
              · rw [Array.getD_eq_getD_getElem?, Array.getElem?_eq_none (by omega)] at q; cases q
            unfold lateB at hlate
            rw [Array.getElem?_eq_getElem hsl] at hlate
            simp only [Bool.and_eq_true] at hlate
            have h4 := List.all_eq_true.1 hlate.1 i (List.mem_range.2 hil)
            simp only [Bool.or_eq_true, decide_eq_true_eq, hpi, Bool.false_eq_true, or_false] at h4
            rcases h4 with h4 | h4
            · exact his h4
            · obtain ⟨e, he, h5⟩ := any_mem h4
              simp only [Bool.and_eq_true, decide_eq_true_eq] at h5
              have := h3 _ (Array.getElem?_eq_getElem hsl) e he h5.1
              rw [h5.2, hi0] at this; cases this
        obtain ⟨hbl, hG⟩ := hpre hs0
        obtain ⟨hw, hr⟩ := hop i o ho his hpi a w hf hbl (fun e he hbd hne => hG _ (hpredlt e he hbd) hne (hall e he hbd))
        refine wrap _ ⟨hw, Oper.wp_mono (fun a' w' ⟨v, e, hb2, hv⟩ => ?_) hr⟩
        subst e
        have hvof : ∀ j, vof ops (a.put o.dst v) j = if i = j ∧ i ≠ s then v else vof ops a j := fun j => vof_put hb hf ho v
        refine ⟨hf.put ho v, fun j hj hjs h => ?_, fun _ => ⟨hbl.trans (hb2.mono hbl.size), fun j hj hjs h => ?_⟩, fun h => ?_⟩
        · rw [hvof]
          rw [hset] at h
          by_cases e : i = j
          · subst e; rw [if_pos ⟨rfl, his⟩]; exact hΓ _ _ _ hv
          · rw [if_neg e] at h; rw [if_neg (fun h => e h.1)]; exact hp j hj hjs h
        · rw [hvof]
          rw [hset] at h
          by_cases e : i = j
          · subst e; rw [if_pos ⟨rfl, his⟩]; exact hv
          · rw [if_neg e] at h; rw [if_neg (fun h => e h.1)]; exact hpers _ _ _ _ (hG j hj hjs h) hb2
        · rw [hsne, hs0] at h; cases h
  · intro L a w hs hall ⟨hf, hp, hpre, hpost⟩
    have hg : ∀ i, i < ops.size → L.getD i false = true := fun i hi => by
      have := hall i hi
      rw [Array.getD_eq_getD_getElem?, Array.getElem?_eq_getElem (by omega)] at this ⊢; simpa using this
    refine hend a w hf (fun i hi his => hp i hi his (hg i hi)) (fun h => (hpost (hg s h)).1) (fun h => ?_)
    have hs0 : L.getD s false = false := by rw [Array.getD_eq_getD_getElem?, Array.getElem?_eq_none (by omega)]; rfl
    obtain ⟨h1, h2⟩ := hpre hs0
    exact ⟨h1, fun i hi => h2 i hi (by omega) (hg i hi)⟩
end
def over (a0 : Act) (ds : List Tmp) (f : Tmp → Value) : Act := ds.foldl (fun a d => a.put (some d) (f d)) a0
theorem over_size (ds : List Tmp) (f : Tmp → Value) : ∀ a0 : Act, (over a0 ds f).tmps.size = a0.tmps.size ∧ (over a0 ds f).defers = a0.defers := by
  induction ds with
  | nil => intro a0; exact ⟨rfl, rfl⟩
  | cons d r ih => intro a0; have := ih (a0.put (some d) (f d)); simpa [over, Act.put] using this
theorem over_get (ds : List Tmp) (f : Tmp → Value) : ∀ (a0 : Act) (k : Nat), (over a0 ds f).tmps[k]? = if k ∈ ds ∧ k < a0.tmps.size then some (f k) else a0.tmps[k]? := by
  induction ds with
  | nil => intro a0 k; simp [over]
  | cons d r ih =>
    intro a0 k
    have := ih (a0.put (some d) (f d)) k
    rw [show over a0 (d :: r) f = over (a0.put (some d) (f d)) r f from rfl, this]
    simp only [Act.put, Array.size_setIfInBounds, List.mem_cons]
    by_cases h1 : k ∈ r ∧ k < a0.tmps.size
    · rw [if_pos h1, if_pos ⟨.inr h1.1, h1.2⟩]
    · rw [if_neg h1]
      by_cases e : d = k
      · subst e
        by_cases h2 : d < a0.tmps.size
        · rw [if_pos ⟨.inl rfl, h2⟩]; simp [h2]
        · have h4 : a0.tmps.size ≤ d := Nat.le_of_not_lt h2
          rw [if_neg (fun h => h2 h.2), Array.getElem?_eq_none (by simpa using h4), Array.getElem?_eq_none h4]
      · rw [Array.getElem?_setIfInBounds_ne e, if_neg]
        rintro ⟨h | h, h2⟩
        · exact e h.symm
        · exact h1 ⟨h, h2⟩
theorem over_of {ops : Array Oper} {a0 a : Act} (h : Fr ops a0 a) (ds : List Tmp) (hd : ∀ i k, dstOf ops i = some k → k ∈ ds) : a = over a0 ds (fun d => a.tmps.getD d undef) := by
  obtain ⟨h1, h2, h3⟩ := h
  obtain ⟨s1, s2⟩ := over_size ds (fun d => a.tmps.getD d undef) a0
  have ht : a.tmps = (over a0 ds (fun d => a.tmps.getD d undef)).tmps := by
    apply Array.ext_getElem?
    intro k
    rw [over_get]
    by_cases hk : k ∈ ds ∧ k < a0.tmps.size
    · rw [if_pos hk, Array.getD_eq_getD_getElem?, Array.getElem?_eq_getElem (by omega)]; rfl
    · rw [if_neg hk]
      by_cases hm : k ∈ ds
      · have h4 : a0.tmps.size ≤ k := by
          rcases Nat.lt_or_ge k a0.tmps.size with h | h
          · exact absurd ⟨hm, h⟩ hk
          · exact h
        rw [Array.getElem?_eq_none (by omega), Array.getElem?_eq_none h4]
      · exact h3 k (fun i e => hm (hd i k e))
  cases a
  generalize over _ _ _ = o at *
  cases o
  simp_all
theorem Fr.slot {ops : Array Oper} {a0 a : Act} (h : Fr ops a0 a) (k : Nat) (hk : ((List.range ops.size).all fun i => decide (dstOf ops i ≠ some k)) = true) : a.tmps.getD k undef = a0.tmps.getD k undef := by
  rw [Array.getD_eq_getD_getElem?, Array.getD_eq_getD_getElem?, h.2.2 k]
  intro i e
  have hi : i < ops.size := by
    rcases Nat.lt_or_ge i ops.size with h' | h'
    · exact h'
    · simp [dstOf, Array.getElem?_eq_none h'] at e
  have := List.all_eq_true.1 hk i (List.mem_range.2 hi)
  exact (of_decide_eq_true this) e
theorem runs_value {P : Program} {ops : Array Oper} {Q : Exit → Act → World → Prop} {o : Oper} {a : Act} {w w' : World} {v : Value} {R : Value → World → Prop} (hw : Region.wanted o (yielded ops a.tmps) = true)
    (he : (execOp a.eval o).run P w = .ok (.value v) w') (h : R v w') : Runs P ops Q o a w R := by
  refine ⟨hw, ?_⟩
  unfold Oper.wp
  rw [he]
  exact ⟨v, rfl, h⟩
theorem runs_skip {P : Program} {ops : Array Oper} {Q : Exit → Act → World → Prop} {o : Oper} {a : Act} {w w' : World} {R : Value → World → Prop} (hw : Region.wanted o (yielded ops a.tmps) = true)
    (he : (execOp a.eval o).run P w = .ok .skip w') (h : R undef w') : Runs P ops Q o a w R := by
  refine ⟨hw, ?_⟩
  unfold Oper.wp
  rw [he]
  exact ⟨undef, rfl, h⟩
theorem map1 {α β : Type} (f : α → β) (x : α) : (#[x] : Array α).map f = #[f x] := by simp
theorem map2 {α β : Type} (f : α → β) (x y : α) : (#[x, y] : Array α).map f = #[f x, f y] := by simp
structure Fact where
  R : Value → World → Prop
  pers : ∀ v w w', R v w → Below w.heap.size w w' → R v w'
def Fact.is (v : Value) : Fact := ⟨fun u _ => u = v, fun _ _ _ h _ => h⟩
def Fact.any : Fact := ⟨fun _ _ => True, fun _ _ _ _ _ => trivial⟩
section
variable {P : Program} {ops : Array Oper} {Q : Exit → Act → World → Prop}
def dstsB (ops : Array Oper) (ds : List Tmp) : Bool := (List.range ops.size).all fun i => match dstOf ops i with | none => true | some d => ds.contains d
theorem over_ofB {a0 a : Act} (h : Fr ops a0 a) (ds : List Tmp) (hd : dstsB ops ds = true) : a = over a0 ds (fun d => a.tmps.getD d undef) := by
  refine over_of h ds fun i k hk => ?_
  have hi : i < ops.size := by
    rcases Nat.lt_or_ge i ops.size with h' | h'
    · exact h'
    · rw [dstOf, Array.getElem?_eq_none h'] at hk; cases hk
  have := List.all_eq_true.1 hd i (List.mem_range.2 hi)
  rw [hk] at this
  simpa using this
end
section
variable {ops : Array Oper} {Q : Exit → Act → World → Prop} {o : Oper} {a : Act} {w : World} {R : Value → World → Prop}
end
theorem wp_region_late {P : Program} {ops : Array Oper} {Q : Exit → Act → World → Prop} (hm : P.follows .mixedOrders = true) {id : Nat} {a0 : Act} {W0 : World} (hl : lowB ops = true) (s al : Nat) (hb : dstB ops a0.tmps.size s = true)
    (Pu : Nat → Bool) (hlate : lateB ops s al Pu = true) (hs : s < ops.size) (F : List Fact) (Fin : Value → World → Prop) (hpu0 : ∀ i v w w', Pu i = true → (F.getD i Fact.any).R v w → (F.getD i Fact.any).R v w')
    (hop : ∀ i o, ops[i]? = some o → i ≠ s → Pu i = false → ∀ a w, Fr ops a0 a → Below W0.heap.size W0 w → Had ops s a o (fun j v => (F.getD j Fact.any).R v w) → Runs P ops Q o a w fun v w' => Below w.heap.size w w' ∧ (F.getD i Fact.any).R v w')
    (hpu : ∀ i o, ops[i]? = some o → i ≠ s → Pu i = true → ∀ a w, Fr ops a0 a → Had ops s a o (fun j v => ∃ u, (F.getD j Fact.any).R v u) → Runs P ops Q o a w fun v w' => w = w' ∧ ∃ u, (F.getD i Fact.any).R v u)
    (hst : ∀ o, ops[s]? = some o → ∀ a w, Fr ops a0 a → Below W0.heap.size W0 w → Had ops s a o (fun j v => (F.getD j Fact.any).R v w) → Runs P ops Q o a w fun _ w' => Fin (vof ops a al) w')
    (hend : ∀ a w, Fr ops a0 a → (∀ i, i < ops.size → i ≠ s → ∃ u, (F.getD i Fact.any).R (vof ops a i) u) → Fin (vof ops a al) w → Q .normal a w) :
    (Code.region id ops true).wp P Q a0 W0 :=
  wp_region_facts hm hl s al hb Pu hlate (fun i v w => (F.getD i Fact.any).R v w) (fun i v => ∃ u, (F.getD i Fact.any).R v u) Fin (fun _ _ w h => ⟨w, h⟩) (fun i v w w' h hb => (F.getD i Fact.any).pers v w w' h hb)
    (fun i v w hp ⟨u, h⟩ => hpu0 i v u w hp h) hop hpu hst (fun a w hf h1 h2 _ => hend a w hf h1 (h2 hs))
end Go.Proofs.YtieklhplalgmmaaGreatDoor.K
namespace Go.Proofs.YtieklhplalgmmaaGreatDoor.K
open Go.RowKit
theorem wp_region_phase {P : Program} {ops : Array Oper} {Q : Exit → Act → World → Prop} (hm : P.follows .mixedOrders = true) {id : Nat} {a0 : Act} {W0 : World} (hl : lowB ops = true) (s : Nat) (hb : dstB ops a0.tmps.size s = true)
    (J : (Nat → Bool) → (Nat → Value) → World → Prop) (h0 : J (fun _ => false) (fun j => vof ops a0 j) W0.drew)
    (hop : ∀ i o, ops[i]? = some o → ∀ (d : Nat → Bool) (a : Act) (w : World), Fr ops a0 a → J d (fun j => vof ops a j) w → d i = false → (∀ e ∈ o.after, Region.binds .any e = true → d e.on = true) →
      Runs P ops Q o a w fun u w' => J (fun j => if i = j then true else d j) (fun j => if i = j ∧ i ≠ s then u else vof ops a j) w')
    (hend : ∀ (d : Nat → Bool) (a : Act) (w : World), Fr ops a0 a → (∀ i, i < ops.size → d i = true) → J d (fun j => vof ops a j) w → Q .normal a w) :
    (Code.region id ops true).wp P Q a0 W0 := by
  refine wp_region_inv hm hl (fun L a w => Fr ops a0 a ∧ J (fun j => L.getD j false) (fun j => vof ops a j) w) ?_ ?_ ?_
  · have hz : (fun i => (Array.replicate ops.size false).getD i false) = fun _ => false := by
      funext i
      rw [Array.getD_eq_getD_getElem?, Array.getElem?_replicate]; split <;> rfl
    exact ⟨⟨rfl, rfl, fun _ _ => rfl⟩, by rw [hz]; exact h0⟩
  · intro L a w i hs ⟨hf, hJ⟩ hi
    obtain ⟨h0, o, ho, hall⟩ := mem_ready.1 hi
    have hil : i < ops.size := (Array.getElem?_eq_some_iff.1 ho).1
    have hLi : i < L.size := by omega
    have hset : (fun j => (L.setIfInBounds i true).getD j false) = fun j => if i = j then true else L.getD j false := by
      funext j
      by_cases e : i = j
      · subst e; rw [if_pos rfl]; simp [Array.getD_eq_getD_getElem?, hLi]
      · rw [if_neg e, Array.getD_eq_getD_getElem?, Array.getD_eq_getD_getElem?, Array.getElem?_setIfInBounds_ne e]
    have hi0 : L.getD i false = false := by
      rw [Array.getD_eq_getD_getElem?, Array.getElem?_eq_getElem hLi] at h0 ⊢; simpa using h0
    obtain ⟨hw, hr⟩ := hop i o ho (fun j => L.getD j false) a w hf hJ hi0 (fun e he hbd => hall e he hbd)
    unfold wpOp
    rw [ho]
    simp only [hw, if_true]
    refine .inl (Oper.wp_mono (fun a' w' ⟨v, e, hv⟩ => ?_) hr)
    subst e
    refine ⟨hf.put ho v, ?_⟩
    rw [hset]
    have hvv : (fun j => vof ops (a.put o.dst v) j) = fun j => if i = j ∧ i ≠ s then v else vof ops a j := by
      funext j
      exact vof_put hb hf ho v
    rw [hvv]
    exact hv
  · intro L a w hs hall ⟨hf, hJ⟩
    refine hend _ a w hf (fun i hi => ?_) hJ
    have := hall i hi
    rw [Array.getD_eq_getD_getElem?, Array.getElem?_eq_getElem (by omega)] at this ⊢; simpa using this
end Go.Proofs.YtieklhplalgmmaaGreatDoor.K
namespace Go.Proofs.YtieklhplalgmmaaGreatDoor
open Go.RowKit
theorem runs_to {P : Program} {ops : Array Oper} {Q : Exit → Act → World → Prop} {o : Oper} {a : Act} {w : World} {R R' : Value → World → Prop} (h : K.Runs P ops Q o a w R) (hr : ∀ u w', R u w' → R' u w') : K.Runs P ops Q o a w R' :=
  ⟨h.1, Oper.wp_mono (fun _ _ ⟨v, e, hv⟩ => ⟨v, e, hr _ _ hv⟩) h.2⟩
theorem runs_calls {P : Program} {ops : Array Oper} {Q : Exit → Act → World → Prop} {o : Oper} {a : Act} {w : World} {R : Value → World → Prop} (hw : Region.wanted o (yielded ops a.tmps) = true) (f : FuncId) (xs : Array Operand) (ts : Array TypeId)
    (ho : o.op = .call { callee := .value (.func f), args := xs, argTypes := ts }) (hen : ∀ (args : Array Value) (w : World), (callFunc f args).run P w = .ok (.enter f args) w) (vs : Array Value) (hx : xs.map a.eval = vs)
    (hc : Calls P f vs w fun e w' => ∃ v, e = .returned v ∧ R v w') : K.Runs P ops Q o a w R := by
  refine ⟨hw, ?_⟩
  unfold Oper.wp
  have he : (execOp a.eval o).run P w = .ok (.enter f vs) w := by
    simp [execOp, ho, go_sem, hx, hen]
  rw [he]
  refine hc.mono fun e w' h => ?_
  obtain ⟨v, hv, hr⟩ := h
  subst hv; exact ⟨v, rfl, hr⟩
structure CJ (W1 : World) (v0 : Value) (pv : Nat → Option Value) (b c e x : Nat) (C : World → Prop) (G E : Value → World → Prop) (cl : (Nat → Bool) → Prop) (d : Nat → Bool) (v : Nat → Value) (w : World) : Prop where
  pure : ∀ i u, pv i = some u → d i = true → v i = u
  closed : cl d
  oc : d c = true → d b = true
  oe : d e = true → d c = true
  ox : d x = true → d e = true
  f0 : d b = false → w = W1
  fb : d b = true → d c = false → C w
  fc : d c = true → d e = false → G (v c) w
  fe : d e = true → E (v e) w
  fx : d x = true → v x = v e
  gx : d x = false → v x = v0
structure CJi (n : Nat) (pv : Nat → Option Value) (b c e x : Nat) : Prop where
  bc : b ≠ c
  be : b ≠ e
  bx : b ≠ x
  ce : c ≠ e
  cx : c ≠ x
  ex : e ≠ x
  nc : pv c = none
  ne : pv e = none
  nx : pv x = none
  b_ : b < n
  c_ : c < n
  e_ : e < n
def Closed (ops : Array Oper) (d : Nat → Bool) : Prop := ∀ i o, ops[i]? = some o → d i = true → ∀ y ∈ o.after, Region.binds .any y = true → d y.on = true
section
variable {W1 w : World} {v0 : Value} {pv : Nat → Option Value} {b c e x : Nat} {C : World → Prop} {G E : Value → World → Prop} {cl : (Nat → Bool) → Prop} {D : Nat → Bool} {V : Nat → Value}
theorem CJ.mkC (hp : ∀ i u, pv i = some u → D i = true → V i = u) (hc : cl D) (h1 : D b = true) (h2 : D c = false) (h3 : D e = false) (h4 : D x = false) (h5 : V x = v0) (h : C w) : CJ W1 v0 pv b c e x C G E cl D V w :=
  ⟨hp, hc, fun q => (by rw [h2] at q; cases q), fun q => (by rw [h3] at q; cases q), fun q => (by rw [h4] at q; cases q), fun q => (by rw [h1] at q; cases q), fun _ _ => h, fun q => (by rw [h2] at q; cases q), fun q => (by rw [h3] at q; cases q), fun q => (by rw [h4] at q; cases q), fun _ => h5⟩
theorem CJ.mkG (u : Value) (hp : ∀ i u, pv i = some u → D i = true → V i = u) (hc : cl D) (h1 : D b = true) (h2 : D c = true) (h3 : D e = false) (h4 : D x = false) (h5 : V x = v0) (hv : V c = u) (h : G u w) : CJ W1 v0 pv b c e x C G E cl D V w :=
  ⟨hp, hc, fun _ => h1, fun q => (by rw [h3] at q; cases q), fun q => (by rw [h4] at q; cases q), fun q => (by rw [h1] at q; cases q), fun _ q => (by rw [h2] at q; cases q), fun _ _ => (by rw [hv]; exact h), fun q => (by rw [h3] at q; cases q), fun q => (by rw [h4] at q; cases q), fun _ => h5⟩
theorem CJ.mkE (u : Value) (hp : ∀ i u, pv i = some u → D i = true → V i = u) (hc : cl D) (h1 : D b = true) (h2 : D c = true) (h3 : D e = true) (h4 : D x = false) (h5 : V x = v0) (hv : V e = u) (h : E u w) : CJ W1 v0 pv b c e x C G E cl D V w :=
  ⟨hp, hc, fun _ => h1, fun _ => h2, fun q => (by rw [h4] at q; cases q), fun q => (by rw [h1] at q; cases q), fun _ q => (by rw [h2] at q; cases q), fun _ q => (by rw [h3] at q; cases q), fun _ => (by rw [hv]; exact h), fun q => (by rw [h4] at q; cases q), fun _ => h5⟩
theorem CJ.mkX (u : Value) (hp : ∀ i u, pv i = some u → D i = true → V i = u) (hc : cl D) (h1 : D b = true) (h2 : D c = true) (h3 : D e = true) (h4 : D x = true) (hv : V e = u) (hx : V x = u) (h : E u w) : CJ W1 v0 pv b c e x C G E cl D V w :=
  ⟨hp, hc, fun _ => h1, fun _ => h2, fun _ => h3, fun q => (by rw [h1] at q; cases q), fun _ q => (by rw [h2] at q; cases q), fun _ q => (by rw [h3] at q; cases q), fun _ => (by rw [hv]; exact h), fun _ => (by rw [hx, hv]), fun q => (by rw [h4] at q; cases q)⟩
theorem CJ.same {d : Nat → Bool} {v : Nat → Value} (hJ : CJ W1 v0 pv b c e x C G E cl d v w) (hp : ∀ i u, pv i = some u → D i = true → V i = u) (hc : cl D) (h1 : D b = d b) (h2 : D c = d c) (h3 : D e = d e) (h4 : D x = d x) (q2 : V c = v c) (q3 : V e = v e) (q4 : V x = v x) : CJ W1 v0 pv b c e x C G E cl D V w :=
  ⟨hp, hc, by rw [h1, h2]; exact hJ.oc, by rw [h2, h3]; exact hJ.oe, by rw [h3, h4]; exact hJ.ox, by rw [h1]; exact hJ.f0, by rw [h1, h2]; exact hJ.fb, by rw [h2, h3, q2]; exact hJ.fc, by rw [h3, q3]; exact hJ.fe, by rw [h4, q3, q4]; exact hJ.fx, by rw [h4, q4]; exact hJ.gx⟩
end
theorem wp_region_puts {P : Program} {ops : Array Oper} {Q : Exit → Act → World → Prop} (hm : P.follows .mixedOrders = true) {id : Nat} {a0 : Act} {W0 : World} (hl : K.lowB ops = true)
    {pv : Nat → Option Value} {b c e x : Nat} {C : World → Prop} {G E : Value → World → Prop} (hb : K.dstB ops a0.tmps.size ops.size = true) (hi : CJi ops.size pv b c e x)
    (hdc : ∀ o, ops[c]? = some o → ∀ d, Closed ops d → (∀ y ∈ o.after, Region.binds .any y = true → d y.on = true) → d b = true)
    (hde : ∀ o, ops[e]? = some o → ∃ y ∈ o.after, Region.binds .any y = true ∧ y.on = c)
    (hdx : ∀ o, ops[x]? = some o → ∃ y ∈ o.after, Region.binds .any y = true ∧ y.on = e)
    (hpu : ∀ i o, ops[i]? = some o → i ≠ b → i ≠ c → i ≠ e → i ≠ x → ∀ (d : Nat → Bool) (a : Act) (w : World), K.Fr ops a0 a → Closed ops d → d i = false → (d x = false → K.vof ops a x = K.vof ops a0 x) → (∀ y ∈ o.after, Region.binds .any y = true → ∀ u, pv y.on = some u → K.vof ops a y.on = u) →
      (w = W0.drew ∨ C w ∨ (∃ u, G u w) ∨ (d e = true ∧ ∃ u, E u w)) → K.Runs P ops Q o a w fun u w' => w' = w ∧ ∀ z, pv i = some z → u = z)
    (hca : ∀ o, ops[b]? = some o → ∀ (a : Act), K.Fr ops a0 a → (∀ y ∈ o.after, Region.binds .any y = true → ∀ u, pv y.on = some u → K.vof ops a y.on = u) → K.Runs P ops Q o a W0.drew fun u w' => C w' ∧ ∀ z, pv b = some z → u = z)
    (hbu : ∀ o, ops[c]? = some o → ∀ (a : Act) (w : World), K.Fr ops a0 a → (∀ y ∈ o.after, Region.binds .any y = true → ∀ u, pv y.on = some u → K.vof ops a y.on = u) → C w → K.Runs P ops Q o a w G)
    (hap : ∀ o, ops[e]? = some o → ∀ (a : Act) (w : World), K.Fr ops a0 a → (∀ y ∈ o.after, Region.binds .any y = true → ∀ u, pv y.on = some u → K.vof ops a y.on = u) → G (K.vof ops a c) w → K.Runs P ops Q o a w E)
    (hst : ∀ o, ops[x]? = some o → ∀ (a : Act) (w : World), K.Fr ops a0 a → K.Runs P ops Q o a w fun u w' => w' = w ∧ u = K.vof ops a e)
    (hend : ∀ (a : Act) (w : World), K.Fr ops a0 a → E (K.vof ops a e) w → (x < ops.size → K.vof ops a x = K.vof ops a e) → Q .normal a w) :
    (Code.region id ops true).wp P Q a0 W0 := by
  refine K.wp_region_phase hm hl ops.size hb (fun d v w => CJ W0.drew (K.vof ops a0 x) pv b c e x C G E (Closed ops) d v w) ?_ ?_ ?_
  · exact ⟨fun _ _ _ h => (by cases h), fun _ _ _ h => (by cases h), fun h => (by cases h), fun h => (by cases h), fun h => (by cases h), fun _ => rfl, fun h => (by cases h), fun h => (by cases h), fun h => (by cases h), fun h => (by cases h), fun _ => rfl⟩
  · intro i o ho d a w hf hJ hd hall
    have hin : i < ops.size := (Array.getElem?_eq_some_iff.1 ho).1
    have hpv : ∀ y ∈ o.after, Region.binds .any y = true → ∀ u, pv y.on = some u → K.vof ops a y.on = u := fun y hy hbd u hu => hJ.pure _ _ hu (hall y hy hbd)
    have hcl : Closed ops (fun j => if i = j then true else d j) := fun j o' ho' hj y hy hbd => by
      by_cases e1 : i = j
      · subst e1; rw [ho] at ho'; cases ho'
        show (if i = y.on then true else d y.on) = true
        rw [hall y hy hbd]; split <;> rfl
      · have hj' : d j = true := by have : (if i = j then true else d j) = true := hj; rwa [if_neg e1] at this
        show (if i = y.on then true else d y.on) = true
        rw [hJ.closed j o' ho' hj' y hy hbd]; split <;> rfl
    have ud : ∀ k, i ≠ k → (if i = k then true else d k) = d k := fun k h => if_neg h
    have uv : ∀ (u : Value) k, i ≠ k → (if i = k ∧ i ≠ ops.size then u else K.vof ops a k) = K.vof ops a k := fun u k h => if_neg (fun q => h q.1)
    have ui : ∀ (u : Value), (if i = i ∧ i ≠ ops.size then u else K.vof ops a i) = u := fun u => if_pos ⟨rfl, by omega⟩
    have hpn : ∀ (u : Value), (∀ z, pv i = some z → u = z) → ∀ j z, pv j = some z → (if i = j then true else d j) = true → (if i = j ∧ i ≠ ops.size then u else K.vof ops a j) = z := by
      intro u hu j z hz hj
      by_cases e1 : i = j
      · subst e1; rw [ui]; exact hu z hz
      · rw [ud j e1] at hj; rw [uv u j e1]; exact hJ.pure j z hz hj
    by_cases e1 : i = b
    · subst e1
      have hw := hJ.f0 hd
      subst hw
      have c0 : d c = false := by cases q : d c with | false => rfl | true => rw [hJ.oc q] at hd; cases hd
      have e0 : d e = false := by cases q : d e with | false => rfl | true => rw [hJ.oe q] at c0; cases c0
      have x0 : d x = false := by cases q : d x with | false => rfl | true => rw [hJ.ox q] at e0; cases e0
      exact runs_to (hca o ho a hf hpv) fun u w' hu => CJ.mkC (hpn u hu.2) hcl (if_pos rfl) ((ud _ hi.bc).trans c0) ((ud _ hi.be).trans e0) ((ud _ hi.bx).trans x0) ((uv u _ hi.bx).trans (hJ.gx x0)) hu.1
    by_cases e2 : i = c
    · subst e2
      have b1 : d b = true := hdc o ho d hJ.closed hall
      have e0 : d e = false := by cases q : d e with | false => rfl | true => rw [hJ.oe q] at hd; cases hd
      have x0 : d x = false := by cases q : d x with | false => rfl | true => rw [hJ.ox q] at e0; cases e0
      exact runs_to (hbu o ho a w hf hpv (hJ.fb b1 hd)) fun u w' hu => CJ.mkG u (hpn u (fun z hz => by rw [hi.nc] at hz; cases hz)) hcl ((ud _ hi.bc.symm).trans b1) (if_pos rfl) ((ud _ hi.ce).trans e0) ((ud _ hi.cx).trans x0) ((uv u _ hi.cx).trans (hJ.gx x0)) (ui u) hu
    by_cases e3 : i = e
    · subst e3
      obtain ⟨y, hy, hbd, hon⟩ := hde o ho
      have c1 : d c = true := hon ▸ hall y hy hbd
      have b1 := hJ.oc c1
      have x0 : d x = false := by cases q : d x with | false => rfl | true => rw [hJ.ox q] at hd; cases hd
      exact runs_to (hap o ho a w hf hpv (hJ.fc c1 hd)) fun u w' hu => CJ.mkE u (hpn u (fun z hz => by rw [hi.ne] at hz; cases hz)) hcl ((ud _ hi.be.symm).trans b1) ((ud _ hi.ce.symm).trans c1) (if_pos rfl) ((ud _ hi.ex).trans x0) ((uv u _ hi.ex).trans (hJ.gx x0)) (ui u) hu
    by_cases e4 : i = x
    · subst e4
      obtain ⟨y, hy, hbd, hon⟩ := hdx o ho
      have e1' : d e = true := hon ▸ hall y hy hbd
      have c1 := hJ.oe e1'
      have b1 := hJ.oc c1
      refine runs_to (hst o ho a w hf) fun u w' hu => ?_
      obtain ⟨rfl, hu⟩ := hu
      exact CJ.mkX u (hpn u (fun z hz => by rw [hi.nx] at hz; cases hz)) hcl ((ud _ hi.bx.symm).trans b1) ((ud _ hi.cx.symm).trans c1) ((ud _ hi.ex.symm).trans e1') (if_pos rfl) ((uv u _ hi.ex.symm).trans hu.symm) (ui u) (by rw [hu]; exact hJ.fe e1')
    refine runs_to (hpu i o ho e1 e2 e3 e4 d a w hf hJ.closed hd hJ.gx hpv ?_) fun u w' hu => ?_
    · cases b1 : d b with
      | false => exact .inl (hJ.f0 b1)
      | true =>
        cases c1 : d c with
        | false => exact .inr (.inl (hJ.fb b1 c1))
        | true =>
          cases e1' : d e with
          | false => exact .inr (.inr (.inl ⟨_, hJ.fc c1 e1'⟩))
          | true => exact .inr (.inr (.inr ⟨rfl, _, hJ.fe e1'⟩))
    · obtain ⟨rfl, hu⟩ := hu
      exact hJ.same (hpn u hu) hcl (ud _ e1) (ud _ e2) (ud _ e3) (ud _ e4) (uv u _ e2) (uv u _ e3) (uv u _ e4)
  · intro d a w hf hall hJ
    exact hend a w hf (hJ.fe (hall e hi.e_)) fun hx => hJ.fx (hall x hx)
end Go.Proofs.YtieklhplalgmmaaGreatDoor
namespace Go.Proofs.YtieklhplalgmmaaGreatDoor
open Go.RowKit
section
variable {ops : Array Oper} {Q : Exit → Act → World → Prop} {o : Oper} {a : Act} {w : World} {R : Value → World → Prop}
theorem op_move (hw : Region.wanted o (yielded ops a.tmps) = true) (x : Operand) {v : Value} (ho : o.op = .move x) (hx : a.eval x = v) (h : R v w) : K.Runs Tryz.prog ops Q o a w R :=
  K.runs_value hw (by generalize a.eval = ρ at hx; simp [execOp, ho, go_sem, hx]) h
theorem op_assign (hw : Region.wanted o (yielded ops a.tmps) = true) (x : Operand) {v : Value} (ho : o.op = .assign x) (hx : a.eval x = v) (h : R v w) : K.Runs Tryz.prog ops Q o a w R :=
  K.runs_value hw (by generalize a.eval = ρ at hx; simp [execOp, ho, go_sem, hx]) h
theorem op_faI0 (hw : Region.wanted o (yielded ops a.tmps) = true) (x : Operand) {g : Nat} (ho : o.op = .fieldAddr 78 x 0) (hx : a.eval x = .pointer (some ⟨g, 0, none⟩)) (h : R (.pointer (some ⟨g, 0, none⟩)) w) : K.Runs Tryz.prog ops Q o a w R :=
  K.runs_value hw (by generalize a.eval = ρ at hx; simp [execOp, ho, go_sem, hx]) h
theorem op_faI1 (hw : Region.wanted o (yielded ops a.tmps) = true) (x : Operand) {g : Nat} (ho : o.op = .fieldAddr 78 x 1) (hx : a.eval x = .pointer (some ⟨g, 0, none⟩)) (h : R (.pointer (some ⟨g, 1, none⟩)) w) : K.Runs Tryz.prog ops Q o a w R :=
  K.runs_value hw (by generalize a.eval = ρ at hx; simp [execOp, ho, go_sem, hx]) h
theorem op_ldS (hw : Region.wanted o (yielded ops a.tmps) = true) (x : Operand) {p : Addr} {s : ByteArray} (ho : o.op = .load 9 x) (hx : a.eval x = .pointer (some p)) (hc : w.cell? p = some (.string s)) (h : R (.string s) w) : K.Runs Tryz.prog ops Q o a w R :=
  K.runs_value hw (by generalize a.eval = ρ at hx; simp [execOp, ho, go_sem, hx, hc]) h
theorem op_ldR (hw : Region.wanted o (yielded ops a.tmps) = true) (x : Operand) {g i : Nat} {s : ByteArray} {A : Option Addr} {l c : Nat} (ho : o.op = .load 38 x) (hx : a.eval x = .pointer (some ⟨g, i, none⟩)) (h0 : w.cell? ⟨g, i, none⟩ = some (.string s)) (h1 : w.cell? ⟨g, i + 1, none⟩ = some (.slice A l c)) (h : R (.agg #[.string s, .slice A l c]) w) : K.Runs Tryz.prog ops Q o a w R :=
  K.runs_value hw (by generalize a.eval = ρ at hx; simp [execOp, ho, go_sem, hx, h0, h1]) h
theorem op_mk3 (hw : Region.wanted o (yielded ops a.tmps) = true) (x y z : Operand) {s t u : ByteArray} (ho : o.op = .buildSlice 29 3 #[(0, x), (1, y), (2, z)]) (hx : a.eval x = .string s) (hy : a.eval y = .string t) (hz : a.eval z = .string u)
    (h : R (.slice (some ⟨w.heap.size, 0, none⟩) 3 3) (w.alloc (.cells #[.string s, .string t, .string u] 9 (0, 0)))) : K.Runs Tryz.prog ops Q o a w R :=
  K.runs_value hw (by generalize a.eval = ρ at hx hy hz; simp [execOp, ho, go_sem, hx, hy, hz]) h
theorem op_mk1 (hw : Region.wanted o (yielded ops a.tmps) = true) (x : Operand) {s : ByteArray} (ho : o.op = .buildSlice 29 1 #[(0, x)]) (hx : a.eval x = .string s)
    (h : R (.slice (some ⟨w.heap.size, 0, none⟩) 1 1) (w.alloc (.cells #[.string s] 9 (0, 0)))) : K.Runs Tryz.prog ops Q o a w R :=
  K.runs_value hw (by generalize a.eval = ρ at hx; simp [execOp, ho, go_sem, hx]) h
end
end Go.Proofs.YtieklhplalgmmaaGreatDoor
namespace Go.Proofs.YtieklhplalgmmaaGreatDoor
open Go.RowKit
section
variable {ops : Array Oper} {Q : Exit → Act → World → Prop} {o : Oper} {a : Act} {w : World} {R : Value → World → Prop}
theorem op_faV3 (hw : Region.wanted o (yielded ops a.tmps) = true) (x : Operand) {g : Nat} (ho : o.op = .fieldAddr 45 x 3) (hx : a.eval x = .pointer (some ⟨g, 0, none⟩)) (h : R (.pointer (some ⟨g, 3, none⟩)) w) : K.Runs Tryz.prog ops Q o a w R :=
  K.runs_value hw (by generalize a.eval = ρ at hx; simp [execOp, ho, go_sem, hx]) h
theorem op_faV4 (hw : Region.wanted o (yielded ops a.tmps) = true) (x : Operand) {g : Nat} (ho : o.op = .fieldAddr 45 x 4) (hx : a.eval x = .pointer (some ⟨g, 0, none⟩)) (h : R (.pointer (some ⟨g, 4, none⟩)) w) : K.Runs Tryz.prog ops Q o a w R :=
  K.runs_value hw (by generalize a.eval = ρ at hx; simp [execOp, ho, go_sem, hx]) h
theorem op_ldLS (hw : Region.wanted o (yielded ops a.tmps) = true) (x : Operand) {p : Addr} {A : Option Addr} {l c : Nat} (ho : o.op = .load 29 x) (hx : a.eval x = .pointer (some p)) (hc : w.cell? p = some (.slice A l c)) (h : R (.slice A l c) w) : K.Runs Tryz.prog ops Q o a w R :=
  K.runs_value hw (by generalize a.eval = ρ at hx; simp [execOp, ho, go_sem, hx, hc]) h
theorem op_ldLV (hw : Region.wanted o (yielded ops a.tmps) = true) (x : Operand) {p : Addr} {A : Option Addr} {l c : Nat} (ho : o.op = .load 43 x) (hx : a.eval x = .pointer (some p)) (hc : w.cell? p = some (.slice A l c)) (h : R (.slice A l c) w) : K.Runs Tryz.prog ops Q o a w R :=
  K.runs_value hw (by generalize a.eval = ρ at hx; simp [execOp, ho, go_sem, hx, hc]) h
theorem op_ixS (hw : Region.wanted o (yielded ops a.tmps) = true) (x y : Operand) {p : Addr} {l c i : Nat} (ho : o.op = .indexAddr 29 x y) (hx : a.eval x = .slice (some p) l c) (hy : a.eval y = .int .i64 i) (hi : i < l) (h : R (.pointer (some (p.add i))) w) : K.Runs Tryz.prog ops Q o a w R :=
  K.runs_value hw (by
    have hi' : (i : Int) < l := by omega
    generalize a.eval = ρ at hx hy
    simp [execOp, ho, go_sem, hx, hy, hi']) h
theorem op_ixV (hw : Region.wanted o (yielded ops a.tmps) = true) (x y : Operand) {p : Addr} {l c i : Nat} (ho : o.op = .indexAddr 43 x y) (hx : a.eval x = .slice (some p) l c) (hy : a.eval y = .int .i64 i) (hi : i < l) (h : R (.pointer (some (p.add (i * 5)))) w) : K.Runs Tryz.prog ops Q o a w R :=
  K.runs_value hw (by
    have hi' : (i : Int) < l := by omega
    generalize a.eval = ρ at hx hy
    simp [execOp, ho, go_sem, hx, hy, hi']) h
theorem op_ldV (hw : Region.wanted o (yielded ops a.tmps) = true) (x : Operand) {p : Addr} {k n : Int} {s : ByteArray} {A : Option Addr} {l c : Nat} {B : Option Addr} {l' c' : Nat} (ho : o.op = .load 45 x) (hx : a.eval x = .pointer (some p)) (h0 : w.cell? p = some (.int .i64 k)) (h1 : w.cell? ⟨p.block, p.off + 1, none⟩ = some (.int .i64 n)) (h2 : w.cell? ⟨p.block, p.off + 2, none⟩ = some (.string s)) (h3 : w.cell? ⟨p.block, p.off + 3, none⟩ = some (.slice A l c)) (h4 : w.cell? ⟨p.block, p.off + 4, none⟩ = some (.slice B l' c'))
    (h : R (.agg #[.int .i64 k, .int .i64 n, .string s, .slice A l c, .slice B l' c']) w) : K.Runs Tryz.prog ops Q o a w R :=
  K.runs_value hw (by generalize a.eval = ρ at hx; simp [execOp, ho, go_sem, hx, h0, h1, h2, h3, h4]) h
theorem op_cat (hw : Region.wanted o (yielded ops a.tmps) = true) (x y : Operand) {s t u : ByteArray} (ho : o.op = .binOp .add 9 x y 9) (hx : a.eval x = .string s) (hy : a.eval y = .string t) (hadd : ∀ w, (Op.stringOp .add s t).run Tryz.prog w = .ok (.string u) w) (h : R (.string u) w) : K.Runs Tryz.prog ops Q o a w R :=
  K.runs_value hw (by generalize a.eval = ρ at hx hy; simp [execOp, ho, go_sem, hx, hy, hadd]) h
theorem op_app (hw : Region.wanted o (yielded ops a.tmps) = true) (s x : Operand) (ho : o.op = .call { callee := .builtin .append, args := #[s, x], argTypes := #[29, 29] })
    (base : Nat) (v : Value) (ss : List ByteArray) (hs : a.eval s = v) (hown : OwnR w base v ss) (r : Nat) (p : ByteArray) (hx : a.eval x = .slice (some ⟨r, 0, none⟩) 1 1) (hnews : w.cell? ⟨r, 0, none⟩ = some (.string p))
    (hlen : ss.length + 1 ≤ 8000000000000) (hbase : base ≤ w.heap.size) (h : ∀ v' w', OwnR w' base v' (ss ++ [p]) → w.grownBy w' v.ownBlock → R v' w') : K.Runs Tryz.prog ops Q o a w R := by
  obtain ⟨i0, hi, hz0, hz1, hz2⟩ := info_parts infoStr
  obtain ⟨v', w', hr, h2, h3, _⟩ := run_append_own (P := Tryz.prog) w base 29 o.type 9 i0 (.string ⟨#[]⟩) 1 16 Tryz.underlying29 hi hz0 hz1 hz2 rfl (by decide) v ss.length _ hown ⟨r, 0, none⟩ 1 1 [.string p] rfl
    (fun j u hj => by cases j with | zero => cases hj; exact hnews | succ j => simp at hj) (fun u hu => by simp at hu; subst hu; rfl) (by unfold maxLen; omega) (by omega) hbase
  refine K.runs_value (v := v') (w' := w') hw ?_ (h v' w' ?_ h3)
  · generalize a.eval = ρ at hs hx
    unfold execOp
    simp only [ho, resolve, invoke, builtin, Sem.run_bind, Sem.run_pure, Result.andThen_ok, List.map_toArray, List.map_cons, List.map_nil, hs, hx, hr]
  · unfold OwnR
    rw [List.length_append, List.map_append]
    exact h2
end
abbrev OwnR.val {w : World} {base : Nat} {v : Value} {ss : List ByteArray} (_ : OwnR w base v ss) : Value := v
theorem bL_inj {s t : ByteArray} (h : bL s = bL t) : s = t := by
  obtain ⟨⟨a⟩⟩ := s
  obtain ⟨⟨b⟩⟩ := t
  have : a = b := h
  rw [this]
end Go.Proofs.YtieklhplalgmmaaGreatDoor
