
/-
  Spaces before and after a text change the index of an error only.
-/
import Derived.Test.YtcbajgcblfgmgaaDoorJGood
namespace Go.Proofs.YtcbajgcblfgmgaaDoor
open Go.RowKit
/- s' is s with a space and a tab before it, a carriage return and a line feed behind it. -/
structure Pad (s s' : ByteArray) : Prop where
  eq : s'.data.toList = 32 :: 9 :: (s.data.toList ++ [13, 10])
section
variable {s s' : ByteArray}
theorem Pad.size (h : Pad s s') : s'.size = s.size + 4 := by
  have := T1.size_eq s'
  rw [h.eq] at this
  simp only [List.length_cons, List.length_append, List.length_nil, T1.size_eq] at this
  omega
theorem Pad.at (h : Pad s s') {i : Nat} (hi : i < s.size) : bt s' (i + 2) = bt s i := by
  unfold bt
  rw [h.eq]
  show ((s.data.toList ++ [13, 10])).getD i 0 = _
  rw [List.getD_eq_getElem?_getD, List.getElem?_append_left (by rw [T1.size_eq]; exact hi), ← List.getD_eq_getElem?_getD]
theorem Pad.e0 (h : Pad s s') : bt s' (s.size + 2) = 13 := by
  unfold bt
  rw [h.eq]
  show ((s.data.toList ++ [13, 10])).getD s.size 0 = _
  rw [List.getD_eq_getElem?_getD, List.getElem?_append_right (by rw [T1.size_eq]; exact Nat.le_refl _), T1.size_eq, Nat.sub_self]; rfl
theorem Pad.e1 (h : Pad s s') : bt s' (s.size + 3) = 10 := by
  unfold bt
  rw [h.eq]
  show ((s.data.toList ++ [13, 10])).getD (s.size + 1) 0 = _
  rw [List.getD_eq_getElem?_getD, List.getElem?_append_right (by rw [T1.size_eq]; omega), T1.size_eq, show s.size + 1 - s.size = 1 by omega]; rfl
theorem Pad.e2 (h : Pad s s') : bt s' (s.size + 4) = 0 := bt_end _ _ (by rw [h.size]; exact Nat.le_refl _)
/- Where both readers are. -/
def PR (s : ByteArray) (i i' : Nat) : Prop := i ≤ s.size ∧ (i' = i + 2 ∨ (i = s.size ∧ i' = s.size + 4))
def QR (s : ByteArray) (i i' : Nat) : Prop := i ≤ s.size ∧ i' = i + 2
def SR (s : ByteArray) (i i' : Nat) : Prop := (i < s.size ∧ i' = i + 2) ∨ (i = s.size ∧ i' = s.size + 4)
theorem QR.p {i i' : Nat} (h : QR s i i') : PR s i i' := ⟨h.1, .inl h.2⟩
theorem SR.p {i i' : Nat} (h : SR s i i') : PR s i i' := by
  rcases h with ⟨a, b⟩ | ⟨a, b⟩
  · exact ⟨by omega, .inl b⟩
  · exact ⟨by omega, .inr ⟨a, b⟩⟩
/- Either both see the same byte, or both are at the end. -/
theorem Pad.see (h : Pad s s') {i i' : Nat} (hp : PR s i i') : (i < s.size ∧ i' = i + 2 ∧ bt s' i' = bt s i) ∨ (i = s.size ∧ bt s i = 0 ∧ (bt s' i' = 13 ∨ bt s' i' = 0)) := by
  rcases Nat.lt_or_ge i s.size with hlt | hge
  · rcases hp.2 with e | ⟨e, _⟩
    · exact .inl ⟨hlt, e, by rw [e]; exact h.at hlt⟩
    · omega
  · have hi : i = s.size := by have := hp.1; omega
    refine .inr ⟨hi, bt_end s i hge, ?_⟩
    rcases hp.2 with e | ⟨_, e⟩
    · rw [e, hi]; exact .inl h.e0
    · rw [e]; exact .inr h.e2
def Sim (s : ByteArray) {α : Type} (R : α → α → Prop) : Except Er α → Except Er α → Prop
  | .ok a, .ok b => R a b
  | .error e, .error e' => e.2 = e'.2 ∧ e.2 ≠ 0 ∧ PR s e.1 e'.1
  | _, _ => False
theorem Sim.mono {α : Type} {R R' : α → α → Prop} {x x' : Except Er α} (h : Sim s R x x') (hr : ∀ a b, R a b → R' a b) : Sim s R' x x' := by
  cases x <;> cases x' <;> first | exact h | exact hr _ _ h
theorem Sim.err {α : Type} {R : α → α → Prop} {i i' : Nat} {c : Int} (hp : PR s i i') (hc : c ≠ 0) : Sim s R (.error (i, c)) (.error (i', c)) := ⟨rfl, hc, hp⟩
theorem take_sim (h : Pad s s') {set : List UInt8} (h0 : isIn set 0 = false) (h13 : isIn set 13 = false) {i i' : Nat} (hp : PR s i i') : Sim s (QR s) (takeR s set i) (takeR s' set i') := by
  unfold takeR
  rcases h.see hp with ⟨hlt, e, hb⟩ | ⟨_, hb, hb'⟩
  · rw [hb]
    by_cases hin : isIn set (bt s i) = true
    · rw [if_pos hin, if_pos hin]; exact ⟨hlt, by omega⟩
    · rw [if_neg hin, if_neg hin]; exact Sim.err hp (by decide)
  · have hb2 : isIn set (bt s' i') = false := by rcases hb' with e | e <;> rw [e] <;> assumption
    rw [hb, h0, hb2]; exact Sim.err hp (by decide)
/- One after another. -/
theorem Sim.bind2 {α β : Type} {R : α → α → Prop} {T : β → β → Prop} {x x' : Except Er α} {y y' : Except Er β} (h : Sim s R x x') (h1 : ∀ e e', x = .error e → x' = .error e' → y = .error e ∧ y' = .error e') (h2 : ∀ a b, x = .ok a → x' = .ok b → R a b → Sim s T y y') : Sim s T y y' := by
  cases x <;> cases x'
  · obtain ⟨e1, e2⟩ := h1 _ _ rfl rfl
    rw [e1, e2]; exact h
  · exact h.elim
  · exact h.elim
  · exact h2 _ _ rfl rfl h
theorem word_sim (h : Pad s s') : ∀ (w : List UInt8) (i i' : Nat), (∀ c ∈ w, c ≠ 0 ∧ c ≠ 13) → PR s i i' → Sim s (PR s) (wordR s w i) (wordR s' w i')
  | [], i, i', _, hp => hp
  | c :: w, i, i', hw, hp => by
    unfold wordR
    have hc := hw c (by simp)
    have h1 := take_sim h (set := [c]) (by rw [isIn_eq]; simp; exact fun e => hc.1 e.symm) (by rw [isIn_eq]; simp; exact fun e => hc.2 e.symm) hp
    generalize takeR s [c] i = x at *
    generalize takeR s' [c] i' = x' at *
    cases x <;> cases x'
    · exact h1
    · exact h1.elim
    · exact h1.elim
    · exact word_sim h w _ _ (fun d hd => hw d (by simp [hd])) (QR.p h1)
theorem sk_sim0 (h : Pad s s') : ∀ (d i : Nat), s.size - i = d → i ≤ s.size → SR s (sk spL s i) (sk spL s' (i + 2))
  | d, i, hd, hi => by
    rcases Nat.lt_or_ge i s.size with hlt | hge
    · have hb := h.at hlt
      cases hin : isIn spL (bt s i) with
      | false =>
        rw [sk_out (s := s) hin, sk_out (s := s') (i := i + 2) (by rw [hb]; exact hin)]
        exact .inl ⟨hlt, rfl⟩
      | true =>
        rw [sk_in (s := s) (i := i) (by decide) hin, sk_in (s := s') (i := i + 2) (by decide) (by rw [hb]; exact hin)]
        exact sk_sim0 h (d - 1) (i + 1) (by omega) hlt
    · obtain rfl : i = s.size := by omega
      rw [sk_out (s := s) (by rw [bt_end _ _ (Nat.le_refl _)]; decide), sk_in (s := s') (i := s.size + 2) (by decide) (by rw [h.e0]; decide), sk_in (s := s') (i := s.size + 2 + 1) (by decide) (by rw [h.e1]; decide), sk_out (s := s') (i := s.size + 2 + 1 + 1) (by rw [h.e2]; decide)]
      exact .inr ⟨rfl, rfl⟩
  termination_by d => d
theorem sk_sim (h : Pad s s') {i i' : Nat} (hp : PR s i i') : SR s (sk spL s i) (sk spL s' i') := by
  rcases hp.2 with e | ⟨e, e'⟩
  · rw [e]; exact sk_sim0 h _ i rfl hp.1
  · rw [e, e', sk_out (by rw [bt_end _ _ (Nat.le_refl _)]; decide), sk_out (by rw [h.e2]; decide)]
    exact .inr ⟨rfl, rfl⟩
theorem dg_sim (h : Pad s s') : ∀ (d i : Nat), s.size - i = d → i ≤ s.size → QR s (sk dgL s i) (sk dgL s' (i + 2))
  | d, i, hd, hi => by
    rcases Nat.lt_or_ge i s.size with hlt | hge
    · have hb := h.at hlt
      cases hin : isIn dgL (bt s i) with
      | false =>
        rw [sk_out (s := s) hin, sk_out (s := s') (i := i + 2) (by rw [hb]; exact hin)]
        exact ⟨hi, rfl⟩
      | true =>
        rw [sk_in (s := s) (i := i) (by decide) hin, sk_in (s := s') (i := i + 2) (by decide) (by rw [hb]; exact hin)]
        exact dg_sim h (d - 1) (i + 1) (by omega) hlt
    · obtain rfl : i = s.size := by omega
      rw [sk_out (s := s) (by rw [bt_end _ _ (Nat.le_refl _)]; decide), sk_out (s := s') (i := s.size + 2) (by rw [h.e0]; decide)]
      exact ⟨hi, rfl⟩
  termination_by d => d
theorem esc_sim (h : Pad s s') {i i' : Nat} (hp : PR s i i') : Sim s (QR s) (escR s i) (escR s' i') := by
  have s0 : isIn seL 0 = false := by decide
  have s1 : isIn seL 13 = false := by decide
  have z0 : isIn [48] 0 = false := by decide
  have z1 : isIn [48] 13 = false := by decide
  have x0 : isIn hxL 0 = false := by decide
  have x1 : isIn hxL 13 = false := by decide
  unfold escR
  rcases h.see hp with ⟨hlt, e, hb⟩ | ⟨hi, hb, hb'⟩
  · rw [hb]
    by_cases hc : bt s i ≠ 117
    · rw [if_pos hc, if_pos hc]; exact take_sim h s0 s1 hp
    · rw [if_neg hc, if_neg hc]
      have hq : QR s (i + 1) (i' + 1) := ⟨hlt, by omega⟩
      refine Sim.bind2 (take_sim h z0 z1 hq.p) (fun e e' p q => by rw [p, q]; exact ⟨rfl, rfl⟩) fun a b p q r => ?_
      rw [p, q]; dsimp only; clear p q
      refine Sim.bind2 (take_sim h z0 z1 r.p) (fun e e' p q => by rw [p, q]; exact ⟨rfl, rfl⟩) fun a b p q r => ?_
      rw [p, q]; dsimp only; clear p q
      refine Sim.bind2 (take_sim h x0 x1 (by assumption : QR s a b).p) (fun e e' p q => by rw [p, q]; exact ⟨rfl, rfl⟩) fun a b p q r => ?_
      rw [p, q]; dsimp only
      exact take_sim h x0 x1 (QR.p (by assumption))
  · rw [if_pos (by rw [hb]; decide), if_pos (by rcases hb' with e | e <;> rw [e] <;> decide)]
    exact take_sim h s0 s1 hp
theorem chr_sim (h : Pad s s') {i i' : Nat} (hp : PR s i i') : Sim s (QR s) (chrR s i) (chrR s' i') := by
  unfold chrR
  rcases h.see hp with ⟨hlt, e, hb⟩ | ⟨hi, hb, hb'⟩
  · rw [hb]
    have hq : QR s (i + 1) (i' + 1) := ⟨hlt, by omega⟩
    split
    · exact Sim.err hp (by decide)
    · split
      · exact hq
      · exact esc_sim h hq.p
  · rw [if_pos (by rw [hb]; decide), if_pos (by rcases hb' with e | e <;> rw [e] <;> decide)]
    exact Sim.err hp (by decide)
theorem chars_sim (h : Pad s s') : ∀ (f f' i i' : Nat), PR s i i' → s.size < f + i → s.size + 4 < f' + i' → Sim s (fun j j' => QR s j j' ∧ j < s.size) (charsF s f i) (charsF s' f' i')
  | 0, _, i, _, hp, hf, _ => by have := hp.1; omega
  | _, 0, i, i', hp, _, hf' => by
    rcases hp.2 with e | ⟨_, e⟩
    · have := hp.1; omega
    · omega
  | f + 1, f' + 1, i, i', hp, hf, hf' => by
    unfold charsF
    have hc := chr_sim h hp
    rcases h.see hp with ⟨hlt, e, hb⟩ | ⟨hi, hb, hb'⟩
    · rw [hb]
      split
      · exact ⟨⟨by omega, e⟩, hlt⟩
      · have hgt : ∀ j, chrR s i = .ok j → i < j ∧ j ≤ s.size := fun j hj => chrR_gt hj
        generalize chrR s i = x at *
        generalize chrR s' i' = x' at *
        cases x <;> cases x'
        · exact hc
        · exact hc.elim
        · exact hc.elim
        · next j j' =>
          have hq : QR s j j' := hc
          have := hgt j rfl
          exact chars_sim h f f' j j' hq.p (by omega) (by have := hq.2; omega)
    · rw [if_neg (by rw [hb]; decide), if_neg (by rcases hb' with e | e <;> rw [e] <;> decide)]
      generalize hx : chrR s i = x at *
      generalize chrR s' i' = x' at *
      cases x <;> cases x'
      · exact hc
      · exact hc.elim
      · exact hc.elim
      · next j j' =>
        have := chrR_gt hx
        omega
theorem sub_sim (h : Pad s s') {i k : Nat} (hk : k ≤ s.size) : sub s' (i + 2) (k + 2) = sub s i k := by
  unfold sub
  rw [h.eq]
  show ((s.data.toList ++ [13, 10]).drop i).take _ = _
  rw [show k + 2 - (i + 2) = k - i by omega]
  rcases Nat.lt_or_ge k i with hlt | hge
  · rw [show k - i = 0 by omega]; simp
  · rw [List.drop_append_of_le_length (by rw [T1.size_eq]; omega), List.take_append_of_le_length (by rw [List.length_drop, T1.size_eq]; omega)]
theorem lit_sim (h : Pad s s') {i i' : Nat} (hp : PR s i i') : Sim s (fun p p' => p.1 = p'.1 ∧ QR s p.2 p'.2) (litR s i) (litR s' i') := by
  unfold litR
  rcases h.see hp with ⟨hlt, e, hb⟩ | ⟨hi, hb, hb'⟩
  · rw [hb]
    split
    · refine Sim.bind2 (chars_sim h (s.size + 1) (s'.size + 1) (i + 1) (i' + 1) ⟨hlt, .inl (by omega)⟩ (by omega) (by rw [h.size]; omega)) (fun e e' p q => by rw [p, q]; exact ⟨rfl, rfl⟩) fun j j' p q r => ?_
      rw [p, q]; dsimp only
      obtain ⟨q, hj⟩ := r
      refine ⟨?_, hj, by have := q.2; omega⟩
      show litS s i (j + 1) = litS s' i' (j' + 1)
      unfold litS
      rw [e, q.2, show j + 2 + 1 = j + 1 + 2 by omega, sub_sim h hj]
    · exact Sim.err hp (by decide)
  · rw [if_neg (by rw [hb]; decide), if_neg (by rcases hb' with e | e <;> rw [e] <;> decide)]
    exact Sim.err hp (by decide)
theorem int_sim0 (h : Pad s s') {i i1 : Nat} (hi : i ≤ s.size) (set : List UInt8) (h0 : isIn set 0 = false) (h13 : isIn set 13 = false) (h1 : i1 ≤ s.size) :
    Sim s (fun p p' : VT × Nat => p.1 = p'.1 ∧ QR s p.2 p'.2)
      (if isIn set (bt s i1) = true then (if (T1.numL (sub s i (if bt s i1 = 48 then i1 + 1 else sk dgL s (i1 + 1)))).2 = 0 then Except.ok (intT (T1.numL (sub s i (if bt s i1 = 48 then i1 + 1 else sk dgL s (i1 + 1)))).1, (if bt s i1 = 48 then i1 + 1 else sk dgL s (i1 + 1))) else Except.error (i, (T1.numL (sub s i (if bt s i1 = 48 then i1 + 1 else sk dgL s (i1 + 1)))).2)) else Except.error (i1, 3))
      (if isIn set (bt s' (i1 + 2)) = true then (if (T1.numL (sub s' (i + 2) (if bt s' (i1 + 2) = 48 then i1 + 2 + 1 else sk dgL s' (i1 + 2 + 1)))).2 = 0 then Except.ok (intT (T1.numL (sub s' (i + 2) (if bt s' (i1 + 2) = 48 then i1 + 2 + 1 else sk dgL s' (i1 + 2 + 1)))).1, (if bt s' (i1 + 2) = 48 then i1 + 2 + 1 else sk dgL s' (i1 + 2 + 1))) else Except.error (i + 2, (T1.numL (sub s' (i + 2) (if bt s' (i1 + 2) = 48 then i1 + 2 + 1 else sk dgL s' (i1 + 2 + 1)))).2)) else Except.error (i1 + 2, 3)) := by
  have hp1 : PR s i1 (i1 + 2) := ⟨h1, .inl rfl⟩
  rcases h.see hp1 with ⟨hlt, _, hb⟩ | ⟨he, hb, hb'⟩
  · rw [hb]
    have hq : QR s (if bt s i1 = 48 then i1 + 1 else sk dgL s (i1 + 1)) (if bt s i1 = 48 then i1 + 2 + 1 else sk dgL s' (i1 + 2 + 1)) := by
      split
      · exact ⟨hlt, by omega⟩
      · exact dg_sim h _ (i1 + 1) rfl hlt
    generalize (if bt s i1 = 48 then i1 + 1 else sk dgL s (i1 + 1)) = k at *
    generalize (if bt s i1 = 48 then i1 + 2 + 1 else sk dgL s' (i1 + 2 + 1)) = k' at *
    obtain ⟨hk, rfl⟩ := hq
    rw [sub_sim h hk]
    split
    · split
      · exact ⟨rfl, hk, rfl⟩
      · next hn => exact Sim.err ⟨hi, .inl rfl⟩ hn
    · exact Sim.err hp1 (by decide)
  · have hb2 : isIn set (bt s' (i1 + 2)) = false := by rcases hb' with e | e <;> rw [e] <;> assumption
    rw [hb, h0, hb2]
    exact Sim.err hp1 (by decide)
theorem int_sim (h : Pad s s') {i i' : Nat} (hp : PR s i i') : Sim s (fun p p' => p.1 = p'.1 ∧ QR s p.2 p'.2) (intR s i) (intR s' i') := by
  rcases h.see hp with ⟨hlt, rfl, hb⟩ | ⟨hi, hb, hb'⟩
  · unfold intR
    simp only
    rw [hb]
    by_cases hc : bt s i = 45
    · rw [if_pos hc, if_pos hc, if_pos hc]
      exact int_sim0 h hp.1 dnL (by decide) (by decide) hlt
    · rw [if_neg hc, if_neg hc, if_neg hc]
      exact int_sim0 h hp.1 dgL (by decide) (by decide) hp.1
  · have hne : ¬ bt s' i' = 45 := by rcases hb' with e | e <;> rw [e] <;> decide
    have hin : isIn dgL (bt s' i') = false := by rcases hb' with e | e <;> rw [e] <;> decide
    unfold intR
    simp only
    have hne0 : ¬ bt s i = 45 := by rw [hb]; decide
    have hin0 : isIn dgL (bt s i) = false := by rw [hb]; decide
    rw [if_neg hne0, if_neg hne0, if_neg hne, if_neg hne, hin0, hin]
    exact Sim.err hp (by decide)
theorem begin_sim (h : Pad s s') {level i i' n : Nat} (hp : PR s i i') : Sim s (fun a b => a = b) (beginR s level i n) (beginR s' level i' n) := by
  unfold beginR
  rcases h.see hp with ⟨hlt, e, hb⟩ | ⟨hi, hb, hb'⟩
  · rw [hb]
    split
    · exact Sim.err hp (by decide)
    · split
      · exact Sim.err hp (by decide)
      · split
        · exact Sim.err hp (by decide)
        · exact rfl
  · rw [if_pos (by rw [hb]; decide), if_pos (by rcases hb' with e | e <;> rw [e] <;> decide)]
    exact Sim.err hp (by decide)
def TR (s : ByteArray) {α : Type} (p p' : α × Nat × Nat) : Prop := p.1 = p'.1 ∧ PR s p.2.1 p'.2.1 ∧ p.2.2 = p'.2.2
theorem elsF_sim {α : Type} (h : Pad s s') (cl : UInt8) (hcl : cl ≠ 0 ∧ cl ≠ 13) {step step' : α → Nat → Nat → Except Er (α × Nat × Nat)} (lo : Nat)
    (hstep : ∀ a i i' n, PR s i i' → lo ≤ i → Sim s (TR s) (step a i n) (step' a i' n)) (hgo : ∀ a i n a1 i1 n1, i ≤ s.size → step a i n = .ok (a1, i1, n1) → i ≤ i1) :
    ∀ (f f' : Nat) (a : α) (i i' n : Nat), PR s i i' → lo ≤ i → s.size < f + i → s.size + 4 < f' + i' → Sim s (TR s) (elsF s cl step f a i n) (elsF s' cl step' f' a i' n)
  | 0, _, _, i, _, _, hp, _, hf, _ => by have := hp.1; omega
  | _, 0, _, i, i', _, hp, _, _, hf' => by
    rcases hp.2 with e | ⟨_, e⟩
    · have := hp.1; omega
    · omega
  | f + 1, f' + 1, a, i, i', n, hp, hlo, hf, hf' => by
    unfold elsF
    have h1 := hstep a i i' n hp hlo
    have h2 := hgo a i n
    generalize step a i n = x at *
    generalize step' a i' n = x' at *
    cases x <;> cases x'
    · exact h1
    · exact h1.elim
    · exact h1.elim
    next p p' =>
    obtain ⟨b, j, m⟩ := p
    obtain ⟨b', j', m'⟩ := p'
    obtain ⟨e1, e2, e3⟩ := h1
    have e1 : b = b' := e1
    have e3 : m = m' := e3
    have e2 : PR s j j' := e2
    subst e1 e3
    have hij := h2 b j m hp.1 rfl
    have hjk := sk_le spL s j
    have hs := (sk_sim h e2).p
    simp only
    generalize sk spL s j = q at *
    generalize sk spL s' j' = q' at *
    rcases h.see hs with ⟨hlt, e, hb⟩ | ⟨hi, hb, hb'⟩
    · rw [hb]
      split
      · exact ⟨rfl, ⟨hlt, .inl (by show q' + 1 = q + 1 + 2; omega)⟩, rfl⟩
      · split
        · exact elsF_sim h cl hcl lo hstep hgo f f' b (q + 1) (q' + 1) m ⟨hlt, .inl (by omega)⟩ (by omega) (by omega) (by rcases hp.2 with e4 | ⟨e4, _⟩ <;> omega)
        · exact Sim.err hs (by decide)
    · rw [if_neg (by rw [hb]; exact fun e => hcl.1 e.symm), if_neg (by rw [hb]; decide), if_neg (by rcases hb' with e | e <;> rw [e]; exact fun e => hcl.2 e.symm; exact fun e => hcl.1 e.symm), if_neg (by rcases hb' with e | e <;> rw [e] <;> decide)]
      exact Sim.err hs (by decide)
theorem els_sim {α : Type} (h : Pad s s') (cl : UInt8) (hcl : cl ≠ 0 ∧ cl ≠ 13) {step step' : α → Nat → Nat → Except Er (α × Nat × Nat)} {i i' : Nat} (hp : PR s (i + 1) (i' + 1)) (_ : i < s.size)
    (hstep : ∀ a j j' n, PR s j j' → i + 1 ≤ j → Sim s (TR s) (step a j n) (step' a j' n)) (hgo : ∀ a i n a1 i1 n1, i ≤ s.size → step a i n = .ok (a1, i1, n1) → i ≤ i1) (a : α) (n : Nat) :
    Sim s (TR s) (els s cl step a i n) (els s' cl step' a i' n) := by
  unfold els
  have hs := (sk_sim h hp).p
  have hjk := sk_le spL s (i + 1)
  generalize sk spL s (i + 1) = q at *
  generalize sk spL s' (i' + 1) = q' at *
  have hfuel : s.size + 4 < s'.size + 1 + q' := by rw [h.size]; omega
  rcases h.see hs with ⟨hlt, e, hb⟩ | ⟨hi, hb, hb'⟩
  · rw [hb]
    split
    · exact ⟨rfl, ⟨hlt, .inl (by show q' + 1 = q + 1 + 2; omega)⟩, rfl⟩
    · exact elsF_sim h cl hcl (i + 1) hstep hgo _ _ a q q' n hs hjk (by omega) hfuel
  · rw [if_neg (by rw [hb]; exact fun e => hcl.1 e.symm), if_neg (by rcases hb' with e | e <;> rw [e]; exact fun e => hcl.2 e.symm; exact fun e => hcl.1 e.symm)]
    exact elsF_sim h cl hcl (i + 1) hstep hgo _ _ a q q' n hs hjk (by omega) hfuel
theorem key_sim (h : Pad s s') (seen : List ByteArray) {i i' : Nat} (hp : PR s i i') : Sim s (fun p p' => p.1 = p'.1 ∧ QR s p.2 p'.2) (keyR s seen i) (keyR s' seen i') := by
  unfold keyR
  have hs := (sk_sim h hp).p
  have hl := lit_sim h hs
  generalize litR s (sk spL s i) = x at *
  generalize litR s' (sk spL s' i') = x' at *
  cases x <;> cases x'
  · exact hl
  · exact hl.elim
  · exact hl.elim
  next p p' =>
  obtain ⟨k, j⟩ := p
  obtain ⟨k', j'⟩ := p'
  obtain ⟨e1, e2⟩ := hl
  have e1 : k = k' := e1
  have e2 : QR s j j' := e2
  subst e1
  simp only
  split
  · exact Sim.err hs (by decide)
  · have hq := (sk_sim h e2.p).p
    generalize sk spL s j = q at *
    generalize sk spL s' j' = q' at *
    rcases h.see hq with ⟨hlt, e, hb⟩ | ⟨hi, hb, hb'⟩
    · rw [hb]
      split
      · exact ⟨rfl, hlt, by show q' + 1 = q + 1 + 2; omega⟩
      · exact Sim.err hq (by decide)
    · rw [if_neg (by rw [hb]; decide), if_neg (by rcases hb' with e | e <;> rw [e] <;> decide)]
      exact Sim.err hq (by decide)
set_option maxHeartbeats 1000000 in
theorem pv_sim (h : Pad s s') : ∀ (f f' level i i' n : Nat), PR s i i' → s.size < f + i → s.size + 4 < f' + i' → Sim s (TR s) (pv s f level i n) (pv s' f' level i' n)
  | 0, _, _, i, _, _, hp, hf, _ => by have := hp.1; omega
  | _, 0, _, i, i', _, hp, _, hf' => by
    rcases hp.2 with e | ⟨_, e⟩
    · have := hp.1; omega
    · omega
  | f + 1, f' + 1, level, i, i', n, hp, hf, hf' => by
    have hs := (sk_sim h hp).p
    have hle := sk_le spL s i
    have hb := begin_sim h (level := level) (n := n) hs
    have hok : ∀ m, beginR s level (sk spL s i) n = .ok m → sk spL s i < s.size := fun m hm => (begin_ok hm).2.2.2
    rw [pv, pv]
    generalize beginR s level (sk spL s i) n = x at *
    generalize beginR s' level (sk spL s' i') n = x' at *
    cases x <;> cases x'
    · exact hb
    · exact hb.elim
    · exact hb.elim
    next m m' =>
    have hb : m = m' := hb
    subst hb
    have hlt := hok m rfl
    simp only
    generalize sk spL s i = q at *
    generalize sk spL s' i' = q' at *
    have e : q' = q + 2 := by
      rcases hs.2 with e | ⟨e, _⟩
      · exact e
      · omega
    rw [show bt s' q' = bt s q by rw [e]; exact h.at hlt]
    have hii : i' ≤ q' := by rcases hp.2 with e4 | ⟨e4, _⟩ <;> omega
    have hp1 : PR s (q + 1) (q' + 1) := ⟨hlt, .inl (by omega)⟩
    split
    · refine Sim.bind2 (word_sim h [110, 117, 108, 108] q q' (by decide) hs) (fun e e' p q => by rw [p, q]; exact ⟨rfl, rfl⟩) fun a b p q r => ?_
      rw [p, q]
      exact ⟨rfl, r, rfl⟩
    split
    · refine Sim.bind2 (word_sim h [102, 97, 108, 115, 101] q q' (by decide) hs) (fun e e' p q => by rw [p, q]; exact ⟨rfl, rfl⟩) fun a b p q r => ?_
      rw [p, q]
      exact ⟨rfl, r, rfl⟩
    split
    · refine Sim.bind2 (word_sim h [116, 114, 117, 101] q q' (by decide) hs) (fun e e' p q => by rw [p, q]; exact ⟨rfl, rfl⟩) fun a b p q r => ?_
      rw [p, q]
      exact ⟨rfl, r, rfl⟩
    split
    · have hl := lit_sim h hs
      generalize litR s q = x at *
      generalize litR s' q' = x' at *
      cases x <;> cases x'
      · exact hl
      · exact hl.elim
      · exact hl.elim
      next p p' =>
      obtain ⟨k, j⟩ := p
      obtain ⟨k', j'⟩ := p'
      obtain ⟨e1, e2⟩ := hl
      have e1 : k = k' := e1
      subst e1
      exact ⟨rfl, QR.p e2, rfl⟩
    split
    · have hl := els_sim h 93 (by decide) (step := stepL (pv s f (level + 1))) (step' := stepL (pv s' f' (level + 1))) hp1 hlt (fun a j j' n2 hp2 hlo => by
          have hv := pv_sim h f f' (level + 1) j j' n2 hp2 (by omega) (by rcases hp2.2 with e4 | ⟨e4, e5⟩ <;> omega)
          unfold stepL
          generalize pv s f (level + 1) j n2 = x at *
          generalize pv s' f' (level + 1) j' n2 = x' at *
          cases x <;> cases x'
          · exact hv
          · exact hv.elim
          · exact hv.elim
          next p p' =>
          obtain ⟨t, k, m2⟩ := p
          obtain ⟨t', k', m2'⟩ := p'
          obtain ⟨e1, e2, e3⟩ := hv
          have e1 : t = t' := e1
          have e3 : m2 = m2' := e3
          subst e1 e3
          exact ⟨rfl, e2, rfl⟩) (fun a i n a1 i1 n1 hi hs => by
          unfold stepL at hs
          split at hs
          · cases hs
          · next t' i' n' ht => cases hs; exact Nat.le_of_lt (pv_good s f (level + 1) _ _ _ _ _ hi ht).lt) [] m
      generalize els s 93 (stepL (pv s f (level + 1))) [] q m = x at *
      generalize els s' 93 (stepL (pv s' f' (level + 1))) [] q' m = x' at *
      cases x <;> cases x'
      · exact hl
      · exact hl.elim
      · exact hl.elim
      next p p' =>
      obtain ⟨t, k, m2⟩ := p
      obtain ⟨t', k', m2'⟩ := p'
      obtain ⟨e1, e2, e3⟩ := hl
      have e1 : t = t' := e1
      have e3 : m2 = m2' := e3
      subst e1 e3
      exact ⟨rfl, e2, rfl⟩
    split
    · have hl := els_sim h 125 (by decide) (step := stepO s (pv s f (level + 1))) (step' := stepO s' (pv s' f' (level + 1))) hp1 hlt (fun a j j' n2 hp2 hlo => by
          unfold stepO
          have hk := key_sim h a.1 hp2
          have hgt : ∀ k j1, keyR s a.1 j = .ok (k, j1) → j + 3 ≤ j1 := fun k j1 hk => (key_ok hk).2.1
          generalize keyR s a.1 j = y at *
          generalize keyR s' a.1 j' = y' at *
          cases y <;> cases y'
          · exact hk
          · exact hk.elim
          · exact hk.elim
          next p p' =>
          obtain ⟨k, j1⟩ := p
          obtain ⟨k', j1'⟩ := p'
          obtain ⟨e1, e2⟩ := hk
          have e1 : k = k' := e1
          have e2 : QR s j1 j1' := e2
          subst e1
          have hg := hgt k j1 rfl
          simp only
          have hv := pv_sim h f f' (level + 1) j1 j1' n2 e2.p (by omega) (by have := e2.2; omega)
          generalize pv s f (level + 1) j1 n2 = x at *
          generalize pv s' f' (level + 1) j1' n2 = x' at *
          cases x <;> cases x'
          · exact hv
          · exact hv.elim
          · exact hv.elim
          next p p' =>
          obtain ⟨t, k2, m2⟩ := p
          obtain ⟨t', k2', m2'⟩ := p'
          obtain ⟨e1, e2, e3⟩ := hv
          have e1 : t = t' := e1
          have e3 : m2 = m2' := e3
          subst e1 e3
          exact ⟨rfl, e2, rfl⟩) (fun a i n a1 i1 n1 hi hs => by
          unfold stepO at hs
          cases hk : keyR s a.1 i with
          | error e => rw [hk] at hs; cases hs
          | ok p =>
            obtain ⟨k, q⟩ := p
            rw [hk] at hs
            simp only at hs
            obtain ⟨k1, k2, k3, k4⟩ := key_ok hk
            split at hs
            · cases hs
            · next t' i' n' ht =>
              cases hs
              have := (pv_good s f (level + 1) _ _ _ _ _ k3 ht).lt
              omega) ([], []) m
      generalize els s 125 (stepO s (pv s f (level + 1))) ([], []) q m = x at *
      generalize els s' 125 (stepO s' (pv s' f' (level + 1))) ([], []) q' m = x' at *
      cases x <;> cases x'
      · exact hl
      · exact hl.elim
      · exact hl.elim
      next p p' =>
      obtain ⟨t, k, m2⟩ := p
      obtain ⟨t', k', m2'⟩ := p'
      obtain ⟨e1, e2, e3⟩ := hl
      have e1 : t = t' := e1
      have e3 : m2 = m2' := e3
      subst e1 e3
      exact ⟨rfl, e2, rfl⟩
    · have hl := int_sim h hs
      generalize intR s q = x at *
      generalize intR s' q' = x' at *
      cases x <;> cases x'
      · exact hl
      · exact hl.elim
      · exact hl.elim
      next p p' =>
      obtain ⟨k, j⟩ := p
      obtain ⟨k', j'⟩ := p'
      obtain ⟨e1, e2⟩ := hl
      have e1 : k = k' := e1
      subst e1
      exact ⟨rfl, QR.p e2, rfl⟩
theorem pv_sk {f level i j n : Nat} (h : sk spL s i = sk spL s j) : pv s f level i n = pv s f level j n := by
  cases f with
  | zero => rfl
  | succ f => rw [pv, pv, h]
theorem parse_pad (h : Pad s s') : Sim s (fun a b => a = b) (parseR s) (parseR s') := by
  have b0 : bt s' 0 = 32 := by unfold bt; rw [h.eq]; rfl
  have b1 : bt s' 1 = 9 := by unfold bt; rw [h.eq]; rfl
  have hv := pv_sim h (s.size + 1) (s'.size + 1) 1 0 2 0 ⟨Nat.zero_le _, .inl rfl⟩ (by omega) (by rw [h.size]; omega)
  unfold parseR
  rw [show pv s' (s'.size + 1) 1 0 0 = pv s' (s'.size + 1) 1 2 0 from pv_sk (by rw [sk_in (by decide) (by rw [b0]; decide), sk_in (by decide) (by rw [b1]; decide)])]
  generalize pv s (s.size + 1) 1 0 0 = x at *
  generalize pv s' (s'.size + 1) 1 2 0 = x' at *
  cases x <;> cases x'
  · exact hv
  · exact hv.elim
  · exact hv.elim
  next p p' =>
  obtain ⟨t, k, m2⟩ := p
  obtain ⟨t', k', m2'⟩ := p'
  obtain ⟨e1, e2, e3⟩ := hv
  have e1 : t = t' := e1
  have e2 : PR s k k' := e2
  subst e1
  simp only
  have hs := sk_sim h e2
  generalize sk spL s k = q at *
  generalize sk spL s' k' = q' at *
  rcases hs with ⟨a, b⟩ | ⟨a, b⟩
  · rw [if_pos a, if_pos (by rw [h.size]; omega)]
    exact Sim.err ⟨by omega, .inl b⟩ (by decide)
  · rw [if_neg (by omega), if_neg (by rw [h.size]; omega)]
    exact rfl
end
end Go.Proofs.YtcbajgcblfgmgaaDoor
