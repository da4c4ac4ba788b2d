
/-
  The reference's words: how many bytes a separator, a word, a literal take, step by step.
-/
import Derived.Test.YtgicbmibhnnflaaGreatDoorKFact
namespace Go.Proofs.YtgicbmibhnnflaaGreatDoor
open Go.RowKit
section
variable {σ : Type} {step : σ → UInt8 → Option σ}
/- What is left of a machine's way, told from the start: n is where it ends. -/
def SpAt (step : σ → UInt8 → Option σ) (l : List UInt8) (n : Nat) (st : σ) (k : Nat) : Prop := k ≤ l.length ∧ n = k + spanL step st (l.drop k)
theorem SpAt.start {l : List UInt8} {st : σ} {k : Nat} (hk : k ≤ l.length) : SpAt step l (k + spanL step st (l.drop k)) st k := ⟨hk, rfl⟩
theorem drop_cons {l : List UInt8} {k : Nat} (h : k < l.length) : l.drop k = l[k] :: l.drop (k + 1) := List.drop_eq_getElem_cons h
theorem SpAt.next {l : List UInt8} {n : Nat} {st st2 : σ} {k : Nat} (h : SpAt step l n st k) (hk : k < l.length) (hs : step st l[k] = some st2) : SpAt step l n st2 (k + 1) := by
  refine ⟨by omega, ?_⟩
  rw [h.2, drop_cons hk, spanL, hs]
  show k + (spanL step st2 (l.drop (k + 1)) + 1) = _
  omega
theorem SpAt.stop {l : List UInt8} {n : Nat} {st : σ} {k : Nat} (h : SpAt step l n st k) (hk : k < l.length) (hs : step st l[k] = none) : n = k := by
  rw [h.2, drop_cons hk, spanL, hs]; rfl
theorem SpAt.done {l : List UInt8} {n : Nat} {st : σ} {k : Nat} (h : SpAt step l n st k) (hk : ¬ k < l.length) : n = k := by
  rw [h.2, List.drop_eq_nil_of_le (by omega)]; rfl
theorem SpAt.le {l : List UInt8} {n : Nat} {st : σ} {k : Nat} (h : SpAt step l n st k) : k ≤ n ∧ n ≤ l.length := by
  have := spanL_le (step := step) st (l.drop k)
  rw [List.length_drop] at this
  have := h.1; have := h.2
  omega
/- Two states that go on alike here. -/
theorem SpAt.swap {l : List UInt8} {n : Nat} {st st2 : σ} {k : Nat} (h : SpAt step l n st k) (hs : ∀ hk : k < l.length, step st l[k] = step st2 l[k]) : SpAt step l n st2 k := by
  refine ⟨h.1, ?_⟩
  rw [h.2]
  by_cases hk : k < l.length
  · rw [drop_cons hk, spanL, spanL, hs hk]
  · rw [List.drop_eq_nil_of_le (by omega)]; rfl
end
theorem sep_space : ∀ c : UInt8, (c = 32 ∨ c = 9 ∨ c = 10 ∨ c = 13 ∨ c = 44) → sepS false c = some false := all_u8 (by decide +kernel)
theorem sep_hash : sepS false 35 = sepS true 35 := rfl
theorem sep_in_c : ∀ c : UInt8, c ≠ 10 → c ≠ 13 → sepS true c = some true := all_u8 (by decide +kernel)
theorem sep_line : ∀ c : UInt8, (c = 10 ∨ c = 13) → sepS true c = sepS false c := all_u8 (by decide +kernel)
theorem sep_stop : ∀ c : UInt8, ¬ (c = 32 ∨ c = 9 ∨ c = 10 ∨ c = 13 ∨ c = 44) → c ≠ 35 → sepS false c = none := all_u8 (by decide +kernel)
def spcB (n : Int) : Bool := n == 32 || n == 9 || n == 10 || n == 13 || n == 44
theorem spc_is : ∀ c : UInt8, spcB (c.toNat : Int) = decide (c = 32 ∨ c = 9 ∨ c = 10 ∨ c = 13 ∨ c = 44) := all_u8 (by decide +kernel)
theorem wd_is (c : UInt8) : wdB c = (T1.letU (c.toNat : Int) || T1.digB (c.toNat : Int)) := T1.nm_of _
/- The closing quote: where it stands. -/
def clR (l : List UInt8) (i : Nat) : Int := if i + 1 + ltN (l.drop (i + 1)) < l.length then ((i + ltN (l.drop (i + 1)) + 2 : Nat) : Int) else -1
/- What is left of a literal. -/
def LtAt (l : List UInt8) (n k : Nat) : Prop := (k ≤ l.length ∧ n = k + spanL ltS false (l.drop k)) ∨ (k = l.length + 1 ∧ n = l.length)
theorem LtAt.quote {l : List UInt8} {n k : Nat} (h : LtAt l n k) (hk : k < l.length) (hc : l[k] = 34) : n = k := by
  rcases h with ⟨_, h⟩ | ⟨h, _⟩
  · rw [h, drop_cons hk, spanL, hc]; rfl
  · omega
theorem LtAt.back {l : List UInt8} {n k : Nat} (h : LtAt l n k) (hk : k < l.length) (hc : l[k] = 92) : LtAt l n (k + 2) := by
  rcases h with ⟨_, h⟩ | ⟨h, _⟩
  · rw [drop_cons hk, spanL, hc] at h
    have h : n = k + (spanL ltS true (l.drop (k + 1)) + 1) := h
    by_cases hk2 : k + 1 < l.length
    · rw [drop_cons hk2, spanL] at h
      have e : ltS true l[k + 1] = some false := by unfold ltS; simp
      rw [e] at h
      have h : n = k + ((spanL ltS false (l.drop (k + 2)) + 1) + 1) := h
      exact .inl ⟨by omega, by omega⟩
    · rw [List.drop_eq_nil_of_le (by omega)] at h
      have h : n = k + (0 + 1) := h
      exact .inr ⟨by omega, by omega⟩
  · omega
theorem LtAt.other {l : List UInt8} {n k : Nat} (h : LtAt l n k) (hk : k < l.length) (h1 : l[k] ≠ 34) (h2 : l[k] ≠ 92) : LtAt l n (k + 1) := by
  rcases h with ⟨_, h⟩ | ⟨h, _⟩
  · rw [drop_cons hk, spanL] at h
    have e : ltS false l[k] = some false := by unfold ltS; rw [if_neg (fun x => h1 x.1), decide_eq_false h2]; rfl
    rw [e] at h
    have h : n = k + (spanL ltS false (l.drop (k + 1)) + 1) := h
    exact .inl ⟨by omega, by omega⟩
  · omega
theorem LtAt.done {l : List UInt8} {n k : Nat} (h : LtAt l n k) (hk : ¬ k < l.length) : n = l.length := by
  rcases h with ⟨h1, h⟩ | ⟨_, h⟩
  · rw [List.drop_eq_nil_of_le (by omega)] at h
    have h : n = k + 0 := h
    omega
  · exact h
theorem clR_of (l : List UInt8) (i : Nat) (hi : i < l.length) : ∃ n, LtAt l n (i + 1) ∧ clR l i = (if n < l.length then ((n + 1 : Nat) : Int) else -1) := by
  refine ⟨i + 1 + ltN (l.drop (i + 1)), .inl ⟨by omega, rfl⟩, ?_⟩
  unfold clR
  rw [show i + ltN (l.drop (i + 1)) + 2 = i + 1 + ltN (l.drop (i + 1)) + 1 by omega]
/- The name of a text: only its length counts. -/
theorem wd_take : ∀ l : List UInt8, (l.take (wdN l)).all wdB = true
  | [] => rfl
  | c :: r => by
    unfold wdN spanL wdS
    cases hc : wdB c with
    | true =>
      show (List.take (wdN r + 1) (c :: r)).all wdB = true
      rw [List.take_succ_cons, List.all_cons, hc, wd_take r]; rfl
    | false => rfl
theorem let_dig : ∀ c : UInt8, T1.letU (c.toNat : Int) = true → T1.digB (c.toNat : Int) = false := all_u8 (by decide +kernel)
theorem name_wd {l : List UInt8} (hl : l ≠ []) (h : T1.letU ((l.getD 0 0).toNat : Int) = true) : T1.nameL (l.take (wdN l)) = decide (wdN l ≤ 64) := by
  have h1 := wdN_pos hl h
  have h2 := wdN_le l
  have h3 := wd_take l
  obtain ⟨c, r, rfl⟩ := List.exists_cons_of_ne_nil hl
  obtain ⟨m, hm⟩ : ∃ m, wdN (c :: r) = m + 1 := ⟨wdN (c :: r) - 1, by omega⟩
  have hd : T1.digB (c.toNat : Int) = false := by
    exact let_dig c h
  unfold T1.nameL
  have e1 : T1.allNm ((c :: r).take (wdN (c :: r))) = true := h3
  have e2 : ((c :: r).take (wdN (c :: r))).length = wdN (c :: r) := by rw [List.length_take]; omega
  have e3 : ((c :: r).take (wdN (c :: r))).getD 0 0 = c := by rw [hm]; rfl
  rw [e1, e2, e3, hd]
  rw [Bool.eq_iff_iff]; simp; omega
end Go.Proofs.YtgicbmibhnnflaaGreatDoor
