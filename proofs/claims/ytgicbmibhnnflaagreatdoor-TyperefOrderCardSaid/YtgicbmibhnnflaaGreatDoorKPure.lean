
/-
  The tokens of a document, as functions of its bytes.
-/
import Derived.Test.YtgicbmibhnnflaaGreatDoorTextUnquote2
import Derived.Test.YtgicbmibhnnflaaGreatDoorTextNumber
import Derived.Test.YtgicbmibhnnflaaGreatDoorRefText
namespace Go.Proofs.YtgicbmibhnnflaaGreatDoor
open Go.RowKit
/- How many bytes a machine takes. -/
def spanL {σ : Type} (step : σ → UInt8 → Option σ) : σ → List UInt8 → Nat
  | _, [] => 0
  | st, c :: r => match step st c with
    | none => 0
    | some st' => spanL step st' r + 1
def sepS (inC : Bool) (c : UInt8) : Option Bool :=
  if c = 35 then some true else if c = 10 ∨ c = 13 then some false else if c = 32 ∨ c = 9 ∨ c = 44 then some inC else if inC = true then some true else none
def wdB (c : UInt8) : Bool := T1.nmB (c.toNat : Int)
def wdS (u : Unit) (c : UInt8) : Option Unit := if wdB c = true then some u else none
def ltS (skip : Bool) (c : UInt8) : Option Bool := if c = 34 ∧ skip = false then none else some (decide (c = 92) && !skip)
def sepN (l : List UInt8) : Nat := spanL sepS false l
def wdN (l : List UInt8) : Nat := spanL wdS () l
def ltN (l : List UInt8) : Nat := spanL ltS false l
def sgL : List UInt8 := [33, 36, 38, 40, 41, 58, 61, 64, 91, 93, 123, 124, 125]
def elL : List UInt8 := [46, 46, 46]
def dmB (c : UInt8) : Bool := T1.digB (c.toNat : Int) || decide (c = 45)
/- A token: its kind, its text, how many bytes it takes. -/
def tokR (l : List UInt8) : Except Int (Int × List UInt8 × Nat) :=
  let c := l.getD 0 0
  if c ∈ sgL then .ok (1, l.take 1, 1)
  else if l.take 3 = elL then .ok (1, elL, 3)
  else if T1.letU (c.toNat : Int) = true then
    if T1.nameL (l.take (wdN l)) = true then .ok (2, l.take (wdN l), wdN l) else .error 3
  else if dmB c = true then
    if (T1.numL (l.take (wdN (l.drop 1) + 1))).2 = 0 then .ok (3, l.take (wdN (l.drop 1) + 1), wdN (l.drop 1) + 1) else .error (T1.numL (l.take (wdN (l.drop 1) + 1))).2
  else if c = 34 then
    if l.length < ltN (l.drop 1) + 2 then .error 3 else match T1.unquoteL (l.take (ltN (l.drop 1) + 2)) with
      | none => .error 3
      | some t => .ok (4, t, ltN (l.drop 1) + 2)
  else .error 3
/- A token of a document: its kind, its text, its place. -/
abbrev Tk := Int × List UInt8 × Nat
def scF : Nat → Nat → List UInt8 → Except (Nat × Int) (List Tk)
  | 0, _, _ => .error (0, 99)
  | f + 1, at', l =>
    if l.drop (sepN l) = [] then .ok [(5, [], at' + sepN l)] else
      match tokR (l.drop (sepN l)) with
      | .error c => .error (at' + sepN l, c)
      | .ok (k, t, n) => match scF f (at' + sepN l + n) ((l.drop (sepN l)).drop n) with
        | .error e => .error e
        | .ok ts => .ok ((k, t, at' + sepN l) :: ts)
def scR (l : List UInt8) : Except (Nat × Int) (List Tk) := if 65536 < l.length then .error (65536, 4) else scF (l.length + 1) 0 l
section
variable {σ : Type} {step : σ → UInt8 → Option σ}
theorem spanL_le (st : σ) (l : List UInt8) : spanL step st l ≤ l.length := by
  induction l generalizing st with
  | nil => exact Nat.le_refl _
  | cons c r ih =>
    unfold spanL
    cases h : step st c with
    | none => exact Nat.zero_le _
    | some s2 => exact Nat.succ_le_succ (ih s2)
end
theorem sepN_le (l : List UInt8) : sepN l ≤ l.length := spanL_le _ _
theorem wdN_le (l : List UInt8) : wdN l ≤ l.length := spanL_le _ _
theorem ltN_le (l : List UInt8) : ltN l ≤ l.length := spanL_le _ _
theorem letU_wdB {c : UInt8} (h : T1.letU (c.toNat : Int) = true) : wdB c = true := by
  unfold wdB; rw [T1.nm_of, h]; rfl
theorem wdN_pos {l : List UInt8} (hl : l ≠ []) (h : T1.letU ((l.getD 0 0).toNat : Int) = true) : 1 ≤ wdN l := by
  cases l with
  | nil => exact absurd rfl hl
  | cons c r =>
    have h1 : wdB c = true := letU_wdB h
    unfold wdN spanL wdS
    rw [if_pos h1]
    exact Nat.le_add_left _ _
/- A token takes at least one byte, and no more than there are. -/
theorem tokR_len {l : List UInt8} {k : Int} {t : List UInt8} {n : Nat} (hl : l ≠ []) (h : tokR l = .ok (k, t, n)) : 1 ≤ n ∧ n ≤ l.length := by
  have h0 : 1 ≤ l.length := List.length_pos_iff.2 hl
  have hd : wdN (l.drop 1) + 1 ≤ l.length := by have := wdN_le (l.drop 1); rw [List.length_drop] at this; omega
  have hw := wdN_le l
  unfold tokR at h
  simp only at h
  split at h
  · cases h; exact ⟨Nat.le_refl _, h0⟩
  · split at h
    · next h3 =>
      have h4 : (l.take 3).length = 3 := by rw [h3]; rfl
      rw [List.length_take] at h4
      cases h; exact ⟨by omega, by omega⟩
    · split at h
      · next h3 =>
        split at h
        · cases h; exact ⟨wdN_pos hl h3, hw⟩
        · cases h
      · split at h
        · split at h
          · cases h; exact ⟨by omega, hd⟩
          · cases h
        · split at h
          · split at h
            · cases h
            · split at h
              · cases h
              · cases h; exact ⟨by omega, by omega⟩
          · cases h
theorem scF_enough : ∀ (f g at' : Nat) (l : List UInt8), l.length < f → f ≤ g → scF g at' l = scF f at' l
  | 0, _, _, l, h, _ => absurd h (Nat.not_lt_zero _)
  | f + 1, 0, _, _, _, h => absurd h (Nat.not_succ_le_zero _)
  | f + 1, g + 1, at', l, h, hg => by
    unfold scF
    by_cases he : l.drop (sepN l) = []
    · rw [if_pos he, if_pos he]
    · rw [if_neg he, if_neg he]
      cases ht : tokR (l.drop (sepN l)) with
      | error c => rfl
      | ok p =>
        obtain ⟨k, t, n⟩ := p
        have h1 := tokR_len he ht
        have h2 : ((l.drop (sepN l)).drop n).length < f := by
          have h3 := h1.2
          rw [List.length_drop, List.length_drop] at *
          omega
        simp only [scF_enough f g _ _ h2 (Nat.le_of_succ_le_succ hg)]
end Go.Proofs.YtgicbmibhnnflaaGreatDoor
