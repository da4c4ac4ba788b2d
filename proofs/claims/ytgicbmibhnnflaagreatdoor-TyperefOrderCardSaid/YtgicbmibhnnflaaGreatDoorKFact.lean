
/-
  Facts about tokens: where they stand, and what separators do.
-/
import Derived.Test.YtgicbmibhnnflaaGreatDoorKPure
import Derived.Test.YtgicbmibhnnflaaGreatDoorUQuote
namespace Go.Proofs.YtgicbmibhnnflaaGreatDoor
open Go.RowKit
section
variable {σ : Type} {step : σ → UInt8 → Option σ}
def runL {σ : Type} (step : σ → UInt8 → Option σ) : σ → List UInt8 → Option σ
  | st, [] => some st
  | st, c :: r => match step st c with
    | none => none
    | some s2 => runL step s2 r
theorem spanL_run : ∀ (a : List UInt8) (st st2 : σ) (r : List UInt8), runL step st a = some st2 → spanL step st (a ++ r) = a.length + spanL step st2 r
  | [], st, st2, r, h => by cases h; simp
  | c :: a, st, st2, r, h => by
    unfold runL at h
    rw [List.cons_append, spanL]
    cases hc : step st c with
    | none => rw [hc] at h; cases h
    | some s3 =>
      rw [hc] at h
      show spanL step s3 (a ++ r) + 1 = _
      rw [spanL_run a s3 st2 r h, List.length_cons]; omega
theorem spanL_cut : ∀ (a : List UInt8) (st : σ) (r r' : List UInt8), spanL step st (a ++ r) < a.length → spanL step st (a ++ r') = spanL step st (a ++ r)
  | [], _, _, _, h => absurd h (Nat.not_lt_zero _)
  | c :: a, st, r, r', h => by
    rw [List.cons_append, spanL] at h
    rw [List.cons_append, List.cons_append, spanL, spanL]
    cases hc : step st c with
    | none => rfl
    | some s3 =>
      rw [hc] at h
      show spanL step s3 (a ++ r') + 1 = spanL step s3 (a ++ r) + 1
      have h2 : spanL step s3 (a ++ r) + 1 < a.length + 1 := h
      rw [spanL_cut a s3 r r' (by omega)]
/- What has been taken, and why it ended. -/
theorem spanL_end : ∀ (l : List UInt8) (st : σ), ∃ st2, runL step st (l.take (spanL step st l)) = some st2 ∧ (∀ c r, l.drop (spanL step st l) = c :: r → step st2 c = none)
  | [], st => ⟨st, rfl, fun c r h => by cases h⟩
  | c :: l, st => by
    rw [spanL]
    cases hc : step st c with
    | none => exact ⟨st, rfl, fun d r h => by cases h; exact hc⟩
    | some s3 =>
      obtain ⟨st2, h1, h2⟩ := spanL_end l s3
      refine ⟨st2, ?_, h2⟩
      show runL step st (c :: l.take (spanL step s3 l)) = some st2
      rw [runL, hc]; exact h1
theorem spanL_full {a r : List UInt8} {st : σ} (h : a.length ≤ spanL step st (a ++ r)) : ∃ st2, runL step st a = some st2 := by
  induction a generalizing st with
  | nil => exact ⟨st, rfl⟩
  | cons c a ih =>
    rw [List.cons_append, spanL] at h
    rw [runL]
    cases hc : step st c with
    | none => rw [hc] at h; exact absurd h (Nat.not_succ_le_zero _)
    | some s3 =>
      rw [hc] at h
      exact ih (Nat.le_of_succ_le_succ h)
theorem runL_app : ∀ (a b : List UInt8) (st st2 : σ), runL step st a = some st2 → runL step st (a ++ b) = runL step st2 b
  | [], _, _, _, h => by cases h; rfl
  | c :: a, b, st, st2, h => by
    rw [runL] at h
    rw [List.cons_append, runL]
    cases hc : step st c with
    | none => rw [hc] at h; cases h
    | some s3 => rw [hc] at h; exact runL_app a b s3 st2 h
end
theorem all_u8 {p : UInt8 → Prop} (h : ∀ n : Fin 256, p (UInt8.ofNat n.val)) (c : UInt8) : p c := by
  have := h ⟨c.toNat, c.toNat_lt⟩
  rwa [UInt8.ofNat_toNat] at this
/- Whether what follows goes on with a word. -/
def wdH (r : List UInt8) : Bool := wdB (r.getD 0 0)
theorem wdB_zero : wdB 0 = false := by decide
theorem wd_all : ∀ (a r : List UInt8), wdN (a ++ r) = a.length ↔ (a.all wdB = true ∧ wdH r = false)
  | [], r => by
    cases r with
    | nil => simp [wdN, spanL, wdH, wdB_zero]
    | cons c r =>
      simp only [List.nil_append, List.length_nil, List.all_nil, true_and]
      unfold wdN spanL wdS wdH
      cases hc : wdB c with
      | true => simp [hc]
      | false => simp [hc]
  | c :: a, r => by
    have ih := wd_all a r
    rw [List.cons_append, wdN, spanL, wdS]
    cases hc : wdB c with
    | true =>
      simp only [if_true, List.length_cons, List.all_cons, hc, Bool.true_and]
      rw [← ih]
      show wdN (a ++ r) + 1 = _ ↔ _
      omega
    | false => simp [hc]
theorem sg_not : ∀ c : UInt8, (wdB c = true ∨ c = 34 ∨ c = 45) → ¬ c ∈ sgL ∧ c ≠ 46 := all_u8 (by decide +kernel)
theorem let_not : ∀ c : UInt8, T1.letU (c.toNat : Int) = true → wdB c = true := all_u8 (by decide +kernel)
theorem dm_cases : ∀ c : UInt8, dmB c = true → wdB c = true ∨ c = 45 := all_u8 (by decide +kernel)
theorem quote_not : ∀ c : UInt8, c = 34 → T1.letU (c.toNat : Int) = false ∧ dmB c = false := all_u8 (by decide +kernel)
theorem dm_let : ∀ c : UInt8, dmB c = true → T1.letU (c.toNat : Int) = false := all_u8 (by decide +kernel)
theorem sep_not : ∀ c : UInt8, (c ∈ sgL ∨ c = 46 ∨ wdB c = true ∨ c = 45 ∨ c = 34) → sepS false c = none := all_u8 (by decide +kernel)
theorem sep_none (b : Bool) : ∀ c : UInt8, sepS b c = none → b = false := all_u8 (by cases b <;> decide +kernel)
theorem el_not {l : List UInt8} (h : l.getD 0 0 ≠ 46) : l.take 3 ≠ elL := by
  intro e
  cases l with
  | nil => cases e
  | cons c r => injection e with e1 _; exact h e1
/- The four ways to read a token. -/
theorem tok_sign {c : UInt8} {r : List UInt8} (h : c ∈ sgL) : tokR (c :: r) = .ok (1, [c], 1) := by
  unfold tokR; exact if_pos h
theorem tok_dots (r : List UInt8) : tokR (46 :: 46 :: 46 :: r) = .ok (1, elL, 3) := by
  unfold tokR
  have h : ¬ (46 : UInt8) ∈ sgL := by decide
  simp [h, elL]
theorem tok_name {l : List UInt8} (h : T1.letU ((l.getD 0 0).toNat : Int) = true) : tokR l = if T1.nameL (l.take (wdN l)) = true then .ok (2, l.take (wdN l), wdN l) else .error 3 := by
  have h1 := sg_not _ (.inl (let_not _ h))
  unfold tokR
  simp only
  rw [if_neg h1.1, if_neg (el_not h1.2), if_pos h]
theorem tok_int {l : List UInt8} (h : dmB (l.getD 0 0) = true) : tokR l = if (T1.numL (l.take (wdN (l.drop 1) + 1))).2 = 0 then .ok (3, l.take (wdN (l.drop 1) + 1), wdN (l.drop 1) + 1) else .error (T1.numL (l.take (wdN (l.drop 1) + 1))).2 := by
  have h0 := dm_let _ h
  have h1 := sg_not _ ((dm_cases _ h).elim .inl (fun x => .inr (.inr x)))
  unfold tokR
  simp only
  rw [if_neg h1.1, if_neg (el_not h1.2), if_neg (by rw [h0]; decide), if_pos h]
theorem tok_text (r : List UInt8) : tokR (34 :: r) = if r.length < ltN r + 1 then .error 3 else match T1.unquoteL (34 :: r.take (ltN r + 1)) with
      | none => .error 3
      | some t => .ok (4, t, ltN r + 2) := by
  have h1 := sg_not 34 (.inr (.inl rfl))
  have h2 := quote_not 34 rfl
  have e0 : (34 :: r).getD 0 0 = (34 : UInt8) := rfl
  unfold tokR
  simp only [e0, List.drop_one, List.tail_cons, List.length_cons]
  rw [if_neg h1.1, if_neg (el_not (by rw [e0]; exact h1.2)), if_neg (by rw [h2.1]; decide), if_neg (by rw [h2.2]; decide), if_pos trivial]
  by_cases hlt : r.length < ltN r + 1
  · rw [if_pos hlt, if_pos (by omega)]
  · rw [if_neg hlt, if_neg (by omega)]; rfl
/- A token that was read: what it is. -/
inductive TokIs : List UInt8 → Int → List UInt8 → Nat → Prop
  | sign {c : UInt8} {r : List UInt8} (h : c ∈ sgL) : TokIs (c :: r) 1 [c] 1
  | dots (r : List UInt8) : TokIs (46 :: 46 :: 46 :: r) 1 elL 3
  | name {l : List UInt8} (h : T1.letU ((l.getD 0 0).toNat : Int) = true) (hn : T1.nameL (l.take (wdN l)) = true) : TokIs l 2 (l.take (wdN l)) (wdN l)
  | int {l : List UInt8} (h : dmB (l.getD 0 0) = true) (hn : (T1.numL (l.take (wdN (l.drop 1) + 1))).2 = 0) : TokIs l 3 (l.take (wdN (l.drop 1) + 1)) (wdN (l.drop 1) + 1)
  | text {r t : List UInt8} (hl : ltN r + 1 ≤ r.length) (hu : T1.unquoteL (34 :: r.take (ltN r + 1)) = some t) : TokIs (34 :: r) 4 t (ltN r + 2)
theorem tok_is {l : List UInt8} {k : Int} {t : List UInt8} {n : Nat} (hl : l ≠ []) (h : tokR l = .ok (k, t, n)) : TokIs l k t n := by
  obtain ⟨c, r, rfl⟩ := List.exists_cons_of_ne_nil hl
  by_cases h1 : c ∈ sgL
  · rw [tok_sign h1] at h; cases h; exact .sign h1
  by_cases h2 : (c :: r).take 3 = elL
  · obtain ⟨r2, rfl, rfl⟩ : ∃ r2, c = 46 ∧ r = 46 :: 46 :: r2 := by
      match r, h2 with
      | a :: b :: r2, h2 =>
        have h2 : [c, a, b] = [46, 46, 46] := h2
        injection h2 with e1 h2
        injection h2 with e2 h2
        injection h2 with e3 h2
        subst e1 e2 e3
        exact ⟨r2, rfl, rfl⟩
      | [], h2 => cases h2
      | [a], h2 => cases h2
    rw [tok_dots] at h; cases h; exact .dots _
  by_cases h3 : T1.letU (((c :: r).getD 0 0).toNat : Int) = true
  · rw [tok_name h3] at h
    split at h
    · next hn => cases h; exact .name h3 hn
    · cases h
  by_cases h4 : dmB ((c :: r).getD 0 0) = true
  · rw [tok_int h4] at h
    split at h
    · next hn => cases h; exact .int h4 hn
    · cases h
  by_cases h5 : c = 34
  · subst h5
    rw [tok_text] at h
    split at h
    · cases h
    · next hlt =>
      split at h
      · cases h
      · next t' hu => cases h; exact .text (by omega) hu
  · unfold tokR at h
    simp only at h
    rw [if_neg (show ¬ (c :: r).getD 0 0 ∈ sgL from h1), if_neg h2, if_neg h3, if_neg h4, if_neg (show ¬ (c :: r).getD 0 0 = 34 from h5)] at h
    cases h
theorem TokIs.eq {l : List UInt8} {k : Int} {t : List UInt8} {n : Nat} (h : TokIs l k t n) : tokR l = .ok (k, t, n) := by
  cases h with
  | sign h => exact tok_sign h
  | dots r => exact tok_dots r
  | name h hn => rw [tok_name h, if_pos hn]
  | int h hn => rw [tok_int h, if_pos hn]
  | text hl hu => rw [tok_text, if_neg (by omega), hu]
end Go.Proofs.YtgicbmibhnnflaaGreatDoor
