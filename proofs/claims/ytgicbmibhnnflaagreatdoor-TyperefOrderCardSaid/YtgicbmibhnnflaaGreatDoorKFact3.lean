
/-
  Printed tokens are read as they were.
-/
import Derived.Test.YtgicbmibhnnflaaGreatDoorKFact2
import Derived.Test.YtgicbmibhnnflaaGreatDoorNumPlain
namespace Go.Proofs.YtgicbmibhnnflaaGreatDoor
open Go.RowKit
/- The text of a token. -/
def wordK (p : Tk) : List UInt8 := if p.1 = 4 then T1.quoteL p.2.1 else p.2.1
/- What a token of a document is, apart from its place. -/
inductive GoodK : Int → List UInt8 → Prop
  | sign {c : UInt8} (h : c ∈ sgL) : GoodK 1 [c]
  | dots : GoodK 1 elL
  | name {t : List UInt8} (h : T1.nameL t = true) : GoodK 2 t
  | int {t : List UInt8} (h : (T1.numL t).2 = 0) : GoodK 3 t
  | text (t : List UInt8) : GoodK 4 t
theorem TokIs.good {l : List UInt8} {k : Int} {t : List UInt8} {n : Nat} (h : TokIs l k t n) : GoodK k t := by
  cases h with
  | sign h => exact .sign h
  | dots r => exact .dots
  | name h hn => exact .name hn
  | int h hn => exact .int hn
  | text hl hu => exact .text _
theorem name_parts {t : List UInt8} (h : T1.nameL t = true) : ∃ c u, t = c :: u ∧ T1.letU (c.toNat : Int) = true ∧ t.all wdB = true := by
  unfold T1.nameL at h
  cases t with
  | nil => simp at h
  | cons c u =>
    simp only [Bool.and_eq_true, Bool.not_eq_true'] at h
    obtain ⟨⟨_, hd⟩, ha⟩ := h
    have hd : T1.digB (c.toNat : Int) = false := hd
    have h1 : (c :: u).all wdB = true := ha
    refine ⟨c, u, rfl, ?_, h1⟩
    rw [List.all_cons, Bool.and_eq_true] at h1
    have h2 : T1.nmB (c.toNat : Int) = true := h1.1
    rw [T1.nm_of, hd, Bool.or_false] at h2
    exact h2
theorem dig_wd : ∀ c : UInt8, T1.digB (c.toNat : Int) = true → wdB c = true ∧ dmB c = true := all_u8 (by decide +kernel)
theorem digs_wd {t : List UInt8} (h : T1.allDg t = true) : t.all wdB = true := by
  unfold T1.allDg at h
  rw [List.all_eq_true] at h ⊢
  exact fun c hc => (dig_wd c (h c hc)).1
theorem int_parts {t : List UInt8} (h : (T1.numL t).2 = 0) : ∃ c u, t = c :: u ∧ dmB c = true ∧ u.all wdB = true := by
  have hd : T1.decL t = true := by
    cases hx : T1.decL t with
    | true => rfl
    | false => rw [T1.num_form hx] at h; cases h
  rcases T1.dec_parts hd with rfl | ⟨d, hne, _, hdg, rfl | rfl, _⟩
  · exact ⟨48, [], rfl, by decide, rfl⟩
  · obtain ⟨c, u, rfl⟩ := List.exists_cons_of_ne_nil hne
    have h2 := T1.allDg_cons.1 hdg
    exact ⟨c, u, rfl, (dig_wd c h2.1).2, digs_wd h2.2⟩
  · exact ⟨45, d, rfl, by decide, digs_wd hdg⟩
theorem esc_run : ∀ c : UInt8, runL ltS false (T1.escL c) = some false := all_u8 (by decide +kernel)
theorem flat_run : ∀ t : List UInt8, runL ltS false (t.flatMap T1.escL) = some false
  | [] => rfl
  | c :: t => by rw [List.flatMap_cons, runL_app _ _ _ _ (esc_run c)]; exact flat_run t
theorem lt_quote (t r : List UInt8) : ltN (t.flatMap T1.escL ++ 34 :: r) = (t.flatMap T1.escL).length := by
  unfold ltN
  rw [spanL_run _ _ _ _ (flat_run t)]
  rfl
/- A token's text is read as the token, whatever follows that goes on with no word. -/
theorem tok_word {k : Int} {t : List UInt8} (j : Nat) (h : GoodK k t) (r : List UInt8) (hr : wdH r = false) : TokIs (wordK (k, t, j) ++ r) k t (wordK (k, t, j)).length := by
  cases h with
  | sign h => exact .sign h
  | dots => exact .dots r
  | name h =>
    obtain ⟨c, u, rfl, hc, ha⟩ := name_parts h
    have e := (wd_all (c :: u) r).2 ⟨ha, hr⟩
    have e2 : (c :: u ++ r).take (wdN (c :: u ++ r)) = c :: u := by rw [e, List.take_left]
    have := TokIs.name (l := c :: u ++ r) hc (by rw [e2]; exact h)
    rw [e2, e] at this
    exact this
  | int h =>
    obtain ⟨c, u, rfl, hc, ha⟩ := int_parts h
    have e := (wd_all u r).2 ⟨ha, hr⟩
    have e2 : (c :: u ++ r).take (wdN ((c :: u ++ r).drop 1) + 1) = c :: u := by
      show (c :: (u ++ r)).take (wdN (u ++ r) + 1) = _
      rw [e, List.take_succ_cons, List.take_left]
    have := TokIs.int (l := c :: u ++ r) hc (by rw [e2]; exact h)
    rw [e2] at this
    have e3 : wdN ((c :: u ++ r).drop 1) + 1 = (c :: u).length := by
      show wdN (u ++ r) + 1 = _
      rw [e]; rfl
    rw [e3] at this
    exact this
  | text t =>
    have ew : wordK (4, t, j) = 34 :: (t.flatMap T1.escL ++ [34]) := rfl
    have el : ltN (t.flatMap T1.escL ++ [34] ++ r) = (t.flatMap T1.escL).length := by rw [List.append_assoc]; exact lt_quote t r
    have e2 : (t.flatMap T1.escL ++ [34] ++ r).take (ltN (t.flatMap T1.escL ++ [34] ++ r) + 1) = t.flatMap T1.escL ++ [34] := by
      rw [el]
      have : (t.flatMap T1.escL).length + 1 = (t.flatMap T1.escL ++ [34]).length := by simp
      rw [this, List.take_left]
    have := TokIs.text (r := t.flatMap T1.escL ++ [34] ++ r) (t := t) (by rw [el]; simp) (by rw [e2]; exact T1.unquote_quote t)
    rw [el] at this
    rw [ew]
    have hn : (34 :: (t.flatMap T1.escL ++ [34])).length = (t.flatMap T1.escL).length + 2 := by simp
    rw [hn]
    exact this
theorem word_head {k : Int} {t : List UInt8} (j : Nat) (h : GoodK k t) : ∃ c u, wordK (k, t, j) = c :: u ∧ sepS false c = none := by
  cases h with
  | sign h => exact ⟨_, [], rfl, sep_not _ (.inl h)⟩
  | dots => exact ⟨_, _, rfl, sep_not _ (.inr (.inl rfl))⟩
  | name h =>
    obtain ⟨c, u, rfl, hc, ha⟩ := name_parts h
    exact ⟨c, u, rfl, sep_not _ (.inr (.inr (.inl (let_not _ hc))))⟩
  | int h =>
    obtain ⟨c, u, rfl, hc, ha⟩ := int_parts h
    exact ⟨c, u, rfl, sep_not _ ((dm_cases _ hc).elim (fun h => .inr (.inr (.inl h))) (fun h => .inr (.inr (.inr (.inl h)))))⟩
  | text t => exact ⟨34, _, rfl, sep_not _ (.inr (.inr (.inr (.inr rfl))))⟩
/- The rest of printed tokens: each behind a space. -/
def tailK : List Tk → List UInt8
  | [] => []
  | p :: r => 32 :: (wordK p ++ tailK r)
def joinK : List Tk → List UInt8
  | [] => []
  | p :: r => wordK p ++ tailK r
theorem tail_head (ps : List Tk) : wdH (tailK ps) = false := by
  cases ps with
  | nil => exact wdB_zero
  | cons p r => exact (by decide : wdB 32 = false)
theorem scan_one {k : Int} {t : List UInt8} {j : Nat} (hg : GoodK k t) (pre : List UInt8) (hp : pre = [] ∨ pre = [32]) (r : List UInt8) (hr : wdH r = false) (f b : Nat) (ts : List Tk) (h : scF f (b + pre.length + (wordK (k, t, j)).length) r = .ok ts) :
    scF (f + 1) b (pre ++ (wordK (k, t, j) ++ r)) = .ok ((k, t, b + pre.length) :: ts) := by
  obtain ⟨c, u, hc, hs⟩ := word_head j hg
  have ht := tok_word j hg r hr
  have h0 : spanL sepS false (wordK (k, t, j) ++ r) = 0 := by
    rw [hc, List.cons_append, spanL, hs]
  have hn : sepN (pre ++ (wordK (k, t, j) ++ r)) = pre.length := by
    unfold sepN
    rw [spanL_run pre false false _ (by rcases hp with rfl | rfl <;> rfl), h0]; rfl
  rw [scF_succ, hn, List.drop_left, if_neg (by rw [hc]; simp), ht.eq]
  simp only
  rw [List.drop_left, h]
theorem scan_tail : ∀ (ps : List Tk) (f b : Nat), (∀ p ∈ ps, GoodK p.1 p.2.1) → ps.length < f → ∃ ts j, scF f b (tailK ps) = .ok ts ∧ alike (ps ++ [(5, [], j)]) ts
  | _, 0, _, _, h => absurd h (Nat.not_lt_zero _)
  | [], f + 1, b, _, _ => ⟨[(5, [], b)], b, rfl, rfl⟩
  | (k, t, j) :: ps, f + 1, b, hg, h => by
    obtain ⟨ts, e, h1, h2⟩ := scan_tail ps f (b + 1 + (wordK (k, t, j)).length) (fun p hp => hg p (List.mem_cons_of_mem _ hp)) (Nat.lt_of_succ_lt_succ h)
    exact ⟨_, e, scan_one (hg _ (List.mem_cons_self)) [32] (.inr rfl) (tailK ps) (tail_head ps) f b ts h1, alike_cons h2⟩
theorem scan_join (ps : List Tk) (f b : Nat) (hg : ∀ p ∈ ps, GoodK p.1 p.2.1) (h : ps.length < f) : ∃ ts j, scF f b (joinK ps) = .ok ts ∧ alike (ps ++ [(5, [], j)]) ts := by
  cases ps with
  | nil => exact scan_tail [] f b hg h
  | cons p ps =>
    obtain ⟨k, t, j⟩ := p
    cases f with
    | zero => exact absurd h (Nat.not_lt_zero _)
    | succ f =>
      obtain ⟨ts, e, h1, h2⟩ := scan_tail ps f (b + 0 + (wordK (k, t, j)).length) (fun p hp => hg p (List.mem_cons_of_mem _ hp)) (Nat.lt_of_succ_lt_succ h)
      exact ⟨_, e, scan_one (hg _ (List.mem_cons_self)) [] (.inl rfl) (tailK ps) (tail_head ps) f b ts h1, alike_cons h2⟩
/- How long printed tokens are. -/
theorem unqF_le : ∀ (f : Nat) (l t : List UInt8), T1.unqF f l = some t → t.length ≤ l.length
  | 0, l, t, h => by
    unfold T1.unqF at h
    split at h
    · cases h; exact Nat.zero_le _
    · cases h
  | f + 1, l, t, h => by
    unfold T1.unqF at h
    split at h
    · cases h; exact Nat.zero_le _
    · cases hs : T1.stepL l with
      | none => rw [hs] at h; cases h
      | some p =>
        obtain ⟨b, k⟩ := p
        rw [hs] at h
        have hk := T1.stepL_len hs
        simp only at h
        cases hr : T1.unqF f (l.drop k) with
        | none => rw [hr] at h; cases h
        | some t2 =>
          rw [hr] at h
          cases h
          have := unqF_le f _ _ hr
          rw [List.length_drop] at this
          show t2.length + 1 ≤ _
          omega
theorem unquote_le {l t : List UInt8} (h : T1.unquoteL l = some t) : t.length + 2 ≤ l.length := by
  unfold T1.unquoteL at h
  split at h
  · next h2 =>
    have := unqF_le _ _ _ h
    unfold T1.midL at this
    rw [List.length_take, List.length_drop] at this
    omega
  · cases h
theorem word_len {l : List UInt8} {k : Int} {t : List UInt8} {n : Nat} (j : Nat) (h : TokIs l k t n) (hl : l ≠ []) : (wordK (k, t, j)).length ≤ 6 * n := by
  have hn := (h.at hl).2.2.2.2
  have h1 := (h.at hl).1
  by_cases h4 : k = 4
  · subst h4
    cases h with
    | @text r t hlt hu =>
      have h2 := unquote_le hu
      rw [List.length_cons, List.length_take] at h2
      have h3 := T1.flat_len t
      show (T1.quoteL t).length ≤ _
      unfold T1.quoteL
      simp only [List.length_cons, List.length_append, List.length_nil]
      omega
  · have e : wordK (k, t, j) = t := if_neg h4
    rw [e, (hn h4).2]; omega
theorem tail_len : ∀ (f a : Nat) (l : List UInt8) (ts : List Tk) (ps : List Tk) (x : Tk), scF f a l = .ok ts → ts = ps ++ [x] → (tailK ps).length ≤ 7 * l.length ∧ ps.length ≤ l.length ∧ (∀ p ∈ ps, GoodK p.1 p.2.1)
  | 0, _, _, _, _, _, h, _ => by cases h
  | f + 1, a, l, ts, ps, x, h, hp => by
    have hsz : sepN l ≤ l.length := sepN_le l
    rcases scF_ok h with ⟨he, rfl⟩ | ⟨k, t, n, ts2, he, ht, hs, rfl⟩
    · have : ps = [] := by
        cases ps with
        | nil => rfl
        | cons q ps => have := congrArg List.length hp; simp at this
      subst this
      exact ⟨Nat.zero_le _, Nat.zero_le _, fun p hp => by simp at hp⟩
    · cases ps with
      | nil => exact ⟨Nat.zero_le _, Nat.zero_le _, fun p hp => by simp at hp⟩
      | cons p ps =>
        injection hp with e1 e2
        subst e1
        obtain ⟨g1, g2, g3⟩ := tail_len f _ _ ts2 ps x hs e2
        have hn := (ht.at he).1
        have hn2 := (ht.at he).2.1
        have hw := word_len (a + sepN l) ht he
        rw [List.length_drop, List.length_drop] at g1 g2
        rw [List.length_drop] at hn2
        refine ⟨?_, ?_, ?_⟩
        · show (32 :: (wordK (k, t, a + sepN l) ++ tailK ps)).length ≤ _
          rw [List.length_cons, List.length_append]; omega
        · rw [List.length_cons]; omega
        · intro q hq
          rcases List.mem_cons.1 hq with rfl | hq
          · exact ht.good
          · exact g3 q hq
theorem join_le (ps : List Tk) : (joinK ps).length ≤ (tailK ps).length := by
  cases ps with
  | nil => exact Nat.le_refl _
  | cons p r => show (wordK p ++ tailK r).length ≤ (32 :: (wordK p ++ tailK r)).length; rw [List.length_cons]; omega
/- Printed tokens are read as they were. -/
theorem scan_print {l : List UInt8} {ts : List Tk} (hl : l.length ≤ 2000) (h : scR l = .ok ts) : ∃ ps, ts = ps ++ [(5, [], l.length)] ∧ (∀ p ∈ ps, p.1 ≠ 5) ∧ (joinK ps).length ≤ 14000 ∧ ∃ ts2, scR (joinK ps) = .ok ts2 ∧ alike ts ts2 := by
  unfold scR at h
  rw [if_neg (by omega)] at h
  obtain ⟨ps, rfl, h1, _⟩ := scF_places l _ 0 l ts h rfl (Nat.zero_le _)
  obtain ⟨g1, g2, g3⟩ := tail_len _ _ _ _ ps _ h rfl
  have g4 := join_le ps
  have hlen : ps.length ≤ (joinK ps).length := by
    have : ∀ qs : List Tk, qs.length ≤ (tailK qs).length := by
      intro qs
      induction qs with
      | nil => exact Nat.le_refl _
      | cons q qs ih => show qs.length + 1 ≤ (32 :: (wordK q ++ tailK qs)).length; rw [List.length_cons, List.length_append]; omega
    cases ps with
    | nil => exact Nat.zero_le _
    | cons p r =>
      obtain ⟨c, u, hc, _⟩ := word_head p.2.2 (g3 p List.mem_cons_self)
      have hc : wordK p = c :: u := hc
      show r.length + 1 ≤ (wordK p ++ tailK r).length
      rw [hc, List.length_append, List.length_cons]
      have := this r
      omega
  obtain ⟨ts2, j, e1, e2⟩ := scan_join ps ((joinK ps).length + 1) 0 g3 (by omega)
  refine ⟨ps, rfl, fun p hp => (h1 p hp).kind, by omega, ts2, ?_, ?_⟩
  · unfold scR; rw [if_neg (by omega)]; exact e1
  · unfold alike at *; rw [← e2]; simp
end Go.Proofs.YtgicbmibhnnflaaGreatDoor
