
/-
  Where tokens stand, and what separators between them do.
-/
import Derived.Test.YtgicbmibhnnflaaGreatDoorKFact
namespace Go.Proofs.YtgicbmibhnnflaaGreatDoor
open Go.RowKit
theorem scF_succ (f at' : Nat) (l : List UInt8) : scF (f + 1) at' l = if l.drop (sepN l) = [] then .ok [(5, [], at' + sepN l)] else
      match tokR (l.drop (sepN l)) with
      | .error c => .error (at' + sepN l, c)
      | .ok (k, t, n) => match scF f (at' + sepN l + n) ((l.drop (sepN l)).drop n) with
        | .error e => .error e
        | .ok ts => .ok ((k, t, at' + sepN l) :: ts) := rfl
/- What a result without an error is made of. -/
theorem scF_ok {f at' : Nat} {l : List UInt8} {ts : List Tk} (h : scF (f + 1) at' l = .ok ts) :
    (l.drop (sepN l) = [] ∧ ts = [(5, [], at' + sepN l)]) ∨ ∃ k t n ts2, l.drop (sepN l) ≠ [] ∧ TokIs (l.drop (sepN l)) k t n ∧ scF f (at' + sepN l + n) ((l.drop (sepN l)).drop n) = .ok ts2 ∧ ts = (k, t, at' + sepN l) :: ts2 := by
  rw [scF_succ] at h
  by_cases he : l.drop (sepN l) = []
  · rw [if_pos he] at h; cases h; exact .inl ⟨he, rfl⟩
  · rw [if_neg he] at h
    cases ht : tokR (l.drop (sepN l)) with
    | error c => rw [ht] at h; cases h
    | ok p =>
      obtain ⟨k, t, n⟩ := p
      rw [ht] at h
      simp only at h
      cases hs : scF f (at' + sepN l + n) ((l.drop (sepN l)).drop n) with
      | error e => rw [hs] at h; cases h
      | ok ts2 => rw [hs] at h; cases h; exact .inr ⟨k, t, n, ts2, he, tok_is he ht, hs, rfl⟩
theorem TokIs.at {l : List UInt8} {k : Int} {t : List UInt8} {n : Nat} (h : TokIs l k t n) (hl : l ≠ []) : 1 ≤ n ∧ n ≤ l.length ∧ k ≠ 5 ∧ (k = 4 → l.getD 0 0 = 34) ∧ (k ≠ 4 → l.take n = t ∧ t.length = n) := by
  obtain ⟨h1, h2⟩ := tokR_len hl h.eq
  refine ⟨h1, h2, ?_⟩
  cases h with
  | sign h => exact ⟨by decide, fun h => absurd h (by decide), fun _ => ⟨rfl, rfl⟩⟩
  | dots r => exact ⟨by decide, fun h => absurd h (by decide), fun _ => ⟨rfl, rfl⟩⟩
  | name h hn => exact ⟨by decide, fun h => absurd h (by decide), fun _ => ⟨rfl, by rw [List.length_take]; omega⟩⟩
  | int h hn => exact ⟨by decide, fun h => absurd h (by decide), fun _ => ⟨rfl, by rw [List.length_take]; omega⟩⟩
  | text hl hu => exact ⟨by decide, fun _ => rfl, fun h => absurd rfl h⟩
/- What a token that is not the last one keeps. -/
structure PlaceOk (s : List UInt8) (lo : Nat) (p : Tk) : Prop where
  lo : lo ≤ p.2.2
  lt : p.2.2 < s.length
  kind : p.1 ≠ 5
  text : p.1 = 4 → s.getD p.2.2 0 = 34
  other : p.1 ≠ 4 → p.2.2 + p.2.1.length ≤ s.length ∧ (s.drop p.2.2).take p.2.1.length = p.2.1
theorem PlaceOk.mono {s : List UInt8} {a b : Nat} {p : Tk} (h : PlaceOk s b p) (hab : a ≤ b) : PlaceOk s a p := ⟨Nat.le_trans hab h.lo, h.lt, h.kind, h.text, h.other⟩
theorem getD_drop' (s : List UInt8) (i : Nat) : (s.drop i).getD 0 0 = s.getD i 0 := by
  simp [List.getD_eq_getElem?_getD, List.getElem?_drop]
theorem scF_places (s : List UInt8) : ∀ (f at' : Nat) (l : List UInt8) (ts : List Tk), scF f at' l = .ok ts → l = s.drop at' → at' ≤ s.length →
    ∃ ts0, ts = ts0 ++ [(5, [], s.length)] ∧ (∀ p ∈ ts0, PlaceOk s at' p) ∧ ts0.Pairwise (fun p q => p.2.2 < q.2.2)
  | 0, _, _, _, h, _, _ => by cases h
  | f + 1, at', l, ts, h, hl, ha => by
    have hsz : sepN l ≤ l.length := sepN_le l
    have hll : l.length = s.length - at' := by rw [hl, List.length_drop]
    rcases scF_ok h with ⟨he, rfl⟩ | ⟨k, t, n, ts2, he, ht, hs, rfl⟩
    · refine ⟨[], ?_, fun p hp => by simp at hp, List.Pairwise.nil⟩
      have h1 : (l.drop (sepN l)).length = 0 := by rw [he]; rfl
      rw [List.length_drop] at h1
      rw [show at' + sepN l = s.length by omega]; rfl
    · obtain ⟨h1, h2, h3, h4, h5⟩ := ht.at he
      rw [List.length_drop] at h2
      have hd : l.drop (sepN l) = s.drop (at' + sepN l) := by rw [hl, List.drop_drop, ← hl]
      obtain ⟨ts0, rfl, q1, q2⟩ := scF_places s f (at' + sepN l + n) ((l.drop (sepN l)).drop n) ts2 hs (by rw [hd, List.drop_drop]) (by omega)
      refine ⟨(k, t, at' + sepN l) :: ts0, rfl, ?_, ?_⟩
      · intro p hp
        rcases List.mem_cons.1 hp with rfl | hp
        · refine ⟨Nat.le_add_right _ _, by show at' + sepN l < s.length; omega, h3, fun h => ?_, fun h => ?_⟩
          · have := h4 h; rw [hd, getD_drop'] at this; exact this
          · obtain ⟨e1, e2⟩ := h5 h
            refine ⟨by show at' + sepN l + t.length ≤ s.length; omega, ?_⟩
            show (s.drop (at' + sepN l)).take t.length = t
            rw [← hd, e2]; exact e1
        · exact (q1 p hp).mono (by omega)
      · refine List.Pairwise.cons (fun q hq => ?_) q2
        have := (q1 q hq).lo
        show at' + sepN l < q.2.2
        omega
/- The same kinds and texts. -/
def alike (a b : List Tk) : Prop := a.map (fun p => (p.1, p.2.1)) = b.map (fun p => (p.1, p.2.1))
theorem alike_refl (a : List Tk) : alike a a := rfl
theorem alike_cons {k : Int} {t : List UInt8} {i j : Nat} {a b : List Tk} (h : alike a b) : alike ((k, t, i) :: a) ((k, t, j) :: b) := by unfold alike at *; simp [h]
theorem scF_shift : ∀ (f g a b : Nat) (l : List UInt8) (ts : List Tk), scF f a l = .ok ts → f ≤ g → ∃ ts2, scF g b l = .ok ts2 ∧ alike ts ts2
  | 0, _, _, _, _, _, h, _ => by cases h
  | f + 1, 0, _, _, _, _, _, hg => absurd hg (Nat.not_succ_le_zero _)
  | f + 1, g + 1, a, b, l, ts, h, hg => by
    rcases scF_ok h with ⟨he, rfl⟩ | ⟨k, t, n, ts2, he, ht, hs, rfl⟩
    · exact ⟨[(5, [], b + sepN l)], by rw [scF_succ, if_pos he], alike_cons rfl⟩
    · obtain ⟨ts3, e1, e2⟩ := scF_shift f g _ (b + sepN l + n) _ ts2 hs (Nat.le_of_succ_le_succ hg)
      exact ⟨(k, t, b + sepN l) :: ts3, by rw [scF_succ, if_neg he, ht.eq]; simp only [e1], alike_cons e2⟩
/- A token stays as it is when something else follows it that begins in the same way, or with no part of a word. -/
theorem tok_ext {w r r' : List UInt8} {k : Int} {t : List UInt8} (hw : w ≠ []) (h : TokIs (w ++ r) k t w.length) (hr : wdH r' = false ∨ wdH r' = wdH r) : TokIs (w ++ r') k t w.length := by
  obtain ⟨c, u, rfl⟩ := List.exists_cons_of_ne_nil hw
  have hhead : ∀ x : List UInt8, ((c :: u) ++ x).getD 0 0 = c := fun _ => rfl
  generalize hl : (c :: u) ++ r = l at h
  generalize hn : (c :: u).length = n at h
  cases h with
  | @sign d r2 h =>
    have hu : u = [] := by rw [List.length_cons] at hn; exact List.eq_nil_of_length_eq_zero (by omega)
    subst hu
    cases hl
    rw [← hn]; exact .sign h
  | dots r2 =>
    match u, hn with
    | [a, b], _ => cases hl; exact .dots _
  | name h hnm =>
    subst hl
    have hlen : wdN (c :: u ++ r) = (c :: u).length := hn.symm
    obtain ⟨q1, q2⟩ := (wd_all (c :: u) r).1 hlen
    have h3 : wdN (c :: u ++ r') = (c :: u).length := (wd_all (c :: u) r').2 ⟨q1, hr.elim id (fun e => e.trans q2)⟩
    have e1 : (c :: u ++ r).take (wdN (c :: u ++ r)) = c :: u := by rw [hlen, List.take_left]
    have e2 : (c :: u ++ r').take (wdN (c :: u ++ r')) = c :: u := by rw [h3, List.take_left]
    rw [e1] at hnm ⊢
    have := TokIs.name (l := c :: u ++ r') h (by rw [e2]; exact hnm)
    rw [e2, h3] at this
    rw [hlen]
    exact this
  | int h hnm =>
    subst hl
    have hlen : wdN (u ++ r) = u.length := by rw [List.length_cons] at hn; exact Nat.succ.inj hn.symm
    obtain ⟨q1, q2⟩ := (wd_all u r).1 hlen
    have h3 : wdN (u ++ r') = u.length := (wd_all u r').2 ⟨q1, hr.elim id (fun e => e.trans q2)⟩
    have e1 : (c :: u ++ r).take (wdN ((c :: u ++ r).drop 1) + 1) = c :: u := by
      show (c :: (u ++ r)).take (wdN (u ++ r) + 1) = _
      rw [hlen, List.take_succ_cons, List.take_left]
    have e2 : (c :: u ++ r').take (wdN ((c :: u ++ r').drop 1) + 1) = c :: u := by
      show (c :: (u ++ r')).take (wdN (u ++ r') + 1) = _
      rw [h3, List.take_succ_cons, List.take_left]
    rw [e1] at hnm ⊢
    have := TokIs.int (l := c :: u ++ r') h (by rw [e2]; exact hnm)
    rw [e2] at this
    have e3 : wdN ((c :: u ++ r').drop 1) + 1 = wdN ((c :: u ++ r).drop 1) + 1 := by
      show wdN (u ++ r') + 1 = wdN (u ++ r) + 1
      rw [h3, hlen]
    rw [e3] at this
    exact this
  | @text r2 t hlt hu =>
    have hl : c :: (u ++ r) = 34 :: r2 := hl
    injection hl with e1 e2
    subst e1
    subst e2
    have hlen : ltN (u ++ r) + 1 = u.length := by rw [List.length_cons] at hn; omega
    have h3 : ltN (u ++ r') = ltN (u ++ r) := spanL_cut u false r r' (by unfold ltN at hlen; omega)
    have e1 : (u ++ r).take (ltN (u ++ r) + 1) = u := by rw [hlen, List.take_left]
    have e2 : (u ++ r').take (ltN (u ++ r') + 1) = u := by rw [h3, hlen, List.take_left]
    have := TokIs.text (r := u ++ r') (t := t) (by rw [h3, hlen, List.length_append]; omega) (by rw [e2]; rw [e1] at hu; exact hu)
    rw [h3] at this
    exact this
/- Separators at a token's place leave the tokens alone. -/
theorem sep_state {l : List UInt8} (hne : l.drop (sepN l) ≠ []) : runL sepS false (l.take (sepN l)) = some false ∧ sepN (l.drop (sepN l)) = 0 := by
  obtain ⟨st2, h1, h2⟩ := spanL_end (step := sepS) l false
  obtain ⟨c, r, hc⟩ := List.exists_cons_of_ne_nil hne
  have h3 := h2 c r hc
  have h4 := sep_none st2 c h3
  subst h4
  refine ⟨h1, ?_⟩
  rw [hc]
  unfold sepN spanL
  rw [h3]
theorem sep_in {a : List UInt8} {b : Bool} (ins : List UInt8) (h : runL sepS false a = some b) (hi : ∀ b, runL sepS b ins = some false) (r : List UInt8) : sepN (a ++ ins ++ r) = a.length + ins.length + sepN r := by
  unfold sepN
  rw [List.append_assoc, spanL_run a false b _ h, spanL_run ins b false _ (hi b)]; omega
theorem scF_ge : ∀ (f a : Nat) (l : List UInt8) (ts : List Tk) (q : Nat) (p : Tk), scF f a l = .ok ts → ts[q]? = some p → a ≤ p.2.2 ∧ p.2.2 ≤ a + l.length
  | 0, _, _, _, _, _, h, _ => by cases h
  | f + 1, a, l, ts, q, p, h, hq => by
    have hsz : sepN l ≤ l.length := sepN_le l
    rcases scF_ok h with ⟨he, rfl⟩ | ⟨k, t, n, ts2, he, ht, hs, rfl⟩
    · have hq0 : q = 0 := by
        have := (List.getElem?_eq_some_iff.1 hq).1; simp at this; exact this
      subst hq0
      cases hq
      exact ⟨Nat.le_add_right _ _, by show a + sepN l ≤ _; omega⟩
    · obtain ⟨h1, h2, h3, h4, h5⟩ := ht.at he
      have hln : (l.drop (sepN l)).length = l.length - sepN l := List.length_drop
      cases q with
      | zero => cases hq; exact ⟨Nat.le_add_right _ _, by show a + sepN l ≤ _; omega⟩
      | succ q =>
        obtain ⟨g1, g2⟩ := scF_ge f _ _ ts2 q p hs (by simpa using hq)
        rw [List.length_drop, hln] at g2
        omega
theorem scF_seps (ins : List UInt8) (hi : ∀ b, runL sepS b ins = some false) (hw : ∀ r, wdH (ins ++ r) = false) : ∀ (f a b : Nat) (u v : List UInt8) (ts : List Tk) (q : Nat) (p : Tk), scF f a (u ++ v) = .ok ts → ts[q]? = some p →
    p.2.2 = a + u.length → ∃ ts2, scF f b (u ++ ins ++ v) = .ok ts2 ∧ alike ts ts2
  | 0, _, _, _, _, _, _, _, h, _, _ => by cases h
  | f + 1, a, b, u, v, ts, q, p, h, hq, hp => by
    have hsz : sepN (u ++ v) ≤ (u ++ v).length := sepN_le _
    obtain ⟨st, hrun, hend⟩ := spanL_end (step := sepS) (u ++ v) false
    have hrun : runL sepS false ((u ++ v).take (sepN (u ++ v))) = some st := hrun
    rcases scF_ok h with ⟨he, rfl⟩ | ⟨k, t, n, ts2, he, ht, hs, rfl⟩
    · have hq0 : q = 0 := by
        have := (List.getElem?_eq_some_iff.1 hq).1; simp at this; exact this
      subst hq0
      cases hq
      have h0 : (u ++ v).length ≤ sepN (u ++ v) := by
        have : ((u ++ v).drop (sepN (u ++ v))).length = 0 := by rw [he]; rfl
        rw [List.length_drop] at this; omega
      have hp : a + sepN (u ++ v) = a + u.length := hp
      rw [List.length_append] at h0 hsz
      have hv : v = [] := List.eq_nil_of_length_eq_zero (by omega)
      subst hv
      rw [List.append_nil] at hrun hp
      rw [show sepN u = u.length by omega, List.take_length] at hrun
      have hn := sep_in ins hrun hi []
      have hz : sepN (u ++ ins ++ []) = (u ++ ins ++ []).length := by rw [hn]; simp [sepN, spanL]
      refine ⟨[(5, [], b + sepN (u ++ ins ++ []))], ?_, alike_cons rfl⟩
      rw [scF_succ, if_pos (by rw [hz, List.drop_length])]
    · obtain ⟨hst, hz⟩ := sep_state he
      obtain ⟨h1, h2, h3, h4, h5⟩ := ht.at he
      have htl : ((u ++ v).take (sepN (u ++ v))).length = sepN (u ++ v) := by rw [List.length_take]; omega
      cases q with
      | zero =>
        cases hq
        have hp : a + sepN (u ++ v) = a + u.length := hp
        have hu : sepN (u ++ v) = u.length := by omega
        rw [hu, List.take_left] at hst
        rw [hu, List.drop_left] at hz he ht hs
        have hn := sep_in ins hst hi v
        rw [hz, Nat.add_zero] at hn
        have hd : (u ++ ins ++ v).drop (sepN (u ++ ins ++ v)) = v := by rw [hn, ← List.length_append, List.drop_left]
        obtain ⟨ts3, e1, e2⟩ := scF_shift f f _ (b + sepN (u ++ ins ++ v) + n) _ ts2 hs (Nat.le_refl _)
        refine ⟨(k, t, b + sepN (u ++ ins ++ v)) :: ts3, ?_, alike_cons e2⟩
        rw [scF_succ, hd, if_neg he, ht.eq]
        simp only [e1]
      | succ q =>
        have hq2 : ts2[q]? = some p := by simpa using hq
        have hge := (scF_ge f _ _ ts2 q p hs hq2).1
        generalize hA : (u ++ v).take (sepN (u ++ v)) = A at hst htl
        generalize hR : (u ++ v).drop (sepN (u ++ v)) = R at *
        have hAR : u ++ v = A ++ R := by rw [← hA, ← hR, List.take_append_drop]
        generalize sepN (u ++ v) = m at *
        have hRW : R = R.take n ++ R.drop n := (List.take_append_drop n R).symm
        have hWl : (R.take n).length = n := by rw [List.length_take]; omega
        generalize R.take n = W at *
        generalize R.drop n = R2 at *
        have hlen : A.length + W.length ≤ u.length := by omega
        have hu : u = A ++ W ++ u.drop (A.length + W.length) := by
          have e : (u ++ v).take (A.length + W.length) = A ++ W := by rw [hAR, hRW, ← List.append_assoc, ← List.length_append, List.take_left]
          rw [List.take_append_of_le_length hlen] at e
          rw [← e, List.take_append_drop]
        generalize hu2 : u.drop (A.length + W.length) = u2 at hu
        have hR2 : R2 = u2 ++ v := by
          have e : A ++ W ++ u2 ++ v = A ++ W ++ R2 := by rw [← hu, hAR, hRW, List.append_assoc]
          rw [List.append_assoc (A ++ W)] at e
          exact (List.append_cancel_left e).symm
        have hul : u.length = A.length + W.length + u2.length := by rw [hu, List.length_append, List.length_append]
        subst hR2
        have hWne : W ≠ [] := fun e => by rw [e] at hWl; simp at hWl; omega
        -- the token stays
        have ht2 : TokIs (W ++ (u2 ++ ins ++ v)) k t n := by
          rw [hRW, ← hWl] at ht
          have := tok_ext hWne ht (r' := u2 ++ ins ++ v) (by
            cases u2 with
            | nil => exact .inl (by rw [List.nil_append]; exact hw v)
            | cons d u3 => exact .inr rfl)
          rw [hWl] at this
          exact this
        have hs0 : sepN (A ++ (W ++ (u2 ++ ins ++ v))) = A.length := by
          unfold sepN at hz ⊢
          rw [spanL_run A false false _ hst]
          obtain ⟨c, W2, hc⟩ := List.exists_cons_of_ne_nil hWne
          rw [hRW, hc] at hz
          rw [hc]
          rw [List.cons_append, spanL] at hz ⊢
          cases hx : sepS false c with
          | none => rfl
          | some s3 => rw [hx] at hz; exact absurd hz (Nat.succ_ne_zero _)
        obtain ⟨ts3, e1, e2⟩ := scF_seps ins hi hw f (a + m + n) (b + A.length + n) u2 v ts2 q p hs hq2 (by omega)
        have he2 : u ++ ins ++ v = A ++ (W ++ (u2 ++ ins ++ v)) := by rw [hu]; simp [List.append_assoc]
        refine ⟨(k, t, b + A.length) :: ts3, ?_, alike_cons e2⟩
        rw [he2, scF_succ, hs0, List.drop_left, if_neg (by
          obtain ⟨c, W2, hc⟩ := List.exists_cons_of_ne_nil hWne
          rw [hc]; simp), ht2.eq]
        simp only
        rw [← hWl, List.drop_left, hWl, e1]
end Go.Proofs.YtgicbmibhnnflaaGreatDoor
