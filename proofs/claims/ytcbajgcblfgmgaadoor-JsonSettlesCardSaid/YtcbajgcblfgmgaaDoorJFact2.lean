
/-
  How printed numbers and rows of elements are read, whole or cut short.
-/
import Derived.Test.YtcbajgcblfgmgaaDoorUQuote
namespace Go.Proofs.YtcbajgcblfgmgaaDoor
open Go.RowKit
section
variable {s : ByteArray} {L : List UInt8} {m : Nat}
theorem sk_at (h : Cut s L m) {set : List UInt8} (h0 : isIn set 0 = false) {i : Nat} (hc : ∀ c r, L.drop i = c :: r → isIn set c = false) : sk set s i = i := by
  refine sk_out ?_
  rcases Nat.lt_or_ge i m with hlt | hge
  · have hl : i < L.length := Nat.lt_of_lt_of_le hlt h.le
    have hd : L.drop i = L[i] :: L.drop (i + 1) := List.drop_eq_getElem_cons hl
    rw [h.at hd hlt]; exact hc _ _ hd
  · rw [h.out hge]; exact h0
theorem zero_not {set : List UInt8} (h0 : isIn set 0 = false) : (0 : UInt8) ∉ set := by
  intro hm; rw [isIn_eq, decide_eq_true hm] at h0; cases h0
theorem sk_cut (h : Cut s L m) {set : List UInt8} (h0 : isIn set 0 = false) : ∀ (d : List UInt8) (i : Nat) (r : List UInt8), L.drop i = d ++ r → (∀ c ∈ d, isIn set c = true) → (∀ c r', r = c :: r' → isIn set c = false) → i ≤ m → sk set s i = min (i + d.length) m
  | [], i, r, hd, _, hr, hi => by
    rw [sk_at h h0 (fun c r' e => hr c r' (by rw [← e]; exact hd.symm))]
    simp; omega
  | c :: d, i, r, hd, hs, hr, hi => by
    rcases Nat.lt_or_ge i m with hlt | hge
    · rw [sk_in (zero_not h0) (by rw [h.at hd hlt]; exact hs c (by simp)), sk_cut h h0 d (i + 1) r (drop_next hd) (fun x hx => hs x (by simp [hx])) hr hlt, List.length_cons]
      omega
    · obtain rfl : i = m := by omega
      rw [sk_out (by rw [h.out (Nat.le_refl _)]; exact h0), List.length_cons]
      omega
/- What may follow a value. -/
def StopL (r : List UInt8) : Prop := ∀ c r', r = c :: r' → c = 44 ∨ c = 93 ∨ c = 125
theorem StopL.nil : StopL [] := fun _ _ h => by cases h
theorem StopL.cons {c : UInt8} (r : List UInt8) (h : c = 44 ∨ c = 93 ∨ c = 125) : StopL (c :: r) := fun _ _ e => by injection e with e1 _; subst e1; exact h
theorem stop_not : ∀ c : UInt8, (c = 44 ∨ c = 93 ∨ c = 125) → isIn dgL c = false ∧ isIn spL c = false := all_u8 (by decide +kernel)
theorem sp_zero : isIn spL 0 = false := by decide
theorem dg_zero : isIn dgL 0 = false := by decide
theorem sk_stop (h : Cut s L m) {i : Nat} {r : List UInt8} (hd : L.drop i = r) (hr : StopL r) : sk spL s i = i :=
  sk_at h sp_zero fun c r' e => (stop_not c (hr c r' (hd.symm.trans e))).2
theorem dg_is : ∀ c : UInt8, isIn dgL c = T1.digB (c.toNat : Int) := all_u8 (by decide +kernel)
theorem dn_is : ∀ c : UInt8, isIn dnL c = (T1.digB (c.toNat : Int) && decide (c ≠ 48)) := all_u8 (by decide +kernel)
theorem dg_not : ∀ c : UInt8, T1.digB (c.toNat : Int) = true → c ≠ 45 := all_u8 (by decide +kernel)
theorem sub_min (h : Cut s L m) {i k : Nat} {a r : List UInt8} (hd : L.drop i = a ++ r) (h1 : i ≤ k) (hm : k ≤ m) (hk : k ≤ i + a.length) : sub s i k = a.take (k - i) := by
  unfold sub
  rw [h.eq, List.drop_take, hd, List.take_take, Nat.min_eq_left (by omega), List.take_append_of_le_length (by omega)]
theorem canon_take {d : List UInt8} (h : T1.Canon d) {k : Nat} (hk : 1 ≤ k) : T1.Canon (d.take k) := by
  obtain ⟨h0, h1, h2⟩ := h
  obtain ⟨c, r, rfl⟩ := List.exists_cons_of_ne_nil h0
  obtain ⟨j, rfl⟩ : ∃ j, k = j + 1 := ⟨k - 1, by omega⟩
  refine ⟨by simp, ?_, ?_⟩
  · unfold T1.allDg at *
    rw [List.all_eq_true] at *
    exact fun x hx => h1 x (List.mem_of_mem_take hx)
  · intro e
    have e : (c :: r).getD 0 0 = 48 := e
    have := h2 e
    rw [this]; simp
theorem val_take (d : List UInt8) (k : Nat) : T1.val (d.take k) ≤ T1.val d := by
  unfold T1.val
  conv => rhs; rw [← List.take_append_drop k d]
  unfold T1.valF
  rw [List.foldl_append]
  exact T1.valF_ge _ _
theorem digits_cut (h : Cut s L m) {j : Nat} {d r : List UInt8} (hc : T1.Canon d) (hd : L.drop j = d ++ r) (hr : StopL r) (hj : j < m) : (if bt s j = 48 then j + 1 else sk dgL s (j + 1)) = min (j + d.length) m := by
  obtain ⟨h0, h1, h2⟩ := hc
  obtain ⟨c, d', rfl⟩ := List.exists_cons_of_ne_nil h0
  rw [h.at hd hj]
  by_cases hc : c = 48
  · have := h2 hc
    rw [if_pos hc, this]
    show j + 1 = min (j + 1) m
    omega
  · rw [if_neg hc, sk_cut h dg_zero d' (j + 1) r (drop_next hd) (fun x hx => by rw [dg_is]; exact (List.all_eq_true.1 (T1.allDg_cons.1 h1).2) x hx) (fun c' r' e => (stop_not c' (hr c' r' e)).1) hj, List.length_cons]
    omega
theorem canon_head {d : List UInt8} (hc : T1.Canon d) : ∃ c d', d = c :: d' ∧ T1.digB (c.toNat : Int) = true := by
  obtain ⟨c, d', rfl⟩ := List.exists_cons_of_ne_nil hc.ne
  exact ⟨c, d', rfl, (T1.allDg_cons.1 hc.dg).1⟩
theorem int_cut (h : Cut s L m) {n : Int} (hn : small n) {i : Nat} {r : List UInt8} (hd : L.drop i = Lib.itoa n ++ r) (hr : StopL r) (hi : i ≤ m) :
    (i + (Lib.itoa n).length ≤ m → intR s i = .ok (intT n, i + (Lib.itoa n).length)) ∧ (¬ i + (Lib.itoa n).length ≤ m → intR s i = .error (m, 3) ∨ ∃ t, intR s i = .ok (t, m)) := by
  rcases Nat.lt_or_ge i m with hlt | hge
  · by_cases hneg : n < 0
    · have e : Lib.itoa n = 45 :: Lib.decDigits n.natAbs := by unfold Lib.itoa; rw [if_pos hneg]
      have hc := T1.decDigits_canon n.natAbs
      have hv := (T1.decDigits_val n.natAbs).2.1
      have h48 : (Lib.decDigits n.natAbs).getD 0 0 ≠ 48 := fun e => by have := (T1.decDigits_val n.natAbs).2.2.2 e; omega
      have hnum := T1.num_itoa n hn.1 hn.2
      rw [e] at hd hnum ⊢
      generalize Lib.decDigits n.natAbs = d at *
      have hd1 : L.drop (i + 1) = d ++ r := drop_next hd
      unfold intR
      rw [h.at hd hlt, if_pos rfl, if_pos rfl]
      obtain ⟨c, d', ed, hdig⟩ := canon_head hc
      rcases Nat.lt_or_ge (i + 1) m with h1 | h1
      · have hb : bt s (i + 1) = c := h.at (by rw [hd1, ed]; rfl) h1
        have hin : isIn dnL (bt s (i + 1)) = true := by
          rw [hb, dn_is, hdig]
          rw [ed] at h48
          have : c ≠ 48 := h48
          simp [this]
        simp only
        rw [if_pos hin, digits_cut h hc hd1 hr h1]
        rw [sub_min h hd (by omega) (by omega) (by simp only [List.length_cons]; omega)]
        by_cases hm : i + (45 :: d).length ≤ m
        · refine ⟨fun _ => ?_, fun hx => absurd hm hx⟩
          rw [List.length_cons] at hm
          rw [Nat.min_eq_left (by omega), show i + 1 + d.length - i = d.length + 1 by omega, List.take_of_length_le (by simp), hnum, if_pos rfl, List.length_cons, show i + 1 + d.length = i + (d.length + 1) by omega]
        · refine ⟨fun hx => absurd hx hm, fun _ => ?_⟩
          rw [List.length_cons] at hm
          rw [Nat.min_eq_right (by omega)]
          obtain ⟨k, hk⟩ : ∃ k, m - i = k + 1 := ⟨m - i - 1, by omega⟩
          have hk1 : 1 ≤ k := by omega
          rw [hk, List.take_succ_cons]
          have hct := canon_take hc hk1
          have h48' : (d.take k).getD 0 0 ≠ 48 := by
            rw [ed] at h48 ⊢
            obtain ⟨k', rfl⟩ : ∃ k', k = k' + 1 := ⟨k - 1, by omega⟩
            exact h48
          have := val_take d k
          have e5 := T1.num_minus hct h48'
          rw [if_pos (by rw [hv] at this; have := hn.1; omega)] at e5
          rw [e5, if_pos rfl]
          exact .inr ⟨_, rfl⟩
      · obtain rfl : m = i + 1 := by omega
        simp only
        rw [h.out (Nat.le_refl _), if_neg (by decide)]
        refine ⟨fun hx => ?_, fun _ => .inl rfl⟩
        rw [ed] at hx; simp only [List.length_cons] at hx; omega
    · have e : Lib.itoa n = Lib.decDigits n.toNat := by unfold Lib.itoa; rw [if_neg hneg]
      have hc := T1.decDigits_canon n.toNat
      have hv := (T1.decDigits_val n.toNat).2.1
      have hnum := T1.num_itoa n hn.1 hn.2
      rw [e] at hd hnum ⊢
      generalize Lib.decDigits n.toNat = d at *
      obtain ⟨c, d', ed, hdig⟩ := canon_head hc
      have hb : bt s i = c := h.at (by rw [hd, ed]; rfl) hlt
      have hc45 : ¬ c = 45 := dg_not c hdig
      unfold intR
      simp only
      rw [hb, if_neg hc45, if_neg hc45]
      rw [hb, dg_is, hdig, if_pos rfl]
      have hdc := digits_cut h hc hd hr hlt
      rw [hb] at hdc
      rw [hdc, sub_min h hd (by omega) (by omega) (by omega)]
      by_cases hm : i + d.length ≤ m
      · refine ⟨fun _ => ?_, fun hx => absurd hm hx⟩
        rw [Nat.min_eq_left hm, show i + d.length - i = d.length by omega, List.take_length, hnum, if_pos rfl]
      · refine ⟨fun hx => absurd hx hm, fun _ => ?_⟩
        rw [Nat.min_eq_right (by omega)]
        have hct := canon_take hc (k := m - i) (by omega)
        have := val_take d (m - i)
        have e5 := T1.num_plain hct
        rw [if_pos (by rw [hv] at this; have := hn.2; omega)] at e5
        rw [e5, if_pos rfl]
        exact .inr ⟨_, rfl⟩
  · obtain rfl : i = m := by omega
    refine ⟨fun hx => ?_, fun _ => .inl ?_⟩
    · have : 1 ≤ (Lib.itoa n).length := by
        unfold Lib.itoa
        split
        · simp
        · exact List.length_pos_iff.2 (T1.decDigits_canon _).ne
      omega
    · unfold intR
      rw [h.out (Nat.le_refl _)]
      simp only [show ¬ (0 : UInt8) = 45 by decide, if_false]
      rw [h.out (Nat.le_refl _)]
      rfl
/- Elements with commas between them. -/
variable {α ε : Type}
def OkAll (ok : α → ε → Prop) (upd : α → ε → α) : α → List ε → Prop
  | _, [] => True
  | a, e :: r => ok a e ∧ OkAll ok upd (upd a e) r
def tailJ (tx : ε → List UInt8) (r : List ε) : List UInt8 := r.flatMap fun x => 44 :: tx x
def szs (sz : ε → Nat) (r : List ε) : Nat := (r.map sz).sum
theorem tailJ_stop (tx : ε → List UInt8) (r : List ε) (cl : UInt8) (hcl : cl = 93 ∨ cl = 125) (z : List UInt8) : StopL (tailJ tx r ++ cl :: z) := by
  cases r with
  | nil => exact StopL.cons _ (.inr hcl)
  | cons e r => exact StopL.cons _ (.inl rfl)
theorem elsF_cut (h : Cut s L m) (cl : UInt8) (hcl : cl = 93 ∨ cl = 125) (step : α → Nat → Nat → Except Er (α × Nat × Nat)) (tx : ε → List UInt8) (upd : α → ε → α) (sz : ε → Nat) (ok : α → ε → Prop) (lo N : Nat)
    (hstep : ∀ a e j n r, ok a e → L.drop j = tx e ++ r → StopL r → j ≤ m → lo ≤ j → n + sz e ≤ N →
      (j + (tx e).length ≤ m → step a j n = .ok (upd a e, j + (tx e).length, n + sz e)) ∧ (¬ j + (tx e).length ≤ m → step a j n = .error (m, 3) ∨ ∃ a' n', step a j n = .ok (a', m, n'))) :
    ∀ (r : List ε) (e : ε) (a : α) (f j n : Nat) (z : List UInt8), OkAll ok upd a (e :: r) → L.drop j = tx e ++ (tailJ tx r ++ cl :: z) → j ≤ m → m < f + j → lo ≤ j → n + szs sz (e :: r) ≤ N →
      (j + (tx e).length + (tailJ tx r).length + 1 ≤ m → elsF s cl step f a j n = .ok ((e :: r).foldl upd a, j + (tx e).length + (tailJ tx r).length + 1, n + szs sz (e :: r))) ∧
      (¬ j + (tx e).length + (tailJ tx r).length + 1 ≤ m → elsF s cl step f a j n = .error (m, 3))
  | _, _, _, 0, j, _, _, _, _, hj, hf, _, _ => by omega
  | r, e, a, f + 1, j, n, z, hok, hd, hj, hf, hlo, hN => by
    have hcl0 : ¬ (0 : UInt8) = cl := by rcases hcl with rfl | rfl <;> decide
    have hcl44 : ¬ (44 : UInt8) = cl := by rcases hcl with rfl | rfl <;> decide
    have hsz : szs sz (e :: r) = sz e + szs sz r := by unfold szs; simp
    obtain ⟨p1, p2⟩ := hstep a e j n _ hok.1 hd (tailJ_stop tx r cl hcl z) hj hlo (by omega)
    unfold elsF
    have hz : sk spL s m = m := sk_out (by rw [h.out (Nat.le_refl _)]; exact sp_zero)
    have hz2 : bt s m = 0 := h.out (Nat.le_refl _)
    by_cases hm : j + (tx e).length ≤ m
    · rw [p1 hm]
      have hd2 := drop_past hd
      rcases Nat.lt_or_ge (j + (tx e).length) m with h1 | h1
      · simp only
        rw [sk_stop h hd2 (tailJ_stop tx r cl hcl z)]
        cases r with
        | nil =>
          have hd2 : L.drop (j + (tx e).length) = cl :: z := hd2
          rw [h.at hd2 h1, if_pos rfl]
          refine ⟨fun _ => by rw [hsz]; rfl, fun hx => (hx h1).elim⟩
        | cons e2 r2 =>
          have hd2 : L.drop (j + (tx e).length) = 44 :: (tx e2 ++ (tailJ tx r2 ++ cl :: z)) := by rw [hd2]; simp [tailJ]
          have hl : (tailJ tx (e2 :: r2)).length = (tx e2).length + (tailJ tx r2).length + 1 := by simp [tailJ]
          have ih := elsF_cut h cl hcl step tx upd sz ok lo N hstep r2 e2 (upd a e) f (j + (tx e).length + 1) (n + sz e) z hok.2 (drop_next hd2) h1 (by omega) (by omega) (by omega)
          rw [h.at hd2 h1, if_neg hcl44, if_pos rfl, hl, hsz]
          refine ⟨fun hx => ?_, fun hx => ih.2 (by omega)⟩
          rw [ih.1 (by omega), show j + (tx e).length + 1 + (tx e2).length + (tailJ tx r2).length + 1 = j + (tx e).length + ((tx e2).length + (tailJ tx r2).length + 1) + 1 by omega, Nat.add_assoc n]
          rfl
      · have hq : j + (tx e).length = m := by omega
        rw [hq]
        simp only
        rw [hz, hz2, if_neg hcl0, if_neg (by decide)]
        exact ⟨fun hx => by omega, fun _ => rfl⟩
    · refine ⟨fun hx => by omega, fun _ => ?_⟩
      rcases p2 hm with q | ⟨a', n', q⟩
      · rw [q]
      · rw [q]
        simp only
        rw [hz, hz2, if_neg hcl0, if_neg (by decide)]
end
end Go.Proofs.YtcbajgcblfgmgaaDoor
