
/-
  A quoted string is read back. Text that was printed, whole or cut short, and how its words and strings are read.
-/
import Derived.Test.YtcbajgcblfgmgaaDoorRefUnquote
import Derived.Test.YtcbajgcblfgmgaaDoorJLit
import Derived.Test.YtcbajgcblfgmgaaDoorJPrint
import Derived.Test.YtcbajgcblfgmgaaDoorNumPlain
namespace Go.Proofs.YtcbajgcblfgmgaaDoor.T1
open Go.RowKit
theorem numL4_four (a b c d : UInt8) (r : List UInt8) : numL4 (a :: b :: c :: d :: r) = numL4 [a, b, c, d] := by
  have e : ∀ k, k < 4 → bv (a :: b :: c :: d :: r) k = bv [a, b, c, d] k := by
    intro k hk
    have : k = 0 ∨ k = 1 ∨ k = 2 ∨ k = 3 := by omega
    rcases this with rfl | rfl | rfl | rfl <;> rfl
  unfold numL4 okB
  rw [e 0 (by omega), e 1 (by omega), e 2 (by omega), e 3 (by omega), cdL_congr e]
  simp
theorem numL4_hex : ∀ n : Fin 256, numL4 [48, 48, hexC (n.val / 16), hexC (n.val % 16)] = some (UInt8.ofNat n.val) := by decide +kernel
theorem step_escL (c : UInt8) (r : List UInt8) : stepL (escL c ++ r) = some (c, (escL c).length) := by
  unfold escL
  by_cases h1 : c = 34
  · subst h1; rw [if_pos rfl]; show stepL (92 :: 34 :: r) = _; rw [stepL_esc]; rfl
  rw [if_neg h1]
  by_cases h2 : c = 92
  · subst h2; rw [if_pos rfl]; show stepL (92 :: 92 :: r) = _; rw [stepL_esc]; rfl
  rw [if_neg h2]
  by_cases h3 : c = 10
  · subst h3; rw [if_pos rfl]; show stepL (92 :: 110 :: r) = _; rw [stepL_esc]; rfl
  rw [if_neg h3]
  by_cases h4 : c = 13
  · subst h4; rw [if_pos rfl]; show stepL (92 :: 114 :: r) = _; rw [stepL_esc]; rfl
  rw [if_neg h4]
  by_cases h5 : c = 9
  · subst h5; rw [if_pos rfl]; show stepL (92 :: 116 :: r) = _; rw [stepL_esc]; rfl
  rw [if_neg h5]
  cases hp : prB (c.toNat : Int)
  · simp only [Bool.false_eq_true, if_false]
    show stepL (92 :: 117 :: 48 :: 48 :: hexC (c.toNat / 16) :: hexC (c.toNat % 16) :: r) = _
    rw [stepL_esc, if_pos rfl, numL4_four, numL4_hex ⟨c.toNat, c.toNat_lt⟩]
    simp
  · simp only [if_true]
    show stepL (c :: r) = _
    rw [stepL_cons, if_neg (by simp [h1, hp]), if_pos h2]; rfl
theorem unqR_flat : ∀ l : List UInt8, unqR (l.flatMap escL) = some l
  | [] => rfl
  | c :: l => by
    rw [List.flatMap_cons, unqR_step (step_escL c _), List.drop_left, unqR_flat l]; rfl
theorem unquote_quote (l : List UInt8) : unquoteL (quoteL l) = some l := by
  have hlen : (quoteL l).length = (l.flatMap escL).length + 2 := by unfold quoteL; simp
  have hmid : midL (quoteL l) = l.flatMap escL := by
    unfold midL; rw [hlen]; unfold quoteL; simp
  have h0 : (quoteL l).getD 0 0 = 34 := rfl
  have h1 : (quoteL l).getD ((quoteL l).length - 1) 0 = 34 := by
    rw [hlen]
    unfold quoteL
    rw [List.getD_eq_getElem?_getD, List.getElem?_append_right (by simp)]
    simp
  unfold unquoteL
  rw [if_pos ⟨by omega, h0, h1⟩, hmid, unqR_flat]
end Go.Proofs.YtcbajgcblfgmgaaDoor.T1
namespace Go.Proofs.YtcbajgcblfgmgaaDoor
open Go.RowKit
theorem all_u8 {p : UInt8 → Prop} (h : ∀ n : Fin 256, p (UInt8.ofNat n.val)) (c : UInt8) : p c := by
  have := h ⟨c.toNat, c.toNat_lt⟩
  rwa [UInt8.ofNat_toNat] at this
/- What is read is the text L up to m. -/
structure Cut (s : ByteArray) (L : List UInt8) (m : Nat) : Prop where
  eq : s.data.toList = L.take m
  le : m ≤ L.length
section
variable {s : ByteArray} {L : List UInt8} {m : Nat}
theorem Cut.size (h : Cut s L m) : s.size = m := by
  have := T1.size_eq s
  rw [h.eq, List.length_take] at this
  have := h.le; omega
theorem Cut.at (h : Cut s L m) {i : Nat} {c : UInt8} {r : List UInt8} (hd : L.drop i = c :: r) (hi : i < m) : bt s i = c := by
  unfold bt
  rw [h.eq, List.getD_eq_getElem?_getD, List.getElem?_take, if_pos hi]
  have e : L[i]? = some c := by
    have h2 : (L.drop i)[0]? = some c := by rw [hd]; rfl
    rw [List.getElem?_drop] at h2; exact h2
  rw [e]; rfl
theorem Cut.out (h : Cut s L m) {i : Nat} (hi : m ≤ i) : bt s i = 0 := bt_end s i (by rw [h.size]; exact hi)
theorem drop_next {i : Nat} {c : UInt8} {r : List UInt8} (hd : L.drop i = c :: r) : L.drop (i + 1) = r := by
  rw [← List.drop_drop, hd]; rfl
theorem drop_past {i : Nat} {a r : List UInt8} (hd : L.drop i = a ++ r) : L.drop (i + a.length) = r := by
  rw [← List.drop_drop, hd, List.drop_left]
theorem drop_len {i : Nat} {a r : List UInt8} (hd : L.drop i = a ++ r) (h0 : a ≠ []) : i + a.length ≤ L.length := by
  have := congrArg List.length hd
  rw [List.length_drop, List.length_append] at this
  have := List.length_pos_iff.2 h0
  omega
def endR {α : Type} (m e : Nat) (v : α) : Except Er α := if e ≤ m then .ok v else .error (m, 3)
theorem endR_ok {α : Type} {m e : Nat} {v : α} (h : e ≤ m) : endR m e v = .ok v := if_pos h
theorem endR_no {α : Type} {m e : Nat} {v : α} (h : ¬ e ≤ m) : endR m e v = .error (m, 3) := if_neg h
theorem take_cut (h : Cut s L m) {i : Nat} {c : UInt8} {r set : List UInt8} (hd : L.drop i = c :: r) (hc : isIn set c = true) (h0 : isIn set 0 = false) (hi : i ≤ m) : takeR s set i = endR m (i + 1) (i + 1) := by
  unfold takeR
  by_cases hm : i + 1 ≤ m
  · rw [endR_ok hm, h.at hd (by omega), if_pos hc]
  · obtain rfl : i = m := by omega
    rw [endR_no hm, h.out (Nat.le_refl _), if_neg (by rw [h0]; decide)]
theorem isIn_self (c : UInt8) : isIn [c] c = true := by rw [isIn_eq]; simp
theorem isIn_zero (c : UInt8) (h : c ≠ 0) : isIn [c] 0 = false := by rw [isIn_eq]; simp; exact fun e => h e.symm
theorem word_cut (h : Cut s L m) : ∀ (w : List UInt8) (i : Nat) (r : List UInt8), L.drop i = w ++ r → (∀ c ∈ w, c ≠ 0) → i ≤ m → wordR s w i = endR m (i + w.length) (i + w.length)
  | [], i, r, _, _, hi => by unfold wordR; rw [endR_ok (by simpa using hi)]; rfl
  | c :: w, i, r, hd, h0, hi => by
    unfold wordR
    rw [take_cut h hd (isIn_self c) (isIn_zero c (h0 c (by simp))) hi]
    by_cases hm : i + 1 ≤ m
    · rw [endR_ok hm]
      show wordR s w (i + 1) = _
      rw [word_cut h w (i + 1) r (drop_next hd) (fun d hd => h0 d (by simp [hd])) hm]
      rw [List.length_cons, show i + 1 + w.length = i + (w.length + 1) by omega]
    · rw [endR_no hm, endR_no (by rw [List.length_cons]; omega)]
/- The three forms of a quoted byte. -/
theorem hexC_in : ∀ n : Fin 16, isIn hxL (T1.hexC n.val) = true := by decide +kernel
inductive EscIs : List UInt8 → Prop
  | plain {c : UInt8} (h0 : ¬ (c < 32 ∨ 126 < c)) (h1 : c ≠ 34) (h2 : c ≠ 92) : EscIs [c]
  | short {d : UInt8} (h : isIn seL d = true) (h1 : d ≠ 117) : EscIs [92, d]
  | long {a b : UInt8} (ha : isIn hxL a = true) (hb : isIn hxL b = true) : EscIs [92, 117, 48, 48, a, b]
theorem EscIs.pos {a : List UInt8} (h : EscIs a) : 1 ≤ a.length := by cases h <;> simp
theorem pr_range : ∀ c : UInt8, T1.prB (c.toNat : Int) = true → ¬ (c < 32 ∨ 126 < c) := all_u8 (by decide +kernel)
theorem esc_is (c : UInt8) : EscIs (T1.escL c) := by
  unfold T1.escL
  by_cases h1 : c = 34
  · rw [if_pos h1]; exact .short (by decide) (by decide)
  rw [if_neg h1]
  by_cases h2 : c = 92
  · rw [if_pos h2]; exact .short (by decide) (by decide)
  rw [if_neg h2]
  by_cases h3 : c = 10
  · rw [if_pos h3]; exact .short (by decide) (by decide)
  rw [if_neg h3]
  by_cases h4 : c = 13
  · rw [if_pos h4]; exact .short (by decide) (by decide)
  rw [if_neg h4]
  by_cases h5 : c = 9
  · rw [if_pos h5]; exact .short (by decide) (by decide)
  rw [if_neg h5]
  cases hp : T1.prB (c.toNat : Int)
  · simp only [Bool.false_eq_true, if_false]
    have := c.toNat_lt
    exact .long (hexC_in ⟨c.toNat / 16, by omega⟩) (hexC_in ⟨c.toNat % 16, by omega⟩)
  · simp only [if_true]
    exact .plain (pr_range c hp) h1 h2
theorem se_in : ∀ d : UInt8, isIn seL d = true → d ≠ 0 ∧ d ≠ 117 := all_u8 (by decide +kernel)
theorem hx_zero : isIn hxL 0 = false := by decide
theorem se_zero : isIn seL 0 = false := by decide
theorem chr_cut (h : Cut s L m) {i : Nat} {a r : List UInt8} (ha : EscIs a) (hd : L.drop i = a ++ r) (hi : i ≤ m) : bt s i ≠ 34 ∧ chrR s i = endR m (i + a.length) (i + a.length) := by
  rcases Nat.lt_or_ge i m with hlt | hge
  · cases ha with
    | plain h0 h1 h2 =>
      rename_i c
      have e := h.at hd hlt
      unfold chrR
      rw [e]
      refine ⟨h1, ?_⟩
      rw [if_neg h0, if_pos h2, endR_ok (by simp only [List.length_cons, List.length_nil]; omega)]; rfl
    | short hs h1 =>
      rename_i d
      have e := h.at hd hlt
      have hd2 := drop_next hd
      unfold chrR
      rw [e]
      refine ⟨by decide, ?_⟩
      rw [if_neg (by decide), if_neg (by decide)]
      unfold escR
      have e2 : bt s (i + 1) ≠ 117 := by
        rcases Nat.lt_or_ge (i + 1) m with h3 | h3
        · rw [h.at hd2 h3]; exact h1
        · rw [h.out h3]; decide
      rw [if_pos e2, take_cut h hd2 hs se_zero (by omega)]
      rfl
    | long ha hb =>
      rename_i a b
      have e := h.at hd hlt
      have d1 := drop_next hd
      have d2 := drop_next d1
      have d3 := drop_next d2
      have d4 := drop_next d3
      have d5 := drop_next d4
      unfold chrR
      rw [e]
      refine ⟨by decide, ?_⟩
      rw [if_neg (by decide), if_neg (by decide)]
      unfold escR
      rcases Nat.lt_or_ge (i + 1) m with h3 | h3
      · rw [h.at d1 h3, if_neg (by decide), take_cut h d2 (isIn_self 48) (isIn_zero 48 (by decide)) (by omega)]
        by_cases q1 : i + 1 + 1 + 1 ≤ m
        · rw [endR_ok q1]
          dsimp only
          rw [take_cut h d3 (isIn_self 48) (isIn_zero 48 (by decide)) q1]
          by_cases q2 : i + 1 + 1 + 1 + 1 ≤ m
          · rw [endR_ok q2]
            dsimp only
            rw [take_cut h d4 ha hx_zero q2]
            by_cases q3 : i + 1 + 1 + 1 + 1 + 1 ≤ m
            · rw [endR_ok q3]
              show takeR s hxL (i + 1 + 1 + 1 + 1 + 1) = _
              rw [take_cut h d5 hb hx_zero q3]; rfl
            · rw [endR_no q3, endR_no (by simp; omega)]
          · rw [endR_no q2, endR_no (by simp; omega)]
        · rw [endR_no q1, endR_no (by simp; omega)]
      · obtain rfl : m = i + 1 := by omega
        rw [h.out (Nat.le_refl _), if_pos (by decide)]
        unfold takeR
        rw [h.out (Nat.le_refl _), if_neg (by rw [se_zero]; decide), endR_no (by simp)]
  · obtain rfl : i = m := by omega
    have hp : 1 ≤ a.length := ha.pos
    unfold chrR
    rw [h.out (Nat.le_refl _), if_pos (by decide), endR_no (by omega)]
    exact ⟨by decide, rfl⟩
theorem chars_cut (h : Cut s L m) : ∀ (x : List UInt8) (f i : Nat) (r : List UInt8), L.drop i = x.flatMap T1.escL ++ 34 :: r → i ≤ m → m < f + i → charsF s f i = endR m (i + (x.flatMap T1.escL).length + 1) (i + (x.flatMap T1.escL).length)
  | _, 0, i, _, _, hi, hf => by omega
  | [], f + 1, i, r, hd, hi, hf => by
    have hd : L.drop i = 34 :: r := hd
    unfold charsF
    rcases Nat.lt_or_ge i m with hlt | hge
    · rw [h.at hd hlt, if_pos rfl, endR_ok (by simp only [List.flatMap_nil, List.length_nil]; omega)]; rfl
    · obtain rfl : i = m := by omega
      rw [h.out (Nat.le_refl _), if_neg (by decide)]
      unfold chrR
      rw [h.out (Nat.le_refl _), if_pos (by decide), endR_no (by simp)]
  | c :: x, f + 1, i, r, hd, hi, hf => by
    rw [List.flatMap_cons, List.append_assoc] at hd
    obtain ⟨h1, h2⟩ := chr_cut h (esc_is c) hd hi
    have hp : 1 ≤ (T1.escL c).length := (esc_is c).pos
    unfold charsF
    rw [if_neg h1, h2, List.flatMap_cons, List.length_append]
    by_cases hm : i + (T1.escL c).length ≤ m
    · rw [endR_ok hm]
      show charsF s f (i + (T1.escL c).length) = _
      rw [chars_cut h x f _ r (drop_past hd) hm (by omega)]
      rw [Nat.add_assoc i]
    · rw [endR_no hm, endR_no (by omega)]
theorem sub_cut (h : Cut s L m) {i : Nat} {a r : List UInt8} (hd : L.drop i = a ++ r) (hm : i + a.length ≤ m) : sub s i (i + a.length) = a := by
  unfold sub
  rw [h.eq, List.drop_take, hd, List.take_take, show i + a.length - i = a.length by omega, Nat.min_eq_left (by omega), List.take_left]
theorem qL_eq (x : ByteArray) : qL x = 34 :: (x.data.toList.flatMap T1.escL ++ [34]) := rfl
theorem lit_cut (h : Cut s L m) {i : Nat} {x : ByteArray} {r : List UInt8} (hd : L.drop i = qL x ++ r) (hi : i ≤ m) : litR s i = endR m (i + (qL x).length) (x, i + (qL x).length) := by
  have hl : (qL x).length = (x.data.toList.flatMap T1.escL).length + 2 := by rw [qL_eq]; simp
  have hd1 : L.drop i = 34 :: (x.data.toList.flatMap T1.escL ++ 34 :: r) := by rw [hd, qL_eq]; simp
  unfold litR
  rcases Nat.lt_or_ge i m with hlt | hge
  · rw [h.at hd1 hlt, if_pos rfl, chars_cut h _ _ _ r (drop_next hd1) hlt (by rw [h.size]; omega)]
    by_cases hm : i + (qL x).length ≤ m
    · rw [endR_ok (by omega), endR_ok hm]
      have e : i + 1 + (x.data.toList.flatMap T1.escL).length + 1 = i + (qL x).length := by omega
      show Except.ok (litS s i (i + 1 + (x.data.toList.flatMap T1.escL).length + 1), _) = _
      rw [e]
      unfold litS
      rw [sub_cut h hd hm]
      unfold qL
      rw [T1.unquote_quote]
      rfl
    · rw [endR_no (by omega), endR_no hm]
  · obtain rfl : i = m := by omega
    rw [h.out (Nat.le_refl _), if_neg (by decide), endR_no (by omega)]
end
end Go.Proofs.YtcbajgcblfgmgaaDoor
