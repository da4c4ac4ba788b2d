
/-
  Contracts of the reference package of layer 1: the literal of a string.
-/
import Derived.Test.YtpmahimlpajdcaaDoorRefText
namespace Go.Proofs.YtpmahimlpajdcaaDoor.T1
open Go.RowKit
theorem conv_B (w : World) (xs : Array Value) (l : List UInt8) (k c : Nat) (hk : k = l.length) (hx : xs = (l.map fun c : UInt8 => Value.int .u8 (c.toNat : Int)).toArray) :
    (convert 23 9 (.slice (some ⟨w.heap.size, 0, none⟩) k c)).run Tryd.prog (w.alloc (.cells xs 5)) = .ok (.string ⟨l.toArray⟩) (w.alloc (.cells xs 5)) := by
  subst hk
  exact run_convert_bytes_back _ 23 9 5 _ c l Tryd.underlying23 Tryd.underlying5 Tryd.underlying9 (cells_B w xs _ l hx)
theorem hexC_lo : ∀ n : Fin 10, (48 + (n.val : Int)) = ((hexC n.val).toNat : Int) := by decide +kernel
theorem hexC_hi : ∀ n : Fin 16, 10 ≤ n.val → (87 + (n.val : Int)) = ((hexC n.val).toNat : Int) := by decide +kernel
theorem rhex_any (n : Int) (w : World) (h0 : 0 ≤ n) (h1 : n < 16) :
    Calls Tryd.prog 45 #[.int .u8 n] w fun e w' => e = .returned (.int .u8 ((hexC n.toNat).toNat : Int)) ∧ w = w' := by
  by_cases h : n < 10
  · have e : Hid (48 + n = ((hexC n.toNat).toNat : Int)) := Lib.hid (by
      have := hexC_lo ⟨n.toNat, by omega⟩
      simp only at this; omega)
    go_enter Tryd.func45, Tryd.ntmps45
    go_wp2_with fail
    go_ret
    exact ⟨congrArg Ending.returned (congrArg (Value.int .u8) e.out), rfl⟩
  · have e : Hid (87 + n = ((hexC n.toNat).toNat : Int)) := Lib.hid (by
      have := hexC_hi ⟨n.toNat, by omega⟩ (by simp only; omega)
      simp only at this; omega)
    go_enter Tryd.func45, Tryd.ntmps45
    go_wp2_with fail
    go_ret
    exact ⟨congrArg Ending.returned (congrArg (Value.int .u8) e.out), rfl⟩
theorem below_tr {a b c : World} (h : Below a.heap.size a b) (k : Below b.heap.size b c) : Below a.heap.size a c := h.trans (k.mono h.size)
def StrB (w : World) (l : List UInt8) (e : Ending) (w' : World) : Prop := e = .returned (.string ⟨l.toArray⟩) ∧ Below w.heap.size w w'
theorem resc_const (n : Int) (w : World) (l : List UInt8) (h : (n = 34 ∧ l = [92, 34]) ∨ (n = 92 ∧ l = [92, 92]) ∨ (n = 10 ∧ l = [92, 110]) ∨ (n = 13 ∧ l = [92, 114]) ∨ (n = 9 ∧ l = [92, 116])) :
    Calls Tryd.prog 33 #[.int .u8 n] w (StrB w l) := by
  rcases h with ⟨rfl, rfl⟩ | ⟨rfl, rfl⟩ | ⟨rfl, rfl⟩ | ⟨rfl, rfl⟩ | ⟨rfl, rfl⟩
  all_goals
    go_enter Tryd.func33, Tryd.ntmps33
    go_wp2_with fail
    go_ret
    exact ⟨rfl, Below.refl _ _⟩
theorem resc_plain (c : UInt8) (w : World) (h1 : c ≠ 34) (h2 : c ≠ 92) (h3 : c ≠ 10) (h4 : c ≠ 13) (h5 : c ≠ 9) (hp : prB (c.toNat : Int) = true) :
    Calls Tryd.prog 33 #[.int .u8 c.toNat] w (StrB w [c]) := by
  have hb := byte_lt c
  have g1 : ((c.toNat : Int) == 34) = false := u8_ne h1
  have g2 : ((c.toNat : Int) == 92) = false := u8_ne h2
  have g3 : ((c.toNat : Int) == 10) = false := u8_ne h3
  have g4 : ((c.toNat : Int) == 13) = false := u8_ne h4
  have g5 : ((c.toNat : Int) == 9) = false := u8_ne h5
  unfold prB at hp
  simp only [Bool.and_eq_true, decide_eq_true_eq] at hp
  obtain ⟨p1, p2⟩ := hp
  have hcv := fun w => conv_B w #[.int .u8 (c.toNat : Int)] [c] 1 1 rfl rfl
  go_enter Tryd.func33, Tryd.ntmps33
  go_wp2_with fail
  go_ret
  exact ⟨rfl, (Below.refl _ _).alloc (Nat.le_refl _) _⟩
theorem resc_hex (c : UInt8) (w : World) (h1 : c ≠ 34) (h2 : c ≠ 92) (h3 : c ≠ 10) (h4 : c ≠ 13) (h5 : c ≠ 9) (hp : prB (c.toNat : Int) = false) :
    Calls Tryd.prog 33 #[.int .u8 c.toNat] w (StrB w [92, 117, 48, 48, hexC (c.toNat / 16), hexC (c.toNat % 16)]) := by
  have hb := byte_lt c
  have g1 : ((c.toNat : Int) == 34) = false := u8_ne h1
  have g2 : ((c.toNat : Int) == 92) = false := u8_ne h2
  have g3 : ((c.toNat : Int) == 10) = false := u8_ne h3
  have g4 : ((c.toNat : Int) == 13) = false := u8_ne h4
  have g5 : ((c.toNat : Int) == 9) = false := u8_ne h5
  have p : (c.toNat : Int) < 32 ∨ 126 < (c.toNat : Int) := by unfold prB at hp; simp at hp; omega
  clear hp
  have hcv := fun w => conv_B w #[.int .u8 ((hexC (c.toNat / 16)).toNat : Int), .int .u8 ((hexC (c.toNat % 16)).toNat : Int)] [hexC (c.toNat / 16), hexC (c.toNat % 16)] 2 2 rfl rfl
  have e1 : ((c.toNat : Int) / 16).toNat = c.toNat / 16 := by omega
  have e2 : ((c.toNat : Int) % 16).toNat = c.toNat % 16 := by omega
  rcases p with p | p
  all_goals
    go_enter Tryd.func33, Tryd.ntmps33
    go_wp2_with fail
    refine (rhex_any _ _ (by omega) (by omega)).mono ?_
    rintro e w1 ⟨rfl, rfl⟩
    go_wp2_with fail
    refine (rhex_any _ _ (by omega) (by omega)).mono ?_
    rintro e w1 ⟨rfl, rfl⟩
    go_wp2_with fail
    go_ret
    exact ⟨rfl, (Below.refl _ _).alloc (Nat.le_refl _) _⟩
theorem resc_any (c : UInt8) (w : World) :
    Calls Tryd.prog 33 #[.int .u8 c.toNat] w (StrB w (escL c)) := by
  unfold escL
  by_cases h1 : c = 34
  · subst h1; exact resc_const 34 w _ (by simp)
  by_cases h2 : c = 92
  · subst h2; exact resc_const 92 w _ (by simp)
  by_cases h3 : c = 10
  · subst h3; exact resc_const 10 w _ (by simp)
  by_cases h4 : c = 13
  · subst h4; exact resc_const 13 w _ (by simp)
  by_cases h5 : c = 9
  · subst h5; exact resc_const 9 w _ (by simp)
  rw [if_neg h1, if_neg h2, if_neg h3, if_neg h4, if_neg h5]
  cases hp : prB (c.toNat : Int)
  · exact resc_hex c w h1 h2 h3 h4 h5 hp
  · exact resc_plain c w h1 h2 h3 h4 h5 hp
theorem add_L (w : World) (a b : List UInt8) (h : a.length + b.length ≤ 9223372036854775807) :
    (Op.stringOp .add ⟨a.toArray⟩ ⟨b.toArray⟩).run Tryd.prog w = .ok (.string ⟨(a ++ b).toArray⟩) w := by
  rw [run_string_add_sum w _ _ (by simp [ByteArray.size]; omega), ByteArray.mk_append_mk]
def QuoteAt (l : List UInt8) (k : Nat) (a : List UInt8) : Prop := a = 34 :: (l.take k).flatMap escL
theorem quoteAt_len {l a : List UInt8} {k : Nat} (h : QuoteAt l k a) : a.length ≤ 6 * k + 1 := by
  unfold QuoteAt at h
  have h1 := flat_len (l.take k)
  have h2 : (l.take k).length ≤ k := List.length_take_le _ _
  rw [h, List.length_cons]; omega
theorem quoteAt_succ {l a : List UInt8} {k : Nat} (h : QuoteAt l k a) (hk : k < l.length) : QuoteAt l (k + 1) (a ++ escL l[k]) := by
  unfold QuoteAt at h ⊢
  rw [h, take_snoc l k hk, List.flatMap_append]
  simp only [List.flatMap_cons, List.flatMap_nil, List.append_nil, List.cons_append]
theorem quoteAt_end {l a : List UInt8} (h : QuoteAt l l.length a) : a ++ [34] = quoteL l := by
  unfold QuoteAt at h
  rw [List.take_length] at h
  rw [h]; rfl
theorem rquote_any (s : ByteArray) (w : World) (hs : s.size ≤ 137438953472) :
    Calls Tryd.prog 19 #[.string s] w (StrB w (quoteL s.data.toList)) := by
  have hl := Lib.hid (size_eq s)
  go_enter Tryd.func19, Tryd.ntmps19
  go_wp2_with fail
  go_loopw [3, 4] (fun v i wr => ∃ (k : Nat) (a : List UInt8), k ≤ s.size ∧ i = .int .i64 k ∧ v = .string ⟨a.toArray⟩ ∧ QuoteAt s.data.toList k a ∧ Below w.heap.size w wr) (fun _ i _ => s.size - (intOf i).toNat)
  case atStart => exact ⟨0, [34], Nat.zero_le _, rfl, rfl, rfl, Below.refl _ _⟩
  case round =>
    obtain ⟨k, a, hk, rfl, rfl, hq, hb⟩ := hrel
    have hal := quoteAt_len hq
    have HB := Lib.hid hb
    clear hb
    by_cases hlt : k < s.size
    · have hlk : k < s.data.toList.length := by rw [hl.out]; exact hlt
      have hqs : QuoteAt s.data.toList (k + 1) (a ++ escL s[k]) := quoteAt_succ hq hlk
      have hel := esc_len s[k]
      have hadd := fun w => add_L w a (escL s[k]) (by omega)
      clear hq
      go_wp2_with fail
      refine (resc_any _ _).mono ?_
      rintro e w1 ⟨rfl, hb1⟩
      go_wp2
      go_roundw
      case rel => exact ⟨k + 1, a ++ escL s[k], by omega, by go_num, rfl, hqs, below_tr HB.out hb1⟩
      case measure => simp [intOf]; omega
    · obtain rfl : k = s.size := by omega
      have he := Lib.hid (quoteAt_end (l := s.data.toList) (by rw [hl.out]; exact hq))
      have hadd := fun w => add_L w a [34] (by simp; omega)
      clear hq
      go_wp2
      go_ret
      exact ⟨by rw [← he.out]; rfl, HB.out⟩
end Go.Proofs.YtpmahimlpajdcaaDoor.T1
