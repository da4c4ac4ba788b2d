
/-
  How many bytes of a string a predicate on its characters takes.
-/
import Derived.Test.YtgicbmibhnnflaaGreatDoorKPure
import Derived.Lib.OthersKept
import Derived.Laws.Runes
namespace Go.Proofs.YtgicbmibhnnflaaGreatDoor
open Go.RowKit
/- Of what lies below N nothing but block p has turned. -/
structure Bes (p N : Nat) (w w' : World) : Prop where
  os : w'.os = w.os
  tape : w'.tape = w.tape
  output : w'.output = w.output
  size : w.heap.size ≤ w'.heap.size
  block : ∀ k, k < N → k ≠ p → w'.heap[k]? = w.heap[k]?
theorem Bes.refl (p N : Nat) (w : World) : Bes p N w w := ⟨rfl, rfl, rfl, Nat.le_refl _, fun _ _ _ => rfl⟩
theorem Bes.trans {p N : Nat} {a b c : World} (h : Bes p N a b) (k : Bes p N b c) : Bes p N a c :=
  ⟨k.os.trans h.os, k.tape.trans h.tape, k.output.trans h.output, Nat.le_trans h.size k.size, fun i hi hp => (k.block i hi hp).trans (h.block i hi hp)⟩
theorem Bes.mono {p N N' : Nat} {w w' : World} (h : Bes p N w w') (hN : N' ≤ N) : Bes p N' w w' := ⟨h.os, h.tape, h.output, h.size, fun k hk hp => h.block k (Nat.lt_of_lt_of_le hk hN) hp⟩
theorem Bes.below {p N M : Nat} {w w' : World} (h : Bes p N w w') (hp : M ≤ p) (hN : M ≤ N) : Below M w w' := ⟨h.os, h.tape, h.output, h.size, fun k hk => h.block k (by omega) (by omega)⟩
theorem Bes.of {p N : Nat} {w w' : World} (h : Below N w w') : Bes p N w w' := ⟨h.os, h.tape, h.output, h.size, fun k hk _ => h.block k hk⟩
theorem Bes.set {p N : Nat} {a w : World} (h : Bes p N a w) (i : Nat) (u : Value) : Bes p N a (w.setCell ⟨p, i, none⟩ u) :=
  h.trans ⟨rfl, rfl, rfl, by simp [World.setCell], fun k _ hp => Below.heap_setCell _ _ _ _ hp⟩
/- The bytes of a character. -/
theorem decode_more (s : ByteArray) (pos : Nat) (h : pos < s.size) (ha : 128 ≤ (s[pos]'h).toNat) : 1 ≤ (Utf8.decode s pos).2 ∧ 128 ≤ (Utf8.decode s pos).1 ∧ pos + (Utf8.decode s pos).2 ≤ s.size ∧ ∀ j, j < (Utf8.decode s pos).2 → 128 ≤ (s.get! (pos + j)).toNat := by
  have hh := decode_high s pos h ha
  refine ⟨hh.2, hh.1, ?_⟩
  have h0 : (s.get! (pos + 0)).toNat = (s[pos]'h).toNat := by rw [get_at s pos h]
  have hn : ¬ (s.get! (pos + 0)).toNat < 128 := by omega
  have hc : ∀ k, (decide (pos + k < s.size) && (s.get! (pos + k)).toNat / 64 == 2) = true → pos + k < s.size ∧ 128 ≤ (s.get! (pos + k)).toNat := by
    intro k hk
    simp only [Bool.and_eq_true, decide_eq_true_eq, beq_iff_eq] at hk
    exact ⟨hk.1, by omega⟩
  have one : ∀ j, j < 1 → 128 ≤ (s.get! (pos + j)).toNat := fun j hj => by
    obtain rfl : j = 0 := by omega
    omega
  have hcases : (Utf8.decode s pos).2 = 1 ∨ ((Utf8.decode s pos).2 = 2 ∧ (decide (pos + 1 < s.size) && (s.get! (pos + 1)).toNat / 64 == 2) = true)
      ∨ ((Utf8.decode s pos).2 = 3 ∧ (decide (pos + 1 < s.size) && (s.get! (pos + 1)).toNat / 64 == 2) = true ∧ (decide (pos + 2 < s.size) && (s.get! (pos + 2)).toNat / 64 == 2) = true)
      ∨ ((Utf8.decode s pos).2 = 4 ∧ (decide (pos + 1 < s.size) && (s.get! (pos + 1)).toNat / 64 == 2) = true ∧ (decide (pos + 2 < s.size) && (s.get! (pos + 2)).toNat / 64 == 2) = true ∧ (decide (pos + 3 < s.size) && (s.get! (pos + 3)).toNat / 64 == 2) = true) := by
    unfold Utf8.decode
    simp only [hn, if_false]
    split
    · next h1 =>
      rw [Bool.and_eq_true] at h1
      split
      · exact .inr (.inl ⟨rfl, h1.2⟩)
      · exact .inl rfl
    · split
      · next h1 =>
        simp only [Bool.and_eq_true (_ && _)] at h1
        split
        · refine .inr (.inr (.inl ⟨rfl, ?_, h1.2⟩))
          have := h1.1; rw [Bool.and_eq_true] at this; exact this.2
        · exact .inl rfl
      · split
        · next h1 =>
          rw [Bool.and_eq_true] at h1
          have h2 := h1.1
          rw [Bool.and_eq_true] at h2
          have h3 := h2.1
          rw [Bool.and_eq_true] at h3
          split
          · exact .inr (.inr (.inr ⟨rfl, h3.2, h2.2, h1.2⟩))
          · exact .inl rfl
        · exact .inl rfl
  rcases hcases with e | ⟨e, a⟩ | ⟨e, a, b⟩ | ⟨e, a, b, c⟩
  · rw [e]; exact ⟨by omega, one⟩
  · rw [e]
    have := hc 1 a
    refine ⟨by omega, fun j hj => ?_⟩
    have : j = 0 ∨ j = 1 := by omega
    rcases this with rfl | rfl <;> omega
  · rw [e]
    have := hc 1 a
    have := hc 2 b
    refine ⟨by omega, fun j hj => ?_⟩
    have : j = 0 ∨ j = 1 ∨ j = 2 := by omega
    rcases this with rfl | rfl | rfl <;> omega
  · rw [e]
    have := hc 1 a
    have := hc 2 b
    have := hc 3 c
    refine ⟨by omega, fun j hj => ?_⟩
    have : j = 0 ∨ j = 1 ∨ j = 2 ∨ j = 3 := by omega
    rcases this with rfl | rfl | rfl | rfl <;> omega
section
variable {σ : Type} {step : σ → UInt8 → Option σ} {hi : σ → Option σ}
theorem span_high (h1 : ∀ st c, 128 ≤ c.toNat → step st c = hi st) (h2 : ∀ st st', hi st = some st' → hi st' = some st') : ∀ (a r : List UInt8) (st : σ), a ≠ [] → (∀ c ∈ a, 128 ≤ c.toNat) →
    spanL step st (a ++ r) = match hi st with
      | none => 0
      | some st' => a.length + spanL step st' r
  | [], _, _, h, _ => absurd rfl h
  | c :: a, r, st, _, ha => by
    rw [List.cons_append, spanL, h1 st c (ha c List.mem_cons_self)]
    cases hs : hi st with
    | none => rfl
    | some st' =>
      show spanL step st' (a ++ r) + 1 = _
      cases a with
      | nil => simp [Nat.add_comm]
      | cons d a2 =>
        rw [span_high h1 h2 (d :: a2) r st' (by simp) (fun x hx => ha x (List.mem_cons_of_mem _ hx)), h2 st st' hs]
        simp only [List.length_cons]; omega
end
theorem get!_eq (s : ByteArray) (k : Nat) (h : k < s.size) : s.get! k = s[k]'h := get_at s k h
/- What follows a place: one character, and the rest. -/
theorem drop_ascii (s : ByteArray) (pos : Nat) (h : pos < s.size) : s.data.toList.drop pos = s[pos] :: s.data.toList.drop (pos + 1) := by
  have hl : pos < s.data.toList.length := by rw [T1.size_eq]; exact h
  exact (List.getElem_cons_drop hl).symm
theorem drop_high (s : ByteArray) (pos : Nat) (h : pos < s.size) (ha : 128 ≤ (s[pos]'h).toNat) : ∃ a, s.data.toList.drop pos = a ++ s.data.toList.drop (pos + (Utf8.decode s pos).2) ∧ a ≠ [] ∧ a.length = (Utf8.decode s pos).2 ∧ ∀ c ∈ a, 128 ≤ c.toNat := by
  obtain ⟨h1, _, h3, h4⟩ := decode_more s pos h ha
  generalize (Utf8.decode s pos).2 = k at *
  have hl := T1.size_eq s
  refine ⟨(s.data.toList.drop pos).take k, ?_, ?_, ?_, ?_⟩
  · rw [← List.drop_drop, List.take_append_drop]
  · intro e
    have := congrArg List.length e
    rw [List.length_take, List.length_drop] at this
    simp at this; omega
  · rw [List.length_take, List.length_drop]; omega
  · intro c hc
    obtain ⟨j, hj, rfl⟩ := List.getElem_of_mem hc
    rw [List.length_take, List.length_drop] at hj
    rw [List.getElem_take, List.getElem_drop]
    have := h4 j (by omega)
    rw [get!_eq s (pos + j) (by omega)] at this
    exact this
theorem span_step {σ : Type} {step : σ → UInt8 → Option σ} {hi : σ → Option σ} (h1 : ∀ st c, 128 ≤ c.toNat → step st c = hi st) (h2 : ∀ st st', hi st = some st' → hi st' = some st') (s : ByteArray) (pos : Nat) (h : pos < s.size) (st : σ) :
    1 ≤ (Utf8.decode s pos).2 ∧ pos + (Utf8.decode s pos).2 ≤ s.size ∧
    spanL step st (s.data.toList.drop pos) = match (if (Utf8.decode s pos).1 < 128 then step st (Utf8.decode s pos).1.toUInt8 else hi st) with
      | none => 0
      | some st2 => (Utf8.decode s pos).2 + spanL step st2 (s.data.toList.drop (pos + (Utf8.decode s pos).2)) := by
  rcases Nat.lt_or_ge (s[pos]).toNat 128 with ha | ha
  · have e := decode_ascii s pos h ha
    rw [e]
    refine ⟨Nat.le_refl _, by show pos + 1 ≤ _; omega, ?_⟩
    have e2 : ((s[pos]).toNat).toUInt8 = s[pos] := by rw [Nat.toUInt8_eq, UInt8.ofNat_toNat]
    show _ = match (if (s[pos]).toNat < 128 then step st ((s[pos]).toNat).toUInt8 else hi st) with
      | none => 0
      | some st2 => 1 + spanL step st2 (s.data.toList.drop (pos + 1))
    rw [if_pos ha, e2, drop_ascii s pos h, spanL]
    cases step st s[pos] with
    | none => rfl
    | some st2 => exact Nat.add_comm _ _
  · obtain ⟨g1, g2, g3, _⟩ := decode_more s pos h ha
    obtain ⟨a, ea, hne, hl, hc⟩ := drop_high s pos h ha
    refine ⟨g1, g3, ?_⟩
    rw [if_neg (by omega), ea, span_high h1 h2 a _ st hne hc, hl]
theorem decode_valid (s : ByteArray) (pos : Nat) (h : pos < s.size) (ha : 128 ≤ (s[pos]'h).toNat) : Utf8.valid (Utf8.decode s pos).1 = true := by
  have h0 : (s.get! (pos + 0)).toNat = (s[pos]'h).toNat := by rw [get_at s pos h]
  have hn : ¬ (s.get! (pos + 0)).toNat < 128 := by omega
  have hb : ∀ k, (s.get! (pos + k)).toNat < 256 := fun k => (s.get! (pos + k)).toNat_lt
  have b0 := hb 0
  have b1 := hb 1
  have e : Utf8.valid (Utf8.runeError : Nat) = true := by decide
  unfold Utf8.decode
  simp only [hn, if_false]
  split
  · next h1 =>
    rw [Bool.and_eq_true, beq_iff_eq] at h1
    split
    · rw [validRune_eq]
      unfold validRune
      apply decide_eq_true
      left
      have := h1.1
      show (0 : Int) ≤ ((((s.get! (pos + 0)).toNat % 32) * 64 + (s.get! (pos + 1)).toNat % 64 : Nat) : Int) ∧ _
      omega
    · exact e
  · split
    · split
      · next h2 => rw [Bool.and_eq_true] at h2; exact h2.2
      · exact e
    · split
      · split
        · next h2 => rw [Bool.and_eq_true] at h2; exact h2.2
        · exact e
      · exact e
theorem decode_ok (s : ByteArray) (pos : Nat) (h : pos < s.size) : (Utf8.decode s pos).1 < 128 ∨ Utf8.valid (Utf8.decode s pos).1 = true := by
  rcases Nat.lt_or_ge (s[pos]).toNat 128 with ha | ha
  · rw [decode_ascii s pos h ha]; exact .inl ha
  · exact .inr (decode_valid s pos h ha)
def SpPost {σ : Type} (o : Option σ) (Inv : σ → World → Prop) (p : Nat) (w : World) (e : Ending) (w' : World) : Prop :=
  e = .returned (.bool o.isSome) ∧ (∀ st', o = some st' → Inv st' w') ∧ Bes p w.heap.size w w'
set_option maxRecDepth 100000 in
set_option maxHeartbeats 4000000 in
theorem span_any {σ : Type} {step : σ → UInt8 → Option σ} {hi : σ → Option σ} {Inv : σ → World → Prop} {p : Nat} (F : FuncId) (hF : F = 80 ∨ F = 113 ∨ F = 104) (caps : Array Value)
    (h1 : ∀ st c, 128 ≤ c.toNat → step st c = hi st) (h2 : ∀ st st', hi st = some st' → hi st' = some st')
    (hst : ∀ (st : σ) (r : Nat) (w : World), Inv st w → r ≤ 2147483647 → (r < 128 ∨ Utf8.valid r = true) → Calls Tryz.prog F (#[.int .i32 r] ++ caps) w (SpPost (if r < 128 then step st r.toUInt8 else hi st) Inv p w))
    (hmv : ∀ st w w', Inv st w → w'.heap[p]? = w.heap[p]? → Inv st w')
    (s : ByteArray) (hs : s.size ≤ maxLen) (st : σ) (w : World) (h : Inv st w) (hpk : p ≠ w.heap.size) :
    Calls Tryz.prog 79 #[.string s, .func (.func F) #[] caps] w fun e w' => e = .returned (.int .i64 (spanL step st s.data.toList)) ∧ Bes p w.heap.size w w' := by
  have H1 := Lib.hid h1
  have H2 := Lib.hid h2
  have HST := Lib.hid hst
  have HMV := Lib.hid hmv
  have HI := Lib.hid h
  have HS := Lib.hid hs
  have HPK := Lib.hid hpk
  clear h1 h2 hst hmv h hs hpk
  have hml : maxLen ≤ 9223372036854775807 := by decide
  go_enter Tryz.func79, Tryz.ntmps79
  go_wp2_with fail
  go_loopw [] (fun wr => ∃ (pos : Nat) (st' : σ), wr.heap[w.heap.size]? = some (.stringIter s pos) ∧ pos ≤ s.size ∧ Inv st' wr ∧ spanL step st s.data.toList = pos + spanL step st' (s.data.toList.drop pos) ∧ Bes p w.heap.size w wr ∧ w.heap.size < wr.heap.size)
    (fun wr => s.size - wr.iterPos w.heap.size)
  case atStart =>
    refine ⟨0, st, World.iter_heap w s 0, Nat.zero_le _, HMV.out _ _ _ HI.out ?_, by simp, Bes.of ((Below.refl _ _).alloc (Nat.le_refl _) _), by simp [World.iter]⟩
    have := HPK.out
    show (w.alloc (.stringIter s 0)).heap[p]? = _
    rcases Nat.lt_or_ge p w.heap.size with h | h
    · exact Below.heap_alloc _ _ _ h
    · rw [Array.getElem?_eq_none (by simp; omega), Array.getElem?_eq_none h]
  case round =>
    obtain ⟨pos, st', hit, hp0, hi', hR, hb, hsz⟩ := hrel
    have HB := Lib.hid hb
    have HR := Lib.hid hR
    have HII := Lib.hid hi'
    clear hb hR hi'
    have hpk := HPK.out
    have hpi : (wr.iterAt w.heap.size s (pos + (Utf8.decode s pos).2)).heap[p]? = wr.heap[p]? := Lib.iterAt_other wr w.heap.size p s _ hpk
    have HPI := Lib.hid hpi
    clear hpi
    by_cases hp : pos < s.size
    · have hnx : ∀ ty, (Instr.next (.pointer (some ⟨w.heap.size, 0, none⟩)) true ty).run Tryz.prog wr = _ := fun ty => Lib.run_next_any_at wr w.heap.size s pos ty hit hp
      have hd1 := decode_le s pos
      have HIT := Lib.hid (Lib.iterAt_heap wr w.heap.size s pos (pos + (Utf8.decode s pos).2) hit)
      have HB2 : Hid (Bes p w.heap.size w (wr.iterAt w.heap.size s (pos + (Utf8.decode s pos).2))) := Lib.hid (HB.out.trans (Bes.of (Lib.below_iterAt (Below.refl _ _) (Nat.le_refl _) s _)))
      have HSZ : Hid (w.heap.size < (wr.iterAt w.heap.size s (pos + (Utf8.decode s pos).2)).heap.size) := Lib.hid (by rw [Lib.iterAt_size]; exact hsz)
      have CALL := Lib.hid (HST.out st' (Utf8.decode s pos).1 (wr.iterAt w.heap.size s (pos + (Utf8.decode s pos).2)) (HMV.out _ _ _ HII.out HPI.out) hd1 (decode_ok s pos hp))
      have STEP := Lib.hid (span_step H1.out H2.out s pos hp st')
      have HH := Lib.hid hit
      clear hit hpk
      generalize hr : (Utf8.decode s pos).1 = r at *
      generalize hk : (Utf8.decode s pos).2 = k at *
      rcases hF with rfl | rfl | rfl
      all_goals
        go_wp2_with fail
        refine CALL.out.mono ?_
        rintro e w1 ⟨rfl, hI1, hb1⟩
        have hbs := hb1.size
        have hit1 : w1.heap[w.heap.size]? = some (.stringIter s (pos + k)) := (hb1.block w.heap.size HSZ.out HPK.out.symm).trans HIT.out
        have HIT1 := Lib.hid hit1
        have HB1 := Lib.hid (HB2.out.trans (hb1.mono (Nat.le_of_lt HSZ.out)))
        have HSZ1 : Hid (w.heap.size < w1.heap.size) := Lib.hid (Nat.lt_of_lt_of_le HSZ.out hbs)
        have HI1 := Lib.hid hI1
        have hm := HS.out
        clear hI1 hb1 hbs hit1
        cases ho : (if r < 128 then step st' r.toUInt8 else hi st') with
        | none =>
          have E1 : Hid (spanL step st s.data.toList = pos) := Lib.hid (by rw [HR.out, STEP.out.2.2, ho]; exact Nat.add_zero _)
          clear ho
          go_wp2_with fail
          go_ret
          exact ⟨by rw [E1.out]; rfl, HB1.out⟩
        | some st2 =>
          have E1 : Hid (spanL step st s.data.toList = pos + k + spanL step st2 (s.data.toList.drop (pos + k))) := Lib.hid (by rw [HR.out, STEP.out.2.2, ho]; simp only [Nat.add_assoc])
          have HI2 := Lib.hid (HI1.out st2 ho)
          have hk1 := STEP.out.1
          have hk2 := STEP.out.2.1
          clear ho
          go_wp2_with fail
          go_roundw
          case rel => exact ⟨pos + k, st2, HIT1.out, hk2, HI2.out, E1.out, HB1.out, HSZ1.out⟩
          case measure =>
            simp only [World.iterPos, HIT1.out, HH.out]
            omega
    · have hnx : ∀ ty, (Instr.next (.pointer (some ⟨w.heap.size, 0, none⟩)) true ty).run Tryz.prog wr = _ := fun ty => Lib.run_next_end_at wr w.heap.size s pos ty hit hp
      have E1 : Hid (spanL step st s.data.toList = s.size) := Lib.hid (by
        rw [HR.out, List.drop_eq_nil_of_le (by rw [T1.size_eq]; omega)]
        show pos + 0 = _
        omega)
      go_wp2_with fail
      go_ret
      exact ⟨by rw [E1.out]; rfl, HB.out⟩
end Go.Proofs.YtgicbmibhnnflaaGreatDoor
