
/-
  Separators, words, and literals: how many bytes they take.
-/
import Derived.Test.YtgicbmibhnnflaaGreatDoorKSpan
namespace Go.Proofs.YtgicbmibhnnflaaGreatDoor
open Go.RowKit
abbrev pp (p : Nat) : Value := .pointer (some ⟨p, 0, none⟩)
/- A variable of a kind bool in block p. -/
def BoxB (p : Nat) (b : Bool) (w : World) : Prop := w.heap[p]? = some (.cells #[.bool b] 4 (0, 0))
theorem BoxB.cell {p : Nat} {b : Bool} {w : World} (h : BoxB p b w) : w.cell? ⟨p, 0, none⟩ = some (.bool b) ∧ w.frozen? ⟨p, 0, none⟩ = false := by
  unfold BoxB at h
  refine ⟨by rw [cell_of_row _ _ _ _ _ _ h]; rfl, by simp [World.frozen?, h]⟩
theorem BoxB.set {p : Nat} {b : Bool} {w : World} (h : BoxB p b w) (c : Bool) : BoxB p c (w.setCell ⟨p, 0, none⟩ (.bool c)) := by
  unfold BoxB at h ⊢; simp [World.setCell, Array.getElem?_modify, h]
theorem BoxB.kept {p : Nat} {b : Bool} (w w' : World) (h : BoxB p b w) (e : w'.heap[p]? = w.heap[p]?) : BoxB p b w' := by
  unfold BoxB at *; rw [e]; exact h
theorem u8_small {r : Nat} (h : r < 128) : (r.toUInt8).toNat = r := by
  rw [Nat.toUInt8_eq, UInt8.toNat_ofNat']; omega
theorem u8_is {r n : Nat} (h : r < 128) (hn : n < 128) : (r.toUInt8 = n.toUInt8) ↔ r = n := by
  constructor
  · intro e
    have := congrArg UInt8.toNat e
    rw [u8_small h, u8_small hn] at this
    exact this
  · rintro rfl; rfl
def sepHi (st : Bool) : Option Bool := if st = true then some true else none
def sepR (st : Bool) (r : Nat) : Option Bool := if r = 35 then some true else if r = 10 ∨ r = 13 then some false else if r = 32 ∨ r = 9 ∨ r = 44 then some st else sepHi st
theorem sepR_eq (st : Bool) (r : Nat) : (if r < 128 then sepS st r.toUInt8 else sepHi st) = sepR st r := by
  unfold sepR
  by_cases h : r < 128
  · rw [if_pos h]
    unfold sepS
    have e : ∀ n : Nat, n < 128 → (r.toUInt8 = n.toUInt8 ↔ r = n) := fun n hn => u8_is h hn
    have e35 : (r.toUInt8 = 35) ↔ r = 35 := e 35 (by omega)
    have e10 : (r.toUInt8 = 10) ↔ r = 10 := e 10 (by omega)
    have e13 : (r.toUInt8 = 13) ↔ r = 13 := e 13 (by omega)
    have e32 : (r.toUInt8 = 32) ↔ r = 32 := e 32 (by omega)
    have e9 : (r.toUInt8 = 9) ↔ r = 9 := e 9 (by omega)
    have e44 : (r.toUInt8 = 44) ↔ r = 44 := e 44 (by omega)
    simp only [e35, e10, e13, e32, e9, e44]
    rfl
  · rw [if_neg h, if_neg (by omega), if_neg (by omega), if_neg (by omega)]
theorem sep_high (st : Bool) (c : UInt8) (h : 128 ≤ c.toNat) : sepS st c = sepHi st := by
  have e : ∀ n : UInt8, n.toNat < 128 → c ≠ n := fun n hn e => by subst e; omega
  unfold sepS
  rw [if_neg (e 35 (by decide)), if_neg (by intro h; exact h.elim (e 10 (by decide)) (e 13 (by decide))), if_neg (by intro h; exact h.elim (e 32 (by decide)) (fun h => h.elim (e 9 (by decide)) (e 44 (by decide))))]
  rfl
theorem sepHi_idem (st st' : Bool) (h : sepHi st = some st') : sepHi st' = some st' := by
  cases st <;> cases h; rfl
set_option maxRecDepth 100000 in
set_option maxHeartbeats 2000000 in
theorem sep1_any (p : Nat) (st : Bool) (r : Nat) (w : World) (h : BoxB p st w) (hr : r ≤ 2147483647) : Calls Tryz.prog 80 (#[.int .i32 r] ++ #[pp p]) w (SpPost (if r < 128 then sepS st r.toUInt8 else sepHi st) (BoxB p) p w) := by
  rw [sepR_eq]
  obtain ⟨q0, f0⟩ := h.cell
  have HB := Lib.hid h
  have HT := Lib.hid (h.set true)
  have HF := Lib.hid (h.set false)
  have B0 := Bes.refl p w.heap.size w
  have BT := Lib.hid (B0.set 0 (.bool true))
  have BF := Lib.hid (B0.set 0 (.bool false))
  clear h B0
  show Calls _ _ #[.int .i32 r, pp p] w _
  unfold sepR
  by_cases h35 : r = 35
  · subst h35
    go_enter Tryz.func80, Tryz.ntmps80
    go_wp2_with fail
    go_ret
    exact ⟨rfl, fun st' e => by cases e; exact HT.out, BT.out⟩
  rw [if_neg h35]
  have n35 : ¬ ((r : Int) = 35) := by omega
  by_cases h10 : r = 10
  · subst h10
    go_enter Tryz.func80, Tryz.ntmps80
    go_wp2_with fail
    go_ret
    exact ⟨rfl, fun st' e => by cases e; exact HF.out, BF.out⟩
  by_cases h13 : r = 13
  · subst h13
    go_enter Tryz.func80, Tryz.ntmps80
    go_wp2_with fail
    go_ret
    exact ⟨rfl, fun st' e => by cases e; exact HF.out, BF.out⟩
  rw [if_neg (by omega)]
  have n10 : ¬ ((r : Int) = 10) := by omega
  have n13 : ¬ ((r : Int) = 13) := by omega
  by_cases h32 : r = 32
  · subst h32
    go_enter Tryz.func80, Tryz.ntmps80
    go_wp2_with fail
    go_ret
    exact ⟨rfl, fun st' e => by cases e; exact HB.out, Bes.refl _ _ _⟩
  by_cases h9 : r = 9
  · subst h9
    go_enter Tryz.func80, Tryz.ntmps80
    go_wp2_with fail
    go_ret
    exact ⟨rfl, fun st' e => by cases e; exact HB.out, Bes.refl _ _ _⟩
  by_cases h44 : r = 44
  · subst h44
    go_enter Tryz.func80, Tryz.ntmps80
    go_wp2_with fail
    go_ret
    exact ⟨rfl, fun st' e => by cases e; exact HB.out, Bes.refl _ _ _⟩
  rw [if_neg (by omega)]
  have n32 : ¬ ((r : Int) = 32) := by omega
  have n9 : ¬ ((r : Int) = 9) := by omega
  have n44 : ¬ ((r : Int) = 44) := by omega
  clear h35 h10 h13 h32 h9 h44
  go_enter Tryz.func80, Tryz.ntmps80
  go_wp2_with fail
  go_ret
  cases st with
  | true => exact ⟨rfl, fun st' e => by cases e; exact HB.out, Bes.refl _ _ _⟩
  | false => exact ⟨rfl, fun st' e => by (cases e), Bes.refl _ _ _⟩
def ltHi (_ : Bool) : Option Bool := some false
def ltR (st : Bool) (r : Nat) : Option Bool := if r = 34 ∧ st = false then none else some (decide (r = 92) && !st)
theorem ltR_eq (st : Bool) (r : Nat) : (if r < 128 then ltS st r.toUInt8 else ltHi st) = ltR st r := by
  unfold ltR
  by_cases h : r < 128
  · rw [if_pos h]
    unfold ltS
    have e : ∀ n : Nat, n < 128 → (r.toUInt8 = n.toUInt8 ↔ r = n) := fun n hn => u8_is h hn
    have e34 : (r.toUInt8 = 34) ↔ r = 34 := e 34 (by omega)
    have e92 : (r.toUInt8 = 92) ↔ r = 92 := e 92 (by omega)
    simp only [e34, e92]
  · rw [if_neg h, if_neg (by omega), decide_eq_false (by omega)]; rfl
theorem lt_high (st : Bool) (c : UInt8) (h : 128 ≤ c.toNat) : ltS st c = ltHi st := by
  have e : ∀ n : UInt8, n.toNat < 128 → c ≠ n := fun n hn e => by subst e; omega
  unfold ltS
  rw [if_neg (fun h => e 34 (by decide) h.1), decide_eq_false (e 92 (by decide))]; rfl
theorem ltHi_idem (st st' : Bool) (h : ltHi st = some st') : ltHi st' = some st' := by
  cases h; rfl
set_option maxRecDepth 100000 in
set_option maxHeartbeats 2000000 in
theorem lit1_any (p : Nat) (st : Bool) (r : Nat) (w : World) (h : BoxB p st w) (hr : r ≤ 2147483647) : Calls Tryz.prog 104 (#[.int .i32 r] ++ #[pp p]) w (SpPost (if r < 128 then ltS st r.toUInt8 else ltHi st) (BoxB p) p w) := by
  rw [ltR_eq]
  obtain ⟨q0, f0⟩ := h.cell
  have HT := Lib.hid (h.set true)
  have HF := Lib.hid (h.set false)
  have B0 := Bes.refl p w.heap.size w
  have BT := Lib.hid (B0.set 0 (.bool true))
  have BF := Lib.hid (B0.set 0 (.bool false))
  clear h B0
  show Calls _ _ #[.int .i32 r, pp p] w _
  unfold ltR
  by_cases h34 : r = 34
  · subst h34
    cases st with
    | true =>
      go_enter Tryz.func104, Tryz.ntmps104
      go_wp2_with fail
      go_ret
      exact ⟨rfl, fun st' e => by cases e; exact HF.out, BF.out⟩
    | false =>
      go_enter Tryz.func104, Tryz.ntmps104
      go_wp2_with fail
      go_ret
      exact ⟨rfl, fun st' e => by (cases e), BF.out⟩
  rw [if_neg (fun h => h34 h.1)]
  have n34 : ¬ ((r : Int) = 34) := by omega
  by_cases h92 : r = 92
  · subst h92
    cases st with
    | true =>
      go_enter Tryz.func104, Tryz.ntmps104
      go_wp2_with fail
      go_ret
      exact ⟨rfl, fun st' e => by cases e; exact HF.out, BF.out⟩
    | false =>
      go_enter Tryz.func104, Tryz.ntmps104
      go_wp2_with fail
      go_ret
      exact ⟨rfl, fun st' e => by cases e; exact HT.out, BT.out⟩
  rw [decide_eq_false h92]
  have n92 : ¬ ((r : Int) = 92) := by omega
  clear h34 h92
  go_enter Tryz.func104, Tryz.ntmps104
  go_wp2_with fail
  go_ret
  exact ⟨rfl, fun st' e => by cases e; exact HF.out, BF.out⟩
set_option maxHeartbeats 2000000 in
theorem separators_any (s : ByteArray) (hs : s.size ≤ maxLen) (w : World) : Calls Tryz.prog 63 #[.string s] w fun e w' => e = .returned (.int .i64 (sepN s.data.toList)) ∧ Below w.heap.size w w' := by
  have HX : Hid (BoxB w.heap.size false (w.alloc (.cells #[.bool false] 4 (0, 0)))) := Lib.hid (heap_alloc_new w _)
  have CALL := Lib.hid (span_any (Inv := BoxB w.heap.size) (p := w.heap.size) 80 (.inl rfl) #[pp w.heap.size] sep_high sepHi_idem (fun st r w' h hr _ => sep1_any _ st r w' h hr) (fun st a b h e => h.kept a b e) s hs false _ HX.out (by simp))
  have HB : Hid (Below w.heap.size w (w.alloc (.cells #[.bool false] 4 (0, 0)))) := Lib.hid ((Below.refl _ _).alloc (Nat.le_refl _) _)
  go_enter Tryz.func63, Tryz.ntmps63
  go_wp2_with fail
  refine CALL.out.mono ?_
  rintro e w1 ⟨rfl, hb⟩
  have HB1 := Lib.hid (HB.out.trans (hb.below (Nat.le_refl _) (by simp)))
  clear hb
  go_wp2_with fail
  go_ret
  exact ⟨rfl, HB1.out⟩
end Go.Proofs.YtgicbmibhnnflaaGreatDoor
