
/-
  Contracts of the reference package of layer 1: single bytes, names, literals.
-/
import Derived.Test.YtcbajgcblfgmgaaGreatDoorTextQuote
namespace Go.Proofs.YtcbajgcblfgmgaaGreatDoor.T1
open Go.RowKit
def letU (n : Int) : Bool := letB n || n == 95
theorem rdigit_any (n : Int) (w : World) (h0 : 0 ≤ n) (h1 : n ≤ 255) :
    Calls Tryz.prog 65 #[.int .u8 n] w fun e w' => e = .returned (.bool (digB n)) ∧ w = w' := by
  go_enter Tryz.func65, Tryz.ntmps65
  go_wp2
  all_goals go_ret
  all_goals (simp [digB, *]; try omega)
theorem nm_of (n : Int) : nmB n = (letU n || digB n) := by unfold nmB letU; cases letB n <;> cases digB n <;> simp
def HeadOk (l : List UInt8) (k : Nat) : Prop := allNm (l.take k) = true ∧ (0 < k → digB ((l.getD 0 0).toNat : Int) = false)
theorem headOk_zero (l : List UInt8) : HeadOk l 0 := ⟨rfl, fun h => absurd h (by omega)⟩
theorem headOk_succ {l : List UInt8} {k : Nat} (h : HeadOk l k) (hk : k < l.length) (h1 : nmB (l[k].toNat : Int) = true) (h2 : k = 0 → digB (l[k].toNat : Int) = false) : HeadOk l (k + 1) := by
  refine ⟨all_take_succ l (fun c => nmB (c.toNat : Int)) k hk h.1 h1, fun _ => ?_⟩
  by_cases e : k = 0
  · subst e; rw [List.getD_eq_getElem?_getD, List.getElem?_eq_getElem hk]; exact h2 rfl
  · exact h.2 (by omega)
theorem headOk_end {l : List UInt8} (h : HeadOk l l.length) (h0 : 0 < l.length) (h1 : l.length ≤ 64) : nameL l = true := by
  unfold nameL
  have e := h.1
  rw [List.take_length] at e
  rw [h.2 h0, e]
  cases l with
  | nil => simp at h0
  | cons a l => simp at h1 ⊢; omega
theorem name_no_at {l : List UInt8} {k : Nat} (hk : k < l.length) (h : nmB (l[k].toNat : Int) = false) : nameL l = false := by
  unfold nameL
  rw [show allNm l = false from all_of_at l (fun c => nmB (c.toNat : Int)) k hk h]; simp
theorem name_no_head {l : List UInt8} (hk : 0 < l.length) (h : digB (l[0].toNat : Int) = true) : nameL l = false := by
  unfold nameL
  rw [List.getD_eq_getElem?_getD, List.getElem?_eq_getElem hk, Option.getD_some, h]; simp
theorem hp2 : ∀ (l : List UInt8) (h : 2 ≤ l.length), Lib.hasPrefix l [95, 95] = (((l[0]'(by omega)).toNat : Int) == 95 && ((l[1]'(by omega)).toNat : Int) == 95)
  | a :: b :: r, _ => by
    unfold Lib.hasPrefix
    rw [Bool.eq_iff_iff]
    simp only [List.isPrefixOf, Bool.and_true, Bool.and_eq_true, beq_iff_eq, List.getElem_cons_zero, List.getElem_cons_succ]
    constructor
    · rintro ⟨rfl, rfl⟩; exact ⟨rfl, rfl⟩
    · rintro ⟨ha, hb⟩
      exact ⟨(UInt8.toNat_inj.1 (by have : (95 : UInt8).toNat = 95 := rfl; omega)).symm, (UInt8.toNat_inj.1 (by have : (95 : UInt8).toNat = 95 := rfl; omega)).symm⟩
  | [_], h => absurd h (by simp)
  | [], h => absurd h (by simp)
theorem hp2_short : ∀ (l : List UInt8) (_ : l.length < 2), Lib.hasPrefix l [95, 95] = false
  | _ :: _ :: r, h => absurd h (by simp)
  | [_], _ => by unfold Lib.hasPrefix; simp [List.isPrefixOf]
  | [], _ => rfl
end Go.Proofs.YtcbajgcblfgmgaaGreatDoor.T1
