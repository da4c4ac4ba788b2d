
/-
  Contracts of the reference package of layer 1: the string that a literal represents.
-/
import Derived.Test.YtcbajgcblfgmgaaDoorTextUnquote2
namespace Go.Proofs.YtcbajgcblfgmgaaDoor.T1
open Go.RowKit
def sb2 : Option UInt8 → Value
  | some b => .tuple #[.int .u8 b.toNat, .bool true]
  | none => .tuple #[.int .u8 0, .bool false]
def SbPost (o : Option UInt8) (w : World) (e : Ending) (w' : World) : Prop := e = .returned (sb2 o) ∧ w = w'
def codeV (l : List UInt8) : Int := if 0 ≤ bv l 0 ∧ 0 ≤ bv l 1 ∧ 0 ≤ bv l 2 ∧ 0 ≤ bv l 3 then cdL l 4 else -1
theorem codeV_bad {l : List UInt8} {k : Nat} (hk : k < 4) (h : bv l k < 0) : codeV l = -1 := by
  have : k = 0 ∨ k = 1 ∨ k = 2 ∨ k = 3 := by omega
  unfold codeV; rw [if_neg]
  rcases this with rfl | rfl | rfl | rfl <;> omega
theorem codeV_ok {l : List UInt8} (h : OkL l 4) : codeV l = cdL l 4 := by
  unfold codeV; rw [if_pos ⟨h 0 (by omega), h 1 (by omega), h 2 (by omega), h 3 (by omega)⟩]
theorem bv_take (t : List UInt8) {k : Nat} (h : k < 4) : bv (t.take 4) k = bv t k := by
  unfold bv
  rw [List.getD_eq_getElem?_getD, List.getD_eq_getElem?_getD, List.getElem?_take, if_pos h]
theorem cdL_congr {a b : List UInt8} : ∀ {k : Nat}, (∀ j, j < k → bv a j = bv b j) → cdL a k = cdL b k
  | 0, _ => rfl
  | k + 1, h => by
    unfold cdL
    rw [cdL_congr (k := k) (fun j hj => h j (by omega)), h k (by omega)]
theorem codeV_take (t : List UInt8) : codeV (t.take 4) = codeV t := by
  unfold codeV
  rw [bv_take t (by omega), bv_take t (by omega), bv_take t (by omega), bv_take t (by omega), cdL_congr (fun j hj => bv_take t hj)]
theorem numL4_code {t : List UInt8} (h : 4 ≤ t.length) : numL4 t = if 0 ≤ codeV t ∧ codeV t ≤ 255 then some (UInt8.ofNat (codeV t).toNat) else none := by
  unfold numL4 okB codeV
  by_cases e : 0 ≤ bv t 0 ∧ 0 ≤ bv t 1 ∧ 0 ≤ bv t 2 ∧ 0 ≤ bv t 3
  · rw [if_pos e]
    obtain ⟨e0, e1, e2, e3⟩ := e
    have hb := (cdL_bounds (l := t) (k := 4) (fun j hj => by
      have : j = 0 ∨ j = 1 ∨ j = 2 ∨ j = 3 := by omega
      rcases this with rfl | rfl | rfl | rfl <;> assumption)).1
    simp [h, e0, e1, e2, e3, hb]
  · rw [if_neg e, if_neg (by simp; omega), if_neg (by omega)]
theorem codeV_bounds (t : List UInt8) : -1 ≤ codeV t ∧ codeV t < 65536 := by
  unfold codeV
  split
  · rename_i e
    obtain ⟨e0, e1, e2, e3⟩ := e
    have hb := (cdL_bounds (l := t) (k := 4) (fun j hj => by
      have : j = 0 ∨ j = 1 ∨ j = 2 ∨ j = 3 := by omega
      rcases this with rfl | rfl | rfl | rfl <;> assumption))
    simp at hb; omega
  · omega
end Go.Proofs.YtcbajgcblfgmgaaDoor.T1
