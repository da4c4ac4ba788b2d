
/-
  Contracts of Compare in both packages.
-/
import Derived.Test.YtcbajgcblfgmgaaGreatDoorCmp
import Derived.Test.YtcbajgcblfgmgaaGreatDoorPast
import Derived.Test.YtcbajgcblfgmgaaGreatDoorShelf
import Derived.Deep.RegionHeld3
namespace Go.Proofs.YtcbajgcblfgmgaaGreatDoor
open Go.RowKit
theorem less_cmp : ∀ a b : List UInt8, Op.bytesLess a b = decide (Lib.compareBytes a b = -1)
  | [], [] => by simp [Op.bytesLess, Lib.compareBytes]
  | _ :: _, [] => by simp [Op.bytesLess, Lib.compareBytes]
  | [], _ :: _ => by simp [Op.bytesLess, Lib.compareBytes]
  | a :: xs, b :: ys => by
    have ih := less_cmp xs ys
    unfold Op.bytesLess Lib.compareBytes
    simp only [UInt8.lt_iff_toNat_lt]
    by_cases h1 : a.toNat < b.toNat
    · simp [h1]
    · by_cases h2 : b.toNat < a.toNat
      · simp [h1, h2]; intro e; rw [e] at h2; omega
      · have e : a = b := UInt8.toNat_inj.1 (by omega)
        subst e
        simp [ih]
theorem cmpL_zero : ∀ a b : List UInt8, Lib.compareBytes a b = 0 ↔ a = b
  | [], [] => by simp [Lib.compareBytes]
  | _ :: _, [] => by simp [Lib.compareBytes]
  | [], _ :: _ => by simp [Lib.compareBytes]
  | a :: xs, b :: ys => by
    have ih := cmpL_zero xs ys
    unfold Lib.compareBytes
    simp only [UInt8.lt_iff_toNat_lt]
    by_cases h1 : a.toNat < b.toNat
    · simp [h1]; intro e; rw [e] at h1; omega
    · by_cases h2 : b.toNat < a.toNat
      · simp [h1, h2]; intro e; rw [e] at h2; omega
      · have e : a = b := UInt8.toNat_inj.1 (by omega)
        subst e
        simp [ih]
def VT.keys : VT → List ByteArray | .mk _ _ _ _ ks => ks
def VT.items : VT → List VT | .mk _ _ _ is _ => is
theorem Rd.shape {w : World} {B : Nat} {v : Value} {t : VT} (h : Rd w B v t) : ∃ (k n : Int) (s : ByteArray) (A : Option Addr) (li ci : Nat) (K : Option Addr) (lk ck : Nat), v = .agg #[.int .i64 k, .int .i64 n, .string s, .slice A li ci, .slice K lk ck] := by
  cases h with
  | mk V hk hn hs hks hli hlk hbi hbk hA hr hK => exact ⟨_, _, _, _, _, _, _, _, _, rfl⟩
/- The contract of Compare at one tree, for the induction. -/
def CmpAt (f : FuncId) (t : VT) : Prop := ∀ (t' : VT) (w : World) (B : Nat) (v v' : Value), Rd w B v t → Rd w B v' t' → B ≤ w.heap.size →
    Calls Tryz.prog f #[v, v'] w fun e w' => e = .returned (.int .i64 (t.cmp t')) ∧ Below w.heap.size w w'
end Go.Proofs.YtcbajgcblfgmgaaGreatDoor
