
/-
  Get, by the program and by the reference: what it hands back reads as the item.
-/
import Derived.Test.YtgbckpihlklnlaaRGet
import Derived.Test.YtgbckpihlklnlaaKnows
namespace Go.Proofs.Ytgbckpihlklnlaa
open Go.RowKit
def GotPost (w : World) (r : Option VT) (e : Ending) (w' : World) : Prop :=
  (∃ (k n : Int) (s : ByteArray) (A : Option Addr) (li ci : Nat) (K : Option Addr) (lk ck : Nat), e = .returned (.tuple #[.agg #[.int .i64 k, .int .i64 n, .string s, .slice A li ci, .slice K lk ck], .bool r.isSome]) ∧ Rd w' w'.heap.size (.agg #[.int .i64 k, .int .i64 n, .string s, .slice A li ci, .slice K lk ck]) (r.getD (bareT 0 0 ⟨#[]⟩))) ∧ Below w.heap.size w w'
theorem got_any (t : VT) (x : ByteArray) (w : World) (B : Nat) (v : Value) (h : Rd w B v t) (hB : B ≤ w.heap.size) : Calls Try.prog 10 #[v, .string x] w (GotPost w (t.get x)) := by
  refine (get_any t x w B v h hB).mono ?_
  rintro e w' ⟨⟨u, hu⟩, hb⟩
  refine ⟨?_, hb⟩
  cases hr : t.get x with
  | none =>
    rw [hr] at hu
    exact ⟨_, _, _, _, _, _, _, _, _, hu, rd_bare _ _ _ _ _ (by unfold small; omega) (by unfold small; omega) (by decide)⟩
  | some t2 =>
    rw [hr] at hu
    obtain ⟨k, n, s, A, li, ci, K, lk, ck, rfl⟩ := hu.2.shape
    exact ⟨_, _, _, _, _, _, _, _, _, hu.1, (hu.2.kept (hb.mono hB)).mono (Nat.le_trans hB hb.size)⟩
theorem rgot_any (t : VT) (x : ByteArray) (w : World) (B : Nat) (v : Value) (h : Rd w B v t) (hB : B ≤ w.heap.size) : Calls Try.prog 11 #[v, .string x] w (GotPost w (t.get x)) := by
  refine (rget_any t x w B v h hB).mono ?_
  rintro e w' ⟨⟨u, hu⟩, hb⟩
  refine ⟨?_, hb⟩
  cases hr : t.get x with
  | none =>
    rw [hr] at hu
    exact ⟨_, _, _, _, _, _, _, _, _, hu, rd_bare _ _ _ _ _ (by unfold small; omega) (by unfold small; omega) (by decide)⟩
  | some t2 =>
    rw [hr] at hu
    obtain ⟨k, n, s, A, li, ci, K, lk, ck, rfl⟩ := hu.2.shape
    exact ⟨_, _, _, _, _, _, _, _, _, hu.1, hu.2⟩
end Go.Proofs.Ytgbckpihlklnlaa
