
/-
  The reference's measure of a value.
-/
import Derived.Test.YtcbajgcblfgmgaaGreatDoorJPrintV
namespace Go.Proofs.YtcbajgcblfgmgaaGreatDoor
open Go.RowKit
def WtPost (m : Nat) (w : World) (e : Ending) (w' : World) : Prop := (∃ x : Nat, e = .returned (.int .i64 x) ∧ x ≤ m ∧ (x ≤ 3000 → x = m)) ∧ Below w.heap.size w w'
end Go.Proofs.YtcbajgcblfgmgaaGreatDoor
