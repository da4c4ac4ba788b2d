
/-
  Swap of two elements of an object.
-/
import Derived.Test.YtgbckpihlklnlaaSort2
namespace Go.Proofs.Ytgbckpihlklnlaa
open Go.RowKit
set_option maxHeartbeats 2000000 in
theorem swap2 (w : World) (kb ib ck ci : Nat) (a b : ByteArray) (x y : Int) (h : St2 w kb ib a b x y) :
    Calls Try.prog 81 #[byK kb ib ck ci, .int .i64 1, .int .i64 0] w fun e w' => e = .returned (.tuple #[]) ∧ St2 w' kb ib b a y x ∧ Two kb ib w w' := by
  unfold byK
  have H := Lib.hid h
  obtain ⟨l1, l2, ne, k0, k1, fk0, fk1, c0, c1, c2, c3, c4, c5, c6, c7, c8, c9, f⟩ := h
  have f0 := f 0 (by omega)
  have f1 := f 1 (by omega)
  have f2 := f 2 (by omega)
  have f3 := f 3 (by omega)
  have f4 := f 4 (by omega)
  have f5 := f 5 (by omega)
  have f6 := f 6 (by omega)
  have f7 := f 7 (by omega)
  have f8 := f 8 (by omega)
  have f9 := f 9 (by omega)
  have F := Lib.hid f
  clear f
  go_enter Try.func81, Try.ntmps81
  go_wp2_with fail
  have n1 : kb ≠ w.heap.size := by omega
  have n2 : w.heap.size ≠ kb := by omega
  have n3 : ib ≠ w.heap.size := by omega
  have n4 : w.heap.size ≠ ib := by omega
  go_region
  go_wp2_with fail
  go_region
  go_wp2_with fail
  go_end0
  exact ⟨rfl, st2_swapped H.out _ _⟩
end Go.Proofs.Ytgbckpihlklnlaa
