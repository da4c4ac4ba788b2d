
/-
  Same.
-/
import Derived.Test.YtgbckpihlklnlaaRCompare
namespace Go.Proofs.Ytgbckpihlklnlaa
open Go.RowKit
theorem same_any (t t' : VT) (w : World) (B : Nat) (v v' : Value) (h : Rd w B v t) (h' : Rd w B v' t') (hB : B ≤ w.heap.size) :
    Calls Try.prog 23 #[v, v'] w fun e w' => e = .returned (.bool (decide (t.cmp t' = 0))) ∧ Below w.heap.size w w' := by
  have HC : Hid (∀ w2, Below w.heap.size w w2 → Calls Try.prog 22 #[v, v'] w2 fun e w' => e = .returned (.int .i64 (t.cmp t')) ∧ Below w2.heap.size w2 w') :=
    Lib.hid fun w2 hb => compare_any t t' w2 B v v' (h.kept (hb.mono hB)) (h'.kept (hb.mono hB)) (Nat.le_trans hB hb.size)
  obtain ⟨k, n, s, A, li, ci, K, lk, ck, rfl⟩ := h.shape
  obtain ⟨k', n', s', A', li', ci', K', lk', ck', rfl⟩ := h'.shape
  clear h h'
  obtain ⟨f1, f2, f3⟩ := Box.two w (.int .i64 k) (.int .i64 n) (.string s) (.slice A li ci) (.slice K lk ck) (.int .i64 k') (.int .i64 n') (.string s') (.slice A' li' ci') (.slice K' lk' ck')
  have HC2 := Lib.hid (HC.out _ f3)
  have F3 := Lib.hid f3
  obtain ⟨c0, c1, c2, c3, c4⟩ := f1.cells
  obtain ⟨d0, d1, d2, d3, d4⟩ := f2.cells
  clear f1 f2 f3 HC
  go_enter Try.func23, Try.ntmps23
  go_wp2_with fail
  refine HC2.out.mono ?_
  rintro e w1 ⟨rfl, hb⟩
  have HB := Lib.hid (F3.out.trans (hb.mono F3.out.size))
  clear hb
  clear c0 c1 c2 c3 c4 d0 d1 d2 d3 d4
  go_wp2_with fail
  go_ret
  exact ⟨rfl, HB.out⟩
theorem rsame_any (t t' : VT) (w : World) (B : Nat) (v v' : Value) (h : Rd w B v t) (h' : Rd w B v' t') (hB : B ≤ w.heap.size) :
    Calls Try.prog 9 #[v, v'] w fun e w' => e = .returned (.bool (decide (t.cmp t' = 0))) ∧ Below w.heap.size w w' := by
  have HC : Hid (∀ w2, Below w.heap.size w w2 → Calls Try.prog 28 #[v, v'] w2 fun e w' => e = .returned (.int .i64 (t.cmp t')) ∧ Below w2.heap.size w2 w') :=
    Lib.hid fun w2 hb => rcompare_any t t' w2 B v v' (h.kept (hb.mono hB)) (h'.kept (hb.mono hB)) (Nat.le_trans hB hb.size)
  obtain ⟨k, n, s, A, li, ci, K, lk, ck, rfl⟩ := h.shape
  obtain ⟨k', n', s', A', li', ci', K', lk', ck', rfl⟩ := h'.shape
  clear h h'
  obtain ⟨f1, f2, f3⟩ := Box.two w (.int .i64 k) (.int .i64 n) (.string s) (.slice A li ci) (.slice K lk ck) (.int .i64 k') (.int .i64 n') (.string s') (.slice A' li' ci') (.slice K' lk' ck')
  have HC2 := Lib.hid (HC.out _ f3)
  have F3 := Lib.hid f3
  obtain ⟨c0, c1, c2, c3, c4⟩ := f1.cells
  obtain ⟨d0, d1, d2, d3, d4⟩ := f2.cells
  clear f1 f2 f3 HC
  go_enter Try.func9, Try.ntmps9
  go_wp2_with fail
  refine HC2.out.mono ?_
  rintro e w1 ⟨rfl, hb⟩
  have HB := Lib.hid (F3.out.trans (hb.mono F3.out.size))
  clear hb
  clear c0 c1 c2 c3 c4 d0 d1 d2 d3 d4
  go_wp2_with fail
  go_ret
  exact ⟨rfl, HB.out⟩
end Go.Proofs.Ytgbckpihlklnlaa
