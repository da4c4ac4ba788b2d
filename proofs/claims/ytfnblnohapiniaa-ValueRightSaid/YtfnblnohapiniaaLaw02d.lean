/-
  The law ValueRight.
-/
import Derived.Test.YtfnblnohapiniaaRNodeAll
import Derived.Test.YtfnblnohapiniaaKnows
namespace Go.Proofs.Ytfnblnohapiniaa
open Go.RowKit
set_option maxHeartbeats 2000000 in
theorem right_row {w : World} (v : Value) (t : VT) (h : Rd w w.heap.size v t) :
    Calls Try.prog 3 #[v] w fun e w' => e = .returned (.bool true) ∧ Below w.heap.size w w' := by
  have HRD := Lib.hid h
  obtain ⟨k, n, s, A, li, ci, K, lk, ck, rfl⟩ := h.shape
  clear h
  have b0 : Below w.heap.size w (w.alloc (.cells #[.int .i64 k, .int .i64 n, .string s, .slice A li ci, .slice K lk ck] 25 (0, 0))) := (Below.refl _ _).alloc (Nat.le_refl _) _
  have X0 := Lib.hid (Box.new w (.int .i64 k) (.int .i64 n) (.string s) (.slice A li ci) (.slice K lk ck))
  have HC := Lib.hid (count_any t _ w.heap.size _ 0 5000 (HRD.out.kept b0) (by simp) (by omega) (by omega))
  have B0 := Lib.hid b0
  clear b0
  go_enter Try.func3, Try.ntmps3
  go_wp2_with fail
  refine HC.out.mono ?_
  rintro e w1 ⟨rfl, b1⟩
  have B1 := Lib.hid (B0.out.trans (b1.mono B0.out.size))
  have X1 := Lib.hid (X0.out.kept b1)
  clear b1 X0 B0 HC
  by_cases hf : t.cnt 5000 0 ≤ 5000
  · have hf2 : decide ((5000 : Int) < t.cnt 5000 0) = false := by simp; omega
    have HF := Lib.hid hf
    go_wp2_with fail
    refine wp_region_past (fun W => Box W w.heap.size (.int .i64 k) (.int .i64 n) (.string s) (.slice A li ci) (.slice K lk ck) ∧ Rd W W.heap.size (.agg #[.int .i64 k, .int .i64 n, .string s, .slice A li ci, .slice K lk ck]) t ∧ Below w.heap.size w W) ⟨X1.out, (HRD.out.kept B1.out).mono B1.out.size, B1.out⟩ (by kernel_rfl) ?_
    intro W ⟨f1, f2, f3⟩ _
    clear X1 B1
    obtain ⟨p0, p1, p2, p3, p4⟩ := f1.past
    have F2 := Lib.hid f2
    have F3 := Lib.hid f3
    clear f1 f2 f3
    have hz : t.size ≤ 1000000 := by have := Nat.le_trans (VT.size_le t) (VT.wt_le HF.out); omega
    generalize hr1 : rightB false t = y1
    generalize hr2 : rightB true t = y2
    have k1 : ∀ x : Past W, Calls Try.prog 12 #[.agg #[.int .i64 k, .int .i64 n, .string s, .slice A li ci, .slice K lk ck]] x.w fun e w'' => e = .returned (.bool y1) ∧ ∃ y : Past W, w'' = y.w := fun x => past_of x (by rw [← hr1]; exact right_any t _ W.heap.size _ (F2.out.kept x.b) x.le)
    have k2 : ∀ x : Past W, Calls Try.prog 13 #[.agg #[.int .i64 k, .int .i64 n, .string s, .slice A li ci, .slice K lk ck]] x.w fun e w'' => e = .returned (.bool y1) ∧ ∃ y : Past W, w'' = y.w := fun x => past_of x (by rw [← hr1]; exact rright_any rnode_any t _ W.heap.size _ (F2.out.kept x.b) x.le hz)
    have k3 : ∀ x : Past W, Calls Try.prog 14 #[.agg #[.int .i64 k, .int .i64 n, .string s, .slice A li ci, .slice K lk ck]] x.w fun e w'' => e = .returned (.bool y2) ∧ ∃ y : Past W, w'' = y.w := fun x => past_of x (by rw [← hr2]; exact literal_any t _ W.heap.size _ (F2.out.kept x.b) x.le)
    have k4 : ∀ x : Past W, Calls Try.prog 15 #[.agg #[.int .i64 k, .int .i64 n, .string s, .slice A li ci, .slice K lk ck]] x.w fun e w'' => e = .returned (.bool y2) ∧ ∃ y : Past W, w'' = y.w := fun x => past_of x (by rw [← hr2]; exact rliteral_any rnode_any t _ W.heap.size _ (F2.out.kept x.b) x.le hz)
    have k5 : ∀ x : Past W, Calls Try.prog 11 #[] x.w fun e w'' => e = .returned (.bool true) ∧ ∃ y : Past W, w'' = y.w := fun x => past_of x (knows_any _)
    have C1 := Lib.hid k1
    have C2 := Lib.hid k2
    have C3 := Lib.hid k3
    have C4 := Lib.hid k4
    have C5 := Lib.hid k5
    clear k1 k2 k3 k4 k5 hr1 hr2
    cases y1 <;> cases y2
    all_goals
      repeat (go_big_quiet_step (first | with_reducible exact C1.out _ | with_reducible exact C2.out _ | with_reducible exact C3.out _ | with_reducible exact C4.out _ | with_reducible exact C5.out _))
      refine wpQuiet_nil ?_
      intro _ hw'
      obtain ⟨x, rfl⟩ := hw'
      go_wp2_with fail
      go_ret
      exact ⟨rfl, F3.out.trans (x.b.mono F3.out.size)⟩
  · have hf2 : decide ((5000 : Int) < t.cnt 5000 0) = true := by simp; omega
    go_wp2_with fail
    refine (knows_any _).mono ?_
    rintro e w2 ⟨rfl, b2⟩
    have B2 := Lib.hid (B1.out.trans (b2.mono B1.out.size))
    clear b2
    go_wp2_with fail
    go_ret
    exact ⟨rfl, B2.out⟩
end Go.Proofs.Ytfnblnohapiniaa
