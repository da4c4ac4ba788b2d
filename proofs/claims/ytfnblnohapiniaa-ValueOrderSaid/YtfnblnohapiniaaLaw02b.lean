/-
  The law ValueOrder.
-/
import Derived.Test.YtfnblnohapiniaaFacts2
import Derived.Test.YtfnblnohapiniaaSame
import Derived.Test.YtfnblnohapiniaaKnows
namespace Go.Proofs.Ytfnblnohapiniaa
open Go.RowKit
/- Three values lie in three boxes. -/
structure Env3 (w : World) (pa pb pc : Nat) (a0 a1 a2 a3 a4 b0 b1 b2 b3 b4 c0 c1 c2 c3 c4 : Value) (ta tb tc : VT) (W : World) : Prop where
  ba : Box W pa a0 a1 a2 a3 a4
  bb : Box W pb b0 b1 b2 b3 b4
  bc : Box W pc c0 c1 c2 c3 c4
  ra : Rd W W.heap.size (.agg #[a0, a1, a2, a3, a4]) ta
  rb : Rd W W.heap.size (.agg #[b0, b1, b2, b3, b4]) tb
  rc : Rd W W.heap.size (.agg #[c0, c1, c2, c3, c4]) tc
  be : Below w.heap.size w W
theorem Env3.kept {w : World} {pa pb pc : Nat} {a0 a1 a2 a3 a4 b0 b1 b2 b3 b4 c0 c1 c2 c3 c4 : Value} {ta tb tc : VT} {W W' : World} (h : Env3 w pa pb pc a0 a1 a2 a3 a4 b0 b1 b2 b3 b4 c0 c1 c2 c3 c4 ta tb tc W) (hb : Below W.heap.size W W') :
    Env3 w pa pb pc a0 a1 a2 a3 a4 b0 b1 b2 b3 b4 c0 c1 c2 c3 c4 ta tb tc W' :=
  ⟨Box.kept h.ba hb, Box.kept h.bb hb, Box.kept h.bc hb, (h.ra.kept hb).mono hb.size, (h.rb.kept hb).mono hb.size, (h.rc.kept hb).mono hb.size, h.be.trans (hb.mono h.be.size)⟩
theorem env3_new (w : World) {a0 a1 a2 a3 a4 b0 b1 b2 b3 b4 c0 c1 c2 c3 c4 : Value} {ta tb tc : VT} (ra : Rd w w.heap.size (.agg #[a0, a1, a2, a3, a4]) ta) (rb : Rd w w.heap.size (.agg #[b0, b1, b2, b3, b4]) tb) (rc : Rd w w.heap.size (.agg #[c0, c1, c2, c3, c4]) tc) :
    Env3 w w.heap.size (w.heap.size + 1) (w.heap.size + 1 + 1) a0 a1 a2 a3 a4 b0 b1 b2 b3 b4 c0 c1 c2 c3 c4 ta tb tc
      (((w.alloc (.cells #[a0, a1, a2, a3, a4] 25 (0, 0))).alloc (.cells #[b0, b1, b2, b3, b4] 25 (0, 0))).alloc (.cells #[c0, c1, c2, c3, c4] 25 (0, 0))) := by
  have x1 : Below w.heap.size w (w.alloc (.cells #[a0, a1, a2, a3, a4] 25 (0, 0))) := (Below.refl _ _).alloc (Nat.le_refl _) _
  have y1 := Box.new w a0 a1 a2 a3 a4
  have z1 : (w.alloc (.cells #[a0, a1, a2, a3, a4] 25 (0, 0))).heap.size = w.heap.size + 1 := World.size_alloc _ _
  generalize w.alloc (.cells #[a0, a1, a2, a3, a4] 25 (0, 0)) = w1 at *
  have x2 : Below w1.heap.size w1 (w1.alloc (.cells #[b0, b1, b2, b3, b4] 25 (0, 0))) := (Below.refl _ _).alloc (Nat.le_refl _) _
  have y2 := Box.new w1 b0 b1 b2 b3 b4
  have z2 : (w1.alloc (.cells #[b0, b1, b2, b3, b4] 25 (0, 0))).heap.size = w1.heap.size + 1 := World.size_alloc _ _
  generalize w1.alloc (.cells #[b0, b1, b2, b3, b4] 25 (0, 0)) = w2 at *
  have x3 : Below w2.heap.size w2 (w2.alloc (.cells #[c0, c1, c2, c3, c4] 25 (0, 0))) := (Below.refl _ _).alloc (Nat.le_refl _) _
  have y3 := Box.new w2 c0 c1 c2 c3 c4
  have z3 : (w2.alloc (.cells #[c0, c1, c2, c3, c4] 25 (0, 0))).heap.size = w2.heap.size + 1 := World.size_alloc _ _
  generalize w2.alloc (.cells #[c0, c1, c2, c3, c4] 25 (0, 0)) = w3 at *
  have t2 : Below w.heap.size w w2 := x1.trans (x2.mono (by omega))
  have t3 : Below w.heap.size w w3 := t2.trans (x3.mono (by omega))
  rw [z1] at y2
  rw [z2, z1] at y3
  exact ⟨Box.kept (Box.kept y1 x2) x3, Box.kept y2 x3, y3, (ra.kept t3).mono (by omega), (rb.kept t3).mono (by omega), (rc.kept t3).mono (by omega), t3⟩
theorem Rd.five {w : World} {B : Nat} {v : Value} {t : VT} (h : Rd w B v t) : ∃ c0 c1 c2 c3 c4, v = .agg #[c0, c1, c2, c3, c4] := by
  obtain ⟨k, n, s, A, li, ci, K, lk, ck, rfl⟩ := h.shape
  exact ⟨_, _, _, _, _, rfl⟩
set_option maxHeartbeats 4000000 in
theorem order_row {w : World} (va : Value) (ta : VT) (ha : Rd w w.heap.size va ta) (vb : Value) (tb : VT) (hb : Rd w w.heap.size vb tb) (vc : Value) (tc : VT) (hc : Rd w w.heap.size vc tc) :
    Calls Try.prog 6 #[va, vb, vc] w fun e w' => e = .returned (.bool true) ∧ Below w.heap.size w w' := by
  obtain ⟨a0, a1, a2, a3, a4, rfl⟩ := ha.five
  obtain ⟨b0, b1, b2, b3, b4, rfl⟩ := hb.five
  obtain ⟨c0, c1, c2, c3, c4, rfl⟩ := hc.five
  have E := Lib.hid (env3_new w ha hb hc)
  clear ha hb hc
  obtain ⟨p0, p1, p2, p3, p4⟩ := E.out.ba.cells
  obtain ⟨q0, q1, q2, q3, q4⟩ := E.out.bb.cells
  obtain ⟨r0, r1, r2, r3, r4⟩ := E.out.bc.cells
  go_enter Try.func6, Try.ntmps6
  go_wp2_with fail
  clear p0 p1 p2 p3 p4 q0 q1 q2 q3 q4 r0 r1 r2 r3 r4
  refine (few_any ta _ _ _ E.out.ra (Nat.le_refl _)).mono ?_
  rintro e w1 ⟨rfl, hb1⟩
  cases hf1 : decide (ta.cnt 400 0 ≤ 400)
  · skip
    have E1 := Lib.hid (E.out.kept hb1)
    clear hb1
    go_wp2_with fail
    refine (knows_any _).mono ?_
    rintro e w9 ⟨rfl, h9⟩
    have B9 := Lib.hid (E1.out.be.trans (h9.mono E1.out.be.size))
    clear h9
    go_wp2_with fail
    go_ret
    exact ⟨rfl, B9.out⟩
  have E1 := Lib.hid (E.out.kept hb1)
  clear hb1 E
  obtain ⟨q0, q1, q2, q3, q4⟩ := E1.out.bb.cells
  go_wp2_with fail
  clear q0 q1 q2 q3 q4
  refine (few_any tb _ _ _ E1.out.rb (Nat.le_refl _)).mono ?_
  rintro e w2 ⟨rfl, hb2⟩
  cases hf2 : decide (tb.cnt 400 0 ≤ 400)
  · skip
    have E2 := Lib.hid (E1.out.kept hb2)
    clear hb2
    go_wp2_with fail
    refine (knows_any _).mono ?_
    rintro e w9 ⟨rfl, h9⟩
    have B9 := Lib.hid (E2.out.be.trans (h9.mono E2.out.be.size))
    clear h9
    go_wp2_with fail
    go_ret
    exact ⟨rfl, B9.out⟩
  have E2 := Lib.hid (E1.out.kept hb2)
  clear hb2 E1
  obtain ⟨q0, q1, q2, q3, q4⟩ := E2.out.bc.cells
  go_wp2_with fail
  clear q0 q1 q2 q3 q4
  refine (few_any tc _ _ _ E2.out.rc (Nat.le_refl _)).mono ?_
  rintro e w3 ⟨rfl, hb3⟩
  cases hf3 : decide (tc.cnt 400 0 ≤ 400)
  · skip
    have E3 := Lib.hid (E2.out.kept hb3)
    clear hb3
    go_wp2_with fail
    refine (knows_any _).mono ?_
    rintro e w9 ⟨rfl, h9⟩
    have B9 := Lib.hid (E3.out.be.trans (h9.mono E3.out.be.size))
    clear h9
    go_wp2_with fail
    go_ret
    exact ⟨rfl, B9.out⟩
  have E3 := Lib.hid (E2.out.kept hb3)
  clear hb3 E2
  obtain ⟨p0, p1, p2, p3, p4⟩ := E3.out.ba.cells
  obtain ⟨q0, q1, q2, q3, q4⟩ := E3.out.bb.cells
  obtain ⟨r0, r1, r2, r3, r4⟩ := E3.out.bc.cells
  go_wp2_with fail
  refine wp_region_past (Env3 w w.heap.size (w.heap.size + 1) (w.heap.size + 1 + 1) a0 a1 a2 a3 a4 b0 b1 b2 b3 b4 c0 c1 c2 c3 c4 ta tb tc) E3.out (by kernel_rfl) ?_
  intro W f _
  clear p0 p1 p2 p3 p4 q0 q1 q2 q3 q4 r0 r1 r2 r3 r4 E3
  have E4 := Lib.hid f
  obtain ⟨p0, p1, p2, p3, p4⟩ := f.ba.past
  obtain ⟨q0, q1, q2, q3, q4⟩ := f.bb.past
  obtain ⟨r0, r1, r2, r3, r4⟩ := f.bc.past
  clear f
  have hr1 := VT.cmp_range ta tb
  have hr2 := VT.cmp_range tb tc
  have hr3 := VT.cmp_range ta tc
  have hv : tb.cmp ta = - ta.cmp tb := VT.cmp_neg ta tb
  have ht := VT.cmp_tri ta tb tc
  generalize hX : ta.cmp tb = X at *
  generalize hY : tb.cmp tc = Y at *
  generalize hZ : ta.cmp tc = Z at *
  generalize hV : tb.cmp ta = V at *
  have k1 : ∀ x : Past W, Calls Try.prog 31 #[.agg #[a0, a1, a2, a3, a4], .agg #[b0, b1, b2, b3, b4]] x.w fun e w'' => e = .returned (.int .i64 X) ∧ ∃ y : Past W, w'' = y.w :=
    fun x => past_of x (by have h := compare_any ta tb _ W.heap.size _ _ (E4.out.ra.kept x.b) (E4.out.rb.kept x.b) x.le; simpa only [hX, hY, hZ, hV, VT.cmp_self] using h)
  have k2 : ∀ x : Past W, Calls Try.prog 31 #[.agg #[b0, b1, b2, b3, b4], .agg #[c0, c1, c2, c3, c4]] x.w fun e w'' => e = .returned (.int .i64 Y) ∧ ∃ y : Past W, w'' = y.w :=
    fun x => past_of x (by have h := compare_any tb tc _ W.heap.size _ _ (E4.out.rb.kept x.b) (E4.out.rc.kept x.b) x.le; simpa only [hX, hY, hZ, hV, VT.cmp_self] using h)
  have k3 : ∀ x : Past W, Calls Try.prog 31 #[.agg #[a0, a1, a2, a3, a4], .agg #[c0, c1, c2, c3, c4]] x.w fun e w'' => e = .returned (.int .i64 Z) ∧ ∃ y : Past W, w'' = y.w :=
    fun x => past_of x (by have h := compare_any ta tc _ W.heap.size _ _ (E4.out.ra.kept x.b) (E4.out.rc.kept x.b) x.le; simpa only [hX, hY, hZ, hV, VT.cmp_self] using h)
  have k4 : ∀ x : Past W, Calls Try.prog 32 #[.agg #[a0, a1, a2, a3, a4], .agg #[b0, b1, b2, b3, b4]] x.w fun e w'' => e = .returned (.int .i64 X) ∧ ∃ y : Past W, w'' = y.w :=
    fun x => past_of x (by have h := rcompare_any ta tb _ W.heap.size _ _ (E4.out.ra.kept x.b) (E4.out.rb.kept x.b) x.le; simpa only [hX, hY, hZ, hV, VT.cmp_self] using h)
  have k5 : ∀ x : Past W, Calls Try.prog 33 #[.agg #[a0, a1, a2, a3, a4], .agg #[b0, b1, b2, b3, b4]] x.w fun e w'' => e = .returned (.bool (decide (X = 0))) ∧ ∃ y : Past W, w'' = y.w :=
    fun x => past_of x (by have h := same_any ta tb _ W.heap.size _ _ (E4.out.ra.kept x.b) (E4.out.rb.kept x.b) x.le; simpa only [hX, hY, hZ, hV, VT.cmp_self] using h)
  have k6 : ∀ x : Past W, Calls Try.prog 31 #[.agg #[b0, b1, b2, b3, b4], .agg #[a0, a1, a2, a3, a4]] x.w fun e w'' => e = .returned (.int .i64 V) ∧ ∃ y : Past W, w'' = y.w :=
    fun x => past_of x (by have h := compare_any tb ta _ W.heap.size _ _ (E4.out.rb.kept x.b) (E4.out.ra.kept x.b) x.le; simpa only [hX, hY, hZ, hV, VT.cmp_self] using h)
  have k7 : ∀ x : Past W, Calls Try.prog 31 #[.agg #[a0, a1, a2, a3, a4], .agg #[a0, a1, a2, a3, a4]] x.w fun e w'' => e = .returned (.int .i64 0) ∧ ∃ y : Past W, w'' = y.w :=
    fun x => past_of x (by have h := compare_any ta ta _ W.heap.size _ _ (E4.out.ra.kept x.b) (E4.out.ra.kept x.b) x.le; simpa only [hX, hY, hZ, hV, VT.cmp_self] using h)
  have k8 : ∀ x : Past W, Calls Try.prog 11 #[] x.w fun e w'' => e = .returned (.bool true) ∧ ∃ y : Past W, w'' = y.w :=
    fun x => past_of x (knows_any _)
  have C1 := Lib.hid k1
  have C2 := Lib.hid k2
  have C3 := Lib.hid k3
  have C4 := Lib.hid k4
  have C5 := Lib.hid k5
  have C6 := Lib.hid k6
  have C7 := Lib.hid k7
  have C8 := Lib.hid k8
  clear k1 k2 k3 k4 k5 k6 k7 k8 hX hY hZ hV
  repeat (go_big_quiet_step (first | with_reducible exact C1.out _ | with_reducible exact C2.out _ | with_reducible exact C3.out _ | with_reducible exact C4.out _ | with_reducible exact C5.out _ | with_reducible exact C6.out _ | with_reducible exact C7.out _ | with_reducible exact C8.out _))
  refine wpQuiet_nil ?_
  intro _ hw'
  obtain ⟨x, rfl⟩ := hw'
  go_wp2_with fail
  have hrV : V = -1 ∨ V = 0 ∨ V = 1 := by omega
  rcases hr1 with rfl | rfl | rfl <;> rcases hrV with rfl | rfl | rfl
  all_goals first
    | (exfalso; omega)
    | skip
  all_goals
    clear hv
    refine (C4.out _).mono ?_
    rintro e _ ⟨rfl, x2, rfl⟩
    clear x
    go_wp2_with fail
    refine (C5.out _).mono ?_
    rintro e _ ⟨rfl, x3, rfl⟩
    clear x2
    go_wp2_with fail
    refine (C6.out _).mono ?_
    rintro e _ ⟨rfl, x4, rfl⟩
    clear x3
    go_wp2_with fail
    rcases hr2 with rfl | rfl | rfl <;> rcases hr3 with rfl | rfl | rfl
  all_goals first
    | (exfalso; unfold Tri at ht; omega)
    | skip
  all_goals
    refine (C7.out _).mono ?_
    rintro e _ ⟨rfl, x5, rfl⟩
    clear x4 ht
    go_wp2_with fail
    refine (C8.out _).mono ?_
    rintro e _ ⟨rfl, x6, rfl⟩
    clear x5
    go_wp2_with fail
    go_ret
    exact ⟨rfl, E4.out.be.trans (x6.b.mono E4.out.be.size)⟩
end Go.Proofs.Ytfnblnohapiniaa
