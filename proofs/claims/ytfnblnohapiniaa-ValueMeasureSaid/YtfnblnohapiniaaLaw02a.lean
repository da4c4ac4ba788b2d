/- trial of the law ValueMeasure -/
import Derived.Test.YtfnblnohapiniaaFacts2
import Derived.Test.YtfnblnohapiniaaMeasure
import Derived.Test.YtfnblnohapiniaaKnows
namespace Go.Proofs.Ytfnblnohapiniaa
open Go.RowKit
def knowsOk : Prop := ∀ w : World, Calls Try.prog 11 #[] w fun e w' => e = .returned (.bool true) ∧ Below w.heap.size w w'
set_option maxHeartbeats 1000000 in
theorem measure_few (hk : knowsOk) (t : VT) (w : World) (v : Value) (h : Rd w w.heap.size v t) (hf : t.cnt 400 0 ≤ 400) :
    Calls Try.prog 5 #[v] w fun e w' => e = .returned (.bool true) ∧ Below w.heap.size w w' := by
  have HRD := Lib.hid h
  have HF := Lib.hid hf
  have hd : decide (t.cnt 400 0 ≤ 400) = true := by simpa using hf
  have HD := Lib.hid hd
  have HK := Lib.hid hk
  clear hf hk hd
  cases h with
  | @mk k n s A li ci K lk ck items keys V hk hn hs hks hli hlk hbi hbk hA hr hK =>
  clear hA hr hK hks hk hn hs hli hlk hbi hbk
  go_enter Try.func5, Try.ntmps5
  go_wp2_with fail
  refine (few_any _ _ w.heap.size _ (HRD.out.kept ((Below.refl _ _).alloc (Nat.le_refl _) _)) (by simp)).mono ?_
  rintro e w1 ⟨rfl, hb1⟩
  rw [HD.out]
  have hs1 := hb1.size
  simp only [World.size_alloc] at hs1
  have hbox := (Box.new w (.int .i64 k) (.int .i64 n) (.string s) (.slice A li ci) (.slice K lk ck)).kept hb1
  obtain ⟨x0, x1, x2, x3, x4⟩ := hbox.cells
  have HB1 := Lib.hid ((((Below.refl _ _).alloc (Nat.le_refl _) _).trans (hb1.mono (by simp))) : Below w.heap.size w w1)
  have HX := Lib.hid hbox
  clear hb1 hbox
  go_wp2_with fail
  refine (list_any _ _ _ _).mono ?_
  rintro e w2 ⟨rfl, hb2⟩
  have hs2 := hb2.size
  simp only [World.size_alloc] at hs2
  have HB2 := Lib.hid hb2
  clear hb2 x0 x1 x2 x3 x4
  go_wp2_with fail
  have hz := Nat.le_trans (VT.size_le _) (VT.wt_le HF.out)
  have hdp := Nat.le_trans (VT.depth_le _) hz
  refine wp_region_past (fun W => Box W w.heap.size (.int .i64 k) (.int .i64 n) (.string s) (.slice A li ci) (.slice K lk ck) ∧ Box W w2.heap.size (.int .i64 5) (.int .i64 0) (.string ⟨#[]⟩) (.slice (some ⟨w1.heap.size, 0, none⟩) 1 1) (.slice none 0 0) ∧
    Rd W W.heap.size (.agg #[.int .i64 k, .int .i64 n, .string s, .slice A li ci, .slice K lk ck]) (.mk k n s items keys) ∧
    Rd W W.heap.size (.agg #[.int .i64 5, .int .i64 0, .string ⟨#[]⟩, .slice (some ⟨w1.heap.size, 0, none⟩) 1 1, .slice none 0 0]) (.mk 5 0 ⟨#[]⟩ [.mk k n s items keys] []) ∧ Below w.heap.size w W) ?_ (by kernel_rfl) ?_
  · have b1 : Below w.heap.size w (w2.alloc (.cells #[.int .i64 5, .int .i64 0, .string ⟨#[]⟩, .slice (some ⟨w1.heap.size, 0, none⟩) 1 1, .slice none 0 0] 25 (0, 0))) :=
      ((HB1.out.alloc (by omega) _).trans (HB2.out.mono (by simp; omega))).alloc (by omega) _
    have b2 : Below w1.heap.size w1 (w2.alloc (.cells #[.int .i64 5, .int .i64 0, .string ⟨#[]⟩, .slice (some ⟨w1.heap.size, 0, none⟩) 1 1, .slice none 0 0] 25 (0, 0))) :=
      (((Below.refl _ _).alloc (Nat.le_refl _) _).trans (HB2.out.mono (by simp))).alloc (by omega) _
    have f3 := (HRD.out.kept b1).mono (B' := w2.heap.size + 1) (by omega)
    have f0 : Box (w2.alloc (.cells #[.int .i64 5, .int .i64 0, .string ⟨#[]⟩, .slice (some ⟨w1.heap.size, 0, none⟩) 1 1, .slice none 0 0] 25 (0, 0))) w1.heap.size (.int .i64 k) (.int .i64 n) (.string s) (.slice A li ci) (.slice K lk ck) :=
      ((Box.new w1 _ _ _ _ _).kept HB2.out).alloc _
    exact ⟨HX.out.kept b2, Box.new _ _ _ _ _ _, by simpa using f3, by simpa using Rd.list1 f0 (by omega) f3, b1⟩
  intro W ⟨f1, f2, f3, f4, f5⟩ _
  obtain ⟨p0, p1, p2, p3, p4⟩ := f1.past
  obtain ⟨q0, q1, q2, q3, q4⟩ := f2.past
  have F3 := Lib.hid f3
  have F4 := Lib.hid f4
  have F5 := Lib.hid f5
  clear f1 f2 f3 f4 f5
  generalize VT.mk k n s items keys = t at *
  have c1 : ∀ x : Past W, Calls Try.prog 27 #[.agg #[.int .i64 k, .int .i64 n, .string s, .slice A li ci, .slice K lk ck]] x.w fun e w'' => e = .returned (.int .i64 t.size) ∧ ∃ y : Past W, w'' = y.w :=
    fun x => past_of x (size_any t _ W.heap.size _ (F3.out.kept x.b) x.le (by omega))
  have c2 : ∀ x : Past W, Calls Try.prog 28 #[.agg #[.int .i64 k, .int .i64 n, .string s, .slice A li ci, .slice K lk ck]] x.w fun e w'' => e = .returned (.int .i64 t.size) ∧ ∃ y : Past W, w'' = y.w :=
    fun x => past_of x (rsize_any t _ W.heap.size _ (F3.out.kept x.b) x.le (by omega))
  have c3 : ∀ x : Past W, Calls Try.prog 29 #[.agg #[.int .i64 k, .int .i64 n, .string s, .slice A li ci, .slice K lk ck]] x.w fun e w'' => e = .returned (.int .i64 t.depth) ∧ ∃ y : Past W, w'' = y.w :=
    fun x => past_of x (depth_any t _ W.heap.size _ (F3.out.kept x.b) x.le (by omega))
  have c4 : ∀ x : Past W, Calls Try.prog 30 #[.agg #[.int .i64 k, .int .i64 n, .string s, .slice A li ci, .slice K lk ck]] x.w fun e w'' => e = .returned (.int .i64 t.depth) ∧ ∃ y : Past W, w'' = y.w :=
    fun x => past_of x (rdepth_any t _ W.heap.size _ (F3.out.kept x.b) x.le (by omega))
  have c5 : ∀ x : Past W, Calls Try.prog 27 #[.agg #[.int .i64 5, .int .i64 0, .string ⟨#[]⟩, .slice (some ⟨w1.heap.size, 0, none⟩) 1 1, .slice none 0 0]] x.w fun e w'' => e = .returned (.int .i64 (t.size + 1)) ∧ ∃ y : Past W, w'' = y.w :=
    fun x => past_of x (by
      have := size_any _ _ W.heap.size _ (F4.out.kept x.b) x.le (by simp [VT.size, VT.sizes]; omega)
      have e : ((VT.mk 5 0 ⟨#[]⟩ [t] []).size : Int) = t.size + 1 := by simp [VT.size, VT.sizes]; omega
      rw [e] at this; exact this)
  have c6 : ∀ x : Past W, Calls Try.prog 29 #[.agg #[.int .i64 5, .int .i64 0, .string ⟨#[]⟩, .slice (some ⟨w1.heap.size, 0, none⟩) 1 1, .slice none 0 0]] x.w fun e w'' => e = .returned (.int .i64 (t.depth + 1)) ∧ ∃ y : Past W, w'' = y.w :=
    fun x => past_of x (by
      have := depth_any _ _ W.heap.size _ (F4.out.kept x.b) x.le (by simp [VT.depth, VT.depths]; omega)
      have e : ((VT.mk 5 0 ⟨#[]⟩ [t] []).depth : Int) = t.depth + 1 := by simp [VT.depth, VT.depths]; omega
      rw [e] at this; exact this)
  have c7 : ∀ x : Past W, Calls Try.prog 11 #[] x.w fun e w'' => e = .returned (.bool true) ∧ ∃ y : Past W, w'' = y.w :=
    fun x => past_of x (HK.out _)
  have C1 := Lib.hid c1
  have C2 := Lib.hid c2
  have C3 := Lib.hid c3
  have C4 := Lib.hid c4
  have C5 := Lib.hid c5
  have C6 := Lib.hid c6
  have C7 := Lib.hid c7
  clear c1 c2 c3 c4 c5 c6 c7
  repeat (go_big_quiet_step (first | with_reducible exact C1.out _ | with_reducible exact C2.out _ | with_reducible exact C3.out _ | with_reducible exact C4.out _ | with_reducible exact C5.out _ | with_reducible exact C6.out _ | with_reducible exact C7.out _))
  refine wpQuiet_nil ?_
  intro _ hw'
  obtain ⟨x, rfl⟩ := hw'
  go_wp2_with fail
  go_ret
  exact ⟨rfl, F5.out.trans (x.b.mono F5.out.size)⟩
set_option maxHeartbeats 1000000 in
theorem measure_far (hk : knowsOk) (t : VT) (w : World) (v : Value) (h : Rd w w.heap.size v t) (hf : ¬ t.cnt 400 0 ≤ 400) :
    Calls Try.prog 5 #[v] w fun e w' => e = .returned (.bool true) ∧ Below w.heap.size w w' := by
  have HRD := Lib.hid h
  have hd : decide (t.cnt 400 0 ≤ 400) = false := by simpa using hf
  have HD := Lib.hid hd
  have HK := Lib.hid hk
  clear hf hk hd
  obtain ⟨k, n, s, A, li, ci, K, lk, ck, rfl⟩ := h.shape
  clear h
  go_enter Try.func5, Try.ntmps5
  go_wp2_with fail
  refine (few_any _ _ w.heap.size _ (HRD.out.kept ((Below.refl _ _).alloc (Nat.le_refl _) _)) (by simp)).mono ?_
  rintro e w1 ⟨rfl, hb1⟩
  rw [HD.out]
  have HB1 := Lib.hid ((((Below.refl _ _).alloc (Nat.le_refl _) _).trans (hb1.mono (by simp))) : Below w.heap.size w w1)
  clear hb1
  go_wp2_with fail
  refine (HK.out _).mono ?_
  rintro e w2 ⟨rfl, hb2⟩
  have HB2 := Lib.hid (HB1.out.trans (hb2.mono HB1.out.size))
  clear hb2
  go_wp2_with fail
  go_ret
  exact ⟨rfl, HB2.out⟩
theorem measure_row (v : Value) (t : VT) {w : World} (h : Rd w w.heap.size v t) : Calls Try.prog 5 #[v] w fun e w' => e = .returned (.bool true) ∧ Below w.heap.size w w' := by
  by_cases hf : t.cnt 400 0 ≤ 400
  · exact measure_few knows_any t w v h hf
  · exact measure_far knows_any t w v h hf
end Go.Proofs.Ytfnblnohapiniaa
