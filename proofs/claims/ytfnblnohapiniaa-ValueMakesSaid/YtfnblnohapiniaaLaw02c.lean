/-
  The law ValueMakes.
-/
import Derived.Test.YtfnblnohapiniaaFacts2
import Derived.Test.YtfnblnohapiniaaSame
import Derived.Test.YtfnblnohapiniaaKnows
namespace Go.Proofs.Ytfnblnohapiniaa
open Go.RowKit
/- Four values lie in four boxes. -/
structure Env4 (w : World) (q : Nat) (y : Bool) (n : Int) (s : ByteArray) (W : World) : Prop where
  ba : Box W q (.int .i64 1) (.int .i64 (yesI y)) (.string ⟨#[]⟩) (.slice none 0 0) (.slice none 0 0)
  bb : Box W (q + 1) (.int .i64 2) (.int .i64 n) (.string ⟨#[]⟩) (.slice none 0 0) (.slice none 0 0)
  bc : Box W (q + 1 + 1) (.int .i64 3) (.int .i64 0) (.string s) (.slice none 0 0) (.slice none 0 0)
  bd : Box W (q + 1 + 1 + 1) (.int .i64 4) (.int .i64 0) (.string s) (.slice none 0 0) (.slice none 0 0)
  be : Below w.heap.size w W
theorem Env4.kept {w : World} {q : Nat} {y : Bool} {n : Int} {s : ByteArray} {W W' : World} (h : Env4 w q y n s W) (hb : Below W.heap.size W W') : Env4 w q y n s W' :=
  ⟨Box.kept h.ba hb, Box.kept h.bb hb, Box.kept h.bc hb, Box.kept h.bd hb, h.be.trans (hb.mono h.be.size)⟩
theorem env4_new (w w4 : World) (y : Bool) (n : Int) (s : ByteArray) (h : Below w.heap.size w w4) :
    Env4 w w4.heap.size y n s ((((w4.alloc (.cells #[.int .i64 1, .int .i64 (yesI y), .string ⟨#[]⟩, .slice none 0 0, .slice none 0 0] 25 (0, 0))).alloc (.cells #[.int .i64 2, .int .i64 n, .string ⟨#[]⟩, .slice none 0 0, .slice none 0 0] 25 (0, 0))).alloc (.cells #[.int .i64 3, .int .i64 0, .string s, .slice none 0 0, .slice none 0 0] 25 (0, 0))).alloc (.cells #[.int .i64 4, .int .i64 0, .string s, .slice none 0 0, .slice none 0 0] 25 (0, 0))) := by
  have x5 : Below w4.heap.size w4 (w4.alloc (.cells #[.int .i64 1, .int .i64 (yesI y), .string ⟨#[]⟩, .slice none 0 0, .slice none 0 0] 25 (0, 0))) := (Below.refl _ _).alloc (Nat.le_refl _) _
  have y5 := Box.new w4 (.int .i64 1) (.int .i64 (yesI y)) (.string ⟨#[]⟩) (.slice none 0 0) (.slice none 0 0)
  have z5 : (w4.alloc (.cells #[.int .i64 1, .int .i64 (yesI y), .string ⟨#[]⟩, .slice none 0 0, .slice none 0 0] 25 (0, 0))).heap.size = w4.heap.size + 1 := World.size_alloc _ _
  generalize w4.alloc (.cells #[.int .i64 1, .int .i64 (yesI y), .string ⟨#[]⟩, .slice none 0 0, .slice none 0 0] 25 (0, 0)) = w5 at *
  have x6 : Below w5.heap.size w5 (w5.alloc (.cells #[.int .i64 2, .int .i64 n, .string ⟨#[]⟩, .slice none 0 0, .slice none 0 0] 25 (0, 0))) := (Below.refl _ _).alloc (Nat.le_refl _) _
  have y6 := Box.new w5 (.int .i64 2) (.int .i64 n) (.string ⟨#[]⟩) (.slice none 0 0) (.slice none 0 0)
  have z6 : (w5.alloc (.cells #[.int .i64 2, .int .i64 n, .string ⟨#[]⟩, .slice none 0 0, .slice none 0 0] 25 (0, 0))).heap.size = w5.heap.size + 1 := World.size_alloc _ _
  generalize w5.alloc (.cells #[.int .i64 2, .int .i64 n, .string ⟨#[]⟩, .slice none 0 0, .slice none 0 0] 25 (0, 0)) = w6 at *
  have x7 : Below w6.heap.size w6 (w6.alloc (.cells #[.int .i64 3, .int .i64 0, .string s, .slice none 0 0, .slice none 0 0] 25 (0, 0))) := (Below.refl _ _).alloc (Nat.le_refl _) _
  have y7 := Box.new w6 (.int .i64 3) (.int .i64 0) (.string s) (.slice none 0 0) (.slice none 0 0)
  have z7 : (w6.alloc (.cells #[.int .i64 3, .int .i64 0, .string s, .slice none 0 0, .slice none 0 0] 25 (0, 0))).heap.size = w6.heap.size + 1 := World.size_alloc _ _
  generalize w6.alloc (.cells #[.int .i64 3, .int .i64 0, .string s, .slice none 0 0, .slice none 0 0] 25 (0, 0)) = w7 at *
  have x8 : Below w7.heap.size w7 (w7.alloc (.cells #[.int .i64 4, .int .i64 0, .string s, .slice none 0 0, .slice none 0 0] 25 (0, 0))) := (Below.refl _ _).alloc (Nat.le_refl _) _
  have y8 := Box.new w7 (.int .i64 4) (.int .i64 0) (.string s) (.slice none 0 0) (.slice none 0 0)
  have z8 : (w7.alloc (.cells #[.int .i64 4, .int .i64 0, .string s, .slice none 0 0, .slice none 0 0] 25 (0, 0))).heap.size = w7.heap.size + 1 := World.size_alloc _ _
  generalize w7.alloc (.cells #[.int .i64 4, .int .i64 0, .string s, .slice none 0 0, .slice none 0 0] 25 (0, 0)) = w8 at *
  have hs := h.size
  rw [z5] at y6
  rw [z6, z5] at y7
  rw [z7, z6, z5] at y8
  exact ⟨Box.kept (Box.kept (Box.kept y5 x6) x7) x8, Box.kept (Box.kept y6 x7) x8, Box.kept y7 x8, y8, (((h.trans (x5.mono hs)).trans (x6.mono (by omega))).trans (x7.mono (by omega))).trans (x8.mono (by omega))⟩
theorem rsame_bare (k n : Int) (s : ByteArray) (hk : small k) (hn : small n) (hs : s.size ≤ 140737488351232) (w : World) :
    Calls Try.prog 20 #[.agg #[.int .i64 k, .int .i64 n, .string s, .slice none 0 0, .slice none 0 0], .agg #[.int .i64 k, .int .i64 n, .string s, .slice none 0 0, .slice none 0 0]] w fun e w' => e = .returned (.bool true) ∧ Below w.heap.size w w' := by
  have rb := rd_bare w w.heap.size k n s hk hn hs
  refine (rsame_any _ _ w _ _ _ rb rb (Nat.le_refl _)).mono fun e w' ⟨h, hb⟩ => ⟨?_, hb⟩
  rw [h, decide_eq_true (VT.cmp_self _)]
theorem small_yes (y : Bool) : small (yesI y) := by cases y <;> (unfold small yesI; decide)
def three (y : Bool) (n : Int) (s : ByteArray) : Array Value := #[.int .i64 1, .int .i64 (yesI y), .string ⟨#[]⟩, .slice none 0 0, .slice none 0 0, .int .i64 2, .int .i64 n, .string ⟨#[]⟩, .slice none 0 0, .slice none 0 0, .int .i64 3, .int .i64 0, .string s, .slice none 0 0, .slice none 0 0]
theorem right_bare1 (y : Bool) : rightB false (bareT 1 (yesI y) ⟨#[]⟩) = true := by cases y <;> rfl
theorem right_bare2 (n : Int) : rightB false (bareT 2 n ⟨#[]⟩) = true := by rfl
theorem right_bare3 (s : ByteArray) : rightB false (bareT 3 0 s) = true := by rfl
def threeT (y : Bool) (n : Int) (s : ByteArray) : VT := .mk 5 0 ⟨#[]⟩ [bareT 1 (yesI y) ⟨#[]⟩, bareT 2 n ⟨#[]⟩, bareT 3 0 s] []
theorem right_three (y : Bool) (n : Int) (s : ByteArray) : rightB false (threeT y n s) = true := by cases y <;> rfl
theorem rd_three {w : World} {b : Nat} {y : Bool} {n : Int} {s : ByteArray} (hn : small n) (hs : s.size ≤ 140737488351232) (h : Row w b (three y n s)) : Rd w w.heap.size (listV b 3 3) (threeT y n s) := by
  refine .mk (fun i => if i = 0 then .agg #[.int .i64 1, .int .i64 (yesI y), .string ⟨#[]⟩, .slice none 0 0, .slice none 0 0] else if i = 1 then .agg #[.int .i64 2, .int .i64 n, .string ⟨#[]⟩, .slice none 0 0, .slice none 0 0] else .agg #[.int .i64 3, .int .i64 0, .string s, .slice none 0 0, .slice none 0 0]) (by unfold small; omega) (by unfold small; omega) (by decide) (by simp) rfl rfl (by omega) (by omega) ?_ ?_ (fun h => absurd h (by simp))
  · intro _
    refine ⟨_, rfl, h.lt, fun i hi2 => ?_⟩
    have hc : i = 0 ∨ i = 1 ∨ i = 2 := by omega
    rcases hc with rfl | rfl | rfl
    · exact ⟨_, _, _, _, _, rfl, (h.get 0).1, (h.get 1).1, (h.get 2).1, (h.get 3).1, (h.get 4).1⟩
    · exact ⟨_, _, _, _, _, rfl, (h.get 5).1, (h.get 6).1, (h.get 7).1, (h.get 8).1, (h.get 9).1⟩
    · exact ⟨_, _, _, _, _, rfl, (h.get 10).1, (h.get 11).1, (h.get 12).1, (h.get 13).1, (h.get 14).1⟩
  · intro i t ht
    match i, ht with
    | 0, ht => cases ht; exact rd_bare _ _ _ _ _ (by unfold small; omega) (small_yes y) (by decide)
    | 1, ht => cases ht; exact rd_bare _ _ _ _ _ (by unfold small; omega) hn (by decide)
    | 2, ht => cases ht; exact rd_bare _ _ _ _ _ (by unfold small; omega) (by unfold small; omega) hs
set_option maxHeartbeats 4000000 in
theorem makes_row {w : World} (y : Bool) (n : Int) (hn : small n) (s : ByteArray) (hs : s.size ≤ 140737488351232) :
    Calls Try.prog 4 #[.bool y, .int .i64 n, .string s] w fun e w' => e = .returned (.bool true) ∧ Below w.heap.size w w' := by
  go_enter Try.func4, Try.ntmps4
  go_wp2_with fail
  refine (bool_any y w).mono ?_
  rintro e w1 ⟨rfl, b1⟩
  have B1 := Lib.hid b1
  clear b1
  go_wp2_with fail
  refine (int_any n w1).mono ?_
  rintro e w2 ⟨rfl, b2⟩
  have B2 := Lib.hid (B1.out.trans (b2.mono B1.out.size))
  clear b2 B1
  go_wp2_with fail
  refine (text_any s w2).mono ?_
  rintro e w3 ⟨rfl, b3⟩
  have B3 := Lib.hid (B2.out.trans (b3.mono B2.out.size))
  clear b3 B2
  go_wp2_with fail
  refine (enum_any s w3).mono ?_
  rintro e w4 ⟨rfl, b4⟩
  have B4 := Lib.hid (B3.out.trans (b4.mono B3.out.size))
  clear b4 B3
  go_wp2_with fail
  refine wp_region_past (Env4 w w4.heap.size y n s) (env4_new w w4 y n s B4.out) (by kernel_rfl) ?_
  intro W f _
  clear B4
  have E4 := Lib.hid f
  obtain ⟨p0, p1, p2, p3, p4⟩ := f.ba.past
  obtain ⟨q0, q1, q2, q3, q4⟩ := f.bb.past
  obtain ⟨r0, r1, r2, r3, r4⟩ := f.bc.past
  obtain ⟨s0, s1, s2, s3, s4⟩ := f.bd.past
  clear f
  have k1 : ∀ x : Past W, Calls Try.prog 21 #[.bool y] x.w fun e w'' => e = .returned (.agg #[.int .i64 1, .int .i64 (yesI y), .string ⟨#[]⟩, .slice none 0 0, .slice none 0 0]) ∧ ∃ y : Past W, w'' = y.w := fun x => past_of x (rbool_any y _)
  have k2 : ∀ x : Past W, Calls Try.prog 22 #[.int .i64 n] x.w fun e w'' => e = .returned (.agg #[.int .i64 2, .int .i64 n, .string ⟨#[]⟩, .slice none 0 0, .slice none 0 0]) ∧ ∃ y : Past W, w'' = y.w := fun x => past_of x (rint_any n _)
  have k3 : ∀ x : Past W, Calls Try.prog 23 #[.string s] x.w fun e w'' => e = .returned (.agg #[.int .i64 3, .int .i64 0, .string s, .slice none 0 0, .slice none 0 0]) ∧ ∃ y : Past W, w'' = y.w := fun x => past_of x (rtext_any s _)
  have k4 : ∀ x : Past W, Calls Try.prog 24 #[.string s] x.w fun e w'' => e = .returned (.agg #[.int .i64 4, .int .i64 0, .string s, .slice none 0 0, .slice none 0 0]) ∧ ∃ y : Past W, w'' = y.w := fun x => past_of x (renum_any s _)
  have k5 : ∀ x : Past W, Calls Try.prog 20 #[.agg #[.int .i64 1, .int .i64 (yesI y), .string ⟨#[]⟩, .slice none 0 0, .slice none 0 0], .agg #[.int .i64 1, .int .i64 (yesI y), .string ⟨#[]⟩, .slice none 0 0, .slice none 0 0]] x.w fun e w'' => e = .returned (.bool true) ∧ ∃ y : Past W, w'' = y.w := fun x => past_of x (rsame_bare 1 (yesI y) ⟨#[]⟩ (by unfold small; omega) (small_yes y) (by decide) _)
  have k6 : ∀ x : Past W, Calls Try.prog 20 #[.agg #[.int .i64 2, .int .i64 n, .string ⟨#[]⟩, .slice none 0 0, .slice none 0 0], .agg #[.int .i64 2, .int .i64 n, .string ⟨#[]⟩, .slice none 0 0, .slice none 0 0]] x.w fun e w'' => e = .returned (.bool true) ∧ ∃ y : Past W, w'' = y.w := fun x => past_of x (rsame_bare 2 n ⟨#[]⟩ (by unfold small; omega) hn (by decide) _)
  have k7 : ∀ x : Past W, Calls Try.prog 20 #[.agg #[.int .i64 3, .int .i64 0, .string s, .slice none 0 0, .slice none 0 0], .agg #[.int .i64 3, .int .i64 0, .string s, .slice none 0 0, .slice none 0 0]] x.w fun e w'' => e = .returned (.bool true) ∧ ∃ y : Past W, w'' = y.w := fun x => past_of x (rsame_bare 3 0 s (by unfold small; omega) (by unfold small; omega) hs _)
  have k8 : ∀ x : Past W, Calls Try.prog 20 #[.agg #[.int .i64 4, .int .i64 0, .string s, .slice none 0 0, .slice none 0 0], .agg #[.int .i64 4, .int .i64 0, .string s, .slice none 0 0, .slice none 0 0]] x.w fun e w'' => e = .returned (.bool true) ∧ ∃ y : Past W, w'' = y.w := fun x => past_of x (rsame_bare 4 0 s (by unfold small; omega) (by unfold small; omega) hs _)
  have C1 := Lib.hid k1
  have C2 := Lib.hid k2
  have C3 := Lib.hid k3
  have C4 := Lib.hid k4
  have C5 := Lib.hid k5
  have C6 := Lib.hid k6
  have C7 := Lib.hid k7
  have C8 := Lib.hid k8
  clear k1 k2 k3 k4 k5 k6 k7 k8
  repeat (go_big_quiet_step (first | with_reducible exact C1.out _ | with_reducible exact C2.out _ | with_reducible exact C3.out _ | with_reducible exact C4.out _ | with_reducible exact C5.out _ | with_reducible exact C6.out _ | with_reducible exact C7.out _ | with_reducible exact C8.out _))
  refine wpQuiet_nil ?_
  intro _ hw'
  obtain ⟨x, rfl⟩ := hw'
  go_wp2_with fail
  have E5 := Lib.hid (E4.out.kept x.b)
  have b5 : Below x.w.heap.size x.w (x.w.alloc (.cells #[.int .i64 1, .int .i64 (yesI y), .string ⟨#[]⟩, .slice none 0 0, .slice none 0 0, .int .i64 2, .int .i64 n, .string ⟨#[]⟩, .slice none 0 0, .slice none 0 0, .int .i64 3, .int .i64 0, .string s, .slice none 0 0, .slice none 0 0] 25 (0, 0))) := (Below.refl _ _).alloc (Nat.le_refl _) _
  have r5 : Row (x.w.alloc (.cells #[.int .i64 1, .int .i64 (yesI y), .string ⟨#[]⟩, .slice none 0 0, .slice none 0 0, .int .i64 2, .int .i64 n, .string ⟨#[]⟩, .slice none 0 0, .slice none 0 0, .int .i64 3, .int .i64 0, .string s, .slice none 0 0, .slice none 0 0] 25 (0, 0))) x.w.heap.size (three y n s) := heap_alloc_new _ _
  have B5 := Lib.hid b5
  have R5 := Lib.hid r5
  clear b5 r5 C1 C2 C3 C4 C5 C6 C7 C8 p0 p1 p2 p3 p4 q0 q1 q2 q3 q4 r0 r1 r2 r3 r4 s0 s1 s2 s3 s4 E4
  refine (list_any _ _ _ _).mono ?_
  rintro e w6 ⟨rfl, b6⟩
  have E6 := Lib.hid ((E5.out.kept B5.out).kept b6)
  have R6 := Lib.hid (R5.out.kept b6)
  clear b6 B5 R5 E5
  generalize x.w.heap.size = b at *
  clear x
  go_wp2_with fail
  have b7 : Below w6.heap.size w6 (w6.alloc (.cells #[.int .i64 5, .int .i64 0, .string ⟨#[]⟩, .slice (some ⟨b, 0, none⟩) 3 3, .slice none 0 0] 25 (0, 0))) := (Below.refl _ _).alloc (Nat.le_refl _) _
  refine wp_region_past (fun W => Env4 w w4.heap.size y n s W ∧ Row W b (three y n s) ∧ BoxL W w6.heap.size b 3 3) ⟨E6.out.kept b7, R6.out.kept b7, Box.new _ _ _ _ _ _⟩ (by kernel_rfl) ?_
  intro W2 ⟨f, fr, fl⟩ _
  clear b7 E6 R6
  have E7 := Lib.hid f
  have R7 := Lib.hid fr
  obtain ⟨p0, p1, p2, p3, p4⟩ := f.ba.past
  obtain ⟨q0, q1, q2, q3, q4⟩ := f.bb.past
  obtain ⟨r0, r1, r2, r3, r4⟩ := f.bc.past
  obtain ⟨s0, s1, s2, s3, s4⟩ := Box.past fl
  have t0 : ∀ x : Past W2, x.w.cell? ⟨b, 10, none⟩ = some (.int .i64 3) := fun x => ((fr.kept x.b).get 10).1
  have t1 : ∀ x : Past W2, x.w.cell? ⟨b, 11, none⟩ = some (.int .i64 0) := fun x => ((fr.kept x.b).get 11).1
  have t2 : ∀ x : Past W2, x.w.cell? ⟨b, 12, none⟩ = some (.string s) := fun x => ((fr.kept x.b).get 12).1
  have t3 : ∀ x : Past W2, x.w.cell? ⟨b, 13, none⟩ = some (.slice none 0 0) := fun x => ((fr.kept x.b).get 13).1
  have t4 : ∀ x : Past W2, x.w.cell? ⟨b, 14, none⟩ = some (.slice none 0 0) := fun x => ((fr.kept x.b).get 14).1
  clear f fr fl
  have k1 : ∀ x : Past W2, Calls Try.prog 12 #[.agg #[.int .i64 1, .int .i64 (yesI y), .string ⟨#[]⟩, .slice none 0 0, .slice none 0 0]] x.w fun e w'' => e = .returned (.bool true) ∧ ∃ y : Past W2, w'' = y.w := fun x => past_of x (by have h := right_any _ x.w x.w.heap.size _ (rd_bare x.w x.w.heap.size 1 (yesI y) ⟨#[]⟩ (by unfold small; omega) (small_yes y) (by decide)) (Nat.le_refl _); rw [right_bare1 y] at h; exact h)
  have k2 : ∀ x : Past W2, Calls Try.prog 12 #[.agg #[.int .i64 2, .int .i64 n, .string ⟨#[]⟩, .slice none 0 0, .slice none 0 0]] x.w fun e w'' => e = .returned (.bool true) ∧ ∃ y : Past W2, w'' = y.w := fun x => past_of x (by have h := right_any _ x.w x.w.heap.size _ (rd_bare x.w x.w.heap.size 2 n ⟨#[]⟩ (by unfold small; omega) hn (by decide)) (Nat.le_refl _); rw [right_bare2 n] at h; exact h)
  have k3 : ∀ x : Past W2, Calls Try.prog 12 #[.agg #[.int .i64 3, .int .i64 0, .string s, .slice none 0 0, .slice none 0 0]] x.w fun e w'' => e = .returned (.bool true) ∧ ∃ y : Past W2, w'' = y.w := fun x => past_of x (by have h := right_any _ x.w x.w.heap.size _ (rd_bare x.w x.w.heap.size 3 0 s (by unfold small; omega) (by unfold small; omega) hs) (Nat.le_refl _); rw [right_bare3 s] at h; exact h)
  have k4 : ∀ x : Past W2, Calls Try.prog 12 #[.agg #[.int .i64 5, .int .i64 0, .string ⟨#[]⟩, .slice (some ⟨b, 0, none⟩) 3 3, .slice none 0 0]] x.w fun e w'' => e = .returned (.bool true) ∧ ∃ y : Past W2, w'' = y.w := fun x => past_of x (by have h := right_any _ x.w x.w.heap.size _ (rd_three hn hs (R7.out.kept x.b)) (Nat.le_refl _); rw [right_three] at h; exact h)
  have k5 : ∀ x : Past W2, Calls Try.prog 20 #[.agg #[.int .i64 3, .int .i64 0, .string s, .slice none 0 0, .slice none 0 0], .agg #[.int .i64 3, .int .i64 0, .string s, .slice none 0 0, .slice none 0 0]] x.w fun e w'' => e = .returned (.bool true) ∧ ∃ y : Past W2, w'' = y.w := fun x => past_of x (rsame_bare 3 0 s (by unfold small; omega) (by unfold small; omega) hs _)
  have k6 : ∀ x : Past W2, Calls Try.prog 11 #[] x.w fun e w'' => e = .returned (.bool true) ∧ ∃ y : Past W2, w'' = y.w := fun x => past_of x (knows_any _)
  have C1 := Lib.hid k1
  have C2 := Lib.hid k2
  have C3 := Lib.hid k3
  have C4 := Lib.hid k4
  have C5 := Lib.hid k5
  have C6 := Lib.hid k6
  clear k1 k2 k3 k4 k5 k6
  repeat (go_big_quiet_step (first | with_reducible exact C1.out _ | with_reducible exact C2.out _ | with_reducible exact C3.out _ | with_reducible exact C4.out _ | with_reducible exact C5.out _ | with_reducible exact C6.out _))
  refine wpQuiet_nil ?_
  intro _ hw'
  obtain ⟨x, rfl⟩ := hw'
  go_wp2_with fail
  go_ret
  exact ⟨rfl, E7.out.be.trans (x.b.mono E7.out.be.size)⟩
end Go.Proofs.Ytfnblnohapiniaa
