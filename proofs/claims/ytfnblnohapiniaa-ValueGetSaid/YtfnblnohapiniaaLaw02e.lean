/-
  The law ValueGet.
-/
import Derived.Test.YtfnblnohapiniaaRGet
import Derived.Test.YtfnblnohapiniaaKnows
namespace Go.Proofs.Ytfnblnohapiniaa
open Go.RowKit
def GotPost (w : World) (r : Option VT) (e : Ending) (w' : World) : Prop :=
  (∃ (k n : Int) (s : ByteArray) (A : Option Addr) (li ci : Nat) (K : Option Addr) (lk ck : Nat), e = .returned (.tuple #[.agg #[.int .i64 k, .int .i64 n, .string s, .slice A li ci, .slice K lk ck], .bool r.isSome]) ∧ Rd w' w'.heap.size (.agg #[.int .i64 k, .int .i64 n, .string s, .slice A li ci, .slice K lk ck]) (r.getD (bareT 0 0 ⟨#[]⟩))) ∧ Below w.heap.size w w'
theorem got_any (t : VT) (x : ByteArray) (w : World) (B : Nat) (v : Value) (h : Rd w B v t) (hB : B ≤ w.heap.size) : Calls Try.prog 36 #[v, .string x] w (GotPost w (t.get x)) := by
  refine (get_any t x w B v h hB).mono ?_
  rintro e w' ⟨⟨u, hu⟩, hb⟩
  refine ⟨?_, hb⟩
  cases hr : t.get x with
  | none =>
    rw [hr] at hu
    exact ⟨_, _, _, _, _, _, _, _, _, hu, rd_bare _ _ _ _ _ (by unfold small; omega) (by unfold small; omega) (by decide)⟩
  | some t2 =>
    rw [hr] at hu
    obtain ⟨k, n, s, A, li, ci, K, lk, ck, rfl⟩ := hu.2.shape
    exact ⟨_, _, _, _, _, _, _, _, _, hu.1, (hu.2.kept (hb.mono hB)).mono (Nat.le_trans hB hb.size)⟩
theorem rgot_any (t : VT) (x : ByteArray) (w : World) (B : Nat) (v : Value) (h : Rd w B v t) (hB : B ≤ w.heap.size) : Calls Try.prog 37 #[v, .string x] w (GotPost w (t.get x)) := by
  refine (rget_any t x w B v h hB).mono ?_
  rintro e w' ⟨⟨u, hu⟩, hb⟩
  refine ⟨?_, hb⟩
  cases hr : t.get x with
  | none =>
    rw [hr] at hu
    exact ⟨_, _, _, _, _, _, _, _, _, hu, rd_bare _ _ _ _ _ (by unfold small; omega) (by unfold small; omega) (by decide)⟩
  | some t2 =>
    rw [hr] at hu
    obtain ⟨k, n, s, A, li, ci, K, lk, ck, rfl⟩ := hu.2.shape
    exact ⟨_, _, _, _, _, _, _, _, _, hu.1, hu.2⟩
set_option maxHeartbeats 2000000 in
theorem get_row {w : World} (v : Value) (t : VT) (h : Rd w w.heap.size v t) (x : ByteArray) (_ : x.size ≤ 140737488351232) :
    Calls Try.prog 8 #[v, .string x] w fun e w' => e = .returned (.bool true) ∧ Below w.heap.size w w' := by
  have HRD := Lib.hid h
  obtain ⟨k, n, s, A, li, ci, K, lk, ck, rfl⟩ := h.shape
  clear h
  have b0 : Below w.heap.size w (w.alloc (.cells #[.int .i64 k, .int .i64 n, .string s, .slice A li ci, .slice K lk ck] 25 (0, 0))) := (Below.refl _ _).alloc (Nat.le_refl _) _
  have X0 := Lib.hid (Box.new w (.int .i64 k) (.int .i64 n) (.string s) (.slice A li ci) (.slice K lk ck))
  have HC := Lib.hid (few_any t _ w.heap.size _ (HRD.out.kept b0) (by simp))
  have B0 := Lib.hid b0
  clear b0
  go_enter Try.func8, Try.ntmps8
  go_wp2_with fail
  refine HC.out.mono ?_
  rintro e w1 ⟨rfl, b1⟩
  have B1 := Lib.hid (B0.out.trans (b1.mono B0.out.size))
  have X1 := Lib.hid (X0.out.kept b1)
  clear b1 X0 B0 HC
  cases hf : decide (t.cnt 400 0 ≤ 400)
  · go_wp2_with fail
    refine (knows_any _).mono ?_
    rintro e w2 ⟨rfl, b2⟩
    have B2 := Lib.hid (B1.out.trans (b2.mono B1.out.size))
    clear b2
    go_wp2_with fail
    go_ret
    exact ⟨rfl, B2.out⟩
  · obtain ⟨p0, p1, p2, p3, p4⟩ := X1.out.cells
    go_wp2_with fail
    clear p0 p1 p2 p3 p4
    refine (got_any t x w1 w.heap.size _ (HRD.out.kept B1.out) B1.out.size).mono ?_
    rintro e w2 ⟨⟨k2, n2, s2, A2, li2, ci2, K2, lk2, ck2, rfl, hr2⟩, b2⟩
    have B2 := Lib.hid (B1.out.trans (b2.mono B1.out.size))
    have X2 := Lib.hid (X1.out.kept b2)
    have R2 := Lib.hid hr2
    clear b2 hr2 X1 B1
    have bz : Below w2.heap.size w2 (w2.alloc (.cells #[.int .i64 k2, .int .i64 n2, .string s2, .slice A2 li2 ci2, .slice K2 lk2 ck2] 25 (0, 0))) := (Below.refl _ _).alloc (Nat.le_refl _) _
    have X3 := Lib.hid (X2.out.kept bz)
    have Y3 := Lib.hid (Box.new w2 (.int .i64 k2) (.int .i64 n2) (.string s2) (.slice A2 li2 ci2) (.slice K2 lk2 ck2))
    have R3 := Lib.hid ((R2.out.kept bz).mono bz.size)
    have B3 := Lib.hid (B2.out.trans (bz.mono B2.out.size))
    obtain ⟨p0, p1, p2, p3, p4⟩ := X3.out.cells
    clear bz
    go_wp2_with fail
    clear p0 p1 p2 p3 p4
    refine (rgot_any t x _ w.heap.size _ (HRD.out.kept B3.out) B3.out.size).mono ?_
    rintro e w4 ⟨⟨k3, n3, s3, A3, li3, ci3, K3, lk3, ck3, rfl, hr4⟩, b4⟩
    have B4 := Lib.hid (B3.out.trans (b4.mono B3.out.size))
    have Y4 := Lib.hid (Y3.out.kept b4)
    have R4 := Lib.hid ((R3.out.kept b4).mono b4.size)
    have S4 := Lib.hid hr4
    clear b4 hr4 X3 B3 Y3 R3 X2 B2 R2
    have bz : Below w4.heap.size w4 (w4.alloc (.cells #[.int .i64 k3, .int .i64 n3, .string s3, .slice A3 li3 ci3, .slice K3 lk3 ck3] 25 (0, 0))) := (Below.refl _ _).alloc (Nat.le_refl _) _
    have Y5 := Lib.hid (Y4.out.kept bz)
    have Z5 := Lib.hid (Box.new w4 (.int .i64 k3) (.int .i64 n3) (.string s3) (.slice A3 li3 ci3) (.slice K3 lk3 ck3))
    have R5 := Lib.hid ((R4.out.kept bz).mono bz.size)
    have S5 := Lib.hid ((S4.out.kept bz).mono bz.size)
    have B5 := Lib.hid (B4.out.trans (bz.mono B4.out.size))
    clear bz Y4 R4 S4 B4
    obtain ⟨p0, p1, p2, p3, p4⟩ := Y5.out.cells
    obtain ⟨q0, q1, q2, q3, q4⟩ := Z5.out.cells
    have C1 := Lib.hid (by have h := rsame_any _ _ _ _ _ _ R5.out S5.out (Nat.le_refl _); rw [decide_eq_true (VT.cmp_self _)] at h; exact h)
    clear Y5 Z5 R5 S5
    generalize (t.get x).isSome = yes at *
    cases yes
    all_goals
      go_wp2_with fail
      refine C1.out.mono ?_
      rintro e w6 ⟨rfl, b6⟩
      have B6 := Lib.hid (B5.out.trans (b6.mono B5.out.size))
      clear b6 p0 p1 p2 p3 p4 q0 q1 q2 q3 q4
      go_wp2_with fail
      refine (knows_any _).mono ?_
      rintro e w7 ⟨rfl, b7⟩
      have B7 := Lib.hid (B6.out.trans (b7.mono B6.out.size))
      clear b7
      go_wp2_with fail
      go_ret
      exact ⟨rfl, B7.out⟩
end Go.Proofs.Ytfnblnohapiniaa
