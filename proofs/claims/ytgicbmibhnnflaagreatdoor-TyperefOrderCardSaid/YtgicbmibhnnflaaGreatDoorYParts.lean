
/-
  The parts of a reference: the program's and the reference's functions.
-/
import Derived.Test.YtgicbmibhnnflaaGreatDoorYMake
namespace Go.Proofs.YtgicbmibhnnflaaGreatDoor
open Go.RowKit
theorem nn_head {w : World} {A : Option Addr} {xs : Ws} (hi : IntsAt w w.heap.size A xs) : (xs = [] ∧ nnB xs = false ∧ l2B xs = false) ∨ ∃ a x r, A = some a ∧ xs = x :: r ∧ w.cell? a = some (.int .i64 x) ∧ nnB xs = decide (x = 1) ∧ l2B xs = decide (x = 2) := by
  cases xs with
  | nil => exact .inl ⟨rfl, rfl, rfl⟩
  | cons x r =>
    obtain ⟨a, rfl, _, hc⟩ := hi (by simp)
    exact .inr ⟨a, x, r, rfl, rfl, hc 0 x rfl, by unfold nnB; by_cases h : x = 1 <;> simp [h], by unfold l2B; by_cases h : x = 2 <;> simp [h]⟩
def BoolPost (b : Bool) (w : World) (e : Ending) (w' : World) : Prop := e = .returned (.bool b) ∧ Below w.heap.size w w'
/- A reference and whether there is one. -/
def OptPost (n : ByteArray) (o : Option Ws) (w : World) (e : Ending) (w' : World) : Prop :=
  (∃ u, e = .returned (.tuple #[u, .bool o.isSome]) ∧ match o with | some xs => RefV w' w'.heap.size u n xs | none => u = .agg #[.string ⟨#[]⟩, .slice none 0 0]) ∧ Below w.heap.size w w'
theorem isw_any (m : Int) (n : ByteArray) (xs : Ws) (v : Value) (w : World) (h : RefV w w.heap.size v n xs) : Calls Tryz.prog 43 #[.int .i64 m, v] w (BoolPost (xs.head? == some m) w) := by
  obtain ⟨A, c, rfl, hc, hi⟩ := h
  have hb := (Below.refl w.heap.size w).alloc (Nat.le_refl _) (.cells #[.string n, .slice A xs.length c] 24 (0, 0))
  have h2 := hi.stay hb
  cases xs with
  | nil =>
    have HB := Lib.hid hb
    clear hb hi h2 hc
    go_enter Tryz.func43, Tryz.ntmps43
    go_wp2_with fail
    all_goals exact bodyPost_ret (v := .bool false) (by simp [results, Tryz.results43, go_sem]) rfl ⟨rfl, HB.out⟩
  | cons x r =>
    obtain ⟨a, rfl, ha, hcell⟩ := hi (by simp)
    obtain ⟨a', e, _, hc2⟩ := h2 (by simp)
    cases e
    have c0 := hc2 0 x rfl
    have c00 : a.add 0 = a := rfl
    rw [c00] at c0
    have HB := Lib.hid hb
    have hv : (((x :: r : Ws).head? == some m) : Bool) = (x == m) := by simp
    have HV := Lib.hid hv
    have hp : (0 : Int) < ((x :: r : Ws).length : Int) := by simp
    generalize (x :: r : Ws).length = l at *
    clear hb hi h2 hc hcell hc2 ha hv
    go_enter Tryz.func43, Tryz.ntmps43
    go_wp2_with fail
    all_goals (refine bodyPost_ret (v := .bool (x == m)) (by simp [results, Tryz.results43, go_sem]) rfl ⟨?_, HB.out⟩; rw [HV.out])
theorem risnn_any (n : ByteArray) (xs : Ws) (v : Value) (w : World) (h : RefV w w.heap.size v n xs) : Calls Tryz.prog 22 #[v] w (BoolPost (nnB xs) w) := by
  obtain ⟨A, c, rfl, hc, hi⟩ := h
  have hb := (Below.refl w.heap.size w).alloc (Nat.le_refl _) (.cells #[.string n, .slice A xs.length c] 24 (0, 0))
  have h2 := hi.stay hb
  cases xs with
  | nil =>
    have HB := Lib.hid hb
    clear hb hi h2 hc
    go_enter Tryz.func22, Tryz.ntmps22
    go_wp2_with fail
    all_goals exact bodyPost_ret (v := .bool false) (by simp [results, Tryz.results22, go_sem]) rfl ⟨rfl, HB.out⟩
  | cons x r =>
    obtain ⟨a, rfl, ha, hcell⟩ := hi (by simp)
    obtain ⟨a', e, _, hc2⟩ := h2 (by simp)
    cases e
    have c0 := hc2 0 x rfl
    have c00 : a.add 0 = a := rfl
    rw [c00] at c0
    have HB := Lib.hid hb
    have hv : ((nnB (x :: r)) : Bool) = (x == 1) := by unfold nnB; simp
    have HV := Lib.hid hv
    have hp : (0 : Int) < ((x :: r : Ws).length : Int) := by simp
    generalize (x :: r : Ws).length = l at *
    clear hb hi h2 hc hcell hc2 ha hv
    go_enter Tryz.func22, Tryz.ntmps22
    go_wp2_with fail
    all_goals (refine bodyPost_ret (v := .bool (x == 1)) (by simp [results, Tryz.results22, go_sem]) rfl ⟨?_, HB.out⟩; rw [HV.out])
theorem isnn_any (n : ByteArray) (xs : Ws) (v : Value) (w : World) (h : RefV w w.heap.size v n xs) : Calls Tryz.prog 21 #[v] w (BoolPost (nnB xs) w) := by
  obtain ⟨A, c, rfl, hc, hi⟩ := h
  have hb := (Below.refl w.heap.size w).alloc (Nat.le_refl _) (.cells #[.string n, .slice A xs.length c] 24 (0, 0))
  have HB := Lib.hid hb
  have HI := Lib.hid (hi.stay hb)
  have HC := Lib.hid hc
  clear hb hi hc
  go_enter Tryz.func21, Tryz.ntmps21
  go_wp2_with fail
  refine (isw_any 1 n xs _ _ ⟨A, c, rfl, HC.out, HI.out⟩).mono ?_
  rintro e w1 ⟨rfl, hb1⟩
  have HB1 := Lib.hid (HB.out.trans (hb1.mono HB.out.size))
  clear hb1
  go_wp2_with fail
  exact bodyPost_ret (v := .bool (nnB xs)) (by simp [results, Tryz.results21, go_sem, nnB]) rfl ⟨rfl, HB1.out⟩
theorem nul_true {xs : Ws} (h : nnB xs = true) : nulL xs = xs.drop 1 ∧ 1 ≤ xs.length := by
  unfold nulL; rw [if_pos h]
  cases xs with
  | nil => cases h
  | cons x r => exact ⟨rfl, by simp⟩
theorem nul_false {xs : Ws} (h : nnB xs = false) : nulL xs = xs.drop 0 := by unfold nulL; rw [h]; rfl
theorem nul_len (xs : Ws) : (nulL xs).length ≤ xs.length := by unfold nulL; split <;> simp
set_option maxRecDepth 100000 in
set_option maxHeartbeats 2000000 in
theorem nullable_any_t (n : ByteArray) (xs : Ws) (v : Value) (w : World) (h : RefV w w.heap.size v n xs) (hl : xs.length ≤ 900000) (hb : nnB xs = true) : Calls Tryz.prog 19 #[v] w (RefPost n (nulL xs) w) := by
  have hn := nul_true hb
  have HN := Lib.hid hn
  clear hn
  obtain ⟨A, c, rfl, hc, hi⟩ := h
  obtain ⟨x1, x2, x3, x4⟩ := BxR.args w (.string n) (.slice A xs.length c)
  have X0 := Lib.hid x1
  have Y0 := Lib.hid x2
  have I0 := Lib.hid (hi.stay x3)
  have B0 := Lib.hid x3
  have Z0 := Lib.hid x4
  have HC := Lib.hid hc
  have HL := Lib.hid hl
  clear hc hi x1 x2 x3 x4 hl
  have HBB := Lib.hid hb
  clear hb
  go_enter Tryz.func19, Tryz.ntmps19
  go_wp2_with fail
  generalize hW0 : ((w.alloc (.cells #[.string n, .slice A xs.length c] 24 (0, 0))).alloc (.cells #[.string ⟨#[]⟩, .slice none 0 0] 24 (0, 0))) = W0 at *
  have q0 := X0.out.cells.1
  have q1 := X0.out.cells.2
  have y0 := Y0.out.cells.1
  have y1 := Y0.out.cells.2
  have f0 := Y0.out.frz 0
  have f1 := Y0.out.frz 1
  clear hW0
  have hcall := isnn_any n xs _ _ ⟨A, c, rfl, HC.out, I0.out⟩
  rw [HBB.out] at hcall
  refine hcall.mono ?_
  clear hcall
  rintro e w1 ⟨rfl, hb1⟩
  clear q0 q1 y0 y1 f0 f1
  have X1 := Lib.hid (X0.out.stay hb1)
  have I1 := Lib.hid (I0.out.stay hb1)
  have B1 := Lib.hid (B0.out.trans (hb1.mono B0.out.size))
  have q0 := X1.out.cells.1
  have q1 := X1.out.cells.2
  have Y1 := Lib.hid (Y0.out.stay hb1)
  have y0 := Y1.out.cells.1
  have y1 := Y1.out.cells.2
  have f0 := Y1.out.frz 0
  have f1 := Y1.out.frz 1
  clear X0 I0 B0 hb1 Y0
  go_wp2_with fail
  have HE := HN.out.1
  have hcall := unwrap_any 1 n xs _ _ ⟨A, c, rfl, HC.out, I1.out⟩ HN.out.2 (by have := HL.out; omega)
  generalize hz1 : xs.drop 1 = zs1 at hcall HE
  refine hcall.mono ?_
  clear hcall
  rintro e w2 ⟨⟨u, rfl, A1, c1, rfl, hc1, hi1⟩, hb1⟩
  have HC1 := Lib.hid hc1
  have HI1 := Lib.hid hi1
  clear hc1 hi1
  have HZ1 := Lib.hid hz1
  clear hz1
  clear q0 q1 y0 y1 f0 f1
  have X2 := Lib.hid (X1.out.stay hb1)
  have I2 := Lib.hid (I1.out.stay hb1)
  have B2 := Lib.hid (B1.out.trans (hb1.mono B1.out.size))
  have q0 := X2.out.cells.1
  have q1 := X2.out.cells.2
  have Y2 := Lib.hid (Y1.out.stay hb1)
  have y0 := Y2.out.cells.1
  have y1 := Y2.out.cells.2
  have f0 := Y2.out.frz 0
  have f1 := Y2.out.frz 1
  clear X1 I1 B1 hb1 Y1
  have HEE := Lib.hid HE
  clear HE
  go_wp2_with fail
  rw [HEE.out]
  obtain ⟨z1, z2, z3⟩ := ref_end (n := n) Y2.out (by omega) B2.out HC1.out HI1.out
  obtain ⟨⟨u, e, hu⟩, hbl⟩ := z1
  cases e
  exact bodyPost_ret (by simp [results, Tryz.results19, go_sem, z2, z3]) rfl ⟨⟨_, rfl, hu⟩, hbl⟩
set_option maxRecDepth 100000 in
set_option maxHeartbeats 2000000 in
theorem nullable_any_f (n : ByteArray) (xs : Ws) (v : Value) (w : World) (h : RefV w w.heap.size v n xs) (hl : xs.length ≤ 900000) (hb : nnB xs = false) : Calls Tryz.prog 19 #[v] w (RefPost n (nulL xs) w) := by
  have hn := nul_false hb
  have HN := Lib.hid hn
  clear hn
  obtain ⟨A, c, rfl, hc, hi⟩ := h
  obtain ⟨x1, x2, x3, x4⟩ := BxR.args w (.string n) (.slice A xs.length c)
  have X0 := Lib.hid x1
  have Y0 := Lib.hid x2
  have I0 := Lib.hid (hi.stay x3)
  have B0 := Lib.hid x3
  have Z0 := Lib.hid x4
  have HC := Lib.hid hc
  have HL := Lib.hid hl
  clear hc hi x1 x2 x3 x4 hl
  have HBB := Lib.hid hb
  clear hb
  go_enter Tryz.func19, Tryz.ntmps19
  go_wp2_with fail
  generalize hW0 : ((w.alloc (.cells #[.string n, .slice A xs.length c] 24 (0, 0))).alloc (.cells #[.string ⟨#[]⟩, .slice none 0 0] 24 (0, 0))) = W0 at *
  have q0 := X0.out.cells.1
  have q1 := X0.out.cells.2
  have y0 := Y0.out.cells.1
  have y1 := Y0.out.cells.2
  have f0 := Y0.out.frz 0
  have f1 := Y0.out.frz 1
  clear hW0
  have hcall := isnn_any n xs _ _ ⟨A, c, rfl, HC.out, I0.out⟩
  rw [HBB.out] at hcall
  refine hcall.mono ?_
  clear hcall
  rintro e w1 ⟨rfl, hb1⟩
  clear q0 q1 y0 y1 f0 f1
  have X1 := Lib.hid (X0.out.stay hb1)
  have I1 := Lib.hid (I0.out.stay hb1)
  have B1 := Lib.hid (B0.out.trans (hb1.mono B0.out.size))
  have q0 := X1.out.cells.1
  have q1 := X1.out.cells.2
  have Y1 := Lib.hid (Y0.out.stay hb1)
  have y0 := Y1.out.cells.1
  have y1 := Y1.out.cells.2
  have f0 := Y1.out.frz 0
  have f1 := Y1.out.frz 1
  clear X0 I0 B0 hb1 Y0
  go_wp2_with fail
  have HE := HN.out
  have hcall := unwrap_any 0 n xs _ _ ⟨A, c, rfl, HC.out, I1.out⟩ (Nat.zero_le _) (by have := HL.out; omega)
  generalize hz1 : xs.drop 0 = zs1 at hcall HE
  refine hcall.mono ?_
  clear hcall
  rintro e w2 ⟨⟨u, rfl, A1, c1, rfl, hc1, hi1⟩, hb1⟩
  have HC1 := Lib.hid hc1
  have HI1 := Lib.hid hi1
  clear hc1 hi1
  have HZ1 := Lib.hid hz1
  clear hz1
  clear q0 q1 y0 y1 f0 f1
  have X2 := Lib.hid (X1.out.stay hb1)
  have I2 := Lib.hid (I1.out.stay hb1)
  have B2 := Lib.hid (B1.out.trans (hb1.mono B1.out.size))
  have q0 := X2.out.cells.1
  have q1 := X2.out.cells.2
  have Y2 := Lib.hid (Y1.out.stay hb1)
  have y0 := Y2.out.cells.1
  have y1 := Y2.out.cells.2
  have f0 := Y2.out.frz 0
  have f1 := Y2.out.frz 1
  clear X1 I1 B1 hb1 Y1
  have HEE := Lib.hid HE
  clear HE
  go_wp2_with fail
  rw [HEE.out]
  obtain ⟨z1, z2, z3⟩ := ref_end (n := n) Y2.out (by omega) B2.out HC1.out HI1.out
  obtain ⟨⟨u, e, hu⟩, hbl⟩ := z1
  cases e
  exact bodyPost_ret (by simp [results, Tryz.results19, go_sem, z2, z3]) rfl ⟨⟨_, rfl, hu⟩, hbl⟩
theorem nullable_any (n : ByteArray) (xs : Ws) (v : Value) (w : World) (h : RefV w w.heap.size v n xs) (hl : xs.length ≤ 900000) : Calls Tryz.prog 19 #[v] w (RefPost n (nulL xs) w) := by
  cases hb : nnB xs with
  | true => exact nullable_any_t n xs v w h hl hb
  | false => exact nullable_any_f n xs v w h hl hb
theorem nnl_true {xs : Ws} (h : nnB xs = true) : nnL xs = xs := by
  unfold nnL nulL; rw [if_pos h]
  cases xs with
  | nil => cases h
  | cons x r => have : x = 1 := by simpa [nnB] using h
                subst this; rfl
theorem nnl_false {xs : Ws} (h : nnB xs = false) : nnL xs = [1] ++ xs := by unfold nnL nulL; rw [h]; rfl
theorem opt_some {n : ByteArray} {zs : Ws} {o : Option Ws} {w w' : World} {u : Value} (ho : o = some zs) (hu : RefV w' w'.heap.size u n zs) (hb : Below w.heap.size w w') : OptPost n o w (.returned (.tuple #[u, .bool true])) w' := by
  subst ho; exact ⟨⟨u, rfl, hu⟩, hb⟩
theorem opt_none {n : ByteArray} {o : Option Ws} {w w' : World} (ho : o = none) (hb : Below w.heap.size w w') : OptPost n o w (.returned (.tuple #[.agg #[.string ⟨#[]⟩, .slice none 0 0], .bool false])) w' := by
  subst ho; exact ⟨⟨_, rfl, rfl⟩, hb⟩
theorem OptPost.none {n : ByteArray} {w w' : World} {e : Ending} (h : OptPost n none w e w') : e = .returned (.tuple #[.agg #[.string ⟨#[]⟩, .slice none 0 0], .bool false]) ∧ Below w.heap.size w w' := by
  obtain ⟨⟨u, rfl, rfl⟩, hb⟩ := h; exact ⟨rfl, hb⟩
theorem OptPost.some {n : ByteArray} {zs : Ws} {w w' : World} {e : Ending} (h : OptPost n (some zs) w e w') : (∃ u, e = .returned (.tuple #[u, .bool true]) ∧ RefV w' w'.heap.size u n zs) ∧ Below w.heap.size w w' := by
  obtain ⟨⟨u, rfl, hu⟩, hb⟩ := h; exact ⟨⟨u, rfl, hu⟩, hb⟩
set_option maxRecDepth 100000 in
set_option maxHeartbeats 2000000 in
theorem rnullable_any_t (n : ByteArray) (xs : Ws) (v : Value) (w : World) (h : RefV w w.heap.size v n xs) (hl : xs.length ≤ 900000) (hb : nnB xs = true) : Calls Tryz.prog 20 #[v] w (RefPost n (nulL xs) w) := by
  have hn := nul_true hb
  have HN := Lib.hid hn
  clear hn
  obtain ⟨A, c, rfl, hc, hi⟩ := h
  obtain ⟨x1, x2, x3, x4⟩ := BxR.args w (.string n) (.slice A xs.length c)
  have X0 := Lib.hid x1
  have Y0 := Lib.hid x2
  have I0 := Lib.hid (hi.stay x3)
  have B0 := Lib.hid x3
  have Z0 := Lib.hid x4
  have HC := Lib.hid hc
  have HL := Lib.hid hl
  clear hc hi x1 x2 x3 x4 hl
  have HBB := Lib.hid hb
  clear hb
  go_enter Tryz.func20, Tryz.ntmps20
  go_wp2_with fail
  generalize hW0 : ((w.alloc (.cells #[.string n, .slice A xs.length c] 24 (0, 0))).alloc (.cells #[.string ⟨#[]⟩, .slice none 0 0] 24 (0, 0))) = W0 at *
  have q0 := X0.out.cells.1
  have q1 := X0.out.cells.2
  have y0 := Y0.out.cells.1
  have y1 := Y0.out.cells.2
  have f0 := Y0.out.frz 0
  have f1 := Y0.out.frz 1
  clear hW0
  have hcall := risnn_any n xs _ _ ⟨A, c, rfl, HC.out, I0.out⟩
  rw [HBB.out] at hcall
  refine hcall.mono ?_
  clear hcall
  rintro e w1 ⟨rfl, hb1⟩
  clear q0 q1 y0 y1 f0 f1
  have X1 := Lib.hid (X0.out.stay hb1)
  have I1 := Lib.hid (I0.out.stay hb1)
  have B1 := Lib.hid (B0.out.trans (hb1.mono B0.out.size))
  have q0 := X1.out.cells.1
  have q1 := X1.out.cells.2
  have Y1 := Lib.hid (Y0.out.stay hb1)
  have y0 := Y1.out.cells.1
  have y1 := Y1.out.cells.2
  have f0 := Y1.out.frz 0
  have f1 := Y1.out.frz 1
  clear X0 I0 B0 hb1 Y0
  go_wp2_with fail
  have HE := HN.out.1
  have hcall := cut_any n xs _ _ ⟨A, c, rfl, HC.out, I1.out⟩ HN.out.2 (by have := HL.out; omega)
  generalize hz1 : xs.drop 1 = zs1 at hcall HE
  refine hcall.mono ?_
  clear hcall
  rintro e w2 ⟨⟨u, rfl, A1, c1, rfl, hc1, hi1⟩, hb1⟩
  have HC1 := Lib.hid hc1
  have HI1 := Lib.hid hi1
  clear hc1 hi1
  have HZ1 := Lib.hid hz1
  clear hz1
  clear q0 q1 y0 y1 f0 f1
  have X2 := Lib.hid (X1.out.stay hb1)
  have I2 := Lib.hid (I1.out.stay hb1)
  have B2 := Lib.hid (B1.out.trans (hb1.mono B1.out.size))
  have q0 := X2.out.cells.1
  have q1 := X2.out.cells.2
  have Y2 := Lib.hid (Y1.out.stay hb1)
  have y0 := Y2.out.cells.1
  have y1 := Y2.out.cells.2
  have f0 := Y2.out.frz 0
  have f1 := Y2.out.frz 1
  clear X1 I1 B1 hb1 Y1
  have HEE := Lib.hid HE
  clear HE
  go_wp2_with fail
  rw [HEE.out]
  obtain ⟨z1, z2, z3⟩ := ref_end (n := n) Y2.out (by omega) B2.out HC1.out HI1.out
  obtain ⟨⟨u, e, hu⟩, hbl⟩ := z1
  cases e
  exact bodyPost_ret (by simp [results, Tryz.results20, go_sem, z2, z3]) rfl ⟨⟨_, rfl, hu⟩, hbl⟩
set_option maxRecDepth 100000 in
set_option maxHeartbeats 2000000 in
theorem rnullable_any_f (n : ByteArray) (xs : Ws) (v : Value) (w : World) (h : RefV w w.heap.size v n xs) (hl : xs.length ≤ 900000) (hb : nnB xs = false) : Calls Tryz.prog 20 #[v] w (RefPost n (nulL xs) w) := by
  have hn := nul_false hb
  have HN := Lib.hid hn
  clear hn
  obtain ⟨A, c, rfl, hc, hi⟩ := h
  obtain ⟨x1, x2, x3, x4⟩ := BxR.args w (.string n) (.slice A xs.length c)
  have X0 := Lib.hid x1
  have Y0 := Lib.hid x2
  have I0 := Lib.hid (hi.stay x3)
  have B0 := Lib.hid x3
  have Z0 := Lib.hid x4
  have HC := Lib.hid hc
  have HL := Lib.hid hl
  clear hc hi x1 x2 x3 x4 hl
  have HBB := Lib.hid hb
  clear hb
  go_enter Tryz.func20, Tryz.ntmps20
  go_wp2_with fail
  generalize hW0 : ((w.alloc (.cells #[.string n, .slice A xs.length c] 24 (0, 0))).alloc (.cells #[.string ⟨#[]⟩, .slice none 0 0] 24 (0, 0))) = W0 at *
  have q0 := X0.out.cells.1
  have q1 := X0.out.cells.2
  have y0 := Y0.out.cells.1
  have y1 := Y0.out.cells.2
  have f0 := Y0.out.frz 0
  have f1 := Y0.out.frz 1
  clear hW0
  have hcall := risnn_any n xs _ _ ⟨A, c, rfl, HC.out, I0.out⟩
  rw [HBB.out] at hcall
  refine hcall.mono ?_
  clear hcall
  rintro e w1 ⟨rfl, hb1⟩
  clear q0 q1 y0 y1 f0 f1
  have X1 := Lib.hid (X0.out.stay hb1)
  have I1 := Lib.hid (I0.out.stay hb1)
  have B1 := Lib.hid (B0.out.trans (hb1.mono B0.out.size))
  have q0 := X1.out.cells.1
  have q1 := X1.out.cells.2
  have Y1 := Lib.hid (Y0.out.stay hb1)
  have y0 := Y1.out.cells.1
  have y1 := Y1.out.cells.2
  have f0 := Y1.out.frz 0
  have f1 := Y1.out.frz 1
  clear X0 I0 B0 hb1 Y0
  go_wp2_with fail
  have R0 : Hid (RefB w1 w.heap.size n xs) := Lib.hid ⟨A, c, X1.out, HC.out, I1.out⟩
  have HL2 := HL.out
  have HLL : Hid (([] : Ws).length + xs.length ≤ 2000000) := Lib.hid (by show 0 + _ ≤ _; omega)
  clear HL2 HL q0 q1 y0 y1 f0 f1
  have HL := HLL
  clear HLL
  refine wp_region_late (by kernel_rfl) (by kernel_rfl) 7 6 (by kernel_rfl) (fun _ => false) (by kernel_rfl) (by decide) [Fact.is (.pointer (some ⟨w.heap.size, 0, none⟩)), Fact.is (.string n), Fact.row w.heap.size [], Fact.is (.pointer (some ⟨w.heap.size, 1, none⟩)), Fact.sl xs, Fact.sl xs, Fact.ref n xs, Fact.any] (fun _ w' => RefB w' (w.heap.size + 1) n xs ∧ Below w.heap.size w w') (fun _ _ _ _ h => by cases h) ?_ (fun _ _ _ _ h => by cases h) ?_ ?_
  · intro i o ho his _ a wn hf hbl had
    have hi : i < 8 := (Array.getElem?_eq_some_iff.1 ho).1
    have hc : i = 0 ∨ i = 1 ∨ i = 2 ∨ i = 3 ∨ i = 4 ∨ i = 5 ∨ i = 6 := by omega
    rcases hc with rfl | rfl | rfl | rfl | rfl | rfl | rfl
    · cases ho
      have h0 : a.tmps.getD 1 undef = .pointer (some ⟨w.heap.size, 0, none⟩) := hf.slot 1 (by kernel_rfl)
      exact rc_fa0 rfl (.tmp 1) rfl h0 ⟨Below.refl _ _, rfl⟩
    · cases ho
      have h0 : vof _ a 0 = .pointer (some ⟨w.heap.size, 0, none⟩) := had ⟨0, .data⟩ (by simp) rfl (by decide)
      exact rk_ldS rfl (.tmp 7) rfl h0 (R0.out.stay hbl) ⟨Below.refl _ _, rfl⟩
    · cases ho
      exact rk_made0 rfl rfl (by have h1 := hbl.size; have h2 := B1.out.size; omega) fun v w1 hb1 hv => ⟨hb1, hv⟩
    · cases ho
      have h0 : a.tmps.getD 1 undef = .pointer (some ⟨w.heap.size, 0, none⟩) := hf.slot 1 (by kernel_rfl)
      exact rc_fa1 rfl (.tmp 1) rfl h0 ⟨Below.refl _ _, rfl⟩
    · cases ho
      have h0 : vof _ a 3 = .pointer (some ⟨w.heap.size, 1, none⟩) := had ⟨3, .data⟩ (by simp) rfl (by decide)
      exact rk_ldI rfl (.tmp 10) rfl h0 (R0.out.stay hbl) fun u hu => ⟨Below.refl _ _, hu⟩
    · cases ho
      have h0 : (OwnI wn w.heap.size (vof _ a 2) [] ∧ w.heap.size ≤ wn.heap.size) ∧ Full (vof _ a 2) := had ⟨2, .data⟩ (by simp) rfl (by decide)
      have h1 : SlV wn wn.heap.size (vof _ a 4) xs := had ⟨4, .data⟩ (by simp) rfl (by decide)
      exact rk_append rfl (.tmp 9) (.tmp 11) rfl h0 h1 HL.out fun v w1 hb1 hv => ⟨hb1, hv⟩
    · cases ho
      have h0 : vof _ a 1 = .string n := had ⟨1, .data⟩ (by simp) rfl (by decide)
      have h1 : SlV wn wn.heap.size (vof _ a 5) xs := had ⟨5, .data⟩ (by simp) rfl (by decide)
      exact rk_build rfl (.tmp 8) (.tmp 12) rfl h0 h1 fun u hu => ⟨Below.refl _ _, hu⟩
  · intro o ho a wn hf hbl had
    cases ho
    have s2 : a.eval (.tmp 2) = .pointer (some ⟨w.heap.size + 1, 0, none⟩) := hf.slot 2 (by kernel_rfl)
    have hv : RefV wn wn.heap.size (vof _ a 6) n xs := had ⟨6, .data⟩ (by simp) rfl (by decide)
    exact rk_store rfl (.tmp 2) _ rfl s2 (Y1.out.stay hbl) hv fun w' h1 h2 => ⟨h1, (B1.out.trans (hbl.mono B1.out.size)).trans (h2 _ (by omega))⟩
  · intro a wn hf _ hfin
    obtain ⟨c0, c1, hbx, hrv⟩ := hfin.1.v
    have s2 : a.tmps.getD 2 undef = .pointer (some ⟨w.heap.size + 1, 0, none⟩) := hf.slot 2 (by kernel_rfl)
    have hd : a.defers = [] := hf.1
    obtain ⟨p0, p1⟩ := hbx.cells
    have HR := Lib.hid hrv
    have HB := Lib.hid hfin.2
    rw [Array.getD_eq_getD_getElem?] at s2
    clear hfin hf hbx hrv
    go_wp2_with fail
    rw [show nulL xs = xs from HN.out]
    exact bodyPost_ret (v := .agg #[c0, c1]) (by simp [results, Tryz.results20, go_sem, s2, p0, p1]) hd ⟨⟨_, rfl, HR.out⟩, HB.out⟩
theorem rnullable_any (n : ByteArray) (xs : Ws) (v : Value) (w : World) (h : RefV w w.heap.size v n xs) (hl : xs.length ≤ 900000) : Calls Tryz.prog 20 #[v] w (RefPost n (nulL xs) w) := by
  cases hb : nnB xs with
  | true => exact rnullable_any_t n xs v w h hl hb
  | false => exact rnullable_any_f n xs v w h hl hb
set_option maxRecDepth 100000 in
set_option maxHeartbeats 2000000 in
theorem rnonnull_any_t (n : ByteArray) (xs : Ws) (v : Value) (w : World) (h : RefV w w.heap.size v n xs) (hl : xs.length ≤ 900000) (hb : nnB xs = true) : Calls Tryz.prog 16 #[v] w (RefPost n (nnL xs) w) := by
  have hn := nul_true hb
  have HN := Lib.hid hn
  clear hn
  obtain ⟨A, c, rfl, hc, hi⟩ := h
  obtain ⟨x1, x2, x3, x4⟩ := BxR.args w (.string n) (.slice A xs.length c)
  have X0 := Lib.hid x1
  have Y0 := Lib.hid x2
  have I0 := Lib.hid (hi.stay x3)
  have B0 := Lib.hid x3
  have Z0 := Lib.hid x4
  have HC := Lib.hid hc
  have HL := Lib.hid hl
  clear hc hi x1 x2 x3 x4 hl
  have HBB := Lib.hid hb
  clear hb
  go_enter Tryz.func16, Tryz.ntmps16
  go_wp2_with fail
  generalize hW0 : ((w.alloc (.cells #[.string n, .slice A xs.length c] 24 (0, 0))).alloc (.cells #[.string ⟨#[]⟩, .slice none 0 0] 24 (0, 0))) = W0 at *
  have q0 := X0.out.cells.1
  have q1 := X0.out.cells.2
  have y0 := Y0.out.cells.1
  have y1 := Y0.out.cells.2
  have f0 := Y0.out.frz 0
  have f1 := Y0.out.frz 1
  clear hW0
  have hcall := risnn_any n xs _ _ ⟨A, c, rfl, HC.out, I0.out⟩
  rw [HBB.out] at hcall
  refine hcall.mono ?_
  clear hcall
  rintro e w1 ⟨rfl, hb1⟩
  clear q0 q1 y0 y1 f0 f1
  have X1 := Lib.hid (X0.out.stay hb1)
  have I1 := Lib.hid (I0.out.stay hb1)
  have B1 := Lib.hid (B0.out.trans (hb1.mono B0.out.size))
  have q0 := X1.out.cells.1
  have q1 := X1.out.cells.2
  have Y1 := Lib.hid (Y0.out.stay hb1)
  have y0 := Y1.out.cells.1
  have y1 := Y1.out.cells.2
  have f0 := Y1.out.frz 0
  have f1 := Y1.out.frz 1
  clear X0 I0 B0 hb1 Y0
  go_wp2_with fail
  have R0 : Hid (RefB w1 w.heap.size n xs) := Lib.hid ⟨A, c, X1.out, HC.out, I1.out⟩
  have HL2 := HL.out
  have HLL : Hid (([] : Ws).length + xs.length ≤ 2000000) := Lib.hid (by show 0 + _ ≤ _; omega)
  clear HL2 HL q0 q1 y0 y1 f0 f1
  have HL := HLL
  clear HLL
  refine wp_region_late (by kernel_rfl) (by kernel_rfl) 7 6 (by kernel_rfl) (fun _ => false) (by kernel_rfl) (by decide) [Fact.is (.pointer (some ⟨w.heap.size, 0, none⟩)), Fact.is (.string n), Fact.row w.heap.size [], Fact.is (.pointer (some ⟨w.heap.size, 1, none⟩)), Fact.sl xs, Fact.sl xs, Fact.ref n xs, Fact.any] (fun _ w' => RefB w' (w.heap.size + 1) n xs ∧ Below w.heap.size w w') (fun _ _ _ _ h => by cases h) ?_ (fun _ _ _ _ h => by cases h) ?_ ?_
  · intro i o ho his _ a wn hf hbl had
    have hi : i < 8 := (Array.getElem?_eq_some_iff.1 ho).1
    have hc : i = 0 ∨ i = 1 ∨ i = 2 ∨ i = 3 ∨ i = 4 ∨ i = 5 ∨ i = 6 := by omega
    rcases hc with rfl | rfl | rfl | rfl | rfl | rfl | rfl
    · cases ho
      have h0 : a.tmps.getD 1 undef = .pointer (some ⟨w.heap.size, 0, none⟩) := hf.slot 1 (by kernel_rfl)
      exact rc_fa0 rfl (.tmp 1) rfl h0 ⟨Below.refl _ _, rfl⟩
    · cases ho
      have h0 : vof _ a 0 = .pointer (some ⟨w.heap.size, 0, none⟩) := had ⟨0, .data⟩ (by simp) rfl (by decide)
      exact rk_ldS rfl (.tmp 5) rfl h0 (R0.out.stay hbl) ⟨Below.refl _ _, rfl⟩
    · cases ho
      exact rk_made0 rfl rfl (by have h1 := hbl.size; have h2 := B1.out.size; omega) fun v w1 hb1 hv => ⟨hb1, hv⟩
    · cases ho
      have h0 : a.tmps.getD 1 undef = .pointer (some ⟨w.heap.size, 0, none⟩) := hf.slot 1 (by kernel_rfl)
      exact rc_fa1 rfl (.tmp 1) rfl h0 ⟨Below.refl _ _, rfl⟩
    · cases ho
      have h0 : vof _ a 3 = .pointer (some ⟨w.heap.size, 1, none⟩) := had ⟨3, .data⟩ (by simp) rfl (by decide)
      exact rk_ldI rfl (.tmp 8) rfl h0 (R0.out.stay hbl) fun u hu => ⟨Below.refl _ _, hu⟩
    · cases ho
      have h0 : (OwnI wn w.heap.size (vof _ a 2) [] ∧ w.heap.size ≤ wn.heap.size) ∧ Full (vof _ a 2) := had ⟨2, .data⟩ (by simp) rfl (by decide)
      have h1 : SlV wn wn.heap.size (vof _ a 4) xs := had ⟨4, .data⟩ (by simp) rfl (by decide)
      exact rk_append rfl (.tmp 7) (.tmp 9) rfl h0 h1 HL.out fun v w1 hb1 hv => ⟨hb1, hv⟩
    · cases ho
      have h0 : vof _ a 1 = .string n := had ⟨1, .data⟩ (by simp) rfl (by decide)
      have h1 : SlV wn wn.heap.size (vof _ a 5) xs := had ⟨5, .data⟩ (by simp) rfl (by decide)
      exact rk_build rfl (.tmp 6) (.tmp 10) rfl h0 h1 fun u hu => ⟨Below.refl _ _, hu⟩
  · intro o ho a wn hf hbl had
    cases ho
    have s2 : a.eval (.tmp 2) = .pointer (some ⟨w.heap.size + 1, 0, none⟩) := hf.slot 2 (by kernel_rfl)
    have hv : RefV wn wn.heap.size (vof _ a 6) n xs := had ⟨6, .data⟩ (by simp) rfl (by decide)
    exact rk_store rfl (.tmp 2) _ rfl s2 (Y1.out.stay hbl) hv fun w' h1 h2 => ⟨h1, (B1.out.trans (hbl.mono B1.out.size)).trans (h2 _ (by omega))⟩
  · intro a wn hf _ hfin
    obtain ⟨c0, c1, hbx, hrv⟩ := hfin.1.v
    have s2 : a.tmps.getD 2 undef = .pointer (some ⟨w.heap.size + 1, 0, none⟩) := hf.slot 2 (by kernel_rfl)
    have hd : a.defers = [] := hf.1
    obtain ⟨p0, p1⟩ := hbx.cells
    have HR := Lib.hid hrv
    have HB := Lib.hid hfin.2
    rw [Array.getD_eq_getD_getElem?] at s2
    clear hfin hf hbx hrv
    go_wp2_with fail
    rw [nnl_true HBB.out]
    exact bodyPost_ret (v := .agg #[c0, c1]) (by simp [results, Tryz.results16, go_sem, s2, p0, p1]) hd ⟨⟨_, rfl, HR.out⟩, HB.out⟩
set_option maxRecDepth 100000 in
set_option maxHeartbeats 2000000 in
theorem rnonnull_any_f (n : ByteArray) (xs : Ws) (v : Value) (w : World) (h : RefV w w.heap.size v n xs) (hl : xs.length ≤ 900000) (hb : nnB xs = false) : Calls Tryz.prog 16 #[v] w (RefPost n (nnL xs) w) := by
  have hn := nul_false hb
  have HN := Lib.hid hn
  clear hn
  obtain ⟨A, c, rfl, hc, hi⟩ := h
  obtain ⟨x1, x2, x3, x4⟩ := BxR.args w (.string n) (.slice A xs.length c)
  have X0 := Lib.hid x1
  have Y0 := Lib.hid x2
  have I0 := Lib.hid (hi.stay x3)
  have B0 := Lib.hid x3
  have Z0 := Lib.hid x4
  have HC := Lib.hid hc
  have HL := Lib.hid hl
  clear hc hi x1 x2 x3 x4 hl
  have HBB := Lib.hid hb
  clear hb
  go_enter Tryz.func16, Tryz.ntmps16
  go_wp2_with fail
  generalize hW0 : ((w.alloc (.cells #[.string n, .slice A xs.length c] 24 (0, 0))).alloc (.cells #[.string ⟨#[]⟩, .slice none 0 0] 24 (0, 0))) = W0 at *
  have q0 := X0.out.cells.1
  have q1 := X0.out.cells.2
  have y0 := Y0.out.cells.1
  have y1 := Y0.out.cells.2
  have f0 := Y0.out.frz 0
  have f1 := Y0.out.frz 1
  clear hW0
  have hcall := risnn_any n xs _ _ ⟨A, c, rfl, HC.out, I0.out⟩
  rw [HBB.out] at hcall
  refine hcall.mono ?_
  clear hcall
  rintro e w1 ⟨rfl, hb1⟩
  clear q0 q1 y0 y1 f0 f1
  have X1 := Lib.hid (X0.out.stay hb1)
  have I1 := Lib.hid (I0.out.stay hb1)
  have B1 := Lib.hid (B0.out.trans (hb1.mono B0.out.size))
  have q0 := X1.out.cells.1
  have q1 := X1.out.cells.2
  have Y1 := Lib.hid (Y0.out.stay hb1)
  have y0 := Y1.out.cells.1
  have y1 := Y1.out.cells.2
  have f0 := Y1.out.frz 0
  have f1 := Y1.out.frz 1
  clear X0 I0 B0 hb1 Y0
  go_wp2_with fail
  have HE := nnl_false HBB.out
  have hcall := rwrap_any 1 n xs _ _ ⟨A, c, rfl, HC.out, I1.out⟩ (by have := HL.out; omega)
  generalize hz1 : [1] ++ xs = zs1 at hcall HE
  refine hcall.mono ?_
  clear hcall
  rintro e w2 ⟨⟨u, rfl, A1, c1, rfl, hc1, hi1⟩, hb1⟩
  have HC1 := Lib.hid hc1
  have HI1 := Lib.hid hi1
  clear hc1 hi1
  have HZ1 := Lib.hid hz1
  clear hz1
  clear q0 q1 y0 y1 f0 f1
  have X2 := Lib.hid (X1.out.stay hb1)
  have I2 := Lib.hid (I1.out.stay hb1)
  have B2 := Lib.hid (B1.out.trans (hb1.mono B1.out.size))
  have q0 := X2.out.cells.1
  have q1 := X2.out.cells.2
  have Y2 := Lib.hid (Y1.out.stay hb1)
  have y0 := Y2.out.cells.1
  have y1 := Y2.out.cells.2
  have f0 := Y2.out.frz 0
  have f1 := Y2.out.frz 1
  clear X1 I1 B1 hb1 Y1
  have HEE := Lib.hid HE
  clear HE
  go_wp2_with fail
  rw [HEE.out]
  obtain ⟨z1, z2, z3⟩ := ref_end (n := n) Y2.out (by omega) B2.out HC1.out HI1.out
  obtain ⟨⟨u, e, hu⟩, hbl⟩ := z1
  cases e
  exact bodyPost_ret (by simp [results, Tryz.results16, go_sem, z2, z3]) rfl ⟨⟨_, rfl, hu⟩, hbl⟩
theorem rnonnull_any (n : ByteArray) (xs : Ws) (v : Value) (w : World) (h : RefV w w.heap.size v n xs) (hl : xs.length ≤ 900000) : Calls Tryz.prog 16 #[v] w (RefPost n (nnL xs) w) := by
  cases hb : nnB xs with
  | true => exact rnonnull_any_t n xs v w h hl hb
  | false => exact rnonnull_any_f n xs v w h hl hb
set_option maxRecDepth 100000 in
set_option maxHeartbeats 2000000 in
theorem nonnull_any (n : ByteArray) (xs : Ws) (v : Value) (w : World) (h : RefV w w.heap.size v n xs) (hl : xs.length ≤ 900000) : Calls Tryz.prog 15 #[v] w (RefPost n (nnL xs) w) := by
  obtain ⟨A, c, rfl, hc, hi⟩ := h
  obtain ⟨x1, x2, x3, x4⟩ := BxR.args w (.string n) (.slice A xs.length c)
  have X0 := Lib.hid x1
  have Y0 := Lib.hid x2
  have I0 := Lib.hid (hi.stay x3)
  have B0 := Lib.hid x3
  have Z0 := Lib.hid x4
  have HC := Lib.hid hc
  have HL := Lib.hid hl
  clear hc hi x1 x2 x3 x4 hl
  go_enter Tryz.func15, Tryz.ntmps15
  go_wp2_with fail
  generalize hW0 : ((w.alloc (.cells #[.string n, .slice A xs.length c] 24 (0, 0))).alloc (.cells #[.string ⟨#[]⟩, .slice none 0 0] 24 (0, 0))) = W0 at *
  have q0 := X0.out.cells.1
  have q1 := X0.out.cells.2
  have y0 := Y0.out.cells.1
  have y1 := Y0.out.cells.2
  have f0 := Y0.out.frz 0
  have f1 := Y0.out.frz 1
  clear hW0
  have HE : [1] ++ nulL xs = nnL xs := rfl
  have hl2 := nul_len xs
  have hcall := nullable_any n xs _ _ ⟨A, c, rfl, HC.out, I0.out⟩ HL.out
  generalize hz1 : nulL xs = zs1 at hcall HE hl2
  refine hcall.mono ?_
  clear hcall
  rintro e w1 ⟨⟨u, rfl, A1, c1, rfl, hc1, hi1⟩, hb1⟩
  have HC1 := Lib.hid hc1
  have HI1 := Lib.hid hi1
  clear hc1 hi1
  have HZ1 := Lib.hid hz1
  clear hz1
  clear q0 q1 y0 y1 f0 f1
  have X1 := Lib.hid (X0.out.stay hb1)
  have I1 := Lib.hid (I0.out.stay hb1)
  have B1 := Lib.hid (B0.out.trans (hb1.mono B0.out.size))
  have q0 := X1.out.cells.1
  have q1 := X1.out.cells.2
  have Y1 := Lib.hid (Y0.out.stay hb1)
  have y0 := Y1.out.cells.1
  have y1 := Y1.out.cells.2
  have f0 := Y1.out.frz 0
  have f1 := Y1.out.frz 1
  clear X0 I0 B0 hb1 Y0
  have HL2 : Hid (zs1.length ≤ 1000000) := Lib.hid (by have := HL.out; omega)
  have HE2 := Lib.hid HE
  clear HE hl2
  go_wp2_with fail
  have HE := HE2.out
  have hcall := wrap_any 1 n zs1 _ _ ⟨A1, c1, rfl, HC1.out, HI1.out⟩ HL2.out
  generalize hz2 : [1] ++ zs1 = zs2 at hcall HE
  refine hcall.mono ?_
  clear hcall
  rintro e w2 ⟨⟨u, rfl, A2, c2, rfl, hc2, hi2⟩, hb1⟩
  have HC2 := Lib.hid hc2
  have HI2 := Lib.hid hi2
  clear hc2 hi2
  have HZ2 := Lib.hid hz2
  clear hz2
  clear q0 q1 y0 y1 f0 f1
  have X2 := Lib.hid (X1.out.stay hb1)
  have I2 := Lib.hid (I1.out.stay hb1)
  have B2 := Lib.hid (B1.out.trans (hb1.mono B1.out.size))
  have q0 := X2.out.cells.1
  have q1 := X2.out.cells.2
  have Y2 := Lib.hid (Y1.out.stay hb1)
  have y0 := Y2.out.cells.1
  have y1 := Y2.out.cells.2
  have f0 := Y2.out.frz 0
  have f1 := Y2.out.frz 1
  clear X1 I1 B1 hb1 Y1
  have HEE := Lib.hid HE
  clear HE
  go_wp2_with fail
  rw [← HEE.out]
  obtain ⟨z1, z2, z3⟩ := ref_end (n := n) Y2.out (by omega) B2.out HC2.out HI2.out
  obtain ⟨⟨u, e, hu⟩, hbl⟩ := z1
  cases e
  exact bodyPost_ret (by simp [results, Tryz.results15, go_sem, z2, z3]) rfl ⟨⟨_, rfl, hu⟩, hbl⟩
set_option maxRecDepth 100000 in
set_option maxHeartbeats 2000000 in
theorem listof_any (n : ByteArray) (xs : Ws) (v : Value) (w : World) (h : RefV w w.heap.size v n xs) (hl : xs.length ≤ 900000) : Calls Tryz.prog 17 #[v] w (RefPost n (2 :: xs) w) := by
  obtain ⟨A, c, rfl, hc, hi⟩ := h
  obtain ⟨x1, x2, x3, x4⟩ := BxR.args w (.string n) (.slice A xs.length c)
  have X0 := Lib.hid x1
  have Y0 := Lib.hid x2
  have I0 := Lib.hid (hi.stay x3)
  have B0 := Lib.hid x3
  have Z0 := Lib.hid x4
  have HC := Lib.hid hc
  have HL := Lib.hid hl
  clear hc hi x1 x2 x3 x4 hl
  go_enter Tryz.func17, Tryz.ntmps17
  go_wp2_with fail
  generalize hW0 : ((w.alloc (.cells #[.string n, .slice A xs.length c] 24 (0, 0))).alloc (.cells #[.string ⟨#[]⟩, .slice none 0 0] 24 (0, 0))) = W0 at *
  have q0 := X0.out.cells.1
  have q1 := X0.out.cells.2
  have y0 := Y0.out.cells.1
  have y1 := Y0.out.cells.2
  have f0 := Y0.out.frz 0
  have f1 := Y0.out.frz 1
  clear hW0
  have HE : [2] ++ xs = 2 :: xs := rfl
  have hcall := wrap_any 2 n xs _ _ ⟨A, c, rfl, HC.out, I0.out⟩ (by have := HL.out; omega)
  generalize hz1 : [2] ++ xs = zs1 at hcall HE
  refine hcall.mono ?_
  clear hcall
  rintro e w1 ⟨⟨u, rfl, A1, c1, rfl, hc1, hi1⟩, hb1⟩
  have HC1 := Lib.hid hc1
  have HI1 := Lib.hid hi1
  clear hc1 hi1
  have HZ1 := Lib.hid hz1
  clear hz1
  clear q0 q1 y0 y1 f0 f1
  have X1 := Lib.hid (X0.out.stay hb1)
  have I1 := Lib.hid (I0.out.stay hb1)
  have B1 := Lib.hid (B0.out.trans (hb1.mono B0.out.size))
  have q0 := X1.out.cells.1
  have q1 := X1.out.cells.2
  have Y1 := Lib.hid (Y0.out.stay hb1)
  have y0 := Y1.out.cells.1
  have y1 := Y1.out.cells.2
  have f0 := Y1.out.frz 0
  have f1 := Y1.out.frz 1
  clear X0 I0 B0 hb1 Y0
  have HEE := Lib.hid HE
  clear HE
  go_wp2_with fail
  rw [← HEE.out]
  obtain ⟨z1, z2, z3⟩ := ref_end (n := n) Y1.out (by omega) B1.out HC1.out HI1.out
  obtain ⟨⟨u, e, hu⟩, hbl⟩ := z1
  cases e
  exact bodyPost_ret (by simp [results, Tryz.results17, go_sem, z2, z3]) rfl ⟨⟨_, rfl, hu⟩, hbl⟩
set_option maxRecDepth 100000 in
set_option maxHeartbeats 2000000 in
theorem rlistof_any (n : ByteArray) (xs : Ws) (v : Value) (w : World) (h : RefV w w.heap.size v n xs) (hl : xs.length ≤ 900000) : Calls Tryz.prog 18 #[v] w (RefPost n (2 :: xs) w) := by
  obtain ⟨A, c, rfl, hc, hi⟩ := h
  obtain ⟨x1, x2, x3, x4⟩ := BxR.args w (.string n) (.slice A xs.length c)
  have X0 := Lib.hid x1
  have Y0 := Lib.hid x2
  have I0 := Lib.hid (hi.stay x3)
  have B0 := Lib.hid x3
  have Z0 := Lib.hid x4
  have HC := Lib.hid hc
  have HL := Lib.hid hl
  clear hc hi x1 x2 x3 x4 hl
  go_enter Tryz.func18, Tryz.ntmps18
  go_wp2_with fail
  generalize hW0 : ((w.alloc (.cells #[.string n, .slice A xs.length c] 24 (0, 0))).alloc (.cells #[.string ⟨#[]⟩, .slice none 0 0] 24 (0, 0))) = W0 at *
  have q0 := X0.out.cells.1
  have q1 := X0.out.cells.2
  have y0 := Y0.out.cells.1
  have y1 := Y0.out.cells.2
  have f0 := Y0.out.frz 0
  have f1 := Y0.out.frz 1
  clear hW0
  have HE : [2] ++ xs = 2 :: xs := rfl
  have hcall := rwrap_any 2 n xs _ _ ⟨A, c, rfl, HC.out, I0.out⟩ (by have := HL.out; omega)
  generalize hz1 : [2] ++ xs = zs1 at hcall HE
  refine hcall.mono ?_
  clear hcall
  rintro e w1 ⟨⟨u, rfl, A1, c1, rfl, hc1, hi1⟩, hb1⟩
  have HC1 := Lib.hid hc1
  have HI1 := Lib.hid hi1
  clear hc1 hi1
  have HZ1 := Lib.hid hz1
  clear hz1
  clear q0 q1 y0 y1 f0 f1
  have X1 := Lib.hid (X0.out.stay hb1)
  have I1 := Lib.hid (I0.out.stay hb1)
  have B1 := Lib.hid (B0.out.trans (hb1.mono B0.out.size))
  have q0 := X1.out.cells.1
  have q1 := X1.out.cells.2
  have Y1 := Lib.hid (Y0.out.stay hb1)
  have y0 := Y1.out.cells.1
  have y1 := Y1.out.cells.2
  have f0 := Y1.out.frz 0
  have f1 := Y1.out.frz 1
  clear X0 I0 B0 hb1 Y0
  have HEE := Lib.hid HE
  clear HE
  go_wp2_with fail
  rw [← HEE.out]
  obtain ⟨z1, z2, z3⟩ := ref_end (n := n) Y1.out (by omega) B1.out HC1.out HI1.out
  obtain ⟨⟨u, e, hu⟩, hbl⟩ := z1
  cases e
  exact bodyPost_ret (by simp [results, Tryz.results18, go_sem, z2, z3]) rfl ⟨⟨_, rfl, hu⟩, hbl⟩
theorem named_any (n : ByteArray) (w : World) : Calls Tryz.prog 13 #[.string n] w (RefPost n [] w) := by
  go_enter Tryz.func13, Tryz.ntmps13
  go_wp2_with fail
  exact bodyPost_ret (v := .agg #[.string n, .slice none 0 0]) (by simp [results, Tryz.results13, go_sem]) rfl ⟨⟨_, rfl, none, 0, rfl, Nat.le_refl _, IntsAt.nil _ _ _⟩, (Below.refl _ _).alloc (Nat.le_refl _) _⟩
theorem rnamed_any (n : ByteArray) (w : World) : Calls Tryz.prog 14 #[.string n] w (RefPost n [] w) := by
  go_enter Tryz.func14, Tryz.ntmps14
  go_wp2_with fail
  exact bodyPost_ret (v := .agg #[.string n, .slice none 0 0]) (by simp [results, Tryz.results14, go_sem]) rfl ⟨⟨_, rfl, none, 0, rfl, Nat.le_refl _, IntsAt.nil _ _ _⟩, (Below.refl _ _).alloc (Nat.le_refl _) _⟩
set_option maxRecDepth 100000 in
set_option maxHeartbeats 2000000 in
theorem islist_any (n : ByteArray) (xs : Ws) (v : Value) (w : World) (h : RefV w w.heap.size v n xs) (hl : xs.length ≤ 900000) : Calls Tryz.prog 23 #[v] w (BoolPost (lsB xs) w) := by
  obtain ⟨A, c, rfl, hc, hi⟩ := h
  have x3 := (Below.refl w.heap.size w).alloc (Nat.le_refl _) (.cells #[.string n, .slice A xs.length c] 24 (0, 0))
  have X0 := Lib.hid (BxR.new w (.string n) (.slice A xs.length c))
  have I0 := Lib.hid (hi.stay x3)
  have B0 := Lib.hid x3
  have HC := Lib.hid hc
  have HL := Lib.hid hl
  clear hc hi x3 hl
  go_enter Tryz.func23, Tryz.ntmps23
  go_wp2_with fail
  generalize hW0 : (w.alloc (.cells #[.string n, .slice A xs.length c] 24 (0, 0))) = W0 at *
  have q0 := X0.out.cells.1
  have q1 := X0.out.cells.2
  clear hW0
  have HE : lsB xs = ((nulL xs).head? == some 2) := rfl
  have hcall := nullable_any n xs _ _ ⟨A, c, rfl, HC.out, I0.out⟩ HL.out
  generalize hz1 : nulL xs = zs1 at hcall HE
  refine hcall.mono ?_
  clear hcall
  rintro e w1 ⟨⟨u, rfl, A1, c1, rfl, hc1, hi1⟩, hb1⟩
  have HC1 := Lib.hid hc1
  have HI1 := Lib.hid hi1
  clear hc1 hi1
  have HZ1 := Lib.hid hz1
  clear hz1
  clear q0 q1
  have X1 := Lib.hid (X0.out.stay hb1)
  have I1 := Lib.hid (I0.out.stay hb1)
  have B1 := Lib.hid (B0.out.trans (hb1.mono B0.out.size))
  have q0 := X1.out.cells.1
  have q1 := X1.out.cells.2
  clear X0 I0 B0 hb1
  have HE2 := Lib.hid HE
  clear HE
  go_wp2_with fail
  refine (isw_any 2 n zs1 _ _ ⟨A1, c1, rfl, HC1.out, HI1.out⟩).mono ?_
  rintro e w2 ⟨rfl, hb1⟩
  have B2 := Lib.hid (B1.out.trans (hb1.mono B1.out.size))
  clear hb1 q0 q1
  go_wp2_with fail
  exact bodyPost_ret (v := .bool (zs1.head? == some 2)) (by simp [results, Tryz.results23, go_sem]) rfl ⟨by rw [HE2.out], B2.out⟩
set_option maxRecDepth 100000 in
set_option maxHeartbeats 2000000 in
theorem rislist_any (n : ByteArray) (xs : Ws) (v : Value) (w : World) (h : RefV w w.heap.size v n xs) (hl : xs.length ≤ 900000) : Calls Tryz.prog 24 #[v] w (BoolPost (lsB xs) w) := by
  obtain ⟨A, c, rfl, hc, hi⟩ := h
  have x3 := (Below.refl w.heap.size w).alloc (Nat.le_refl _) (.cells #[.string n, .slice A xs.length c] 24 (0, 0))
  have X0 := Lib.hid (BxR.new w (.string n) (.slice A xs.length c))
  have I0 := Lib.hid (hi.stay x3)
  have B0 := Lib.hid x3
  have HC := Lib.hid hc
  have HL := Lib.hid hl
  clear hc hi x3 hl
  go_enter Tryz.func24, Tryz.ntmps24
  go_wp2_with fail
  generalize hW0 : (w.alloc (.cells #[.string n, .slice A xs.length c] 24 (0, 0))) = W0 at *
  have q0 := X0.out.cells.1
  have q1 := X0.out.cells.2
  clear hW0
  have HE : lsB xs = l2B (nulL xs) := rfl
  have hcall := rnullable_any n xs _ _ ⟨A, c, rfl, HC.out, I0.out⟩ HL.out
  generalize hz1 : nulL xs = zs1 at hcall HE
  refine hcall.mono ?_
  clear hcall
  rintro e w1 ⟨⟨u, rfl, A1, c1, rfl, hc1, hi1⟩, hb1⟩
  have HC1 := Lib.hid hc1
  have HI1 := Lib.hid hi1
  clear hc1 hi1
  have HZ1 := Lib.hid hz1
  clear hz1
  clear q0 q1
  have X1 := Lib.hid (X0.out.stay hb1)
  have I1 := Lib.hid (I0.out.stay hb1)
  have B1 := Lib.hid (B0.out.trans (hb1.mono B0.out.size))
  have q0 := X1.out.cells.1
  have q1 := X1.out.cells.2
  clear X0 I0 B0 hb1
  have HE2 := Lib.hid HE
  have hn := (Below.refl w1.heap.size w1).alloc (Nat.le_refl _) (.cells #[.string n, .slice A1 zs1.length c1] 24 (0, 0))
  have hnb := HI1.out.stay hn
  have hBB := B1.out.trans (hn.mono B1.out.size)
  have BB := Lib.hid hBB
  clear HE q0 q1 hn hBB
  rcases nn_head hnb with ⟨rfl, _, hv⟩ | ⟨a, x, r, rfl, rfl, hcell, _, hv⟩
  · have HV := Lib.hid hv
    clear hnb hv
    go_wp2_with fail
    all_goals exact bodyPost_ret (v := .bool false) (by simp [results, Tryz.results24, go_sem]) rfl ⟨by rw [HE2.out, HV.out], BB.out⟩
  · have HV := Lib.hid hv
    have hp : (0 : Int) < ((x :: r : Ws).length : Int) := by simp
    clear hnb hv
    generalize (x :: r : Ws).length = l at *
    go_wp2_with fail
    all_goals exact bodyPost_ret (v := .bool (x == 2)) (by simp [results, Tryz.results24, go_sem]) rfl ⟨by rw [HE2.out, HV.out]; rfl, BB.out⟩
set_option maxRecDepth 100000 in
set_option maxHeartbeats 2000000 in
theorem inner_any_t (n : ByteArray) (xs : Ws) (v : Value) (w : World) (h : RefV w w.heap.size v n xs) (hl : xs.length ≤ 900000) (hb : lsB xs = true) : Calls Tryz.prog 10 #[v] w (OptPost n (inO xs) w) := by
  have HBB := Lib.hid hb
  clear hb
  obtain ⟨A, c, rfl, hc, hi⟩ := h
  obtain ⟨x1, x2, x3, x4⟩ := BxR.args w (.string n) (.slice A xs.length c)
  have X0 := Lib.hid x1
  have Y0 := Lib.hid x2
  have I0 := Lib.hid (hi.stay x3)
  have B0 := Lib.hid x3
  have Z0 := Lib.hid x4
  have HC := Lib.hid hc
  have HL := Lib.hid hl
  clear hc hi x1 x2 x3 x4 hl
  go_enter Tryz.func10, Tryz.ntmps10
  go_wp2_with fail
  generalize hW0 : ((w.alloc (.cells #[.string n, .slice A xs.length c] 24 (0, 0))).alloc (.cells #[.string ⟨#[]⟩, .slice none 0 0] 24 (0, 0))) = W0 at *
  have q0 := X0.out.cells.1
  have q1 := X0.out.cells.2
  have y0 := Y0.out.cells.1
  have y1 := Y0.out.cells.2
  have f0 := Y0.out.frz 0
  have f1 := Y0.out.frz 1
  clear hW0
  have hcall := islist_any n xs _ _ ⟨A, c, rfl, HC.out, I0.out⟩ HL.out
  rw [HBB.out] at hcall
  refine hcall.mono ?_
  clear hcall
  rintro e w1 ⟨rfl, hb1⟩
  clear q0 q1 y0 y1 f0 f1
  have X1 := Lib.hid (X0.out.stay hb1)
  have I1 := Lib.hid (I0.out.stay hb1)
  have B1 := Lib.hid (B0.out.trans (hb1.mono B0.out.size))
  have q0 := X1.out.cells.1
  have q1 := X1.out.cells.2
  have Y1 := Lib.hid (Y0.out.stay hb1)
  have y0 := Y1.out.cells.1
  have y1 := Y1.out.cells.2
  have f0 := Y1.out.frz 0
  have f1 := Y1.out.frz 1
  clear X0 I0 B0 hb1 Y0
  go_wp2_with fail
  have HE : inO xs = some ((nulL xs).drop 1) := by unfold inO; rw [if_pos HBB.out]; simp
  have hl2 := nul_len xs
  have hp : 1 ≤ (nulL xs).length := by
    have h9 : l2B (nulL xs) = true := HBB.out
    revert h9; generalize nulL xs = q; intro h9; cases q with
    | nil => cases h9
    | cons x r => simp
  have hcall := nullable_any n xs _ _ ⟨A, c, rfl, HC.out, I1.out⟩ HL.out
  generalize hz1 : nulL xs = zs1 at hcall HE hl2 hp
  refine hcall.mono ?_
  clear hcall
  rintro e w2 ⟨⟨u, rfl, A1, c1, rfl, hc1, hi1⟩, hb1⟩
  have HC1 := Lib.hid hc1
  have HI1 := Lib.hid hi1
  clear hc1 hi1
  have HZ1 := Lib.hid hz1
  clear hz1
  clear q0 q1 y0 y1 f0 f1
  have X2 := Lib.hid (X1.out.stay hb1)
  have I2 := Lib.hid (I1.out.stay hb1)
  have B2 := Lib.hid (B1.out.trans (hb1.mono B1.out.size))
  have q0 := X2.out.cells.1
  have q1 := X2.out.cells.2
  have Y2 := Lib.hid (Y1.out.stay hb1)
  have y0 := Y2.out.cells.1
  have y1 := Y2.out.cells.2
  have f0 := Y2.out.frz 0
  have f1 := Y2.out.frz 1
  clear X1 I1 B1 hb1 Y1
  have HL2 : Hid (zs1.length ≤ 1000000) := Lib.hid (by have := HL.out; omega)
  have HP := Lib.hid hp
  have HE2 := Lib.hid HE
  clear HE hl2 hp
  go_wp2_with fail
  have HE := HE2.out
  have hcall := unwrap_any 1 n zs1 _ _ ⟨A1, c1, rfl, HC1.out, HI1.out⟩ HP.out HL2.out
  generalize hz2 : zs1.drop 1 = zs2 at hcall HE
  refine hcall.mono ?_
  clear hcall
  rintro e w3 ⟨⟨u, rfl, A2, c2, rfl, hc2, hi2⟩, hb1⟩
  have HC2 := Lib.hid hc2
  have HI2 := Lib.hid hi2
  clear hc2 hi2
  have HZ2 := Lib.hid hz2
  clear hz2
  clear q0 q1 y0 y1 f0 f1
  have X3 := Lib.hid (X2.out.stay hb1)
  have I3 := Lib.hid (I2.out.stay hb1)
  have B3 := Lib.hid (B2.out.trans (hb1.mono B2.out.size))
  have q0 := X3.out.cells.1
  have q1 := X3.out.cells.2
  have Y3 := Lib.hid (Y2.out.stay hb1)
  have y0 := Y3.out.cells.1
  have y1 := Y3.out.cells.2
  have f0 := Y3.out.frz 0
  have f1 := Y3.out.frz 1
  clear X2 I2 B2 hb1 Y2
  have HEE := Lib.hid HE
  clear HE
  go_wp2_with fail
  obtain ⟨z1, z2, z3⟩ := ref_end (n := n) Y3.out (by omega) B3.out HC2.out HI2.out
  obtain ⟨⟨u, e, hu⟩, hbl⟩ := z1
  cases e
  exact bodyPost_ret (by simp [results, Tryz.results10, go_sem, z2, z3]) rfl (opt_some HEE.out hu hbl)
set_option maxRecDepth 100000 in
set_option maxHeartbeats 2000000 in
theorem inner_any_f (n : ByteArray) (xs : Ws) (v : Value) (w : World) (h : RefV w w.heap.size v n xs) (hl : xs.length ≤ 900000) (hb : lsB xs = false) : Calls Tryz.prog 10 #[v] w (OptPost n (inO xs) w) := by
  have HBB := Lib.hid hb
  clear hb
  obtain ⟨A, c, rfl, hc, hi⟩ := h
  obtain ⟨x1, x2, x3, x4⟩ := BxR.args w (.string n) (.slice A xs.length c)
  have X0 := Lib.hid x1
  have Y0 := Lib.hid x2
  have I0 := Lib.hid (hi.stay x3)
  have B0 := Lib.hid x3
  have Z0 := Lib.hid x4
  have HC := Lib.hid hc
  have HL := Lib.hid hl
  clear hc hi x1 x2 x3 x4 hl
  go_enter Tryz.func10, Tryz.ntmps10
  go_wp2_with fail
  generalize hW0 : ((w.alloc (.cells #[.string n, .slice A xs.length c] 24 (0, 0))).alloc (.cells #[.string ⟨#[]⟩, .slice none 0 0] 24 (0, 0))) = W0 at *
  have q0 := X0.out.cells.1
  have q1 := X0.out.cells.2
  have y0 := Y0.out.cells.1
  have y1 := Y0.out.cells.2
  have f0 := Y0.out.frz 0
  have f1 := Y0.out.frz 1
  clear hW0
  have hcall := islist_any n xs _ _ ⟨A, c, rfl, HC.out, I0.out⟩ HL.out
  rw [HBB.out] at hcall
  refine hcall.mono ?_
  clear hcall
  rintro e w1 ⟨rfl, hb1⟩
  clear q0 q1 y0 y1 f0 f1
  have X1 := Lib.hid (X0.out.stay hb1)
  have I1 := Lib.hid (I0.out.stay hb1)
  have B1 := Lib.hid (B0.out.trans (hb1.mono B0.out.size))
  have q0 := X1.out.cells.1
  have q1 := X1.out.cells.2
  have Y1 := Lib.hid (Y0.out.stay hb1)
  have y0 := Y1.out.cells.1
  have y1 := Y1.out.cells.2
  have f0 := Y1.out.frz 0
  have f1 := Y1.out.frz 1
  clear X0 I0 B0 hb1 Y0
  go_wp2_with fail
  have HE : inO xs = none := by unfold inO; rw [if_neg (by rw [HBB.out]; decide)]
  obtain ⟨z1, z2, z3⟩ := zero_end Y1.out (Nat.le_succ _) B1.out
  exact bodyPost_ret (by simp [results, Tryz.results10, go_sem, z2, z3]) rfl (opt_none HE z1)
theorem inner_any (n : ByteArray) (xs : Ws) (v : Value) (w : World) (h : RefV w w.heap.size v n xs) (hl : xs.length ≤ 900000) : Calls Tryz.prog 10 #[v] w (OptPost n (inO xs) w) := by
  cases hb : lsB xs with
  | true => exact inner_any_t n xs v w h hl hb
  | false => exact inner_any_f n xs v w h hl hb
set_option maxRecDepth 100000 in
set_option maxHeartbeats 2000000 in
theorem rinner_any_t (n : ByteArray) (xs : Ws) (v : Value) (w : World) (h : RefV w w.heap.size v n xs) (hl : xs.length ≤ 900000) (hb : lsB xs = true) : Calls Tryz.prog 11 #[v] w (OptPost n (inO xs) w) := by
  have HBB := Lib.hid hb
  clear hb
  obtain ⟨A, c, rfl, hc, hi⟩ := h
  obtain ⟨x1, x2, x3, x4⟩ := BxR.args w (.string n) (.slice A xs.length c)
  have X0 := Lib.hid x1
  have Y0 := Lib.hid x2
  have I0 := Lib.hid (hi.stay x3)
  have B0 := Lib.hid x3
  have Z0 := Lib.hid x4
  have HC := Lib.hid hc
  have HL := Lib.hid hl
  clear hc hi x1 x2 x3 x4 hl
  go_enter Tryz.func11, Tryz.ntmps11
  go_wp2_with fail
  generalize hW0 : ((w.alloc (.cells #[.string n, .slice A xs.length c] 24 (0, 0))).alloc (.cells #[.string ⟨#[]⟩, .slice none 0 0] 24 (0, 0))) = W0 at *
  have q0 := X0.out.cells.1
  have q1 := X0.out.cells.2
  have y0 := Y0.out.cells.1
  have y1 := Y0.out.cells.2
  have f0 := Y0.out.frz 0
  have f1 := Y0.out.frz 1
  clear hW0
  have hcall := rislist_any n xs _ _ ⟨A, c, rfl, HC.out, I0.out⟩ HL.out
  rw [HBB.out] at hcall
  refine hcall.mono ?_
  clear hcall
  rintro e w1 ⟨rfl, hb1⟩
  clear q0 q1 y0 y1 f0 f1
  have X1 := Lib.hid (X0.out.stay hb1)
  have I1 := Lib.hid (I0.out.stay hb1)
  have B1 := Lib.hid (B0.out.trans (hb1.mono B0.out.size))
  have q0 := X1.out.cells.1
  have q1 := X1.out.cells.2
  have Y1 := Lib.hid (Y0.out.stay hb1)
  have y0 := Y1.out.cells.1
  have y1 := Y1.out.cells.2
  have f0 := Y1.out.frz 0
  have f1 := Y1.out.frz 1
  clear X0 I0 B0 hb1 Y0
  go_wp2_with fail
  have HE : inO xs = some ((nulL xs).drop 1) := by unfold inO; rw [if_pos HBB.out]; simp
  have hl2 := nul_len xs
  have hp : 1 ≤ (nulL xs).length := by
    have h9 : l2B (nulL xs) = true := HBB.out
    revert h9; generalize nulL xs = q; intro h9; cases q with
    | nil => cases h9
    | cons x r => simp
  have hcall := rnullable_any n xs _ _ ⟨A, c, rfl, HC.out, I1.out⟩ HL.out
  generalize hz1 : nulL xs = zs1 at hcall HE hl2 hp
  refine hcall.mono ?_
  clear hcall
  rintro e w2 ⟨⟨u, rfl, A1, c1, rfl, hc1, hi1⟩, hb1⟩
  have HC1 := Lib.hid hc1
  have HI1 := Lib.hid hi1
  clear hc1 hi1
  have HZ1 := Lib.hid hz1
  clear hz1
  clear q0 q1 y0 y1 f0 f1
  have X2 := Lib.hid (X1.out.stay hb1)
  have I2 := Lib.hid (I1.out.stay hb1)
  have B2 := Lib.hid (B1.out.trans (hb1.mono B1.out.size))
  have q0 := X2.out.cells.1
  have q1 := X2.out.cells.2
  have Y2 := Lib.hid (Y1.out.stay hb1)
  have y0 := Y2.out.cells.1
  have y1 := Y2.out.cells.2
  have f0 := Y2.out.frz 0
  have f1 := Y2.out.frz 1
  clear X1 I1 B1 hb1 Y1
  have HL2 : Hid (zs1.length ≤ 1000000) := Lib.hid (by have := HL.out; omega)
  have HP := Lib.hid hp
  have HE2 := Lib.hid HE
  clear HE hl2 hp
  go_wp2_with fail
  have HE := HE2.out
  have hcall := cut_any n zs1 _ _ ⟨A1, c1, rfl, HC1.out, HI1.out⟩ HP.out HL2.out
  generalize hz2 : zs1.drop 1 = zs2 at hcall HE
  refine hcall.mono ?_
  clear hcall
  rintro e w3 ⟨⟨u, rfl, A2, c2, rfl, hc2, hi2⟩, hb1⟩
  have HC2 := Lib.hid hc2
  have HI2 := Lib.hid hi2
  clear hc2 hi2
  have HZ2 := Lib.hid hz2
  clear hz2
  clear q0 q1 y0 y1 f0 f1
  have X3 := Lib.hid (X2.out.stay hb1)
  have I3 := Lib.hid (I2.out.stay hb1)
  have B3 := Lib.hid (B2.out.trans (hb1.mono B2.out.size))
  have q0 := X3.out.cells.1
  have q1 := X3.out.cells.2
  have Y3 := Lib.hid (Y2.out.stay hb1)
  have y0 := Y3.out.cells.1
  have y1 := Y3.out.cells.2
  have f0 := Y3.out.frz 0
  have f1 := Y3.out.frz 1
  clear X2 I2 B2 hb1 Y2
  have HEE := Lib.hid HE
  clear HE
  go_wp2_with fail
  obtain ⟨z1, z2, z3⟩ := ref_end (n := n) Y3.out (by omega) B3.out HC2.out HI2.out
  obtain ⟨⟨u, e, hu⟩, hbl⟩ := z1
  cases e
  exact bodyPost_ret (by simp [results, Tryz.results11, go_sem, z2, z3]) rfl (opt_some HEE.out hu hbl)
set_option maxRecDepth 100000 in
set_option maxHeartbeats 2000000 in
theorem rinner_any_f (n : ByteArray) (xs : Ws) (v : Value) (w : World) (h : RefV w w.heap.size v n xs) (hl : xs.length ≤ 900000) (hb : lsB xs = false) : Calls Tryz.prog 11 #[v] w (OptPost n (inO xs) w) := by
  have HBB := Lib.hid hb
  clear hb
  obtain ⟨A, c, rfl, hc, hi⟩ := h
  obtain ⟨x1, x2, x3, x4⟩ := BxR.args w (.string n) (.slice A xs.length c)
  have X0 := Lib.hid x1
  have Y0 := Lib.hid x2
  have I0 := Lib.hid (hi.stay x3)
  have B0 := Lib.hid x3
  have Z0 := Lib.hid x4
  have HC := Lib.hid hc
  have HL := Lib.hid hl
  clear hc hi x1 x2 x3 x4 hl
  go_enter Tryz.func11, Tryz.ntmps11
  go_wp2_with fail
  generalize hW0 : ((w.alloc (.cells #[.string n, .slice A xs.length c] 24 (0, 0))).alloc (.cells #[.string ⟨#[]⟩, .slice none 0 0] 24 (0, 0))) = W0 at *
  have q0 := X0.out.cells.1
  have q1 := X0.out.cells.2
  have y0 := Y0.out.cells.1
  have y1 := Y0.out.cells.2
  have f0 := Y0.out.frz 0
  have f1 := Y0.out.frz 1
  clear hW0
  have hcall := rislist_any n xs _ _ ⟨A, c, rfl, HC.out, I0.out⟩ HL.out
  rw [HBB.out] at hcall
  refine hcall.mono ?_
  clear hcall
  rintro e w1 ⟨rfl, hb1⟩
  clear q0 q1 y0 y1 f0 f1
  have X1 := Lib.hid (X0.out.stay hb1)
  have I1 := Lib.hid (I0.out.stay hb1)
  have B1 := Lib.hid (B0.out.trans (hb1.mono B0.out.size))
  have q0 := X1.out.cells.1
  have q1 := X1.out.cells.2
  have Y1 := Lib.hid (Y0.out.stay hb1)
  have y0 := Y1.out.cells.1
  have y1 := Y1.out.cells.2
  have f0 := Y1.out.frz 0
  have f1 := Y1.out.frz 1
  clear X0 I0 B0 hb1 Y0
  go_wp2_with fail
  have HE : inO xs = none := by unfold inO; rw [if_neg (by rw [HBB.out]; decide)]
  obtain ⟨z1, z2, z3⟩ := zero_end Y1.out (Nat.le_succ _) B1.out
  exact bodyPost_ret (by simp [results, Tryz.results11, go_sem, z2, z3]) rfl (opt_none HE z1)
theorem rinner_any (n : ByteArray) (xs : Ws) (v : Value) (w : World) (h : RefV w w.heap.size v n xs) (hl : xs.length ≤ 900000) : Calls Tryz.prog 11 #[v] w (OptPost n (inO xs) w) := by
  cases hb : lsB xs with
  | true => exact rinner_any_t n xs v w h hl hb
  | false => exact rinner_any_f n xs v w h hl hb
end Go.Proofs.YtgicbmibhnnflaaGreatDoor
