
/-
  The reference's Equal on two values that are the same; integers of a value are small.
-/
import Derived.Test.YtcbajgcblfgmgaaDoorJFact4
import Derived.Test.YtcbajgcblfgmgaaDoorPast
namespace Go.Proofs.YtcbajgcblfgmgaaDoor
open Go.RowKit
theorem smL_of : ∀ {r : List VT}, (∀ (i : Nat) (t : VT), r[i]? = some t → t.sm) → VT.smL r
  | [], _ => trivial
  | t :: r, h => ⟨h 0 t rfl, smL_of fun i u hu => h (i + 1) u (by simpa using hu)⟩
theorem rd_sm (t : VT) : ∀ {w : World} {B : Nat} {v : Value}, Rd w B v t → t.sm := by
  induction t using VT.ind with
  | h k n s is ks ih =>
    intro w B v h
    cases h with
    | mk V hk hn hs hks hli hlk hbi hbk hA hr hK => exact ⟨hn, smL_of fun i u hu => ih i u hu (hr i u hu)⟩
def EqAt (t : VT) : Prop := ∀ (w : World) (B : Nat) (v v' : Value), Rd w B v t → Rd w B v' t → B ≤ w.heap.size → Calls Tryd.prog 11 #[v, v'] w fun e w' => e = .returned (.bool true) ∧ Below w.heap.size w w'
set_option maxRecDepth 100000 in
set_option maxHeartbeats 4000000 in
theorem equal_any (t : VT) : EqAt t := by
  induction t using VT.ind with
  | h k n s items keys ih =>
  intro w B v v' h h' hB
  have IH := Lib.hid ih
  clear ih
  cases h with
  | @mk _ _ _ A li ci K lk ck _ _ V hk hn hs hks hli hlk hbi hbk hA hr hK =>
  cases h' with
  | @mk _ _ _ A' li' ci' K' lk' ck' _ _ V' hk' hn' hs' hks' hli' hlk' hbi' hbk' hA' hr' hK' =>
  obtain rfl : li = li' := hli.symm.trans hli'
  obtain rfl : lk = lk' := hlk.symm.trans hlk'
  have HA := Lib.hid hA
  have HR := Lib.hid hr
  have HL := Lib.hid hli
  have HLK := Lib.hid hlk
  have HA' := Lib.hid hA'
  have HR' := Lib.hid hr'
  have HK := Lib.hid hK
  have HK' := Lib.hid hK'
  clear hA hr hA' hr' hli hli' hK hK' hks hks' hk hk' hn hn' hs hs' hlk hlk'
  obtain ⟨f1, f2, f3⟩ := Box.two w (.int .i64 k) (.int .i64 n) (.string s) (.slice A li ci) (.slice K lk ck) (.int .i64 k) (.int .i64 n) (.string s) (.slice A' li ci') (.slice K' lk ck')
  have F1 := Lib.hid f1
  have F2 := Lib.hid f2
  have F3 := Lib.hid f3
  obtain ⟨p0, p1, p2, p3, p4⟩ := f1.cells
  obtain ⟨q0, q1, q2, q3, q4⟩ := f2.cells
  clear f1 f2 f3
  have hlm : (li : Int) ≤ 140737488351232 := by omega
  have hlm' : (lk : Int) ≤ 140737488351232 := by omega
  clear hbi hbk hbi' hbk'
  have hss : decide (s = s) = true := by simp
  go_enter Tryd.func11, Tryd.ntmps11
  go_wp2_with fail
  clear p0 p1 p2 p3 p4 q0 q1 q2 q3 q4
  go_loopw [5] (fun i wr => ∃ j : Nat, j ≤ lk ∧ i = .int .i64 j ∧ Below w.heap.size w wr ∧
    Box wr w.heap.size (.int .i64 k) (.int .i64 n) (.string s) (.slice A li ci) (.slice K lk ck) ∧ Box wr (w.heap.size + 1) (.int .i64 k) (.int .i64 n) (.string s) (.slice A' li ci') (.slice K' lk ck')) (fun i _ => lk - (intOf i).toNat)
  case atStart => exact ⟨0, Nat.zero_le _, rfl, F3.out, F1.out, F2.out⟩
  case round =>
    obtain ⟨j, hj, rfl, hb, hx1, hx2⟩ := hrel
    have HB := Lib.hid hb
    have HX1 := Lib.hid hx1
    have HX2 := Lib.hid hx2
    obtain ⟨p0, p1, p2, p3, p4⟩ := hx1.cells
    obtain ⟨q0, q1, q2, q3, q4⟩ := hx2.cells
    clear hb hx1 hx2 F1 F2 F3
    by_cases hlt : j < lk
    · obtain ⟨a, rfl, hab, hkc⟩ := HK.out (by have := HLK.out; omega)
      obtain ⟨a', rfl, hab', hkc'⟩ := HK'.out (by have := HLK.out; omega)
      obtain ⟨x, hx⟩ : ∃ x, keys[j]? = some x := ⟨_, List.getElem?_eq_getElem (by have := HLK.out; omega)⟩
      have HC : Hid (w.cell? (a.add j) = some (.string x)) := Lib.hid (hkc j x hx)
      have HC' : Hid (w.cell? (a'.add j) = some (.string x)) := Lib.hid (hkc' j x hx)
      have HAB : Hid ((a.add j).block < w.heap.size) := Lib.hid (by rw [add_block]; omega)
      have HAB' : Hid ((a'.add j).block < w.heap.size) := Lib.hid (by rw [add_block]; omega)
      have hlt' : (j : Int) < lk := by omega
      have hxx : decide (x = x) = true := by simp
      clear hkc hkc' hx hab hab'
      go_wp2_with fail
      refine wp_region_past (fun W => Box W w.heap.size (.int .i64 k) (.int .i64 n) (.string s) (.slice A li ci) (.slice (some a) lk ck) ∧ Box W (w.heap.size + 1) (.int .i64 k) (.int .i64 n) (.string s) (.slice A' li ci') (.slice (some a') lk ck') ∧ Below w.heap.size w W) ⟨HX1.out, HX2.out, HB.out⟩ (by kernel_rfl) ?_
      clear p0 p1 p2 p3 p4 q0 q1 q2 q3 q4
      intro W ⟨f1, f2, f3⟩ _
      obtain ⟨p0, p1, p2, p3, p4⟩ := f1.past
      obtain ⟨q0, q1, q2, q3, q4⟩ := f2.past
      have G1 := Lib.hid f1
      have G2 := Lib.hid f2
      have G3 := Lib.hid f3
      clear f1 f2 f3
      have r0 : ∀ y : Past W, y.w.cell? (a.add j) = some (.string x) := fun y => by
        rw [(G3.out.trans (y.b.mono G3.out.size)).cell HAB.out]; exact HC.out
      have u0 : ∀ y : Past W, y.w.cell? (a'.add j) = some (.string x) := fun y => by
        rw [(G3.out.trans (y.b.mono G3.out.size)).cell HAB'.out]; exact HC'.out
      repeat (go_big_quiet_step (fail))
      refine wpQuiet_nil ?_
      intro _ hw'
      obtain ⟨y, rfl⟩ := hw'
      have HBx := Lib.hid (G3.out.trans (y.b.mono G3.out.size))
      have HX1' := Lib.hid (G1.out.kept y.b)
      have HX2' := Lib.hid (G2.out.kept y.b)
      clear p0 p1 p2 p3 p4 q0 q1 q2 q3 q4 r0 u0
      generalize y.w = wx at *
      go_wp2_with fail
      go_roundw
      case rel => exact ⟨j + 1, by omega, by go_num, HBx.out, HX1'.out, HX2'.out⟩
      case measure => simp [intOf]; omega
    · have hlt' : ¬ (j : Int) < lk := by omega
      go_wp2_with fail
      clear p0 p1 p2 p3 p4 q0 q1 q2 q3 q4
      go_loopw [6] (fun i wr2 => ∃ j2 : Nat, j2 ≤ li ∧ i = .int .i64 j2 ∧ Below w.heap.size w wr2 ∧
        Box wr2 w.heap.size (.int .i64 k) (.int .i64 n) (.string s) (.slice A li ci) (.slice K lk ck) ∧ Box wr2 (w.heap.size + 1) (.int .i64 k) (.int .i64 n) (.string s) (.slice A' li ci') (.slice K' lk ck')) (fun i _ => li - (intOf i).toNat)
      case atStart => exact ⟨0, Nat.zero_le _, rfl, HB.out, HX1.out, HX2.out⟩
      case round =>
        obtain ⟨j2, hj2, rfl, hb, hx1, hx2⟩ := hrel
        have HB2 := Lib.hid hb
        have HY1 := Lib.hid hx1
        have HY2 := Lib.hid hx2
        obtain ⟨p0, p1, p2, p3, p4⟩ := hx1.cells
        obtain ⟨q0, q1, q2, q3, q4⟩ := hx2.cells
        clear hb hx1 hx2 HB HX1 HX2
        by_cases hlt2 : j2 < li
        · obtain ⟨a, t, k1, n1, s1, A1, li1, ci1, K1, lk1, ck1, rfl, ht, e, hrd, _, _, _, _, _⟩ := round_at HA.out HR.out HL.out (Below.refl _ _) hlt2
          obtain ⟨a', t', k1', n1', s1', A1', li1', ci1', K1', lk1', ck1', rfl, ht', e', hrd', _, _, _, _, _⟩ := round_at HA'.out HR'.out HL.out (Below.refl _ _) hlt2
          obtain rfl : t = t' := Option.some.inj (ht.symm.trans ht')
          have HC : Hid (C5 w (a.add (j2 * 5)) (V j2)) := Lib.hid (by obtain ⟨_, e, _, h⟩ := HA.out (by omega); cases e; exact h j2 hlt2)
          have HC' : Hid (C5 w (a'.add (j2 * 5)) (V' j2)) := Lib.hid (by obtain ⟨_, e, _, h⟩ := HA'.out (by omega); cases e; exact h j2 hlt2)
          have hab : (a.add (j2 * 5)).block < B := by obtain ⟨_, e, h, _⟩ := HA.out (by omega); cases e; rw [add_block]; exact h
          have hab' : (a'.add (j2 * 5)).block < B := by obtain ⟨_, e, h, _⟩ := HA'.out (by omega); cases e; rw [add_block]; exact h
          have IHH := Lib.hid (IH.out j2 t ht)
          have E := Lib.hid e
          have E' := Lib.hid e'
          have HT := Lib.hid hrd
          have HT' := Lib.hid hrd'
          have hlt2' : (j2 : Int) < li := by omega
          clear e e' hrd hrd' ht ht'
          go_wp2_with fail
          refine wp_region_past (fun W => Box W w.heap.size (.int .i64 k) (.int .i64 n) (.string s) (.slice (some a) li ci) (.slice K lk ck) ∧ Box W (w.heap.size + 1) (.int .i64 k) (.int .i64 n) (.string s) (.slice (some a') li ci') (.slice K' lk ck') ∧ Below w.heap.size w W) ⟨HY1.out, HY2.out, HB2.out⟩ (by kernel_rfl) ?_
          clear p0 p1 p2 p3 p4 q0 q1 q2 q3 q4
          intro W2 ⟨f1, f2, f3⟩ _
          obtain ⟨p0, p1, p2, p3, p4⟩ := f1.past
          obtain ⟨q0, q1, q2, q3, q4⟩ := f2.past
          obtain ⟨r0, r1, r2, r3, r4⟩ := (HC.out.kept (by omega) f3).past E.out (Nat.lt_of_lt_of_le (Nat.lt_of_lt_of_le hab hB) f3.size)
          obtain ⟨u0, u1, u2, u3, u4⟩ := (HC'.out.kept (by omega) f3).past E'.out (Nat.lt_of_lt_of_le (Nat.lt_of_lt_of_le hab' hB) f3.size)
          have Z1 := Lib.hid f1
          have Z2 := Lib.hid f2
          have Z3 := Lib.hid f3
          clear f1 f2 f3
          have C4 : Hid (∀ x : Past W2, Calls Tryd.prog 11 #[.agg #[.int .i64 k1, .int .i64 n1, .string s1, .slice A1 li1 ci1, .slice K1 lk1 ck1], .agg #[.int .i64 k1', .int .i64 n1', .string s1', .slice A1' li1' ci1', .slice K1' lk1' ck1']] x.w fun e w'' => e = .returned (.bool true) ∧ ∃ y : Past W2, w'' = y.w) :=
            Lib.hid fun x => past_of x (by
              have g := Z3.out.trans (x.b.mono Z3.out.size)
              have := IHH.out x.w B (V j2) (V' j2) (HT.out.kept (g.mono hB)) (HT'.out.kept (g.mono hB)) (Nat.le_trans hB g.size)
              rwa [E.out, E'.out] at this)
          have hi0 : (0 : Int) ≤ (j2 : Int) := by omega
          repeat (go_big_quiet_step (with_reducible exact C4.out _))
          refine wpQuiet_nil ?_
          intro _ hw'
          obtain ⟨x, rfl⟩ := hw'
          have HBy := Lib.hid (Z3.out.trans (x.b.mono Z3.out.size))
          have HY1' := Lib.hid (Z1.out.kept x.b)
          have HY2' := Lib.hid (Z2.out.kept x.b)
          clear p0 p1 p2 p3 p4 q0 q1 q2 q3 q4 r0 r1 r2 r3 r4 u0 u1 u2 u3 u4
          generalize x.w = wy at *
          go_wp2_with fail
          go_roundw
          case rel => exact ⟨j2 + 1, by omega, by go_num, HBy.out, HY1'.out, HY2'.out⟩
          case measure => simp [intOf]; omega
        · have hlt2' : ¬ (j2 : Int) < li := by omega
          go_wp2_with fail
          go_ret
          exact ⟨rfl, HB2.out⟩
end Go.Proofs.YtcbajgcblfgmgaaDoor
