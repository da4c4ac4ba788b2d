
/-
  The reference's Equal on two values that are the same; integers of a value are small. Which values are large; the chapter's examples. Values of the reference's reader. The reference's Parse. The law JsonParses.
-/
import Derived.Test.YtcbajgcblfgmgaaGreatDoorJRd
import Derived.Test.YtcbajgcblfgmgaaGreatDoorPast
import Derived.Test.YtcbajgcblfgmgaaGreatDoorJWeight
import Derived.Test.YtcbajgcblfgmgaaGreatDoorJParse
import Derived.Test.YtcbajgcblfgmgaaGreatDoorQB
import Derived.Test.YtcbajgcblfgmgaaGreatDoorJValue
namespace Go.Proofs.YtcbajgcblfgmgaaGreatDoor
open Go.RowKit
def EqAt (t : VT) : Prop := ∀ (w : World) (B : Nat) (v v' : Value), Rd w B v t → Rd w B v' t → B ≤ w.heap.size → Calls Tryz.prog 7 #[v, v'] w fun e w' => e = .returned (.bool true) ∧ Below w.heap.size w w'
set_option maxRecDepth 100000 in
set_option maxHeartbeats 4000000 in
theorem equal_any (t : VT) : EqAt t := by
  induction t using VT.ind with
  | h k n s items keys ih =>
  intro w B v v' h h' hB
  have IH := Lib.hid ih
  clear ih
  cases h with
  | @mk _ _ _ A li ci K lk ck _ _ V hk hn hs hks hli hlk hbi hbk hA hr hK =>
  cases h' with
  | @mk _ _ _ A' li' ci' K' lk' ck' _ _ V' hk' hn' hs' hks' hli' hlk' hbi' hbk' hA' hr' hK' =>
  obtain rfl : li = li' := hli.symm.trans hli'
  obtain rfl : lk = lk' := hlk.symm.trans hlk'
  have HA := Lib.hid hA
  have HR := Lib.hid hr
  have HL := Lib.hid hli
  have HLK := Lib.hid hlk
  have HA' := Lib.hid hA'
  have HR' := Lib.hid hr'
  have HK := Lib.hid hK
  have HK' := Lib.hid hK'
  clear hA hr hA' hr' hli hli' hK hK' hks hks' hk hk' hn hn' hs hs' hlk hlk'
  obtain ⟨f1, f2, f3⟩ := Box.two w (.int .i64 k) (.int .i64 n) (.string s) (.slice A li ci) (.slice K lk ck) (.int .i64 k) (.int .i64 n) (.string s) (.slice A' li ci') (.slice K' lk ck')
  have F1 := Lib.hid f1
  have F2 := Lib.hid f2
  have F3 := Lib.hid f3
  obtain ⟨p0, p1, p2, p3, p4⟩ := f1.cells
  obtain ⟨q0, q1, q2, q3, q4⟩ := f2.cells
  clear f1 f2 f3
  have hlm : (li : Int) ≤ 140737488351232 := by omega
  have hlm' : (lk : Int) ≤ 140737488351232 := by omega
  clear hbi hbk hbi' hbk'
  have hss : decide (s = s) = true := by simp
  go_enter Tryz.func7, Tryz.ntmps7
  go_wp2_with fail
  clear p0 p1 p2 p3 p4 q0 q1 q2 q3 q4
  go_loopw [5] (fun i wr => ∃ j : Nat, j ≤ lk ∧ i = .int .i64 j ∧ Below w.heap.size w wr ∧
    Box wr w.heap.size (.int .i64 k) (.int .i64 n) (.string s) (.slice A li ci) (.slice K lk ck) ∧ Box wr (w.heap.size + 1) (.int .i64 k) (.int .i64 n) (.string s) (.slice A' li ci') (.slice K' lk ck')) (fun i _ => lk - (intOf i).toNat)
  case atStart => exact ⟨0, Nat.zero_le _, rfl, F3.out, F1.out, F2.out⟩
  case round =>
    obtain ⟨j, hj, rfl, hb, hx1, hx2⟩ := hrel
    have HB := Lib.hid hb
    have HX1 := Lib.hid hx1
    have HX2 := Lib.hid hx2
    obtain ⟨p0, p1, p2, p3, p4⟩ := hx1.cells
    obtain ⟨q0, q1, q2, q3, q4⟩ := hx2.cells
    clear hb hx1 hx2 F1 F2 F3
    by_cases hlt : j < lk
    · obtain ⟨a, rfl, hab, hkc⟩ := HK.out (by have := HLK.out; omega)
      obtain ⟨a', rfl, hab', hkc'⟩ := HK'.out (by have := HLK.out; omega)
      obtain ⟨x, hx⟩ : ∃ x, keys[j]? = some x := ⟨_, List.getElem?_eq_getElem (by have := HLK.out; omega)⟩
      have HC : Hid (w.cell? (a.add j) = some (.string x)) := Lib.hid (hkc j x hx)
      have HC' : Hid (w.cell? (a'.add j) = some (.string x)) := Lib.hid (hkc' j x hx)
      have HAB : Hid ((a.add j).block < w.heap.size) := Lib.hid (by rw [add_block]; omega)
      have HAB' : Hid ((a'.add j).block < w.heap.size) := Lib.hid (by rw [add_block]; omega)
      have hlt' : (j : Int) < lk := by omega
      have hxx : decide (x = x) = true := by simp
      clear hkc hkc' hx hab hab'
      go_wp2_with fail
      refine wp_region_past (fun W => Box W w.heap.size (.int .i64 k) (.int .i64 n) (.string s) (.slice A li ci) (.slice (some a) lk ck) ∧ Box W (w.heap.size + 1) (.int .i64 k) (.int .i64 n) (.string s) (.slice A' li ci') (.slice (some a') lk ck') ∧ Below w.heap.size w W) ⟨HX1.out, HX2.out, HB.out⟩ (by kernel_rfl) ?_
      clear p0 p1 p2 p3 p4 q0 q1 q2 q3 q4
      intro W ⟨f1, f2, f3⟩ _
      obtain ⟨p0, p1, p2, p3, p4⟩ := f1.past
      obtain ⟨q0, q1, q2, q3, q4⟩ := f2.past
      have G1 := Lib.hid f1
      have G2 := Lib.hid f2
      have G3 := Lib.hid f3
      clear f1 f2 f3
      have r0 : ∀ y : Past W, y.w.cell? (a.add j) = some (.string x) := fun y => by
        rw [(G3.out.trans (y.b.mono G3.out.size)).cell HAB.out]; exact HC.out
      have u0 : ∀ y : Past W, y.w.cell? (a'.add j) = some (.string x) := fun y => by
        rw [(G3.out.trans (y.b.mono G3.out.size)).cell HAB'.out]; exact HC'.out
      repeat (go_big_quiet_step (fail))
      refine wpQuiet_nil ?_
      intro _ hw'
      obtain ⟨y, rfl⟩ := hw'
      have HBx := Lib.hid (G3.out.trans (y.b.mono G3.out.size))
      have HX1' := Lib.hid (G1.out.kept y.b)
      have HX2' := Lib.hid (G2.out.kept y.b)
      clear p0 p1 p2 p3 p4 q0 q1 q2 q3 q4 r0 u0
      generalize y.w = wx at *
      go_wp2_with fail
      go_roundw
      case rel => exact ⟨j + 1, by omega, by go_num, HBx.out, HX1'.out, HX2'.out⟩
      case measure => simp [intOf]; omega
    · have hlt' : ¬ (j : Int) < lk := by omega
      go_wp2_with fail
      clear p0 p1 p2 p3 p4 q0 q1 q2 q3 q4
      go_loopw [6] (fun i wr2 => ∃ j2 : Nat, j2 ≤ li ∧ i = .int .i64 j2 ∧ Below w.heap.size w wr2 ∧
        Box wr2 w.heap.size (.int .i64 k) (.int .i64 n) (.string s) (.slice A li ci) (.slice K lk ck) ∧ Box wr2 (w.heap.size + 1) (.int .i64 k) (.int .i64 n) (.string s) (.slice A' li ci') (.slice K' lk ck')) (fun i _ => li - (intOf i).toNat)
      case atStart => exact ⟨0, Nat.zero_le _, rfl, HB.out, HX1.out, HX2.out⟩
      case round =>
        obtain ⟨j2, hj2, rfl, hb, hx1, hx2⟩ := hrel
        have HB2 := Lib.hid hb
        have HY1 := Lib.hid hx1
        have HY2 := Lib.hid hx2
        obtain ⟨p0, p1, p2, p3, p4⟩ := hx1.cells
        obtain ⟨q0, q1, q2, q3, q4⟩ := hx2.cells
        clear hb hx1 hx2 HB HX1 HX2
        by_cases hlt2 : j2 < li
        · obtain ⟨a, t, k1, n1, s1, A1, li1, ci1, K1, lk1, ck1, rfl, ht, e, hrd, _, _, _, _, _⟩ := round_at HA.out HR.out HL.out (Below.refl _ _) hlt2
          obtain ⟨a', t', k1', n1', s1', A1', li1', ci1', K1', lk1', ck1', rfl, ht', e', hrd', _, _, _, _, _⟩ := round_at HA'.out HR'.out HL.out (Below.refl _ _) hlt2
          obtain rfl : t = t' := Option.some.inj (ht.symm.trans ht')
          have HC : Hid (C5 w (a.add (j2 * 5)) (V j2)) := Lib.hid (by obtain ⟨_, e, _, h⟩ := HA.out (by omega); cases e; exact h j2 hlt2)
          have HC' : Hid (C5 w (a'.add (j2 * 5)) (V' j2)) := Lib.hid (by obtain ⟨_, e, _, h⟩ := HA'.out (by omega); cases e; exact h j2 hlt2)
          have hab : (a.add (j2 * 5)).block < B := by obtain ⟨_, e, h, _⟩ := HA.out (by omega); cases e; rw [add_block]; exact h
          have hab' : (a'.add (j2 * 5)).block < B := by obtain ⟨_, e, h, _⟩ := HA'.out (by omega); cases e; rw [add_block]; exact h
          have IHH := Lib.hid (IH.out j2 t ht)
          have E := Lib.hid e
          have E' := Lib.hid e'
          have HT := Lib.hid hrd
          have HT' := Lib.hid hrd'
          have hlt2' : (j2 : Int) < li := by omega
          clear e e' hrd hrd' ht ht'
          go_wp2_with fail
          refine wp_region_past (fun W => Box W w.heap.size (.int .i64 k) (.int .i64 n) (.string s) (.slice (some a) li ci) (.slice K lk ck) ∧ Box W (w.heap.size + 1) (.int .i64 k) (.int .i64 n) (.string s) (.slice (some a') li ci') (.slice K' lk ck') ∧ Below w.heap.size w W) ⟨HY1.out, HY2.out, HB2.out⟩ (by kernel_rfl) ?_
          clear p0 p1 p2 p3 p4 q0 q1 q2 q3 q4
          intro W2 ⟨f1, f2, f3⟩ _
          obtain ⟨p0, p1, p2, p3, p4⟩ := f1.past
          obtain ⟨q0, q1, q2, q3, q4⟩ := f2.past
          obtain ⟨r0, r1, r2, r3, r4⟩ := (HC.out.kept (by omega) f3).past E.out (Nat.lt_of_lt_of_le (Nat.lt_of_lt_of_le hab hB) f3.size)
          obtain ⟨u0, u1, u2, u3, u4⟩ := (HC'.out.kept (by omega) f3).past E'.out (Nat.lt_of_lt_of_le (Nat.lt_of_lt_of_le hab' hB) f3.size)
          have Z1 := Lib.hid f1
          have Z2 := Lib.hid f2
          have Z3 := Lib.hid f3
          clear f1 f2 f3
          have C4 : Hid (∀ x : Past W2, Calls Tryz.prog 7 #[.agg #[.int .i64 k1, .int .i64 n1, .string s1, .slice A1 li1 ci1, .slice K1 lk1 ck1], .agg #[.int .i64 k1', .int .i64 n1', .string s1', .slice A1' li1' ci1', .slice K1' lk1' ck1']] x.w fun e w'' => e = .returned (.bool true) ∧ ∃ y : Past W2, w'' = y.w) :=
            Lib.hid fun x => past_of x (by
              have g := Z3.out.trans (x.b.mono Z3.out.size)
              have := IHH.out x.w B (V j2) (V' j2) (HT.out.kept (g.mono hB)) (HT'.out.kept (g.mono hB)) (Nat.le_trans hB g.size)
              rwa [E.out, E'.out] at this)
          have hi0 : (0 : Int) ≤ (j2 : Int) := by omega
          repeat (go_big_quiet_step (with_reducible exact C4.out _))
          refine wpQuiet_nil ?_
          intro _ hw'
          obtain ⟨x, rfl⟩ := hw'
          have HBy := Lib.hid (Z3.out.trans (x.b.mono Z3.out.size))
          have HY1' := Lib.hid (Z1.out.kept x.b)
          have HY2' := Lib.hid (Z2.out.kept x.b)
          clear p0 p1 p2 p3 p4 q0 q1 q2 q3 q4 r0 r1 r2 r3 r4 u0 u1 u2 u3 u4
          generalize x.w = wy at *
          go_wp2_with fail
          go_roundw
          case rel => exact ⟨j2 + 1, by omega, by go_num, HBy.out, HY1'.out, HY2'.out⟩
          case measure => simp [intOf]; omega
        · have hlt2' : ¬ (j2 : Int) < li := by omega
          go_wp2_with fail
          go_ret
          exact ⟨rfl, HB2.out⟩
end Go.Proofs.YtcbajgcblfgmgaaGreatDoor
namespace Go.Proofs.YtcbajgcblfgmgaaGreatDoor
open Go.RowKit
def exT : VT := .mk 6 0 ⟨#[]⟩ [.mk 5 0 ⟨#[]⟩ [intT 1, nullT] [], .mk 4 0 ⟨#[82, 69, 68]⟩ [] []] [⟨#[97]⟩, ⟨#[98]⟩]
def exS1 : ByteArray := ⟨#[91, 49, 44, 32, 123, 34, 97, 34, 58, 32, 116, 114, 117, 101, 125, 93]⟩
def exS2 : ByteArray := ⟨#[91, 49, 44, 93]⟩
theorem ex_txt : exT.txt = some [123, 34, 97, 34, 58, 91, 49, 44, 110, 117, 108, 108, 93, 44, 34, 98, 34, 58, 34, 82, 69, 68, 34, 125] := by kernel_rfl
theorem ex_one : parseR exS1 = .ok (.mk 5 0 ⟨#[]⟩ [intT 1, .mk 6 0 ⟨#[]⟩ [boolT 1] [⟨#[97]⟩]] []) := by kernel_rfl
theorem ex_two : parseR exS2 = .error (3, 3) := by kernel_rfl
theorem ex_rd (w : World) (b : Nat) (h0 : w.heap[b]? = some (.cells #[.string ⟨#[97]⟩, .string ⟨#[98]⟩] 9 (0, 0))) (h1 : w.heap[b + 1]? = some (.cells #[.int .i64 2, .int .i64 1, .string ⟨#[]⟩, .slice none 0 0, .slice none 0 0, .int .i64 0, .int .i64 0, .string ⟨#[]⟩, .slice none 0 0, .slice none 0 0] 26 (0, 0))) (h2 : w.heap[b + 2]? = some (.cells #[.int .i64 5, .int .i64 0, .string ⟨#[]⟩, .slice (some ⟨b + 1, 0, none⟩) 2 2, .slice none 0 0, .int .i64 4, .int .i64 0, .string ⟨#[82, 69, 68]⟩, .slice none 0 0, .slice none 0 0] 26 (0, 0))) (hb : b + 2 < w.heap.size) :
    Rd w w.heap.size (.agg #[.int .i64 6, .int .i64 0, .string ⟨#[]⟩, .slice (some ⟨b + 2, 0, none⟩) 2 2, .slice (some ⟨b, 0, none⟩) 2 2]) exT := by
  have z0 : small 0 := by unfold small; omega
  have inner : Rd w w.heap.size (.agg #[.int .i64 5, .int .i64 0, .string ⟨#[]⟩, .slice (some ⟨b + 1, 0, none⟩) 2 2, .slice none 0 0]) (.mk 5 0 ⟨#[]⟩ [intT 1, nullT] []) := by
    refine .mk (fun i => if i = 0 then .agg #[.int .i64 2, .int .i64 1, .string ⟨#[]⟩, .slice none 0 0, .slice none 0 0] else .agg #[.int .i64 0, .int .i64 0, .string ⟨#[]⟩, .slice none 0 0, .slice none 0 0]) (by unfold small; omega) z0 (by decide) (by simp) rfl rfl (by omega) (by omega) (fun _ => ⟨_, rfl, by show b + 1 < _; omega, fun i hi => ?_⟩) (fun i t hi => ?_) (fun h => by simp at h)
    · rw [Addr.add_mid]
      have hc : i = 0 ∨ i = 1 := by omega
      rcases hc with rfl | rfl
      · refine ⟨_, _, _, _, _, rfl, ?_, ?_, ?_, ?_, ?_⟩ <;> (rw [cell_of_row _ _ _ _ _ _ h1]; rfl)
      · refine ⟨_, _, _, _, _, rfl, ?_, ?_, ?_, ?_, ?_⟩ <;> (rw [cell_of_row _ _ _ _ _ _ h1]; rfl)
    · match i, hi with
      | 0, hi => cases hi; exact .mk (fun _ => undef) (by unfold small; omega) (by unfold small; omega) (by decide) (by simp) rfl rfl (by omega) (by omega) (by omega) (by simp) (fun h => absurd h (by simp))
      | 1, hi => cases hi; exact .mk (fun _ => undef) z0 z0 (by decide) (by simp) rfl rfl (by omega) (by omega) (by omega) (by simp) (fun h => absurd h (by simp))
  refine .mk (fun i => if i = 0 then .agg #[.int .i64 5, .int .i64 0, .string ⟨#[]⟩, .slice (some ⟨b + 1, 0, none⟩) 2 2, .slice none 0 0] else .agg #[.int .i64 4, .int .i64 0, .string ⟨#[82, 69, 68]⟩, .slice none 0 0, .slice none 0 0]) (by unfold small; omega) z0 (by decide) (by decide) rfl rfl (by omega) (by omega) (fun _ => ⟨_, rfl, by show b + 2 < _; omega, fun i hi => ?_⟩) (fun i t hi => ?_) (fun _ => ⟨_, rfl, by show b < _; omega, fun i s hs => ?_⟩)
  · rw [Addr.add_mid]
    have hc : i = 0 ∨ i = 1 := by omega
    rcases hc with rfl | rfl
    · refine ⟨_, _, _, _, _, rfl, ?_, ?_, ?_, ?_, ?_⟩ <;> (rw [cell_of_row _ _ _ _ _ _ h2]; rfl)
    · refine ⟨_, _, _, _, _, rfl, ?_, ?_, ?_, ?_, ?_⟩ <;> (rw [cell_of_row _ _ _ _ _ _ h2]; rfl)
  · match i, hi with
    | 0, hi => cases hi; exact inner
    | 1, hi => cases hi; exact .mk (fun _ => undef) (by unfold small; omega) z0 (by decide) (by simp) rfl rfl (by omega) (by omega) (by omega) (by simp) (fun h => absurd h (by simp))
  · rw [Addr.add_mid, cell_of_row _ _ _ _ _ _ h0]
    match i, hs with
    | 0, hs => cases hs; rfl
    | 1, hs => cases hs; rfl
theorem ex_bw : exT.bw ≤ 100 := by decide +kernel
set_option maxRecDepth 100000 in
set_option maxHeartbeats 4000000 in
theorem jexample_any (w : World) (hL : T1.Laid w) : Calls Tryz.prog 4 #[] w fun e w' => e = .returned (.bool true) ∧ Below w.heap.size w w' := by
  have s1 : (w.alloc (.cells #[.string ⟨#[97]⟩, .string ⟨#[98]⟩] 9 (0, 0))).heap.size = w.heap.size + 1 := by simp
  have s2 : ((w.alloc (.cells #[.string ⟨#[97]⟩, .string ⟨#[98]⟩] 9 (0, 0))).alloc (.cells #[.int .i64 2, .int .i64 1, .string ⟨#[]⟩, .slice none 0 0, .slice none 0 0, .int .i64 0, .int .i64 0, .string ⟨#[]⟩, .slice none 0 0, .slice none 0 0] 26 (0, 0))).heap.size = w.heap.size + 2 := by simp
  have s3 : (((w.alloc (.cells #[.string ⟨#[97]⟩, .string ⟨#[98]⟩] 9 (0, 0))).alloc (.cells #[.int .i64 2, .int .i64 1, .string ⟨#[]⟩, .slice none 0 0, .slice none 0 0, .int .i64 0, .int .i64 0, .string ⟨#[]⟩, .slice none 0 0, .slice none 0 0] 26 (0, 0))).alloc (.cells #[.int .i64 5, .int .i64 0, .string ⟨#[]⟩, .slice (some ⟨w.heap.size + 1, 0, none⟩) 2 2, .slice none 0 0, .int .i64 4, .int .i64 0, .string ⟨#[82, 69, 68]⟩, .slice none 0 0, .slice none 0 0] 26 (0, 0))).heap.size = w.heap.size + 3 := by simp
  have s4 : ((((w.alloc (.cells #[.string ⟨#[97]⟩, .string ⟨#[98]⟩] 9 (0, 0))).alloc (.cells #[.int .i64 2, .int .i64 1, .string ⟨#[]⟩, .slice none 0 0, .slice none 0 0, .int .i64 0, .int .i64 0, .string ⟨#[]⟩, .slice none 0 0, .slice none 0 0] 26 (0, 0))).alloc (.cells #[.int .i64 5, .int .i64 0, .string ⟨#[]⟩, .slice (some ⟨w.heap.size + 1, 0, none⟩) 2 2, .slice none 0 0, .int .i64 4, .int .i64 0, .string ⟨#[82, 69, 68]⟩, .slice none 0 0, .slice none 0 0] 26 (0, 0))).alloc (.cells #[.int .i64 6, .int .i64 0, .string ⟨#[]⟩, .slice (some ⟨w.heap.size + 2, 0, none⟩) 2 2, .slice (some ⟨w.heap.size, 0, none⟩) 2 2] 26 (0, 0))).heap.size = w.heap.size + 4 := by simp
  have h0 : ((((w.alloc (.cells #[.string ⟨#[97]⟩, .string ⟨#[98]⟩] 9 (0, 0))).alloc (.cells #[.int .i64 2, .int .i64 1, .string ⟨#[]⟩, .slice none 0 0, .slice none 0 0, .int .i64 0, .int .i64 0, .string ⟨#[]⟩, .slice none 0 0, .slice none 0 0] 26 (0, 0))).alloc (.cells #[.int .i64 5, .int .i64 0, .string ⟨#[]⟩, .slice (some ⟨w.heap.size + 1, 0, none⟩) 2 2, .slice none 0 0, .int .i64 4, .int .i64 0, .string ⟨#[82, 69, 68]⟩, .slice none 0 0, .slice none 0 0] 26 (0, 0))).alloc (.cells #[.int .i64 6, .int .i64 0, .string ⟨#[]⟩, .slice (some ⟨w.heap.size + 2, 0, none⟩) 2 2, .slice (some ⟨w.heap.size, 0, none⟩) 2 2] 26 (0, 0))).heap[w.heap.size]? = some (.cells #[.string ⟨#[97]⟩, .string ⟨#[98]⟩] 9 (0, 0)) := by
    rw [Below.heap_alloc _ _ _ (by omega), Below.heap_alloc _ _ _ (by omega), Below.heap_alloc _ _ _ (by omega)]
    exact heap_alloc_new w _
  have h1 : ((((w.alloc (.cells #[.string ⟨#[97]⟩, .string ⟨#[98]⟩] 9 (0, 0))).alloc (.cells #[.int .i64 2, .int .i64 1, .string ⟨#[]⟩, .slice none 0 0, .slice none 0 0, .int .i64 0, .int .i64 0, .string ⟨#[]⟩, .slice none 0 0, .slice none 0 0] 26 (0, 0))).alloc (.cells #[.int .i64 5, .int .i64 0, .string ⟨#[]⟩, .slice (some ⟨w.heap.size + 1, 0, none⟩) 2 2, .slice none 0 0, .int .i64 4, .int .i64 0, .string ⟨#[82, 69, 68]⟩, .slice none 0 0, .slice none 0 0] 26 (0, 0))).alloc (.cells #[.int .i64 6, .int .i64 0, .string ⟨#[]⟩, .slice (some ⟨w.heap.size + 2, 0, none⟩) 2 2, .slice (some ⟨w.heap.size, 0, none⟩) 2 2] 26 (0, 0))).heap[w.heap.size + 1]? = some (.cells #[.int .i64 2, .int .i64 1, .string ⟨#[]⟩, .slice none 0 0, .slice none 0 0, .int .i64 0, .int .i64 0, .string ⟨#[]⟩, .slice none 0 0, .slice none 0 0] 26 (0, 0)) := by
    rw [Below.heap_alloc _ _ _ (by omega), Below.heap_alloc _ _ _ (by omega)]
    exact s1 ▸ heap_alloc_new (w.alloc (.cells #[.string ⟨#[97]⟩, .string ⟨#[98]⟩] 9 (0, 0))) (.cells #[.int .i64 2, .int .i64 1, .string ⟨#[]⟩, .slice none 0 0, .slice none 0 0, .int .i64 0, .int .i64 0, .string ⟨#[]⟩, .slice none 0 0, .slice none 0 0] 26 (0, 0))
  have h2 : ((((w.alloc (.cells #[.string ⟨#[97]⟩, .string ⟨#[98]⟩] 9 (0, 0))).alloc (.cells #[.int .i64 2, .int .i64 1, .string ⟨#[]⟩, .slice none 0 0, .slice none 0 0, .int .i64 0, .int .i64 0, .string ⟨#[]⟩, .slice none 0 0, .slice none 0 0] 26 (0, 0))).alloc (.cells #[.int .i64 5, .int .i64 0, .string ⟨#[]⟩, .slice (some ⟨w.heap.size + 1, 0, none⟩) 2 2, .slice none 0 0, .int .i64 4, .int .i64 0, .string ⟨#[82, 69, 68]⟩, .slice none 0 0, .slice none 0 0] 26 (0, 0))).alloc (.cells #[.int .i64 6, .int .i64 0, .string ⟨#[]⟩, .slice (some ⟨w.heap.size + 2, 0, none⟩) 2 2, .slice (some ⟨w.heap.size, 0, none⟩) 2 2] 26 (0, 0))).heap[w.heap.size + 2]? = some (.cells #[.int .i64 5, .int .i64 0, .string ⟨#[]⟩, .slice (some ⟨w.heap.size + 1, 0, none⟩) 2 2, .slice none 0 0, .int .i64 4, .int .i64 0, .string ⟨#[82, 69, 68]⟩, .slice none 0 0, .slice none 0 0] 26 (0, 0)) := by
    rw [Below.heap_alloc _ _ _ (by omega)]
    exact s2 ▸ heap_alloc_new ((w.alloc (.cells #[.string ⟨#[97]⟩, .string ⟨#[98]⟩] 9 (0, 0))).alloc (.cells #[.int .i64 2, .int .i64 1, .string ⟨#[]⟩, .slice none 0 0, .slice none 0 0, .int .i64 0, .int .i64 0, .string ⟨#[]⟩, .slice none 0 0, .slice none 0 0] 26 (0, 0))) (.cells #[.int .i64 5, .int .i64 0, .string ⟨#[]⟩, .slice (some ⟨w.heap.size + 1, 0, none⟩) 2 2, .slice none 0 0, .int .i64 4, .int .i64 0, .string ⟨#[82, 69, 68]⟩, .slice none 0 0, .slice none 0 0] 26 (0, 0))
  have hrd := ex_rd _ _ h0 h1 h2 (by omega)
  have e4 : Below w.heap.size w ((((w.alloc (.cells #[.string ⟨#[97]⟩, .string ⟨#[98]⟩] 9 (0, 0))).alloc (.cells #[.int .i64 2, .int .i64 1, .string ⟨#[]⟩, .slice none 0 0, .slice none 0 0, .int .i64 0, .int .i64 0, .string ⟨#[]⟩, .slice none 0 0, .slice none 0 0] 26 (0, 0))).alloc (.cells #[.int .i64 5, .int .i64 0, .string ⟨#[]⟩, .slice (some ⟨w.heap.size + 1, 0, none⟩) 2 2, .slice none 0 0, .int .i64 4, .int .i64 0, .string ⟨#[82, 69, 68]⟩, .slice none 0 0, .slice none 0 0] 26 (0, 0))).alloc (.cells #[.int .i64 6, .int .i64 0, .string ⟨#[]⟩, .slice (some ⟨w.heap.size + 2, 0, none⟩) 2 2, .slice (some ⟨w.heap.size, 0, none⟩) 2 2] 26 (0, 0))) := ((((Below.refl _ _).alloc (Nat.le_refl _) _).alloc (by omega) _).alloc (by omega) _).alloc (by omega) _
  have h3 : Box ((((w.alloc (.cells #[.string ⟨#[97]⟩, .string ⟨#[98]⟩] 9 (0, 0))).alloc (.cells #[.int .i64 2, .int .i64 1, .string ⟨#[]⟩, .slice none 0 0, .slice none 0 0, .int .i64 0, .int .i64 0, .string ⟨#[]⟩, .slice none 0 0, .slice none 0 0] 26 (0, 0))).alloc (.cells #[.int .i64 5, .int .i64 0, .string ⟨#[]⟩, .slice (some ⟨w.heap.size + 1, 0, none⟩) 2 2, .slice none 0 0, .int .i64 4, .int .i64 0, .string ⟨#[82, 69, 68]⟩, .slice none 0 0, .slice none 0 0] 26 (0, 0))).alloc (.cells #[.int .i64 6, .int .i64 0, .string ⟨#[]⟩, .slice (some ⟨w.heap.size + 2, 0, none⟩) 2 2, .slice (some ⟨w.heap.size, 0, none⟩) 2 2] 26 (0, 0))) (w.heap.size + 3) (.int .i64 6) (.int .i64 0) (.string ⟨#[]⟩) (.slice (some ⟨w.heap.size + 2, 0, none⟩) 2 2) (.slice (some ⟨w.heap.size, 0, none⟩) 2 2) := s3 ▸ heap_alloc_new (((w.alloc (.cells #[.string ⟨#[97]⟩, .string ⟨#[98]⟩] 9 (0, 0))).alloc (.cells #[.int .i64 2, .int .i64 1, .string ⟨#[]⟩, .slice none 0 0, .slice none 0 0, .int .i64 0, .int .i64 0, .string ⟨#[]⟩, .slice none 0 0, .slice none 0 0] 26 (0, 0))).alloc (.cells #[.int .i64 5, .int .i64 0, .string ⟨#[]⟩, .slice (some ⟨w.heap.size + 1, 0, none⟩) 2 2, .slice none 0 0, .int .i64 4, .int .i64 0, .string ⟨#[82, 69, 68]⟩, .slice none 0 0, .slice none 0 0] 26 (0, 0))) (.cells #[.int .i64 6, .int .i64 0, .string ⟨#[]⟩, .slice (some ⟨w.heap.size + 2, 0, none⟩) 2 2, .slice (some ⟨w.heap.size, 0, none⟩) 2 2] 26 (0, 0))
  have HPR := Lib.hid (print_any exT _ _ hrd (hL.below e4) (by have := ex_bw; omega))
  have HB4 := Lib.hid e4
  have HL := Lib.hid hL
  obtain ⟨x0, x1, x2, x3, x4⟩ := h3.cells
  clear h0 h1 h2 hrd e4 h3 hL s1 s2 s3 s4
  go_enter Tryz.func4, Tryz.ntmps4
  go_wp2_with fail
  refine HPR.out.mono ?_
  rintro e w5 ⟨h5, hb5⟩
  rw [ex_txt] at h5
  subst h5
  have HB5 := Lib.hid (HB4.out.trans (hb5.mono HB4.out.size))
  clear hb5 x0 x1 x2 x3 x4 HPR
  go_wp2_with fail
  refine (parse_any exS1 w5 (HL.out.below HB5.out) (by decide)).mono ?_
  rintro e w6 ⟨h6 | h6, hb6⟩
  rotate_left
  · obtain ⟨x, hx, _⟩ := h6
    rw [ex_one] at hx; cases hx
  obtain ⟨t, u, hx, rfl, hu⟩ := h6
  rw [ex_one] at hx
  cases hx
  have HB6 := Lib.hid (HB5.out.trans (hb6.mono HB5.out.size))
  clear hb6
  cases hu with
  | @mk _ _ _ A li ci K lk ck _ _ V hk hn hs hks hli hlk hbi hbk hA hr hK =>
  have hl2 : li = 2 := hli.symm
  subst hl2
  obtain ⟨a, rfl, ⟨_, hab⟩, hc⟩ := hA (by omega)
  have hv0 := hr 0 _ rfl
  have hv1 := hr 1 _ rfl
  obtain ⟨d0, d1, d2, d3, d4, e0, f0, f1, f2, f3, f4⟩ := hc 0 (by omega)
  obtain ⟨m0, m1, m2, m3, m4, e1, g0, g1, g2, g3, g4⟩ := hc 1 (by omega)
  rw [e0] at hv0
  rw [e1] at hv1
  have hd1 : d1 = .int .i64 1 := by cases hv0; rfl
  have hm0 : m0 = .int .i64 6 := by cases hv1; rfl
  subst hd1 hm0
  obtain ⟨ab, ao, spot⟩ := a
  have hsp : spot = none := by
    cases spot with
    | none => rfl
    | some z =>
      simp only [Addr.add, World.cell?] at f0
      split at f0 <;> simp at f0
  subst hsp
  rw [Addr.add_mid] at f1 g0
  simp at f1 g0 hab
  have q1 := Lib.hid f1
  have q2 := Lib.hid g0
  clear hc hr hK hv0 hv1 e0 e1 f0 f1 f2 f3 f4 g0 g1 g2 g3 g4 hbi hbk hA hks hs hn hk
  have b7 : Below w6.heap.size w6 (w6.alloc (.cells #[.int .i64 5, .int .i64 0, .string ⟨#[]⟩, .slice (some ⟨ab, ao, none⟩) 2 ci, .slice K lk ck] 26 (0, 0))) := (Below.refl _ _).alloc (Nat.le_refl _) _
  have HB7 := Lib.hid (HB6.out.trans (b7.mono HB6.out.size))
  have Y7 := Lib.hid (Box.new w6 (.int .i64 5) (.int .i64 0) (.string ⟨#[]⟩) (.slice (some ⟨ab, ao, none⟩) 2 ci) (.slice K lk ck))
  have HB67 := Lib.hid b7
  clear b7
  go_wp2_with fail
  refine (parse_any exS2 _ (HL.out.below HB7.out) (by decide)).mono ?_
  rintro e w8 ⟨h8 | h8, hb8⟩
  · obtain ⟨t, u, hx, _⟩ := h8
    rw [ex_two] at hx; cases hx
  obtain ⟨x, hx, rfl⟩ := h8
  rw [ex_two] at hx
  cases hx
  have HB8 := Lib.hid (HB7.out.trans (hb8.mono HB7.out.size))
  have Y8 := Lib.hid (Y7.out.kept hb8)
  have hs67 := HB67.out.size
  have c1 := (hb8.cell (p := ⟨ab, ao + 1, none⟩) (by show ab < _; omega)).trans ((HB67.out.cell (p := ⟨ab, ao + 1, none⟩) hab).trans q1.out)
  have c2 := (hb8.cell (p := ⟨ab, ao + 5, none⟩) (by show ab < _; omega)).trans ((HB67.out.cell (p := ⟨ab, ao + 5, none⟩) hab).trans q2.out)
  have hab8 : ab < w8.heap.size := by have := hb8.size; omega
  obtain ⟨x0, x1, x2, x3, x4⟩ := Y8.out.cells
  have hy8 := Y8.out.lt
  clear hb8
  unfold zeroV
  go_wp2_with fail
  go_ret
  have h10 := HB8.out.size
  exact ⟨rfl, HB8.out.alloc h10 _⟩
def prE (r : Option (List UInt8)) : ByteArray := match r with | some a => ⟨a.toArray⟩ | none => ⟨#[]⟩
def prC (r : Option (List UInt8)) : Int := match r with | some _ => 0 | none => 9
theorem pr_val {r : Option (List UInt8)} {w w' : World} {e : Ending} (h : PrintPost w r e w') : e = .returned (.tuple #[.string (prE r), .int .i64 (prC r)]) ∧ Below w.heap.size w w' := by
  refine ⟨?_, h.2⟩
  rw [h.1]
  cases r <;> rfl
end Go.Proofs.YtcbajgcblfgmgaaGreatDoor
namespace Go.Proofs.YtcbajgcblfgmgaaGreatDoor
open Go.RowKit
theorem qwordR_le {s : ByteArray} : ∀ (l : List UInt8) (i j : Nat), wordR s l i = .ok j → i ≤ j
  | [], i, j, h => by cases h; exact Nat.le_refl _
  | c :: r, i, j, h => by
    unfold wordR takeR at h
    split at h
    · next k hk =>
      split at hk
      · cases hk
        have := qwordR_le r _ _ h
        omega
      · cases hk
    · cases h
theorem pv_bad {s : ByteArray} {f level i n : Nat} {y : Er} (h : beginR s level (sk spL s i) n = .error y) : pv s (f + 1) level i n = .error y := by rw [pv, h]
theorem pv_on {s : ByteArray} {f level i n n1 q : Nat} (hq : sk spL s i = q) (h : beginR s level q n = .ok n1) : pv s (f + 1) level i n =
    (if bt s q = 110 then (match wordR s [110, 117, 108, 108] q with | .error e => .error e | .ok j => .ok (nullT, j, n1))
      else if bt s q = 102 then (match wordR s [102, 97, 108, 115, 101] q with | .error e => .error e | .ok j => .ok (boolT 0, j, n1))
      else if bt s q = 116 then (match wordR s [116, 114, 117, 101] q with | .error e => .error e | .ok j => .ok (boolT 1, j, n1))
      else if bt s q = 34 then (match litR s q with | .error e => .error e | .ok (x, j) => .ok (textT x, j, n1))
      else if bt s q = 91 then listR s f level q n1
      else if bt s q = 123 then objR s f level q n1
      else (match intR s q with | .error e => .error e | .ok (t, j) => .ok (t, j, n1))) := by
  rw [pv, hq, h]; rfl
theorem qrd_five {w W : World} {N : Nat} {u : Value} {t : VT} (h : RdS W (fun b => N < b ∧ b < W.heap.size) u t) (hN : w.heap.size = N) (u0 u1 u2 u3 u4 : Value) : RdS (((((W.setCell ⟨N, 0, none⟩ u0).setCell ⟨N, 1, none⟩ u1).setCell ⟨N, 2, none⟩ u2).setCell ⟨N, 3, none⟩ u3).setCell ⟨N, 4, none⟩ u4) (Fresh w.heap.size (((((W.setCell ⟨N, 0, none⟩ u0).setCell ⟨N, 1, none⟩ u1).setCell ⟨N, 2, none⟩ u2).setCell ⟨N, 3, none⟩ u3).setCell ⟨N, 4, none⟩ u4)) u t := by
  refine h.kept (fun b hb => ?_) (fun b hb => ?_)
  · have hk : b ≠ N := by have := hb.1; omega
    rw [Below.heap_setCell _ _ _ _ hk, Below.heap_setCell _ _ _ _ hk, Below.heap_setCell _ _ _ _ hk, Below.heap_setCell _ _ _ _ hk, Below.heap_setCell _ _ _ _ hk]
  · exact ⟨by have := hb.1; omega, by have := hb.2; simpa [World.setCell] using this⟩
theorem intR_le {s : ByteArray} {i j : Nat} {t : VT} (h : intR s i = .ok (t, j)) : i ≤ j := by
  unfold intR at h
  simp only at h
  have key : ∀ (i1 : Nat) (set : List UInt8), i ≤ i1 → (if isIn set (bt s i1) = true then (if (T1.numL (sub s i (if bt s i1 = 48 then i1 + 1 else sk dgL s (i1 + 1)))).2 = 0 then Except.ok (intT (T1.numL (sub s i (if bt s i1 = 48 then i1 + 1 else sk dgL s (i1 + 1)))).1, (if bt s i1 = 48 then i1 + 1 else sk dgL s (i1 + 1))) else Except.error (i, (T1.numL (sub s i (if bt s i1 = 48 then i1 + 1 else sk dgL s (i1 + 1)))).2)) else Except.error (i1, 3)) = (Except.ok (t, j) : Except Er (VT × Nat)) → i ≤ j := by
    intro i1 set hi h
    have hk : i ≤ (if bt s i1 = 48 then i1 + 1 else sk dgL s (i1 + 1)) := by
      have := sk_le dgL s (i1 + 1)
      split <;> omega
    generalize (if bt s i1 = 48 then i1 + 1 else sk dgL s (i1 + 1)) = k at h hk
    by_cases hin : isIn set (bt s i1) = true
    · rw [if_pos hin] at h
      by_cases hn : (T1.numL (sub s i k)).2 = 0
      · rw [if_pos hn] at h
        cases h
        exact hk
      · rw [if_neg hn] at h; cases h
    · rw [if_neg hin] at h; cases h
  by_cases hb : bt s i = 45
  · rw [if_pos hb, if_pos hb] at h
    exact key (i + 1) dnL (by omega) h
  · rw [if_neg hb, if_neg hb] at h
    exact key i dgL (Nat.le_refl _) h
set_option maxRecDepth 100000 in
set_option maxHeartbeats 8000000 in
theorem qvalue_any {p : Nat} {s : ByteArray} : ∀ (f level : Nat), level ≤ 25 → QValAt p s f level
  | 0, level, _ => fun i n c w h _ hf => by have := h.hi; omega
  | f + 1, level, hl => by
    intro i n c w h hn hf
    have IH := Lib.hid (fun (hl2 : level + 1 ≤ 25) => qvalue_any (p := p) (s := s) f (level + 1) hl2)
    have hs := h.hs
    have hi := h.hi
    have HPN := Lib.hid h.lt
    have bz : Below w.heap.size w (w.alloc (.cells #[.int .i64 0, .int .i64 0, .string ⟨#[]⟩, .slice none 0 0, .slice none 0 0] 26 (0, 0))) := (Below.refl _ _).alloc (Nat.le_refl _) _
    have HQ0 := Lib.hid (h.kept bz)
    have HX0 := Lib.hid (Box.new w (.int .i64 0) (.int .i64 0) (.string ⟨#[]⟩) (.slice none 0 0) (.slice none 0 0))
    have HB0 := Lib.hid (Bes.of (p := p) bz)
    have HS0 : Hid (w.heap.size + 1 ≤ (w.alloc (.cells #[.int .i64 0, .int .i64 0, .string ⟨#[]⟩, .slice none 0 0, .slice none 0 0] 26 (0, 0))).heap.size) := Lib.hid (by simp)
    obtain ⟨q, hq⟩ : ∃ q, sk spL s i = q := ⟨_, rfl⟩
    have hq1 := sk_le spL s i
    have hq2 := sk_hi spL s i hi
    rw [hq] at hq1 hq2
    have HQQ := Lib.hid hq
    clear h bz hq
    go_enter Tryz.func11, Tryz.ntmps11
    go_wp2_with fail
    refine (qskip_any HQ0.out).mono ?_
    rintro e w1 ⟨rfl, hp1, hb1⟩
    rw [HQQ.out] at hp1
    have HQ1 := Lib.hid hp1
    have HX1 := Lib.hid (HX0.out.bes hb1 (by have := HS0.out; omega) HPN.out)
    have HB1 := Lib.hid (HB0.out.trans (hb1.mono (by have := HS0.out; omega)))
    have HS1 : Hid (w.heap.size + 1 ≤ w1.heap.size) := Lib.hid (by have := HS0.out; have := (hb1).size; omega)
    clear hp1 hb1 HQ0 HX0 HB0 HS0
    go_wp2_with fail
    refine (qnext_any HQ1.out).mono ?_
    rintro e w2 ⟨rfl, hb2⟩
    have HQ2 := Lib.hid (HQ1.out.kept hb2)
    have HX2 := Lib.hid (HX1.out.bes (Bes.of (p := p) hb2) (by have := HS1.out; omega) HPN.out)
    have HB2 := Lib.hid (HB1.out.trans ((Bes.of (p := p) hb2).mono (by have := HS1.out; omega)))
    have HS2 : Hid (w.heap.size + 1 ≤ w2.heap.size) := Lib.hid (by have := HS1.out; have := ((Bes.of (p := p) hb2)).size; omega)
    clear hb2 HQ1 HX1 HB1 HS1
    go_wp2_with fail
    refine (qbegins_any (bt s q) w2).mono ?_
    rintro e w2' ⟨rfl, rfl⟩
    cases hbg : isIn vbL (bt s q)
    · have E1 : Hid (pv s (f + 1) level i n = .error (q, 3)) := Lib.hid (pv_bad (by rw [HQQ.out]; unfold beginR; rw [if_pos hbg]))
      clear hbg
      have HQF := HQ2
      have HXF := HX2
      have HBF := HB2
      have HSF := HS2
      obtain ⟨q0, q1, q2, q3, q4⟩ := HQF.out.box.cells
      go_wp2_with fail
      refine (qfail_any HQF.out _ _).mono ?_
      rintro e w9 ⟨rfl, hp9, hb9⟩
      have HQ9 := Lib.hid hp9
      have HX9 := Lib.hid (HXF.out.bes hb9 (by have := HSF.out; omega) HPN.out)
      have HB9 := Lib.hid (HBF.out.trans (hb9.mono (by have := HSF.out; omega)))
      have HS9 : Hid (w.heap.size + 1 ≤ w9.heap.size) := Lib.hid (by have := HSF.out; have := (hb9).size; omega)
      clear hp9 hb9 q0 q1 q2 q3 q4 HQF HXF HBF HSF
      obtain ⟨y0, y1, y2, y3, y4⟩ := HX9.out.cells
      have g0 := HX9.out.frz 0
      have g1 := HX9.out.frz 1
      have g2 := HX9.out.frz 2
      have g3 := HX9.out.frz 3
      have g4 := HX9.out.frz 4
      have ZZ := Lib.hid (Box.five HX9.out (.int .i64 0) (.int .i64 0) (.string ⟨#[]⟩) (.slice none 0 0) (.slice none 0 0)).cells
      go_wp2_with fail
      obtain ⟨z0, z1, z2, z3, z4⟩ := ZZ.out
      refine bodyPost_ret (v := .agg #[.int .i64 0, .int .i64 0, .string ⟨#[]⟩, .slice none 0 0, .slice none 0 0]) (by simp [results, Tryz.results11, go_sem, z0, z1, z2, z3, z4]) rfl (.inr ⟨_, _, _, _, E1.out, rfl, ⟨_, _, _, _, _, _, _, _, _, rfl⟩, HQ9.out.five HPN.out _ _ _ _ _, show (3 : Int) ≠ 0 by decide, Bes.five HB9.out (Nat.le_refl _) _ _ _ _ _⟩)
    · have hbg2 : ¬ isIn vbL (bt s q) = false := by rw [hbg]; simp
      by_cases hlv : 24 < level
      · have E1 : Hid (pv s (f + 1) level i n = .error (q, 5)) := Lib.hid (pv_bad (by rw [HQQ.out]; unfold beginR; rw [if_neg hbg2, if_pos hlv]))
        have hlv' : (level : Int) > 24 := by omega
        clear hbg hbg2
        have HQF := HQ2
        have HXF := HX2
        have HBF := HB2
        have HSF := HS2
        obtain ⟨q0, q1, q2, q3, q4⟩ := HQF.out.box.cells
        go_wp2_with fail
        refine (qfail_any HQF.out _ _).mono ?_
        rintro e w9 ⟨rfl, hp9, hb9⟩
        have HQ9 := Lib.hid hp9
        have HX9 := Lib.hid (HXF.out.bes hb9 (by have := HSF.out; omega) HPN.out)
        have HB9 := Lib.hid (HBF.out.trans (hb9.mono (by have := HSF.out; omega)))
        have HS9 : Hid (w.heap.size + 1 ≤ w9.heap.size) := Lib.hid (by have := HSF.out; have := (hb9).size; omega)
        clear hp9 hb9 q0 q1 q2 q3 q4 HQF HXF HBF HSF
        obtain ⟨y0, y1, y2, y3, y4⟩ := HX9.out.cells
        have g0 := HX9.out.frz 0
        have g1 := HX9.out.frz 1
        have g2 := HX9.out.frz 2
        have g3 := HX9.out.frz 3
        have g4 := HX9.out.frz 4
        have ZZ := Lib.hid (Box.five HX9.out (.int .i64 0) (.int .i64 0) (.string ⟨#[]⟩) (.slice none 0 0) (.slice none 0 0)).cells
        go_wp2_with fail
        obtain ⟨z0, z1, z2, z3, z4⟩ := ZZ.out
        refine bodyPost_ret (v := .agg #[.int .i64 0, .int .i64 0, .string ⟨#[]⟩, .slice none 0 0, .slice none 0 0]) (by simp [results, Tryz.results11, go_sem, z0, z1, z2, z3, z4]) rfl (.inr ⟨_, _, _, _, E1.out, rfl, ⟨_, _, _, _, _, _, _, _, _, rfl⟩, HQ9.out.five HPN.out _ _ _ _ _, show (5 : Int) ≠ 0 by decide, Bes.five HB9.out (Nat.le_refl _) _ _ _ _ _⟩)
      · have hlv' : ¬ (level : Int) > 24 := by omega
        have HQ3 : Hid (QS (w2.setCell ⟨p, 2, none⟩ (.int .i64 ((n : Int) + 1))) p s q (n + 1) 0 c) := Lib.hid (by have := HQ2.out.at2 (m := n + 1) (by omega); simpa using this)
        have HX3 : Hid (Box (w2.setCell ⟨p, 2, none⟩ (.int .i64 ((n : Int) + 1))) w.heap.size (.int .i64 0) (.int .i64 0) (.string ⟨#[]⟩) (.slice none 0 0) (.slice none 0 0)) := Lib.hid (HX2.out.bes ((Bes.refl p w2.heap.size w2).set 2 _) (by have := HS2.out; omega) HPN.out)
        have HB3 : Hid (Bes p w.heap.size w (w2.setCell ⟨p, 2, none⟩ (.int .i64 ((n : Int) + 1)))) := Lib.hid (HB2.out.set 2 _)
        have HS3 : Hid (w.heap.size + 1 ≤ (w2.setCell ⟨p, 2, none⟩ (.int .i64 ((n : Int) + 1))).heap.size) := Lib.hid (by have := HS2.out; simpa [World.setCell] using this)
        obtain ⟨q0, q1, q2, q3, q4⟩ := HQ2.out.box.cells
        have f2 := HQ2.out.box.frz 2
        obtain ⟨r0, r1, r2, r3, r4⟩ := HQ3.out.box.cells
        by_cases hnn : 4096 < n + 1
        · have E1 : Hid (pv s (f + 1) level i n = .error (q, 4)) := Lib.hid (pv_bad (by rw [HQQ.out]; unfold beginR; rw [if_neg hbg2, if_neg hlv, if_pos hnn]))
          have hnn' : (n : Int) + 1 > 4096 := by omega
          clear hbg hbg2
          go_wp2_with fail
          refine (qfail_any HQ3.out _ _).mono ?_
          rintro e w9 ⟨rfl, hp9, hb9⟩
          have HQ9 := Lib.hid hp9
          have HX9 := Lib.hid (HX3.out.bes hb9 (by have := HS3.out; omega) HPN.out)
          have HB9 := Lib.hid (HB3.out.trans (hb9.mono (by have := HS3.out; omega)))
          have HS9 : Hid (w.heap.size + 1 ≤ w9.heap.size) := Lib.hid (by have := HS3.out; have := (hb9).size; omega)
          clear hp9 hb9 q0 q1 q2 q3 q4 f2 r0 r1 r2 r3 r4 HQ3 HX3 HB3 HS3
          obtain ⟨y0, y1, y2, y3, y4⟩ := HX9.out.cells
          have g0 := HX9.out.frz 0
          have g1 := HX9.out.frz 1
          have g2 := HX9.out.frz 2
          have g3 := HX9.out.frz 3
          have g4 := HX9.out.frz 4
          have ZZ := Lib.hid (Box.five HX9.out (.int .i64 0) (.int .i64 0) (.string ⟨#[]⟩) (.slice none 0 0) (.slice none 0 0)).cells
          go_wp2_with fail
          obtain ⟨z0, z1, z2, z3, z4⟩ := ZZ.out
          refine bodyPost_ret (v := .agg #[.int .i64 0, .int .i64 0, .string ⟨#[]⟩, .slice none 0 0, .slice none 0 0]) (by simp [results, Tryz.results11, go_sem, z0, z1, z2, z3, z4]) rfl (.inr ⟨_, _, _, _, E1.out, rfl, ⟨_, _, _, _, _, _, _, _, _, rfl⟩, HQ9.out.five HPN.out _ _ _ _ _, show (4 : Int) ≠ 0 by decide, Bes.five HB9.out (Nat.le_refl _) _ _ _ _ _⟩)
        · have hnn' : ¬ (n : Int) + 1 > 4096 := by omega
          have EP := Lib.hid (pv_on (f := f) HQQ.out (show beginR s level q n = .ok (n + 1) by unfold beginR; rw [if_neg hbg2, if_neg hlv, if_neg hnn]))
          clear hbg hbg2
          by_cases h0 : bt s q = 34
          · have e0 : (((bt s q).toNat : Int) == 34) = true := u8_beq' 34 h0
            have EQ : Hid (pv s (f + 1) level i n = match litR s q with | .error e => .error e | .ok (x, j) => .ok (textT x, j, n + 1)) := Lib.hid (by rw [EP.out, if_neg (by rw [h0]; decide), if_neg (by rw [h0]; decide), if_neg (by rw [h0]; decide), if_pos h0] <;> rfl)
            clear h0
            go_wp2_with fail
            refine (qtext_any HQ3.out).mono ?_
            intro e w4 hh
            obtain ⟨hh, hb4⟩ := hh
            have HX4 := Lib.hid (HX3.out.bes hb4 (by have := HS3.out; omega) HPN.out)
            have HB4 := Lib.hid (HB3.out.trans (hb4.mono (by have := HS3.out; omega)))
            have HS4 : Hid (w.heap.size + 1 ≤ w4.heap.size) := Lib.hid (by have := HS3.out; have := (hb4).size; omega)
            clear q0 q1 q2 q3 q4 f2 r0 r1 r2 r3 r4
            cases hx : litR s q with
            | ok r =>
              obtain ⟨x, j⟩ := r
              rw [hx] at hh
              obtain ⟨rfl, c4, hp4⟩ := hh
              have hp4 : QS w4 p s j (n + 1) 0 c4 := hp4
              obtain ⟨hx1, hx2, hx3⟩ := litR_size hx
              have HQ4 := Lib.hid hp4
              have E1 : Hid (pv s (f + 1) level i n = .ok (textT x, j, n + 1)) := Lib.hid (by rw [EQ.out, hx])
              have HRD := Lib.hid (fun (W : World) (S : Nat → Prop) => rdS_leaf W S (k := 3) (n := 0) (s := x) (by unfold small; omega) (by unfold small; omega) (by omega))
              have hj1 : i ≤ j := by omega
              have hj2 : n ≤ n + 1 := by omega
              have hj3 : n + 1 ≤ 4096 := by omega
              clear hp4 hx hb4 HQ3 HX3 HB3 HS3
              obtain ⟨y0, y1, y2, y3, y4⟩ := HX4.out.cells
              have g0 := HX4.out.frz 0
              have g1 := HX4.out.frz 1
              have g2 := HX4.out.frz 2
              have g3 := HX4.out.frz 3
              have g4 := HX4.out.frz 4
              have ZZ := Lib.hid (Box.five HX4.out (.int .i64 3) (.int .i64 0) (.string x) (.slice none 0 0) (.slice none 0 0)).cells
              go_wp2_with fail
              obtain ⟨z0, z1, z2, z3, z4⟩ := ZZ.out
              refine bodyPost_ret (v := .agg #[.int .i64 3, .int .i64 0, .string x, .slice none 0 0, .slice none 0 0]) (by simp [results, Tryz.results11, go_sem, z0, z1, z2, z3, z4]) rfl (.inl ⟨_, _, _, _, _, E1.out, rfl, HRD.out _ _, HQ4.out.five HPN.out _ _ _ _ _, Bes.five HB4.out (Nat.le_refl _) _ _ _ _ _, hj1, hj2, hj3⟩)
            | error y =>
              rw [hx] at hh
              obtain ⟨rfl, j, hp4, hy⟩ := hh
              have HQ4 := Lib.hid hp4
              have HY := Lib.hid hy
              have E1 : Hid (pv s (f + 1) level i n = .error y) := Lib.hid (by rw [EQ.out, hx])
              clear hp4 hx hy hb4 HQ3 HX3 HB3 HS3
              obtain ⟨y0, y1, y2, y3, y4⟩ := HX4.out.cells
              have g0 := HX4.out.frz 0
              have g1 := HX4.out.frz 1
              have g2 := HX4.out.frz 2
              have g3 := HX4.out.frz 3
              have g4 := HX4.out.frz 4
              have ZZ := Lib.hid (Box.five HX4.out (.int .i64 3) (.int .i64 0) (.string ⟨#[]⟩) (.slice none 0 0) (.slice none 0 0)).cells
              go_wp2_with fail
              obtain ⟨z0, z1, z2, z3, z4⟩ := ZZ.out
              refine bodyPost_ret (v := .agg #[.int .i64 3, .int .i64 0, .string ⟨#[]⟩, .slice none 0 0, .slice none 0 0]) (by simp [results, Tryz.results11, go_sem, z0, z1, z2, z3, z4]) rfl (.inr ⟨_, _, _, _, E1.out, rfl, ⟨_, _, _, _, _, _, _, _, _, rfl⟩, HQ4.out.five HPN.out _ _ _ _ _, HY.out, Bes.five HB4.out (Nat.le_refl _) _ _ _ _ _⟩)
          · by_cases h1 : bt s q = 91
            · have e0 : (((bt s q).toNat : Int) == 34) = false := u8_beq 34 h0
              have e1 : (((bt s q).toNat : Int) == 91) = true := u8_beq' 91 h1
              have EQ : Hid (pv s (f + 1) level i n = listR s f level q (n + 1)) := Lib.hid (by rw [EP.out, if_neg (by rw [h1]; decide), if_neg (by rw [h1]; decide), if_neg (by rw [h1]; decide), if_neg (by rw [h1]; decide), if_pos h1])
              have hqs : q < s.size := lt_of_bt (by rw [h1]; decide)
              clear h0 h1
              have HL := Lib.hid (qlist_any (IH.out (by omega)) (by omega) _ q (n + 1) c HQ3.out hqs (by omega) (by omega))
              go_wp2_with fail
              refine HL.out.mono ?_
              intro e w4 hh
              clear q0 q1 q2 q3 q4 f2 r0 r1 r2 r3 r4
              rcases hh with ⟨t, j, m, u, c4, hr, rfl, hu, hp4, hb4, hij, hnm, hm4⟩ | ⟨y, j, m, u, hr, rfl, hu5, hp4, hy, hb4⟩
              · obtain ⟨k6, n6, s6, A6, li6, ci6, K6, lk6, ck6, rfl⟩ := hu.fiveV
                have HX4 := Lib.hid (HX3.out.bes hb4 (by have := HS3.out; omega) HPN.out)
                have HB4 := Lib.hid (HB3.out.trans (hb4.mono (by have := HS3.out; omega)))
                have HS4 : Hid (w.heap.size + 1 ≤ w4.heap.size) := Lib.hid (by have := HS3.out; have := (hb4).size; omega)
                have HQ4 := Lib.hid hp4
                have E1 : Hid (pv s (f + 1) level i n = .ok (t, j, m)) := Lib.hid (by rw [EQ.out, hr])
                have HRD := Lib.hid (hu.kept (S' := fun b => w.heap.size < b ∧ b < w4.heap.size) (fun _ _ => rfl) (fun b hb => ⟨by have := hb.1; have := HS3.out; omega, hb.2⟩))
                have hj1 : i ≤ j := by omega
                have hj2 : n ≤ m := by omega
                clear hp4 hr hb4 hu HL HQ3 HX3 HB3 HS3
                obtain ⟨y0, y1, y2, y3, y4⟩ := HX4.out.cells
                have g0 := HX4.out.frz 0
                have g1 := HX4.out.frz 1
                have g2 := HX4.out.frz 2
                have g3 := HX4.out.frz 3
                have g4 := HX4.out.frz 4
                have ZZ := Lib.hid (Box.five HX4.out (.int .i64 k6) (.int .i64 n6) (.string s6) (.slice A6 li6 ci6) (.slice K6 lk6 ck6)).cells
                go_wp2_with fail
                obtain ⟨z0, z1, z2, z3, z4⟩ := ZZ.out
                refine bodyPost_ret (v := .agg #[.int .i64 k6, .int .i64 n6, .string s6, .slice A6 li6 ci6, .slice K6 lk6 ck6]) (by simp [results, Tryz.results11, go_sem, z0, z1, z2, z3, z4]) rfl (.inl ⟨_, _, _, _, _, E1.out, rfl, qrd_five HRD.out rfl _ _ _ _ _, HQ4.out.five HPN.out _ _ _ _ _, Bes.five HB4.out (Nat.le_refl _) _ _ _ _ _, hj1, hj2, hm4⟩)
              · obtain ⟨k6, n6, s6, A6, li6, ci6, K6, lk6, ck6, rfl⟩ := hu5
                have HX4 := Lib.hid (HX3.out.bes hb4 (by have := HS3.out; omega) HPN.out)
                have HB4 := Lib.hid (HB3.out.trans (hb4.mono (by have := HS3.out; omega)))
                have HS4 : Hid (w.heap.size + 1 ≤ w4.heap.size) := Lib.hid (by have := HS3.out; have := (hb4).size; omega)
                have HQ4 := Lib.hid hp4
                have HY := Lib.hid hy
                have E1 : Hid (pv s (f + 1) level i n = .error y) := Lib.hid (by rw [EQ.out, hr])
                clear hp4 hr hb4 hy HL HQ3 HX3 HB3 HS3
                obtain ⟨y0, y1, y2, y3, y4⟩ := HX4.out.cells
                have g0 := HX4.out.frz 0
                have g1 := HX4.out.frz 1
                have g2 := HX4.out.frz 2
                have g3 := HX4.out.frz 3
                have g4 := HX4.out.frz 4
                have ZZ := Lib.hid (Box.five HX4.out (.int .i64 k6) (.int .i64 n6) (.string s6) (.slice A6 li6 ci6) (.slice K6 lk6 ck6)).cells
                go_wp2_with fail
                obtain ⟨z0, z1, z2, z3, z4⟩ := ZZ.out
                refine bodyPost_ret (v := .agg #[.int .i64 k6, .int .i64 n6, .string s6, .slice A6 li6 ci6, .slice K6 lk6 ck6]) (by simp [results, Tryz.results11, go_sem, z0, z1, z2, z3, z4]) rfl (.inr ⟨_, _, _, _, E1.out, rfl, ⟨_, _, _, _, _, _, _, _, _, rfl⟩, HQ4.out.five HPN.out _ _ _ _ _, HY.out, Bes.five HB4.out (Nat.le_refl _) _ _ _ _ _⟩)
            · by_cases h2 : bt s q = 123
              · have e0 : (((bt s q).toNat : Int) == 34) = false := u8_beq 34 h0
                have e1 : (((bt s q).toNat : Int) == 91) = false := u8_beq 91 h1
                have e2 : (((bt s q).toNat : Int) == 123) = true := u8_beq' 123 h2
                have EQ : Hid (pv s (f + 1) level i n = objR s f level q (n + 1)) := Lib.hid (by rw [EP.out, if_neg (by rw [h2]; decide), if_neg (by rw [h2]; decide), if_neg (by rw [h2]; decide), if_neg (by rw [h2]; decide), if_neg (by rw [h2]; decide), if_pos h2])
                have hqs : q < s.size := lt_of_bt (by rw [h2]; decide)
                clear h0 h1 h2
                have HL := Lib.hid (qobject_any (IH.out (by omega)) (by omega) _ q (n + 1) c HQ3.out hqs (by omega) (by omega))
                go_wp2_with fail
                refine HL.out.mono ?_
                intro e w4 hh
                clear q0 q1 q2 q3 q4 f2 r0 r1 r2 r3 r4
                rcases hh with ⟨t, j, m, u, c4, hr, rfl, hu, hp4, hb4, hij, hnm, hm4⟩ | ⟨y, j, m, u, hr, rfl, hu5, hp4, hy, hb4⟩
                · obtain ⟨k6, n6, s6, A6, li6, ci6, K6, lk6, ck6, rfl⟩ := hu.fiveV
                  have HX4 := Lib.hid (HX3.out.bes hb4 (by have := HS3.out; omega) HPN.out)
                  have HB4 := Lib.hid (HB3.out.trans (hb4.mono (by have := HS3.out; omega)))
                  have HS4 : Hid (w.heap.size + 1 ≤ w4.heap.size) := Lib.hid (by have := HS3.out; have := (hb4).size; omega)
                  have HQ4 := Lib.hid hp4
                  have E1 : Hid (pv s (f + 1) level i n = .ok (t, j, m)) := Lib.hid (by rw [EQ.out, hr])
                  have HRD := Lib.hid (hu.kept (S' := fun b => w.heap.size < b ∧ b < w4.heap.size) (fun _ _ => rfl) (fun b hb => ⟨by have := hb.1; have := HS3.out; omega, hb.2⟩))
                  have hj1 : i ≤ j := by omega
                  have hj2 : n ≤ m := by omega
                  clear hp4 hr hb4 hu HL HQ3 HX3 HB3 HS3
                  obtain ⟨y0, y1, y2, y3, y4⟩ := HX4.out.cells
                  have g0 := HX4.out.frz 0
                  have g1 := HX4.out.frz 1
                  have g2 := HX4.out.frz 2
                  have g3 := HX4.out.frz 3
                  have g4 := HX4.out.frz 4
                  have ZZ := Lib.hid (Box.five HX4.out (.int .i64 k6) (.int .i64 n6) (.string s6) (.slice A6 li6 ci6) (.slice K6 lk6 ck6)).cells
                  go_wp2_with fail
                  obtain ⟨z0, z1, z2, z3, z4⟩ := ZZ.out
                  refine bodyPost_ret (v := .agg #[.int .i64 k6, .int .i64 n6, .string s6, .slice A6 li6 ci6, .slice K6 lk6 ck6]) (by simp [results, Tryz.results11, go_sem, z0, z1, z2, z3, z4]) rfl (.inl ⟨_, _, _, _, _, E1.out, rfl, qrd_five HRD.out rfl _ _ _ _ _, HQ4.out.five HPN.out _ _ _ _ _, Bes.five HB4.out (Nat.le_refl _) _ _ _ _ _, hj1, hj2, hm4⟩)
                · obtain ⟨k6, n6, s6, A6, li6, ci6, K6, lk6, ck6, rfl⟩ := hu5
                  have HX4 := Lib.hid (HX3.out.bes hb4 (by have := HS3.out; omega) HPN.out)
                  have HB4 := Lib.hid (HB3.out.trans (hb4.mono (by have := HS3.out; omega)))
                  have HS4 : Hid (w.heap.size + 1 ≤ w4.heap.size) := Lib.hid (by have := HS3.out; have := (hb4).size; omega)
                  have HQ4 := Lib.hid hp4
                  have HY := Lib.hid hy
                  have E1 : Hid (pv s (f + 1) level i n = .error y) := Lib.hid (by rw [EQ.out, hr])
                  clear hp4 hr hb4 hy HL HQ3 HX3 HB3 HS3
                  obtain ⟨y0, y1, y2, y3, y4⟩ := HX4.out.cells
                  have g0 := HX4.out.frz 0
                  have g1 := HX4.out.frz 1
                  have g2 := HX4.out.frz 2
                  have g3 := HX4.out.frz 3
                  have g4 := HX4.out.frz 4
                  have ZZ := Lib.hid (Box.five HX4.out (.int .i64 k6) (.int .i64 n6) (.string s6) (.slice A6 li6 ci6) (.slice K6 lk6 ck6)).cells
                  go_wp2_with fail
                  obtain ⟨z0, z1, z2, z3, z4⟩ := ZZ.out
                  refine bodyPost_ret (v := .agg #[.int .i64 k6, .int .i64 n6, .string s6, .slice A6 li6 ci6, .slice K6 lk6 ck6]) (by simp [results, Tryz.results11, go_sem, z0, z1, z2, z3, z4]) rfl (.inr ⟨_, _, _, _, E1.out, rfl, ⟨_, _, _, _, _, _, _, _, _, rfl⟩, HQ4.out.five HPN.out _ _ _ _ _, HY.out, Bes.five HB4.out (Nat.le_refl _) _ _ _ _ _⟩)
              · by_cases h3 : bt s q = 110
                · have e0 : (((bt s q).toNat : Int) == 34) = false := u8_beq 34 h0
                  have e1 : (((bt s q).toNat : Int) == 91) = false := u8_beq 91 h1
                  have e2 : (((bt s q).toNat : Int) == 123) = false := u8_beq 123 h2
                  have e3 : (((bt s q).toNat : Int) == 110) = true := u8_beq' 110 h3
                  have EQ : Hid (pv s (f + 1) level i n = match wordR s [110, 117, 108, 108] q with | .error e => .error e | .ok j => .ok (nullT, j, n + 1)) := Lib.hid (by rw [EP.out, if_pos h3] <;> rfl)
                  clear h0 h1 h2 h3
                  have HWD := Lib.hid (qword_any HQ3.out ⟨#[110, 117, 108, 108]⟩ (by decide) (by decide))
                  go_wp2_with fail
                  refine HWD.out.mono ?_
                  rintro e w4 ⟨rfl, hh, hb4⟩
                  have HX4 := Lib.hid (HX3.out.bes hb4 (by have := HS3.out; omega) HPN.out)
                  have HB4 := Lib.hid (HB3.out.trans (hb4.mono (by have := HS3.out; omega)))
                  have HS4 : Hid (w.heap.size + 1 ≤ w4.heap.size) := Lib.hid (by have := HS3.out; have := (hb4).size; omega)
                  clear q0 q1 q2 q3 q4 f2 r0 r1 r2 r3 r4
                  cases hx : wordR s [110, 117, 108, 108] q with
                  | ok j =>
                    rw [hx] at hh
                    obtain ⟨c4, hp4⟩ := hh
                    have hjj := qwordR_le _ _ _ hx
                    have HQ4 := Lib.hid hp4
                    have E1 : Hid (pv s (f + 1) level i n = .ok (nullT, j, n + 1)) := Lib.hid (by rw [EQ.out, hx])
                    have HRD := Lib.hid (fun (W : World) (S : Nat → Prop) => rdS_leaf W S (k := 0) (n := 0) (s := ⟨#[]⟩) (by unfold small; omega) (by unfold small; omega) (by decide))
                    have hj1 : i ≤ j := by omega
                    have hj2 : n ≤ n + 1 := by omega
                    have hj3 : n + 1 ≤ 4096 := by omega
                    clear hp4 hx hb4 HWD HQ3 HX3 HB3 HS3
                    obtain ⟨y0, y1, y2, y3, y4⟩ := HX4.out.cells
                    have g0 := HX4.out.frz 0
                    have g1 := HX4.out.frz 1
                    have g2 := HX4.out.frz 2
                    have g3 := HX4.out.frz 3
                    have g4 := HX4.out.frz 4
                    have ZZ := Lib.hid (Box.five HX4.out (.int .i64 0) (.int .i64 0) (.string ⟨#[]⟩) (.slice none 0 0) (.slice none 0 0)).cells
                    go_wp2_with fail
                    obtain ⟨z0, z1, z2, z3, z4⟩ := ZZ.out
                    refine bodyPost_ret (v := .agg #[.int .i64 0, .int .i64 0, .string ⟨#[]⟩, .slice none 0 0, .slice none 0 0]) (by simp [results, Tryz.results11, go_sem, z0, z1, z2, z3, z4]) rfl (.inl ⟨_, _, _, _, _, E1.out, rfl, HRD.out _ _, HQ4.out.five HPN.out _ _ _ _ _, Bes.five HB4.out (Nat.le_refl _) _ _ _ _ _, hj1, hj2, hj3⟩)
                  | error y =>
                    rw [hx] at hh
                    obtain ⟨j, hp4, hy⟩ := hh
                    have HQ4 := Lib.hid hp4
                    have HY := Lib.hid hy
                    have E1 : Hid (pv s (f + 1) level i n = .error y) := Lib.hid (by rw [EQ.out, hx])
                    clear hp4 hx hy hb4 HWD HQ3 HX3 HB3 HS3
                    obtain ⟨y0, y1, y2, y3, y4⟩ := HX4.out.cells
                    have g0 := HX4.out.frz 0
                    have g1 := HX4.out.frz 1
                    have g2 := HX4.out.frz 2
                    have g3 := HX4.out.frz 3
                    have g4 := HX4.out.frz 4
                    have ZZ := Lib.hid (Box.five HX4.out (.int .i64 0) (.int .i64 0) (.string ⟨#[]⟩) (.slice none 0 0) (.slice none 0 0)).cells
                    go_wp2_with fail
                    obtain ⟨z0, z1, z2, z3, z4⟩ := ZZ.out
                    refine bodyPost_ret (v := .agg #[.int .i64 0, .int .i64 0, .string ⟨#[]⟩, .slice none 0 0, .slice none 0 0]) (by simp [results, Tryz.results11, go_sem, z0, z1, z2, z3, z4]) rfl (.inr ⟨_, _, _, _, E1.out, rfl, ⟨_, _, _, _, _, _, _, _, _, rfl⟩, HQ4.out.five HPN.out _ _ _ _ _, HY.out, Bes.five HB4.out (Nat.le_refl _) _ _ _ _ _⟩)
                · by_cases h4 : bt s q = 116
                  · have e0 : (((bt s q).toNat : Int) == 34) = false := u8_beq 34 h0
                    have e1 : (((bt s q).toNat : Int) == 91) = false := u8_beq 91 h1
                    have e2 : (((bt s q).toNat : Int) == 123) = false := u8_beq 123 h2
                    have e3 : (((bt s q).toNat : Int) == 110) = false := u8_beq 110 h3
                    have e4 : (((bt s q).toNat : Int) == 116) = true := u8_beq' 116 h4
                    have EQ : Hid (pv s (f + 1) level i n = match wordR s [116, 114, 117, 101] q with | .error e => .error e | .ok j => .ok (boolT 1, j, n + 1)) := Lib.hid (by rw [EP.out, if_neg (by rw [h4]; decide), if_neg (by rw [h4]; decide), if_pos h4] <;> rfl)
                    clear h0 h1 h2 h3 h4
                    have HWD := Lib.hid (qword_any HQ3.out ⟨#[116, 114, 117, 101]⟩ (by decide) (by decide))
                    go_wp2_with fail
                    refine HWD.out.mono ?_
                    rintro e w4 ⟨rfl, hh, hb4⟩
                    have HX4 := Lib.hid (HX3.out.bes hb4 (by have := HS3.out; omega) HPN.out)
                    have HB4 := Lib.hid (HB3.out.trans (hb4.mono (by have := HS3.out; omega)))
                    have HS4 : Hid (w.heap.size + 1 ≤ w4.heap.size) := Lib.hid (by have := HS3.out; have := (hb4).size; omega)
                    clear q0 q1 q2 q3 q4 f2 r0 r1 r2 r3 r4
                    cases hx : wordR s [116, 114, 117, 101] q with
                    | ok j =>
                      rw [hx] at hh
                      obtain ⟨c4, hp4⟩ := hh
                      have hjj := qwordR_le _ _ _ hx
                      have HQ4 := Lib.hid hp4
                      have E1 : Hid (pv s (f + 1) level i n = .ok (boolT 1, j, n + 1)) := Lib.hid (by rw [EQ.out, hx])
                      have HRD := Lib.hid (fun (W : World) (S : Nat → Prop) => rdS_leaf W S (k := 1) (n := 1) (s := ⟨#[]⟩) (by unfold small; omega) (by unfold small; omega) (by decide))
                      have hj1 : i ≤ j := by omega
                      have hj2 : n ≤ n + 1 := by omega
                      have hj3 : n + 1 ≤ 4096 := by omega
                      clear hp4 hx hb4 HWD HQ3 HX3 HB3 HS3
                      obtain ⟨y0, y1, y2, y3, y4⟩ := HX4.out.cells
                      have g0 := HX4.out.frz 0
                      have g1 := HX4.out.frz 1
                      have g2 := HX4.out.frz 2
                      have g3 := HX4.out.frz 3
                      have g4 := HX4.out.frz 4
                      have ZZ := Lib.hid (Box.five HX4.out (.int .i64 1) (.int .i64 1) (.string ⟨#[]⟩) (.slice none 0 0) (.slice none 0 0)).cells
                      go_wp2_with fail
                      obtain ⟨z0, z1, z2, z3, z4⟩ := ZZ.out
                      refine bodyPost_ret (v := .agg #[.int .i64 1, .int .i64 1, .string ⟨#[]⟩, .slice none 0 0, .slice none 0 0]) (by simp [results, Tryz.results11, go_sem, z0, z1, z2, z3, z4]) rfl (.inl ⟨_, _, _, _, _, E1.out, rfl, HRD.out _ _, HQ4.out.five HPN.out _ _ _ _ _, Bes.five HB4.out (Nat.le_refl _) _ _ _ _ _, hj1, hj2, hj3⟩)
                    | error y =>
                      rw [hx] at hh
                      obtain ⟨j, hp4, hy⟩ := hh
                      have HQ4 := Lib.hid hp4
                      have HY := Lib.hid hy
                      have E1 : Hid (pv s (f + 1) level i n = .error y) := Lib.hid (by rw [EQ.out, hx])
                      clear hp4 hx hy hb4 HWD HQ3 HX3 HB3 HS3
                      obtain ⟨y0, y1, y2, y3, y4⟩ := HX4.out.cells
                      have g0 := HX4.out.frz 0
                      have g1 := HX4.out.frz 1
                      have g2 := HX4.out.frz 2
                      have g3 := HX4.out.frz 3
                      have g4 := HX4.out.frz 4
                      have ZZ := Lib.hid (Box.five HX4.out (.int .i64 1) (.int .i64 1) (.string ⟨#[]⟩) (.slice none 0 0) (.slice none 0 0)).cells
                      go_wp2_with fail
                      obtain ⟨z0, z1, z2, z3, z4⟩ := ZZ.out
                      refine bodyPost_ret (v := .agg #[.int .i64 1, .int .i64 1, .string ⟨#[]⟩, .slice none 0 0, .slice none 0 0]) (by simp [results, Tryz.results11, go_sem, z0, z1, z2, z3, z4]) rfl (.inr ⟨_, _, _, _, E1.out, rfl, ⟨_, _, _, _, _, _, _, _, _, rfl⟩, HQ4.out.five HPN.out _ _ _ _ _, HY.out, Bes.five HB4.out (Nat.le_refl _) _ _ _ _ _⟩)
                  · by_cases h5 : bt s q = 102
                    · have e0 : (((bt s q).toNat : Int) == 34) = false := u8_beq 34 h0
                      have e1 : (((bt s q).toNat : Int) == 91) = false := u8_beq 91 h1
                      have e2 : (((bt s q).toNat : Int) == 123) = false := u8_beq 123 h2
                      have e3 : (((bt s q).toNat : Int) == 110) = false := u8_beq 110 h3
                      have e4 : (((bt s q).toNat : Int) == 116) = false := u8_beq 116 h4
                      have e5 : (((bt s q).toNat : Int) == 102) = true := u8_beq' 102 h5
                      have EQ : Hid (pv s (f + 1) level i n = match wordR s [102, 97, 108, 115, 101] q with | .error e => .error e | .ok j => .ok (boolT 0, j, n + 1)) := Lib.hid (by rw [EP.out, if_neg (by rw [h5]; decide), if_pos h5] <;> rfl)
                      clear h0 h1 h2 h3 h4 h5
                      have HWD := Lib.hid (qword_any HQ3.out ⟨#[102, 97, 108, 115, 101]⟩ (by decide) (by decide))
                      go_wp2_with fail
                      refine HWD.out.mono ?_
                      rintro e w4 ⟨rfl, hh, hb4⟩
                      have HX4 := Lib.hid (HX3.out.bes hb4 (by have := HS3.out; omega) HPN.out)
                      have HB4 := Lib.hid (HB3.out.trans (hb4.mono (by have := HS3.out; omega)))
                      have HS4 : Hid (w.heap.size + 1 ≤ w4.heap.size) := Lib.hid (by have := HS3.out; have := (hb4).size; omega)
                      clear q0 q1 q2 q3 q4 f2 r0 r1 r2 r3 r4
                      cases hx : wordR s [102, 97, 108, 115, 101] q with
                      | ok j =>
                        rw [hx] at hh
                        obtain ⟨c4, hp4⟩ := hh
                        have hjj := qwordR_le _ _ _ hx
                        have HQ4 := Lib.hid hp4
                        have E1 : Hid (pv s (f + 1) level i n = .ok (boolT 0, j, n + 1)) := Lib.hid (by rw [EQ.out, hx])
                        have HRD := Lib.hid (fun (W : World) (S : Nat → Prop) => rdS_leaf W S (k := 1) (n := 0) (s := ⟨#[]⟩) (by unfold small; omega) (by unfold small; omega) (by decide))
                        have hj1 : i ≤ j := by omega
                        have hj2 : n ≤ n + 1 := by omega
                        have hj3 : n + 1 ≤ 4096 := by omega
                        clear hp4 hx hb4 HWD HQ3 HX3 HB3 HS3
                        obtain ⟨y0, y1, y2, y3, y4⟩ := HX4.out.cells
                        have g0 := HX4.out.frz 0
                        have g1 := HX4.out.frz 1
                        have g2 := HX4.out.frz 2
                        have g3 := HX4.out.frz 3
                        have g4 := HX4.out.frz 4
                        have ZZ := Lib.hid (Box.five HX4.out (.int .i64 1) (.int .i64 0) (.string ⟨#[]⟩) (.slice none 0 0) (.slice none 0 0)).cells
                        go_wp2_with fail
                        obtain ⟨z0, z1, z2, z3, z4⟩ := ZZ.out
                        refine bodyPost_ret (v := .agg #[.int .i64 1, .int .i64 0, .string ⟨#[]⟩, .slice none 0 0, .slice none 0 0]) (by simp [results, Tryz.results11, go_sem, z0, z1, z2, z3, z4]) rfl (.inl ⟨_, _, _, _, _, E1.out, rfl, HRD.out _ _, HQ4.out.five HPN.out _ _ _ _ _, Bes.five HB4.out (Nat.le_refl _) _ _ _ _ _, hj1, hj2, hj3⟩)
                      | error y =>
                        rw [hx] at hh
                        obtain ⟨j, hp4, hy⟩ := hh
                        have HQ4 := Lib.hid hp4
                        have HY := Lib.hid hy
                        have E1 : Hid (pv s (f + 1) level i n = .error y) := Lib.hid (by rw [EQ.out, hx])
                        clear hp4 hx hy hb4 HWD HQ3 HX3 HB3 HS3
                        obtain ⟨y0, y1, y2, y3, y4⟩ := HX4.out.cells
                        have g0 := HX4.out.frz 0
                        have g1 := HX4.out.frz 1
                        have g2 := HX4.out.frz 2
                        have g3 := HX4.out.frz 3
                        have g4 := HX4.out.frz 4
                        have ZZ := Lib.hid (Box.five HX4.out (.int .i64 1) (.int .i64 0) (.string ⟨#[]⟩) (.slice none 0 0) (.slice none 0 0)).cells
                        go_wp2_with fail
                        obtain ⟨z0, z1, z2, z3, z4⟩ := ZZ.out
                        refine bodyPost_ret (v := .agg #[.int .i64 1, .int .i64 0, .string ⟨#[]⟩, .slice none 0 0, .slice none 0 0]) (by simp [results, Tryz.results11, go_sem, z0, z1, z2, z3, z4]) rfl (.inr ⟨_, _, _, _, E1.out, rfl, ⟨_, _, _, _, _, _, _, _, _, rfl⟩, HQ4.out.five HPN.out _ _ _ _ _, HY.out, Bes.five HB4.out (Nat.le_refl _) _ _ _ _ _⟩)
                    · have e0 : (((bt s q).toNat : Int) == 34) = false := u8_beq 34 h0
                      have e1 : (((bt s q).toNat : Int) == 91) = false := u8_beq 91 h1
                      have e2 : (((bt s q).toNat : Int) == 123) = false := u8_beq 123 h2
                      have e3 : (((bt s q).toNat : Int) == 110) = false := u8_beq 110 h3
                      have e4 : (((bt s q).toNat : Int) == 116) = false := u8_beq 116 h4
                      have e5 : (((bt s q).toNat : Int) == 102) = false := u8_beq 102 h5
                      have EQ : Hid (pv s (f + 1) level i n = match intR s q with | .error e => .error e | .ok (t, j) => .ok (t, j, n + 1)) := Lib.hid (by rw [EP.out, if_neg h3, if_neg h5, if_neg h4, if_neg h0, if_neg h1, if_neg h2] <;> rfl)
                      clear h0 h1 h2 h3 h4 h5
                      go_wp2_with fail
                      refine (qnumber_any HQ3.out).mono ?_
                      intro e w4 hh
                      obtain ⟨hh, hb4⟩ := hh
                      have HX4 := Lib.hid (HX3.out.bes hb4 (by have := HS3.out; omega) HPN.out)
                      have HB4 := Lib.hid (HB3.out.trans (hb4.mono (by have := HS3.out; omega)))
                      have HS4 : Hid (w.heap.size + 1 ≤ w4.heap.size) := Lib.hid (by have := HS3.out; have := (hb4).size; omega)
                      clear q0 q1 q2 q3 q4 f2 r0 r1 r2 r3 r4
                      cases hx : intR s q with
                      | ok r =>
                        obtain ⟨t, j⟩ := r
                        rw [hx] at hh
                        obtain ⟨k5, rfl, hsm, rfl, c4, hp4⟩ := hh
                        have hp4 : QS w4 p s j (n + 1) 0 c4 := hp4
                        have HQ4 := Lib.hid hp4
                        have hqj := intR_le hx
                        have E1 : Hid (pv s (f + 1) level i n = .ok (intT k5, j, n + 1)) := Lib.hid (by rw [EQ.out, hx])
                        have HRD := Lib.hid (fun (W : World) (S : Nat → Prop) => rdS_leaf W S (k := 2) (n := k5) (s := ⟨#[]⟩) (by unfold small; omega) hsm (by decide))
                        have hj1 : i ≤ j := by omega
                        have hj2 : n ≤ n + 1 := by omega
                        have hj3 : n + 1 ≤ 4096 := by omega
                        clear hp4 hx hb4 hsm HQ3 HX3 HB3 HS3
                        obtain ⟨y0, y1, y2, y3, y4⟩ := HX4.out.cells
                        have g0 := HX4.out.frz 0
                        have g1 := HX4.out.frz 1
                        have g2 := HX4.out.frz 2
                        have g3 := HX4.out.frz 3
                        have g4 := HX4.out.frz 4
                        have ZZ := Lib.hid (Box.five HX4.out (.int .i64 2) (.int .i64 k5) (.string ⟨#[]⟩) (.slice none 0 0) (.slice none 0 0)).cells
                        go_wp2_with fail
                        obtain ⟨z0, z1, z2, z3, z4⟩ := ZZ.out
                        refine bodyPost_ret (v := .agg #[.int .i64 2, .int .i64 k5, .string ⟨#[]⟩, .slice none 0 0, .slice none 0 0]) (by simp [results, Tryz.results11, go_sem, z0, z1, z2, z3, z4]) rfl (.inl ⟨_, _, _, _, _, E1.out, rfl, HRD.out _ _, HQ4.out.five HPN.out _ _ _ _ _, Bes.five HB4.out (Nat.le_refl _) _ _ _ _ _, hj1, hj2, hj3⟩)
                      | error y =>
                        rw [hx] at hh
                        obtain ⟨⟨k5, hsm, rfl⟩, j, hp4, hy⟩ := hh
                        have HQ4 := Lib.hid hp4
                        have HY := Lib.hid hy
                        have E1 : Hid (pv s (f + 1) level i n = .error y) := Lib.hid (by rw [EQ.out, hx])
                        clear hp4 hx hy hb4 hsm HQ3 HX3 HB3 HS3
                        obtain ⟨y0, y1, y2, y3, y4⟩ := HX4.out.cells
                        have g0 := HX4.out.frz 0
                        have g1 := HX4.out.frz 1
                        have g2 := HX4.out.frz 2
                        have g3 := HX4.out.frz 3
                        have g4 := HX4.out.frz 4
                        have ZZ := Lib.hid (Box.five HX4.out (.int .i64 2) (.int .i64 k5) (.string ⟨#[]⟩) (.slice none 0 0) (.slice none 0 0)).cells
                        go_wp2_with fail
                        obtain ⟨z0, z1, z2, z3, z4⟩ := ZZ.out
                        refine bodyPost_ret (v := .agg #[.int .i64 2, .int .i64 k5, .string ⟨#[]⟩, .slice none 0 0, .slice none 0 0]) (by simp [results, Tryz.results11, go_sem, z0, z1, z2, z3, z4]) rfl (.inr ⟨_, _, _, _, E1.out, rfl, ⟨_, _, _, _, _, _, _, _, _, rfl⟩, HQ4.out.five HPN.out _ _ _ _ _, HY.out, Bes.five HB4.out (Nat.le_refl _) _ _ _ _ _⟩)
end Go.Proofs.YtcbajgcblfgmgaaGreatDoor
namespace Go.Proofs.YtcbajgcblfgmgaaGreatDoor
open Go.RowKit
set_option maxRecDepth 100000 in
set_option maxHeartbeats 4000000 in
theorem qparse_any (s : ByteArray) (w : World) (hs : s.size ≤ 1073741824) :
    Calls Tryz.prog 6 #[.string s] w (ParsePost w (parseR s)) := by
  have e1 : Below w.heap.size w (w.alloc (.cells #[.int .i64 0, .int .i64 0, .string ⟨#[]⟩, .slice none 0 0, .slice none 0 0] 26 (0, 0))) := (Below.refl _ _).alloc (Nat.le_refl _) _
  have e2 : Below w.heap.size w ((w.alloc (.cells #[.int .i64 0, .int .i64 0, .string ⟨#[]⟩, .slice none 0 0, .slice none 0 0] 26 (0, 0))).alloc (.cells #[.string s, .int .i64 0, .int .i64 0, .int .i64 0, .int .i64 0] 41 (0, 0))) := e1.alloc (by simp) _
  have hbox : QBox ((w.alloc (.cells #[.int .i64 0, .int .i64 0, .string ⟨#[]⟩, .slice none 0 0, .slice none 0 0] 26 (0, 0))).alloc (.cells #[.string s, .int .i64 0, .int .i64 0, .int .i64 0, .int .i64 0] 41 (0, 0))) (w.heap.size + 1) (.string s) (.int .i64 0) (.int .i64 0) (.int .i64 0) (.int .i64 0) := (by simp : (w.alloc (.cells #[.int .i64 0, .int .i64 0, .string ⟨#[]⟩, .slice none 0 0, .slice none 0 0] 26 (0, 0))).heap.size = w.heap.size + 1) ▸ heap_alloc_new (w.alloc (.cells #[.int .i64 0, .int .i64 0, .string ⟨#[]⟩, .slice none 0 0, .slice none 0 0] 26 (0, 0))) _
  have HP : Hid (QS ((w.alloc (.cells #[.int .i64 0, .int .i64 0, .string ⟨#[]⟩, .slice none 0 0, .slice none 0 0] 26 (0, 0))).alloc (.cells #[.string s, .int .i64 0, .int .i64 0, .int .i64 0, .int .i64 0] 41 (0, 0))) (w.heap.size + 1) s 0 0 0 0) := Lib.hid ⟨hbox, Nat.zero_le _, hs, by omega⟩
  have Y := Lib.hid ((Box.new w (.int .i64 0) (.int .i64 0) (.string ⟨#[]⟩) (.slice none 0 0) (.slice none 0 0)).alloc (.cells #[.string s, .int .i64 0, .int .i64 0, .int .i64 0, .int .i64 0] 41 (0, 0)))
  have HB := Lib.hid e2
  have HPR : Hid (parseR s = match pv s (s.size + 1) 1 0 0 with
    | .error e => .error e
    | .ok (t, j, _) => if sk spL s j < s.size then .error (sk spL s j, 3) else .ok t) := Lib.hid rfl
  have h9 : ((w.alloc (.cells #[.int .i64 0, .int .i64 0, .string ⟨#[]⟩, .slice none 0 0, .slice none 0 0] 26 (0, 0))).alloc (.cells #[.string s, .int .i64 0, .int .i64 0, .int .i64 0, .int .i64 0] 41 (0, 0))).heap.size = w.heap.size + 2 := by simp
  clear e1 e2 hbox
  go_enter Tryz.func6, Tryz.ntmps6
  go_wp2_with fail
  refine (qvalue_any (p := w.heap.size + 1) (s := s) (s.size + 1) 1 (by omega) 0 0 0 ((w.alloc (.cells #[.int .i64 0, .int .i64 0, .string ⟨#[]⟩, .slice none 0 0, .slice none 0 0] 26 (0, 0))).alloc (.cells #[.string s, .int .i64 0, .int .i64 0, .int .i64 0, .int .i64 0] 41 (0, 0))) HP.out (by omega) (by omega)).mono ?_
  rintro e w1 (⟨t, j, m, u, c1, hr, rfl, hu, hp, hb, _, _, _⟩ | ⟨x, j, m, u, hr, rfl, hu, hp, hy, hb⟩)
  rotate_left
  · have E1 : Hid (parseR s = .error x) := Lib.hid (by rw [HPR.out, hr])
    obtain ⟨k5, n5, s5, A5, li5, ci5, K5, lk5, ck5, rfl⟩ := hu
    have bz : Below w1.heap.size w1 (w1.alloc (.cells #[.int .i64 k5, .int .i64 n5, .string s5, .slice A5 li5 ci5, .slice K5 lk5 ck5] 26 (0, 0))) := (Below.refl _ _).alloc (Nat.le_refl _) _
    have h8 := hb.size
    have HP1 := Lib.hid (hp.kept bz)
    have HY := Lib.hid hy
    have YW : Hid (Box (w1.alloc (.cells #[.int .i64 k5, .int .i64 n5, .string s5, .slice A5 li5 ci5, .slice K5 lk5 ck5] 26 (0, 0))) w.heap.size (.int .i64 0) (.int .i64 0) (.string ⟨#[]⟩) (.slice none 0 0) (.slice none 0 0)) := Lib.hid (Box.kept ((hb.block _ (by omega) (by omega)).trans Y.out) bz)
    have HBW := Lib.hid (HB.out.trans ((((hb.mono HB.out.size).toBelow (by omega)).trans (bz.mono (by omega)))))
    have h11 : (w1.alloc (.cells #[.int .i64 k5, .int .i64 n5, .string s5, .slice A5 li5 ci5, .slice K5 lk5 ck5] 26 (0, 0))).heap.size = w1.heap.size + 1 := by simp
    have hy2 : (x.2 != 0) = true := by simpa using hy
    clear hr hp hb bz hy
    go_wp2_with fail
    refine (qskip_any HP1.out).mono ?_
    rintro e w2 ⟨rfl, hp2, hb2⟩
    have hp2 : QS w2 (w.heap.size + 1) s (sk spL s j) m x.2 x.1 := hp2
    generalize sk spL s j = i2 at *
    have h10 := hb2.size
    have HP2 := Lib.hid hp2
    have Y2 : Hid (Box w2 w.heap.size (.int .i64 0) (.int .i64 0) (.string ⟨#[]⟩) (.slice none 0 0) (.slice none 0 0)) := Lib.hid ((hb2.block _ (by omega) (by omega)).trans YW.out)
    have HBW2 := Lib.hid (HBW.out.trans ((hb2.mono (by omega : w.heap.size ≤ _)).toBelow (by omega)))
    clear hp2 hb2 HBW YW HP1
    obtain ⟨q0, q1, q2, q3, q4⟩ := HP2.out.box.cells
    by_cases hlt : i2 < s.size
    · have hlt' : (i2 : Int) < s.size := by omega
      go_wp2_with fail
      refine (qfail_no HP2.out HY.out _ _).mono ?_
      rintro e w3 ⟨rfl, hb3⟩
      have HP3 := Lib.hid (HP2.out.kept hb3)
      have Y3 := Lib.hid (Y2.out.kept hb3)
      have HBW3 := Lib.hid (HBW2.out.trans (hb3.mono (by omega)))
      clear hb3 q0 q1 q2 q3 q4 HP2 Y2 HBW2
      obtain ⟨q0, q1, q2, q3, q4⟩ := HP3.out.box.cells
      obtain ⟨y0, y1, y2, y3, y4⟩ := Y3.out.cells
      have g0 := Y3.out.frz 0
      have g1 := Y3.out.frz 1
      have g2 := Y3.out.frz 2
      have g3 := Y3.out.frz 3
      have g4 := Y3.out.frz 4
      have ZZ := Lib.hid (Box.five Y3.out (.int .i64 0) (.int .i64 0) (.string ⟨#[]⟩) (.slice none 0 0) (.slice none 0 0)).cells
      go_wp2_with fail
      go_region
      all_goals
        go_wp2_with fail
        obtain ⟨z0, z1, z2, z3, z4⟩ := ZZ.out
        refine bodyPost_ret (v := .tuple #[zeroV, .int .i64 x.1, .int .i64 x.2]) (by simp [results, Tryz.results6, go_sem, zeroV, z0, z1, z2, z3, z4]) rfl ⟨.inr ⟨(x.1, x.2), E1.out, rfl⟩, ?_⟩
        exact Below.five HBW3.out.drew (Nat.le_refl _) _ _ _ _ _
    · have hlt' : ¬ (i2 : Int) < s.size := by omega
      obtain ⟨y0, y1, y2, y3, y4⟩ := Y2.out.cells
      have g0 := Y2.out.frz 0
      have g1 := Y2.out.frz 1
      have g2 := Y2.out.frz 2
      have g3 := Y2.out.frz 3
      have g4 := Y2.out.frz 4
      have ZZ := Lib.hid (Box.five Y2.out (.int .i64 0) (.int .i64 0) (.string ⟨#[]⟩) (.slice none 0 0) (.slice none 0 0)).cells
      go_wp2_with fail
      go_region
      all_goals
        go_wp2_with fail
        obtain ⟨z0, z1, z2, z3, z4⟩ := ZZ.out
        refine bodyPost_ret (v := .tuple #[zeroV, .int .i64 x.1, .int .i64 x.2]) (by simp [results, Tryz.results6, go_sem, zeroV, z0, z1, z2, z3, z4]) rfl ⟨.inr ⟨(x.1, x.2), E1.out, rfl⟩, ?_⟩
        exact Below.five HBW2.out.drew (Nat.le_refl _) _ _ _ _ _
  · obtain ⟨k5, n5, s5, A5, li5, ci5, K5, lk5, ck5, rfl⟩ := hu.fiveV
    have bz : Below w1.heap.size w1 (w1.alloc (.cells #[.int .i64 k5, .int .i64 n5, .string s5, .slice A5 li5 ci5, .slice K5 lk5 ck5] 26 (0, 0))) := (Below.refl _ _).alloc (Nat.le_refl _) _
    have HP1 := Lib.hid (hp.kept bz)
    have h8 := hb.size
    have YW : Hid (Box (w1.alloc (.cells #[.int .i64 k5, .int .i64 n5, .string s5, .slice A5 li5 ci5, .slice K5 lk5 ck5] 26 (0, 0))) w.heap.size (.int .i64 0) (.int .i64 0) (.string ⟨#[]⟩) (.slice none 0 0) (.slice none 0 0)) := Lib.hid (Box.kept ((hb.block _ (by omega) (by omega)).trans Y.out) bz)
    have XW : Hid (Box (w1.alloc (.cells #[.int .i64 k5, .int .i64 n5, .string s5, .slice A5 li5 ci5, .slice K5 lk5 ck5] 26 (0, 0))) w1.heap.size (.int .i64 k5) (.int .i64 n5) (.string s5) (.slice A5 li5 ci5) (.slice K5 lk5 ck5)) := Lib.hid (Box.new w1 _ _ _ _ _)
    have HBW := Lib.hid (HB.out.trans ((((hb.mono HB.out.size).toBelow (by omega)).trans (bz.mono (by omega)))))
    have HU := Lib.hid hu
    have HBZ := Lib.hid bz
    have E0 : Hid (parseR s = if sk spL s j < s.size then .error (sk spL s j, 3) else .ok t) := Lib.hid (by rw [HPR.out, hr])
    have h1w : w.heap.size + 1 < w1.heap.size := by omega
    clear hr hp hb bz hu
    go_wp2_with fail
    refine (qskip_any HP1.out).mono ?_
    rintro e w2 ⟨rfl, hp2, hb2⟩
    have hp2 : QS w2 (w.heap.size + 1) s (sk spL s j) m 0 c1 := hp2
    generalize sk spL s j = i2 at *
    have hi2 := hp2.hi
    have h10 := hb2.size
    have h11 : (w1.alloc (.cells #[.int .i64 k5, .int .i64 n5, .string s5, .slice A5 li5 ci5, .slice K5 lk5 ck5] 26 (0, 0))).heap.size = w1.heap.size + 1 := by simp
    have HP2 := Lib.hid hp2
    have Y2 : Hid (Box w2 w.heap.size (.int .i64 0) (.int .i64 0) (.string ⟨#[]⟩) (.slice none 0 0) (.slice none 0 0)) := Lib.hid ((hb2.block _ (by omega) (by omega)).trans YW.out)
    have X2 : Hid (Box w2 w1.heap.size (.int .i64 k5) (.int .i64 n5) (.string s5) (.slice A5 li5 ci5) (.slice K5 lk5 ck5)) := Lib.hid ((hb2.block _ (by omega) (by omega)).trans XW.out)
    have HBW2 := Lib.hid (HBW.out.trans ((hb2.mono (by omega : w.heap.size ≤ _)).toBelow (by omega)))
    have HU2 : Hid (RdS w2 (fun b => w.heap.size + 2 ≤ b ∧ b < w1.heap.size) (.agg #[.int .i64 k5, .int .i64 n5, .string s5, .slice A5 li5 ci5, .slice K5 lk5 ck5]) t) := Lib.hid (HU.out.kept (fun b hb => (hb2.block b (by have := hb.2; omega) (by have := hb.1; omega)).trans (HBZ.out.block b hb.2)) (fun b hb => ⟨by have := hb.1; omega, hb.2⟩))
    clear hp2 hb2 HU HBZ HBW XW YW HP1
    obtain ⟨q0, q1, q2, q3, q4⟩ := HP2.out.box.cells
    by_cases hlt : i2 < s.size
    · have E1 := Lib.hid (E0.out.trans (if_pos hlt))
      have hlt' : (i2 : Int) < s.size := by omega
      go_wp2_with fail
      refine (qfail_any HP2.out _ _).mono ?_
      rintro e w3 ⟨rfl, hp3, hb3⟩
      have HP3 := Lib.hid hp3
      have Y3 : Hid (Box w3 w.heap.size (.int .i64 0) (.int .i64 0) (.string ⟨#[]⟩) (.slice none 0 0) (.slice none 0 0)) := Lib.hid ((hb3.block _ (by omega) (by omega)).trans Y2.out)
      have HBW3 := Lib.hid (HBW2.out.trans ((hb3.mono (by omega : w.heap.size ≤ _)).toBelow (by omega)))
      clear hp3 hb3 q0 q1 q2 q3 q4
      obtain ⟨q0, q1, q2, q3, q4⟩ := HP3.out.box.cells
      obtain ⟨y0, y1, y2, y3, y4⟩ := Y3.out.cells
      have g0 := Y3.out.frz 0
      have g1 := Y3.out.frz 1
      have g2 := Y3.out.frz 2
      have g3 := Y3.out.frz 3
      have g4 := Y3.out.frz 4
      have ZZ := Lib.hid (Box.five Y3.out (.int .i64 0) (.int .i64 0) (.string ⟨#[]⟩) (.slice none 0 0) (.slice none 0 0)).cells
      go_wp2_with fail
      go_region
      all_goals
        go_wp2_with fail
        obtain ⟨z0, z1, z2, z3, z4⟩ := ZZ.out
        refine bodyPost_ret (v := .tuple #[zeroV, .int .i64 i2, .int .i64 3]) (by simp [results, Tryz.results6, go_sem, zeroV, z0, z1, z2, z3, z4]) rfl ⟨.inr ⟨(i2, 3), E1.out, rfl⟩, ?_⟩
        exact Below.five HBW3.out.drew (Nat.le_refl _) _ _ _ _ _
    · have E1 := Lib.hid (E0.out.trans (if_neg hlt))
      have hlt' : ¬ (i2 : Int) < s.size := by omega
      obtain ⟨x0, x1, x2, x3, x4⟩ := X2.out.cells
      obtain ⟨y0, y1, y2, y3, y4⟩ := Y2.out.cells
      have g0 := Y2.out.frz 0
      have g1 := Y2.out.frz 1
      have g2 := Y2.out.frz 2
      have g3 := Y2.out.frz 3
      have g4 := Y2.out.frz 4
      have ZZ := Lib.hid (Box.five Y2.out (.int .i64 k5) (.int .i64 n5) (.string s5) (.slice A5 li5 ci5) (.slice K5 lk5 ck5)).cells
      have hne : w1.heap.size ≠ w.heap.size := by omega
      go_wp2_with fail
      obtain ⟨z0, z1, z2, z3, z4⟩ := ZZ.out
      refine bodyPost_ret (v := .tuple #[.agg #[.int .i64 k5, .int .i64 n5, .string s5, .slice A5 li5 ci5, .slice K5 lk5 ck5], .int .i64 0, .int .i64 0]) (by simp [results, Tryz.results6, go_sem, z0, z1, z2, z3, z4]) rfl ⟨.inl ⟨t, _, E1.out, rfl, ?_⟩, ?_⟩
      · refine HU2.out.kept (fun b hb => ?_) (fun b hb => ⟨by have := hb.1; omega, ?_⟩)
        · have hk : b ≠ w.heap.size := by have := hb.1; omega
          rw [Below.heap_setCell _ _ _ _ hk, Below.heap_setCell _ _ _ _ hk, Below.heap_setCell _ _ _ _ hk, Below.heap_setCell _ _ _ _ hk, Below.heap_setCell _ _ _ _ hk]
        · have h12 := hb.2
          simp [World.setCell]
          omega
      · exact Below.five HBW2.out (Nat.le_refl _) _ _ _ _ _
end Go.Proofs.YtcbajgcblfgmgaaGreatDoor
namespace Go.Proofs.YtcbajgcblfgmgaaGreatDoor
open Go.RowKit
abbrev zV : Value := .agg #[.int .i64 0, .int .i64 0, .string ⟨#[]⟩, .slice none 0 0, .slice none 0 0]
theorem rd_zero (w : World) (B : Nat) : Rd w B (.agg #[.int .i64 0, .int .i64 0, .string ⟨#[]⟩, .slice none 0 0, .slice none 0 0]) (.mk 0 0 ⟨#[]⟩ [] []) :=
  (rdS_leaf w (fun _ => False) (by unfold small; omega) (by unfold small; omega) (by decide)).toRd (fun _ h => h.elim)
/- What both answer. -/
theorem post_is {w : World} {r : Except Er VT} {e : Ending} {w' : World} (h : ParsePost w r e w') : ∃ (t : VT) (u : Value) (a c : Int), e = .returned (.tuple #[u, .int .i64 a, .int .i64 c]) ∧ FiveV u ∧ Rd w' w'.heap.size u t ∧ Below w.heap.size w w' ∧ ((r = .ok t ∧ a = 0 ∧ c = 0) ∨ (∃ x, r = .error x ∧ t = .mk 0 0 ⟨#[]⟩ [] [] ∧ a = x.1 ∧ c = x.2)) := by
  obtain ⟨⟨t, u, h1, h2, h3⟩ | ⟨x, h1, h2⟩, hb⟩ := h
  · exact ⟨t, u, 0, 0, h2, h3.fiveV, h3.toRd (fun b hb => hb.2), hb, .inl ⟨h1, rfl, rfl⟩⟩
  · exact ⟨_, _, _, _, h2, ⟨_, _, _, _, _, _, _, _, _, rfl⟩, rd_zero w' _, hb, .inr ⟨x, h1, rfl, rfl, rfl⟩⟩
theorem post_same {r : Except Er VT} {t t' : VT} {a a' c c' : Int} (h : (r = .ok t ∧ a = 0 ∧ c = 0) ∨ (∃ x, r = .error x ∧ t = .mk 0 0 ⟨#[]⟩ [] [] ∧ a = x.1 ∧ c = x.2)) (h' : (r = .ok t' ∧ a' = 0 ∧ c' = 0) ∨ (∃ x, r = .error x ∧ t' = .mk 0 0 ⟨#[]⟩ [] [] ∧ a' = x.1 ∧ c' = x.2)) : t = t' ∧ a = a' ∧ c = c' := by
  rcases h with ⟨h1, h2, h3⟩ | ⟨x, h1, h2, h3, h4⟩ <;> rcases h' with ⟨g1, g2, g3⟩ | ⟨y, g1, g2, g3, g4⟩
  · rw [h1] at g1; cases g1; exact ⟨rfl, by rw [h2, g2], by rw [h3, g3]⟩
  · rw [h1] at g1; cases g1
  · rw [h1] at g1; cases g1
  · rw [h1] at g1; cases g1; exact ⟨by rw [h2, g2], by rw [h3, g3], by rw [h4, g4]⟩
set_option maxRecDepth 100000 in
set_option maxHeartbeats 4000000 in
theorem parses_row (s : ByteArray) (w : World) (hL : T1.Laid w) :
    Calls Tryz.prog 3 #[.string s] w fun e w' => e = .returned (.bool true) ∧ Below w.heap.size w w' := by
  have HL := Lib.hid hL
  by_cases hs : s.size ≤ 9000
  · have g1 : ¬ (s.size : Int) > 9000 := by omega
    have PA := Lib.hid (parse_any s w hL (by omega))
    have PB := Lib.hid (fun w2 => qparse_any s w2 (by omega))
    clear hL hs
    go_enter Tryz.func3, Tryz.ntmps3
    go_wp2_with fail
    refine PA.out.mono ?_
    intro e w1 hh
    obtain ⟨t, u, a, c, rfl, hu5, hu, b1, hr⟩ := post_is hh
    obtain ⟨k, n, s0, A, li, ci, K, lk, ck, rfl⟩ := hu5
    have bz : Below w1.heap.size w1 (w1.alloc (.cells #[.int .i64 k, .int .i64 n, .string s0, .slice A li ci, .slice K lk ck] 26 (0, 0))) := (Below.refl _ _).alloc (Nat.le_refl _) _
    have B1 := Lib.hid (b1.trans (bz.mono b1.size))
    have X1 := Lib.hid (Box.new w1 (.int .i64 k) (.int .i64 n) (.string s0) (.slice A li ci) (.slice K lk ck))
    have R1 := Lib.hid ((Rd.kept hu bz).mono bz.size)
    have HR1 := Lib.hid hr
    clear b1 bz PA hu hh hr
    go_wp2_with fail
    generalize (w1.alloc (.cells #[.int .i64 k, .int .i64 n, .string s0, .slice A li ci, .slice K lk ck] 26 (0, 0))) = w2 at *
    refine (PB.out w2).mono ?_
    intro e w3 hh
    obtain ⟨t2, u, a2, c2, rfl, hu5, hu, b3, hr⟩ := post_is hh
    obtain ⟨rfl, rfl, rfl⟩ := post_same HR1.out hr
    obtain ⟨k2, n2, s2, A2, li2, ci2, K2, lk2, ck2, rfl⟩ := hu5
    have X3 := Lib.hid (X1.out.kept b3)
    have B3 := Lib.hid (B1.out.trans (b3.mono B1.out.size))
    have R3 := Lib.hid ((Rd.kept R1.out b3).mono b3.size)
    clear b3 X1 B1 R1 hh hr HR1
    have bz : Below w3.heap.size w3 (w3.alloc (.cells #[.int .i64 k2, .int .i64 n2, .string s2, .slice A2 li2 ci2, .slice K2 lk2 ck2] 26 (0, 0))) := (Below.refl _ _).alloc (Nat.le_refl _) _
    have X4 := Lib.hid (X3.out.kept bz)
    have B4 := Lib.hid (B3.out.trans (bz.mono B3.out.size))
    have Y4 := Lib.hid (Box.new w3 (.int .i64 k2) (.int .i64 n2) (.string s2) (.slice A2 li2 ci2) (.slice K2 lk2 ck2))
    have R4 := Lib.hid ((Rd.kept R3.out bz).mono bz.size)
    have S4 := Lib.hid ((Rd.kept hu bz).mono bz.size)
    clear bz hu PB g1 X3 B3 R3
    obtain ⟨x0, x1, x2, x3, x4⟩ := X4.out.cells
    obtain ⟨y0, y1, y2, y3, y4⟩ := Y4.out.cells
    go_wp2_with fail
    refine (equal_any t _ _ _ _ R4.out S4.out (Nat.le_refl _)).mono ?_
    rintro e w5 ⟨rfl, b5⟩
    have B5 := Lib.hid (B4.out.trans (b5.mono B4.out.size))
    clear b5 x0 x1 x2 x3 x4 y0 y1 y2 y3 y4 X4 Y4 B4 R4 S4
    go_wp2_with fail
    refine (jexample_any w5 (HL.out.below B5.out)).mono ?_
    rintro e w6 ⟨rfl, b6⟩
    have B6 := Lib.hid (B5.out.trans (b6.mono B5.out.size))
    clear b6
    go_wp2_with fail
    go_ret
    exact ⟨rfl, B6.out⟩
  · have g1 : (s.size : Int) > 9000 := by omega
    clear hL hs
    go_enter Tryz.func3, Tryz.ntmps3
    go_wp2_with fail
    refine (jexample_any w HL.out).mono ?_
    rintro e w4 ⟨rfl, b4⟩
    have B4 := Lib.hid b4
    clear b4
    go_wp2_with fail
    go_ret
    exact ⟨rfl, B4.out⟩
end Go.Proofs.YtcbajgcblfgmgaaGreatDoor
