
/-
  Integers.
-/
import Derived.Test.YtcbajgcblfgmgaaGreatDoorJLit
import Derived.Test.YtcbajgcblfgmgaaGreatDoorNumPlain
import Derived.Test.YtcbajgcblfgmgaaGreatDoorMake
import Derived.Test.YtcbajgcblfgmgaaGreatDoorFacts2
namespace Go.Proofs.YtcbajgcblfgmgaaGreatDoor
open Go.RowKit
theorem Box.bes {W W' : World} {p N b : Nat} {c0 c1 c2 c3 c4 : Value} (h : Box W b c0 c1 c2 c3 c4) (hb : Bes p N W W') (hN : b < N) (hp : p < b) : Box W' b c0 c1 c2 c3 c4 := (hb.block b hN (by omega)).trans h
theorem PS.set {w : World} {p : Nat} {s : ByteArray} {i n : Nat} {ea c : Int} (h : PS w p s i n ea c) {a : Addr} (ha : p < a.block) (u : Value) : PS (w.setCell a u) p s i n ea c :=
  h.same ((Below.refl _ _).setCell ha u)
theorem PS.five {w : World} {p b : Nat} {s : ByteArray} {i n : Nat} {ea c : Int} (h : PS w p s i n ea c) (hb : p < b) (u0 u1 u2 u3 u4 : Value) : PS (((((w.setCell ⟨b, 0, none⟩ u0).setCell ⟨b, 1, none⟩ u1).setCell ⟨b, 2, none⟩ u2).setCell ⟨b, 3, none⟩ u3).setCell ⟨b, 4, none⟩ u4) p s i n ea c :=
  ((((h.set (a := ⟨b, 0, none⟩) hb u0).set (a := ⟨b, 1, none⟩) hb u1).set (a := ⟨b, 2, none⟩) hb u2).set (a := ⟨b, 3, none⟩) hb u3).set (a := ⟨b, 4, none⟩) hb u4
theorem Bes.five {p N b : Nat} {w w' : World} (h : Bes p N w w') (hb : N ≤ b) (u0 u1 u2 u3 u4 : Value) : Bes p N w (((((w'.setCell ⟨b, 0, none⟩ u0).setCell ⟨b, 1, none⟩ u1).setCell ⟨b, 2, none⟩ u2).setCell ⟨b, 3, none⟩ u3).setCell ⟨b, 4, none⟩ u4) :=
  h.trans (Bes.of ((((((Below.refl N w').setCell (p := ⟨b, 0, none⟩) hb u0).setCell (p := ⟨b, 1, none⟩) hb u1).setCell (p := ⟨b, 2, none⟩) hb u2).setCell (p := ⟨b, 3, none⟩) hb u3).setCell (p := ⟨b, 4, none⟩) hb u4))
def IntPost (w : World) (p : Nat) (s : ByteArray) (n : Nat) (r : Except Er (VT × Nat)) (e : Ending) (w' : World) : Prop :=
  (∃ k j, r = .ok (intT k, j) ∧ small k ∧ e = .returned (.tuple #[.agg #[.int .i64 2, .int .i64 k, .string ⟨#[]⟩, .slice none 0 0, .slice none 0 0], .bool true]) ∧ PS w' p s j n 0 0 ∧ Bes p w.heap.size w w') ∨
  (∃ x j, r = .error x ∧ e = .returned (.tuple #[zeroV, .bool false]) ∧ PS w' p s j n x.1 x.2 ∧ Bes p w.heap.size w w')
set_option maxRecDepth 100000 in
set_option maxHeartbeats 4000000 in
theorem integer_any {w : World} {p : Nat} {s : ByteArray} {i n : Nat} (h : PS w p s i n 0 0) :
    Calls Tryz.prog 22 #[pp p] w (IntPost w p s n (intR s i)) := by
  have hs := h.hs
  have hi := h.hi
  have hpw := h.lt
  have bz : Below w.heap.size w (w.alloc (.cells #[.int .i64 0, .int .i64 0, .string ⟨#[]⟩, .slice none 0 0, .slice none 0 0] 26 (0, 0))) := (Below.refl _ _).alloc (Nat.le_refl _) _
  have HP0 := Lib.hid (h.kept bz)
  have Y0 := Lib.hid (Box.new w (.int .i64 0) (.int .i64 0) (.string ⟨#[]⟩) (.slice none 0 0) (.slice none 0 0))
  have HB0 := Lib.hid (Bes.of (p := p) bz)
  clear h bz
  obtain ⟨q0, q1, q2, q3, q4⟩ := HP0.out.box.cells
  go_enter Tryz.func22, Tryz.ntmps22
  go_wp2_with fail
  refine (next_any HP0.out).mono ?_
  rintro e w1 ⟨rfl, hb⟩
  have HB1 := Lib.hid (HB0.out.trans ((Bes.of hb).mono HB0.out.size))
  have HP1 := Lib.hid (HP0.out.kept hb)
  have Y1 := Lib.hid (Y0.out.kept hb)
  clear hb q0 q1 q2 q3 q4 HP0 Y0 HB0
  obtain ⟨q0, q1, q2, q3, q4⟩ := HP1.out.box.cells
  have f1 := HP1.out.box.frz 1
  by_cases hc : bt s i = 45
  · have hcc : (((bt s i).toNat : Int) == 45) = true := u8_beq' 45 hc
    have hlt : i < s.size := lt_of_bt (by rw [hc]; decide)
    obtain ⟨i1, hi1⟩ : ∃ k, k = i + 1 := ⟨_, rfl⟩
    have E0 : Hid (intR s i = if isIn dnL (bt s i1) then (if (T1.numL (sub s i (if bt s i1 = 48 then i1 + 1 else sk dgL s (i1 + 1)))).2 = 0 then .ok (intT (T1.numL (sub s i (if bt s i1 = 48 then i1 + 1 else sk dgL s (i1 + 1)))).1, (if bt s i1 = 48 then i1 + 1 else sk dgL s (i1 + 1))) else .error (i, (T1.numL (sub s i (if bt s i1 = 48 then i1 + 1 else sk dgL s (i1 + 1)))).2)) else .error (i1, 3)) := Lib.hid (by
      subst hi1
      unfold intR; simp only [hc, if_true])
    have HP1b : Hid (PS (w1.setCell ⟨p, 1, none⟩ (.int .i64 ((i : Int) + 1))) p s i1 n 0 0) := Lib.hid (by subst hi1; have := HP1.out.at1 (j := i + 1) (by omega); simpa using this)
    have HB1b : Hid (Bes p w.heap.size w (w1.setCell ⟨p, 1, none⟩ (.int .i64 ((i : Int) + 1)))) := Lib.hid (HB1.out.set 1 _)
    have Y1b := Lib.hid (Y1.out.set (p := ⟨p, 1, none⟩) (Nat.ne_of_gt hpw) (.int .i64 ((i : Int) + 1)))
    have hii : i ≤ i1 := by omega
    clear hc hi1
    go_wp2_with fail
    refine (take_any HP1b.out ⟨#[49, 50, 51, 52, 53, 54, 55, 56, 57]⟩ (by decide)).mono ?_
    intro e w2 hh
    obtain ⟨j1, hr, rfl, hp, hb⟩ | ⟨x, j, hr, rfl, hp, hb⟩ := hh.parts
    rotate_left
    · have E1 : Hid (intR s i = .error x) := Lib.hid (by
        have hr : takeR s dnL i1 = .error x := hr
        unfold takeR at hr
        split at hr
        · cases hr
        · next h1 =>
          cases hr
          exact E0.out.trans (if_neg h1))
      have HPX := Lib.hid hp
      have HBX := Lib.hid (HB1b.out.trans (hb.mono HB1b.out.size))
      have YX := Lib.hid (Box.bes Y1b.out hb Y1b.out.lt hpw)
      clear hp hb hr hh q0 q1 q2 q3 q4 f1
      obtain ⟨y0, y1, y2, y3, y4⟩ := YX.out.cells
      have g0 := YX.out.frz 0
      have g1 := YX.out.frz 1
      have g2 := YX.out.frz 2
      have g3 := YX.out.frz 3
      have g4 := YX.out.frz 4
      have ZZ := Lib.hid (Box.five YX.out (.int .i64 0) (.int .i64 0) (.string ⟨#[]⟩) (.slice none 0 0) (.slice none 0 0)).cells
      go_wp2_with fail
      obtain ⟨z0, z1, z2, z3, z4⟩ := ZZ.out
      refine bodyPost_ret (v := .tuple #[zeroV, .bool false]) (by simp [results, Tryz.results22, go_sem, zeroV, z0, z1, z2, z3, z4]) rfl (.inr ⟨x, j, E1.out, rfl, ?_, ?_⟩)
      · exact PS.five HPX.out hpw _ _ _ _ _
      · exact Bes.five HBX.out (Nat.le_refl _) _ _ _ _ _
    have hr : takeR s dnL i1 = .ok j1 := hr
    have hin : isIn dnL (bt s i1) = true ∧ j1 = i1 + 1 := by
      unfold takeR at hr
      split at hr
      · next h1 => cases hr; exact ⟨h1, rfl⟩
      · cases hr
    obtain ⟨hin, rfl⟩ := hin
    have hlt1 : i1 < s.size := lt_of_in (by decide) hin
    have E2 := Lib.hid (E0.out.trans (if_pos hin))
    have HP2 := Lib.hid hp
    have HB2 := Lib.hid (HB1b.out.trans (hb.mono HB1b.out.size))
    have Y2 := Lib.hid (Box.bes Y1b.out hb Y1b.out.lt hpw)
    clear hp hb hr hh hin q0 q1 q2 q3 q4 f1
    obtain ⟨q0, q1, q2, q3, q4⟩ := HP2.out.box.cells
    have hb9 : bt s i1 = s[i1] := by unfold bt; rw [List.getD_eq_getElem?_getD, List.getElem?_eq_getElem (by rw [T1.size_eq]; exact hlt1)]; rfl
    by_cases h48 : bt s i1 = 48
    · have hcd : ((s[i1].toNat : Int) != 48) = false := by rw [← hb9]; exact u8_bne' 48 h48
      have E4 : Hid (intR s i = if (T1.numL (sub s i (i1 + 1))).2 = 0 then .ok (intT (T1.numL (sub s i (i1 + 1))).1, i1 + 1) else .error (i, (T1.numL (sub s i (i1 + 1))).2)) := Lib.hid (by have h := E2.out; simp only [h48, if_true] at h; exact h)
      clear h48 hb9
      go_wp2_with fail
      go_region
      go_wp2_with fail
      have HP3 := Lib.hid (HP2.out.kept (Below.refl _ w2).drew)
      have HB3 := Lib.hid (HB2.out.trans (Bes.of (Below.refl _ w2).drew))
      have Y3 := Lib.hid (Y2.out.kept (Below.refl _ w2).drew)
      clear q0 q1 q2 q3 q4
      refine wp_region_past (fun W => PS W p s (i1 + 1) n 0 0 ∧ Bes p w.heap.size w W ∧ Box W w.heap.size (.int .i64 0) (.int .i64 0) (.string ⟨#[]⟩) (.slice none 0 0) (.slice none 0 0)) ⟨HP3.out, HB3.out, Y3.out⟩ (by kernel_rfl) ?_
      intro W ⟨g1, g2, g3⟩ _
      obtain ⟨p0, p1, p2, p3, p4⟩ := g1.box.past
      have G1 := Lib.hid g1
      have G2 := Lib.hid g2
      have G3 := Lib.hid g3
      have l1 : (i : Int) ≤ ((i1 + 1 : Nat) : Int) := by omega
      have l2 : ((i1 + 1 : Nat) : Int) ≤ (s.size : Int) := by have := g1.hi; omega
      clear g1 g2 g3
      obtain ⟨⟨num, code⟩, hnc⟩ : ∃ r, T1.numL (sub s i (i1 + 1)) = r := ⟨_, rfl⟩
      have HNC := Lib.hid hnc
      have hsm : small num := by have := T1.num_bounds (sub s i (i1 + 1)); rw [hnc] at this; exact this
      clear hnc
      have C1 : Hid (∀ x : Past W, Calls Tryz.prog 45 #[.string (s.extract i (i1 + 1))] x.w fun e w'' => e = .returned (.tuple #[.int .i64 num, .int .i64 code]) ∧ ∃ y : Past W, w'' = y.w) :=
        Lib.hid fun x => past_of x ((T1.number_any _ x.w (G1.out.laid _ (x.b.mono (Nat.le_of_lt G1.out.lt))) (by rw [← T1.size_eq, sub_extract]; have := sub_len s i (i1 + 1); omega)).mono (fun e w' h => ⟨by rw [h.1, sub_extract, HNC.out]; rfl, h.2⟩))
      repeat (go_big_quiet_step (first | with_reducible exact C1.out _))
      refine wpQuiet_nil ?_
      intro _ hw'
      obtain ⟨x, rfl⟩ := hw'
      have HPx := Lib.hid (G1.out.kept x.b)
      have HBx := Lib.hid (G2.out.trans ((Bes.of x.b).mono G2.out.size))
      have Yx := Lib.hid (G3.out.kept x.b)
      clear p0 p1 p2 p3 p4
      generalize x.w = wx at *
      by_cases h0 : code = 0
      · subst h0
        have E5 : Hid (intR s i = .ok (intT num, i1 + 1)) := Lib.hid (by rw [E4.out, HNC.out]; rfl)
        obtain ⟨y0, y1, y2, y3, y4⟩ := Yx.out.cells
        have g0 := Yx.out.frz 0
        have g1 := Yx.out.frz 1
        have g2 := Yx.out.frz 2
        have g3 := Yx.out.frz 3
        have g4 := Yx.out.frz 4
        have ZZ := Lib.hid (Box.five Yx.out (.int .i64 2) (.int .i64 num) (.string ⟨#[]⟩) (.slice none 0 0) (.slice none 0 0)).cells
        go_wp2_with fail
        obtain ⟨z0, z1, z2, z3, z4⟩ := ZZ.out
        refine bodyPost_ret (v := .tuple #[.agg #[.int .i64 2, .int .i64 num, .string ⟨#[]⟩, .slice none 0 0, .slice none 0 0], .bool true]) (by simp [results, Tryz.results22, go_sem, z0, z1, z2, z3, z4]) rfl (.inl ⟨num, i1 + 1, E5.out, hsm, rfl, ?_, ?_⟩)
        · exact PS.five HPx.out hpw _ _ _ _ _
        · exact Bes.five HBx.out (Nat.le_refl _) _ _ _ _ _
      · have h0' : (code != 0) = true := by simp [h0]
        have E5 : Hid (intR s i = .error (i, code)) := Lib.hid (by rw [E4.out, HNC.out]; exact if_neg h0)
        clear h0
        go_wp2_with fail
        refine (fail_any HPx.out _ _).mono ?_
        rintro e w5 ⟨rfl, hp5, hb5⟩
        have HP5 := Lib.hid hp5
        have HB5 := Lib.hid (HBx.out.trans (hb5.mono HBx.out.size))
        have Y5 := Lib.hid (Box.bes Yx.out hb5 Yx.out.lt hpw)
        clear hp5 hb5
        obtain ⟨y0, y1, y2, y3, y4⟩ := Y5.out.cells
        have g0 := Y5.out.frz 0
        have g1 := Y5.out.frz 1
        have g2 := Y5.out.frz 2
        have g3 := Y5.out.frz 3
        have g4 := Y5.out.frz 4
        have ZZ := Lib.hid (Box.five Y5.out (.int .i64 0) (.int .i64 0) (.string ⟨#[]⟩) (.slice none 0 0) (.slice none 0 0)).cells
        go_wp2_with fail
        obtain ⟨z0, z1, z2, z3, z4⟩ := ZZ.out
        refine bodyPost_ret (v := .tuple #[zeroV, .bool false]) (by simp [results, Tryz.results22, go_sem, zeroV, z0, z1, z2, z3, z4]) rfl (.inr ⟨(i, code), i1 + 1, E5.out, rfl, ?_, ?_⟩)
        · exact PS.five HP5.out hpw _ _ _ _ _
        · exact Bes.five HB5.out (Nat.le_refl _) _ _ _ _ _
    · have hcd : ((s[i1].toNat : Int) != 48) = true := by rw [← hb9]; exact u8_bne 48 h48
      have E4 : Hid (intR s i = if (T1.numL (sub s i (sk dgL s (i1 + 1)))).2 = 0 then .ok (intT (T1.numL (sub s i (sk dgL s (i1 + 1)))).1, sk dgL s (i1 + 1)) else .error (i, (T1.numL (sub s i (sk dgL s (i1 + 1)))).2)) := Lib.hid (by have h := E2.out; simp only [h48, if_false] at h; exact h)
      clear h48 hb9
      go_wp2_with fail
      go_region
      go_wp2_with fail
      have HP3 := Lib.hid (HP2.out.kept (Below.refl _ w2).drew)
      have HB3 := Lib.hid (HB2.out.trans (Bes.of (Below.refl _ w2).drew))
      have Y3 := Lib.hid (Y2.out.kept (Below.refl _ w2).drew)
      clear q0 q1 q2 q3 q4
      refine (skip_any HP3.out ⟨#[48, 49, 50, 51, 52, 53, 54, 55, 56, 57]⟩ (by decide)).mono ?_
      rintro e w4 ⟨rfl, hp4, hb4⟩
      have hp4 : PS w4 p s (sk dgL s (i1 + 1)) n 0 0 := hp4
      have hski := sk_le dgL s (i1 + 1)
      generalize sk dgL s (i1 + 1) = i3 at *
      have HP4 := Lib.hid hp4
      have HB4 := Lib.hid (HB3.out.trans (hb4.mono HB3.out.size))
      have Y4 := Lib.hid (Box.bes Y3.out hb4 Y3.out.lt hpw)
      clear hp4 hb4
      go_wp2_with fail
      refine wp_region_past (fun W => PS W p s (i3) n 0 0 ∧ Bes p w.heap.size w W ∧ Box W w.heap.size (.int .i64 0) (.int .i64 0) (.string ⟨#[]⟩) (.slice none 0 0) (.slice none 0 0)) ⟨HP4.out, HB4.out, Y4.out⟩ (by kernel_rfl) ?_
      intro W ⟨g1, g2, g3⟩ _
      obtain ⟨p0, p1, p2, p3, p4⟩ := g1.box.past
      have G1 := Lib.hid g1
      have G2 := Lib.hid g2
      have G3 := Lib.hid g3
      have l1 : (i : Int) ≤ ((i3 : Nat) : Int) := by omega
      have l2 : ((i3 : Nat) : Int) ≤ (s.size : Int) := by have := g1.hi; omega
      clear g1 g2 g3
      obtain ⟨⟨num, code⟩, hnc⟩ : ∃ r, T1.numL (sub s i (i3)) = r := ⟨_, rfl⟩
      have HNC := Lib.hid hnc
      have hsm : small num := by have := T1.num_bounds (sub s i (i3)); rw [hnc] at this; exact this
      clear hnc
      have C1 : Hid (∀ x : Past W, Calls Tryz.prog 45 #[.string (s.extract i (i3))] x.w fun e w'' => e = .returned (.tuple #[.int .i64 num, .int .i64 code]) ∧ ∃ y : Past W, w'' = y.w) :=
        Lib.hid fun x => past_of x ((T1.number_any _ x.w (G1.out.laid _ (x.b.mono (Nat.le_of_lt G1.out.lt))) (by rw [← T1.size_eq, sub_extract]; have := sub_len s i (i3); omega)).mono (fun e w' h => ⟨by rw [h.1, sub_extract, HNC.out]; rfl, h.2⟩))
      repeat (go_big_quiet_step (first | with_reducible exact C1.out _))
      refine wpQuiet_nil ?_
      intro _ hw'
      obtain ⟨x, rfl⟩ := hw'
      have HPx := Lib.hid (G1.out.kept x.b)
      have HBx := Lib.hid (G2.out.trans ((Bes.of x.b).mono G2.out.size))
      have Yx := Lib.hid (G3.out.kept x.b)
      clear p0 p1 p2 p3 p4
      generalize x.w = wx at *
      by_cases h0 : code = 0
      · subst h0
        have E5 : Hid (intR s i = .ok (intT num, i3)) := Lib.hid (by rw [E4.out, HNC.out]; rfl)
        obtain ⟨y0, y1, y2, y3, y4⟩ := Yx.out.cells
        have g0 := Yx.out.frz 0
        have g1 := Yx.out.frz 1
        have g2 := Yx.out.frz 2
        have g3 := Yx.out.frz 3
        have g4 := Yx.out.frz 4
        have ZZ := Lib.hid (Box.five Yx.out (.int .i64 2) (.int .i64 num) (.string ⟨#[]⟩) (.slice none 0 0) (.slice none 0 0)).cells
        go_wp2_with fail
        obtain ⟨z0, z1, z2, z3, z4⟩ := ZZ.out
        refine bodyPost_ret (v := .tuple #[.agg #[.int .i64 2, .int .i64 num, .string ⟨#[]⟩, .slice none 0 0, .slice none 0 0], .bool true]) (by simp [results, Tryz.results22, go_sem, z0, z1, z2, z3, z4]) rfl (.inl ⟨num, i3, E5.out, hsm, rfl, ?_, ?_⟩)
        · exact PS.five HPx.out hpw _ _ _ _ _
        · exact Bes.five HBx.out (Nat.le_refl _) _ _ _ _ _
      · have h0' : (code != 0) = true := by simp [h0]
        have E5 : Hid (intR s i = .error (i, code)) := Lib.hid (by rw [E4.out, HNC.out]; exact if_neg h0)
        clear h0
        go_wp2_with fail
        refine (fail_any HPx.out _ _).mono ?_
        rintro e w5 ⟨rfl, hp5, hb5⟩
        have HP5 := Lib.hid hp5
        have HB5 := Lib.hid (HBx.out.trans (hb5.mono HBx.out.size))
        have Y5 := Lib.hid (Box.bes Yx.out hb5 Yx.out.lt hpw)
        clear hp5 hb5
        obtain ⟨y0, y1, y2, y3, y4⟩ := Y5.out.cells
        have g0 := Y5.out.frz 0
        have g1 := Y5.out.frz 1
        have g2 := Y5.out.frz 2
        have g3 := Y5.out.frz 3
        have g4 := Y5.out.frz 4
        have ZZ := Lib.hid (Box.five Y5.out (.int .i64 0) (.int .i64 0) (.string ⟨#[]⟩) (.slice none 0 0) (.slice none 0 0)).cells
        go_wp2_with fail
        obtain ⟨z0, z1, z2, z3, z4⟩ := ZZ.out
        refine bodyPost_ret (v := .tuple #[zeroV, .bool false]) (by simp [results, Tryz.results22, go_sem, zeroV, z0, z1, z2, z3, z4]) rfl (.inr ⟨(i, code), i3, E5.out, rfl, ?_, ?_⟩)
        · exact PS.five HP5.out hpw _ _ _ _ _
        · exact Bes.five HB5.out (Nat.le_refl _) _ _ _ _ _
  · have hcc : (((bt s i).toNat : Int) == 45) = false := u8_beq 45 hc
    obtain ⟨i1, hi1⟩ : ∃ k, k = i := ⟨_, rfl⟩
    have E0 : Hid (intR s i = if isIn dgL (bt s i1) then (if (T1.numL (sub s i (if bt s i1 = 48 then i1 + 1 else sk dgL s (i1 + 1)))).2 = 0 then .ok (intT (T1.numL (sub s i (if bt s i1 = 48 then i1 + 1 else sk dgL s (i1 + 1)))).1, (if bt s i1 = 48 then i1 + 1 else sk dgL s (i1 + 1))) else .error (i, (T1.numL (sub s i (if bt s i1 = 48 then i1 + 1 else sk dgL s (i1 + 1)))).2)) else .error (i1, 3)) := Lib.hid (by
      rw [hi1]
      unfold intR; simp only [hc, if_false])
    have HP1b : Hid (PS w1 p s i1 n 0 0) := Lib.hid (by rw [hi1]; exact HP1.out)
    have hii : i ≤ i1 := by omega
    clear hc hi1
    go_wp2_with fail
    refine (take_any HP1b.out ⟨#[48, 49, 50, 51, 52, 53, 54, 55, 56, 57]⟩ (by decide)).mono ?_
    intro e w2 hh
    obtain ⟨j1, hr, rfl, hp, hb⟩ | ⟨x, j, hr, rfl, hp, hb⟩ := hh.parts
    rotate_left
    · have E1 : Hid (intR s i = .error x) := Lib.hid (by
        have hr : takeR s dgL i1 = .error x := hr
        unfold takeR at hr
        split at hr
        · cases hr
        · next h1 =>
          cases hr
          exact E0.out.trans (if_neg h1))
      have HPX := Lib.hid hp
      have HBX := Lib.hid (HB1.out.trans (hb.mono HB1.out.size))
      have YX := Lib.hid (Box.bes Y1.out hb Y1.out.lt hpw)
      clear hp hb hr hh q0 q1 q2 q3 q4 f1
      obtain ⟨y0, y1, y2, y3, y4⟩ := YX.out.cells
      have g0 := YX.out.frz 0
      have g1 := YX.out.frz 1
      have g2 := YX.out.frz 2
      have g3 := YX.out.frz 3
      have g4 := YX.out.frz 4
      have ZZ := Lib.hid (Box.five YX.out (.int .i64 0) (.int .i64 0) (.string ⟨#[]⟩) (.slice none 0 0) (.slice none 0 0)).cells
      go_wp2_with fail
      obtain ⟨z0, z1, z2, z3, z4⟩ := ZZ.out
      refine bodyPost_ret (v := .tuple #[zeroV, .bool false]) (by simp [results, Tryz.results22, go_sem, zeroV, z0, z1, z2, z3, z4]) rfl (.inr ⟨x, j, E1.out, rfl, ?_, ?_⟩)
      · exact PS.five HPX.out hpw _ _ _ _ _
      · exact Bes.five HBX.out (Nat.le_refl _) _ _ _ _ _
    have hr : takeR s dgL i1 = .ok j1 := hr
    have hin : isIn dgL (bt s i1) = true ∧ j1 = i1 + 1 := by
      unfold takeR at hr
      split at hr
      · next h1 => cases hr; exact ⟨h1, rfl⟩
      · cases hr
    obtain ⟨hin, rfl⟩ := hin
    have hlt1 : i1 < s.size := lt_of_in (by decide) hin
    have E2 := Lib.hid (E0.out.trans (if_pos hin))
    have HP2 := Lib.hid hp
    have HB2 := Lib.hid (HB1.out.trans (hb.mono HB1.out.size))
    have Y2 := Lib.hid (Box.bes Y1.out hb Y1.out.lt hpw)
    clear hp hb hr hh hin q0 q1 q2 q3 q4 f1
    obtain ⟨q0, q1, q2, q3, q4⟩ := HP2.out.box.cells
    have hb9 : bt s i1 = s[i1] := by unfold bt; rw [List.getD_eq_getElem?_getD, List.getElem?_eq_getElem (by rw [T1.size_eq]; exact hlt1)]; rfl
    by_cases h48 : bt s i1 = 48
    · have hcd : ((s[i1].toNat : Int) != 48) = false := by rw [← hb9]; exact u8_bne' 48 h48
      have E4 : Hid (intR s i = if (T1.numL (sub s i (i1 + 1))).2 = 0 then .ok (intT (T1.numL (sub s i (i1 + 1))).1, i1 + 1) else .error (i, (T1.numL (sub s i (i1 + 1))).2)) := Lib.hid (by have h := E2.out; simp only [h48, if_true] at h; exact h)
      clear h48 hb9
      go_wp2_with fail
      go_region
      go_wp2_with fail
      have HP3 := Lib.hid (HP2.out.kept (Below.refl _ w2).drew)
      have HB3 := Lib.hid (HB2.out.trans (Bes.of (Below.refl _ w2).drew))
      have Y3 := Lib.hid (Y2.out.kept (Below.refl _ w2).drew)
      clear q0 q1 q2 q3 q4
      refine wp_region_past (fun W => PS W p s (i1 + 1) n 0 0 ∧ Bes p w.heap.size w W ∧ Box W w.heap.size (.int .i64 0) (.int .i64 0) (.string ⟨#[]⟩) (.slice none 0 0) (.slice none 0 0)) ⟨HP3.out, HB3.out, Y3.out⟩ (by kernel_rfl) ?_
      intro W ⟨g1, g2, g3⟩ _
      obtain ⟨p0, p1, p2, p3, p4⟩ := g1.box.past
      have G1 := Lib.hid g1
      have G2 := Lib.hid g2
      have G3 := Lib.hid g3
      have l1 : (i : Int) ≤ ((i1 + 1 : Nat) : Int) := by omega
      have l2 : ((i1 + 1 : Nat) : Int) ≤ (s.size : Int) := by have := g1.hi; omega
      clear g1 g2 g3
      obtain ⟨⟨num, code⟩, hnc⟩ : ∃ r, T1.numL (sub s i (i1 + 1)) = r := ⟨_, rfl⟩
      have HNC := Lib.hid hnc
      have hsm : small num := by have := T1.num_bounds (sub s i (i1 + 1)); rw [hnc] at this; exact this
      clear hnc
      have C1 : Hid (∀ x : Past W, Calls Tryz.prog 45 #[.string (s.extract i (i1 + 1))] x.w fun e w'' => e = .returned (.tuple #[.int .i64 num, .int .i64 code]) ∧ ∃ y : Past W, w'' = y.w) :=
        Lib.hid fun x => past_of x ((T1.number_any _ x.w (G1.out.laid _ (x.b.mono (Nat.le_of_lt G1.out.lt))) (by rw [← T1.size_eq, sub_extract]; have := sub_len s i (i1 + 1); omega)).mono (fun e w' h => ⟨by rw [h.1, sub_extract, HNC.out]; rfl, h.2⟩))
      repeat (go_big_quiet_step (first | with_reducible exact C1.out _))
      refine wpQuiet_nil ?_
      intro _ hw'
      obtain ⟨x, rfl⟩ := hw'
      have HPx := Lib.hid (G1.out.kept x.b)
      have HBx := Lib.hid (G2.out.trans ((Bes.of x.b).mono G2.out.size))
      have Yx := Lib.hid (G3.out.kept x.b)
      clear p0 p1 p2 p3 p4
      generalize x.w = wx at *
      by_cases h0 : code = 0
      · subst h0
        have E5 : Hid (intR s i = .ok (intT num, i1 + 1)) := Lib.hid (by rw [E4.out, HNC.out]; rfl)
        obtain ⟨y0, y1, y2, y3, y4⟩ := Yx.out.cells
        have g0 := Yx.out.frz 0
        have g1 := Yx.out.frz 1
        have g2 := Yx.out.frz 2
        have g3 := Yx.out.frz 3
        have g4 := Yx.out.frz 4
        have ZZ := Lib.hid (Box.five Yx.out (.int .i64 2) (.int .i64 num) (.string ⟨#[]⟩) (.slice none 0 0) (.slice none 0 0)).cells
        go_wp2_with fail
        obtain ⟨z0, z1, z2, z3, z4⟩ := ZZ.out
        refine bodyPost_ret (v := .tuple #[.agg #[.int .i64 2, .int .i64 num, .string ⟨#[]⟩, .slice none 0 0, .slice none 0 0], .bool true]) (by simp [results, Tryz.results22, go_sem, z0, z1, z2, z3, z4]) rfl (.inl ⟨num, i1 + 1, E5.out, hsm, rfl, ?_, ?_⟩)
        · exact PS.five HPx.out hpw _ _ _ _ _
        · exact Bes.five HBx.out (Nat.le_refl _) _ _ _ _ _
      · have h0' : (code != 0) = true := by simp [h0]
        have E5 : Hid (intR s i = .error (i, code)) := Lib.hid (by rw [E4.out, HNC.out]; exact if_neg h0)
        clear h0
        go_wp2_with fail
        refine (fail_any HPx.out _ _).mono ?_
        rintro e w5 ⟨rfl, hp5, hb5⟩
        have HP5 := Lib.hid hp5
        have HB5 := Lib.hid (HBx.out.trans (hb5.mono HBx.out.size))
        have Y5 := Lib.hid (Box.bes Yx.out hb5 Yx.out.lt hpw)
        clear hp5 hb5
        obtain ⟨y0, y1, y2, y3, y4⟩ := Y5.out.cells
        have g0 := Y5.out.frz 0
        have g1 := Y5.out.frz 1
        have g2 := Y5.out.frz 2
        have g3 := Y5.out.frz 3
        have g4 := Y5.out.frz 4
        have ZZ := Lib.hid (Box.five Y5.out (.int .i64 0) (.int .i64 0) (.string ⟨#[]⟩) (.slice none 0 0) (.slice none 0 0)).cells
        go_wp2_with fail
        obtain ⟨z0, z1, z2, z3, z4⟩ := ZZ.out
        refine bodyPost_ret (v := .tuple #[zeroV, .bool false]) (by simp [results, Tryz.results22, go_sem, zeroV, z0, z1, z2, z3, z4]) rfl (.inr ⟨(i, code), i1 + 1, E5.out, rfl, ?_, ?_⟩)
        · exact PS.five HP5.out hpw _ _ _ _ _
        · exact Bes.five HB5.out (Nat.le_refl _) _ _ _ _ _
    · have hcd : ((s[i1].toNat : Int) != 48) = true := by rw [← hb9]; exact u8_bne 48 h48
      have E4 : Hid (intR s i = if (T1.numL (sub s i (sk dgL s (i1 + 1)))).2 = 0 then .ok (intT (T1.numL (sub s i (sk dgL s (i1 + 1)))).1, sk dgL s (i1 + 1)) else .error (i, (T1.numL (sub s i (sk dgL s (i1 + 1)))).2)) := Lib.hid (by have h := E2.out; simp only [h48, if_false] at h; exact h)
      clear h48 hb9
      go_wp2_with fail
      go_region
      go_wp2_with fail
      have HP3 := Lib.hid (HP2.out.kept (Below.refl _ w2).drew)
      have HB3 := Lib.hid (HB2.out.trans (Bes.of (Below.refl _ w2).drew))
      have Y3 := Lib.hid (Y2.out.kept (Below.refl _ w2).drew)
      clear q0 q1 q2 q3 q4
      refine (skip_any HP3.out ⟨#[48, 49, 50, 51, 52, 53, 54, 55, 56, 57]⟩ (by decide)).mono ?_
      rintro e w4 ⟨rfl, hp4, hb4⟩
      have hp4 : PS w4 p s (sk dgL s (i1 + 1)) n 0 0 := hp4
      have hski := sk_le dgL s (i1 + 1)
      generalize sk dgL s (i1 + 1) = i3 at *
      have HP4 := Lib.hid hp4
      have HB4 := Lib.hid (HB3.out.trans (hb4.mono HB3.out.size))
      have Y4 := Lib.hid (Box.bes Y3.out hb4 Y3.out.lt hpw)
      clear hp4 hb4
      go_wp2_with fail
      refine wp_region_past (fun W => PS W p s (i3) n 0 0 ∧ Bes p w.heap.size w W ∧ Box W w.heap.size (.int .i64 0) (.int .i64 0) (.string ⟨#[]⟩) (.slice none 0 0) (.slice none 0 0)) ⟨HP4.out, HB4.out, Y4.out⟩ (by kernel_rfl) ?_
      intro W ⟨g1, g2, g3⟩ _
      obtain ⟨p0, p1, p2, p3, p4⟩ := g1.box.past
      have G1 := Lib.hid g1
      have G2 := Lib.hid g2
      have G3 := Lib.hid g3
      have l1 : (i : Int) ≤ ((i3 : Nat) : Int) := by omega
      have l2 : ((i3 : Nat) : Int) ≤ (s.size : Int) := by have := g1.hi; omega
      clear g1 g2 g3
      obtain ⟨⟨num, code⟩, hnc⟩ : ∃ r, T1.numL (sub s i (i3)) = r := ⟨_, rfl⟩
      have HNC := Lib.hid hnc
      have hsm : small num := by have := T1.num_bounds (sub s i (i3)); rw [hnc] at this; exact this
      clear hnc
      have C1 : Hid (∀ x : Past W, Calls Tryz.prog 45 #[.string (s.extract i (i3))] x.w fun e w'' => e = .returned (.tuple #[.int .i64 num, .int .i64 code]) ∧ ∃ y : Past W, w'' = y.w) :=
        Lib.hid fun x => past_of x ((T1.number_any _ x.w (G1.out.laid _ (x.b.mono (Nat.le_of_lt G1.out.lt))) (by rw [← T1.size_eq, sub_extract]; have := sub_len s i (i3); omega)).mono (fun e w' h => ⟨by rw [h.1, sub_extract, HNC.out]; rfl, h.2⟩))
      repeat (go_big_quiet_step (first | with_reducible exact C1.out _))
      refine wpQuiet_nil ?_
      intro _ hw'
      obtain ⟨x, rfl⟩ := hw'
      have HPx := Lib.hid (G1.out.kept x.b)
      have HBx := Lib.hid (G2.out.trans ((Bes.of x.b).mono G2.out.size))
      have Yx := Lib.hid (G3.out.kept x.b)
      clear p0 p1 p2 p3 p4
      generalize x.w = wx at *
      by_cases h0 : code = 0
      · subst h0
        have E5 : Hid (intR s i = .ok (intT num, i3)) := Lib.hid (by rw [E4.out, HNC.out]; rfl)
        obtain ⟨y0, y1, y2, y3, y4⟩ := Yx.out.cells
        have g0 := Yx.out.frz 0
        have g1 := Yx.out.frz 1
        have g2 := Yx.out.frz 2
        have g3 := Yx.out.frz 3
        have g4 := Yx.out.frz 4
        have ZZ := Lib.hid (Box.five Yx.out (.int .i64 2) (.int .i64 num) (.string ⟨#[]⟩) (.slice none 0 0) (.slice none 0 0)).cells
        go_wp2_with fail
        obtain ⟨z0, z1, z2, z3, z4⟩ := ZZ.out
        refine bodyPost_ret (v := .tuple #[.agg #[.int .i64 2, .int .i64 num, .string ⟨#[]⟩, .slice none 0 0, .slice none 0 0], .bool true]) (by simp [results, Tryz.results22, go_sem, z0, z1, z2, z3, z4]) rfl (.inl ⟨num, i3, E5.out, hsm, rfl, ?_, ?_⟩)
        · exact PS.five HPx.out hpw _ _ _ _ _
        · exact Bes.five HBx.out (Nat.le_refl _) _ _ _ _ _
      · have h0' : (code != 0) = true := by simp [h0]
        have E5 : Hid (intR s i = .error (i, code)) := Lib.hid (by rw [E4.out, HNC.out]; exact if_neg h0)
        clear h0
        go_wp2_with fail
        refine (fail_any HPx.out _ _).mono ?_
        rintro e w5 ⟨rfl, hp5, hb5⟩
        have HP5 := Lib.hid hp5
        have HB5 := Lib.hid (HBx.out.trans (hb5.mono HBx.out.size))
        have Y5 := Lib.hid (Box.bes Yx.out hb5 Yx.out.lt hpw)
        clear hp5 hb5
        obtain ⟨y0, y1, y2, y3, y4⟩ := Y5.out.cells
        have g0 := Y5.out.frz 0
        have g1 := Y5.out.frz 1
        have g2 := Y5.out.frz 2
        have g3 := Y5.out.frz 3
        have g4 := Y5.out.frz 4
        have ZZ := Lib.hid (Box.five Y5.out (.int .i64 0) (.int .i64 0) (.string ⟨#[]⟩) (.slice none 0 0) (.slice none 0 0)).cells
        go_wp2_with fail
        obtain ⟨z0, z1, z2, z3, z4⟩ := ZZ.out
        refine bodyPost_ret (v := .tuple #[zeroV, .bool false]) (by simp [results, Tryz.results22, go_sem, zeroV, z0, z1, z2, z3, z4]) rfl (.inr ⟨(i, code), i3, E5.out, rfl, ?_, ?_⟩)
        · exact PS.five HP5.out hpw _ _ _ _ _
        · exact Bes.five HB5.out (Nat.le_refl _) _ _ _ _ _
end Go.Proofs.YtcbajgcblfgmgaaGreatDoor
