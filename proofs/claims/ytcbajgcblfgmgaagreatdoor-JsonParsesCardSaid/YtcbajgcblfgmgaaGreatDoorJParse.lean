
/-
  Parse.
-/
import Derived.Test.YtcbajgcblfgmgaaGreatDoorJValue
namespace Go.Proofs.YtcbajgcblfgmgaaGreatDoor
open Go.RowKit
def ParsePost (w : World) (r : Except Er VT) (e : Ending) (w' : World) : Prop :=
  ((∃ t u, r = .ok t ∧ e = .returned (.tuple #[u, .int .i64 0, .int .i64 0]) ∧ RdS w' (Fresh w.heap.size w') u t) ∨
  (∃ x, r = .error x ∧ e = .returned (.tuple #[zeroV, .int .i64 x.1, .int .i64 x.2]))) ∧ Below w.heap.size w w'
theorem Bes.toBelow {p N : Nat} {w w' : World} (h : Bes p N w w') (hp : N ≤ p) : Below N w w' := ⟨h.os, h.tape, h.output, h.size, fun k hk => h.block k hk (by omega)⟩
theorem Below.five {N b : Nat} {w w' : World} (h : Below N w w') (hb : N ≤ b) (u0 u1 u2 u3 u4 : Value) : Below N w (((((w'.setCell ⟨b, 0, none⟩ u0).setCell ⟨b, 1, none⟩ u1).setCell ⟨b, 2, none⟩ u2).setCell ⟨b, 3, none⟩ u3).setCell ⟨b, 4, none⟩ u4) :=
  ((((h.setCell (p := ⟨b, 0, none⟩) hb u0).setCell (p := ⟨b, 1, none⟩) hb u1).setCell (p := ⟨b, 2, none⟩) hb u2).setCell (p := ⟨b, 3, none⟩) hb u3).setCell (p := ⟨b, 4, none⟩) hb u4
set_option maxRecDepth 100000 in
set_option maxHeartbeats 4000000 in
theorem parse_any (s : ByteArray) (w : World) (hL : T1.Laid w) (hs : s.size ≤ 1073741824) :
    Calls Tryz.prog 5 #[.string s] w (ParsePost w (parseR s)) := by
  have e1 : Below w.heap.size w (w.alloc (.cells #[.int .i64 0, .int .i64 0, .string ⟨#[]⟩, .slice none 0 0, .slice none 0 0] 26 (0, 0))) := (Below.refl _ _).alloc (Nat.le_refl _) _
  have e2 : Below w.heap.size w ((w.alloc (.cells #[.int .i64 0, .int .i64 0, .string ⟨#[]⟩, .slice none 0 0, .slice none 0 0] 26 (0, 0))).alloc (.cells #[.string s, .int .i64 0, .int .i64 0, .int .i64 0, .int .i64 0] 35 (0, 0))) := e1.alloc (by simp) _
  have hbox : PBox ((w.alloc (.cells #[.int .i64 0, .int .i64 0, .string ⟨#[]⟩, .slice none 0 0, .slice none 0 0] 26 (0, 0))).alloc (.cells #[.string s, .int .i64 0, .int .i64 0, .int .i64 0, .int .i64 0] 35 (0, 0))) (w.heap.size + 1) (.string s) (.int .i64 0) (.int .i64 0) (.int .i64 0) (.int .i64 0) := (by simp : (w.alloc (.cells #[.int .i64 0, .int .i64 0, .string ⟨#[]⟩, .slice none 0 0, .slice none 0 0] 26 (0, 0))).heap.size = w.heap.size + 1) ▸ heap_alloc_new (w.alloc (.cells #[.int .i64 0, .int .i64 0, .string ⟨#[]⟩, .slice none 0 0, .slice none 0 0] 26 (0, 0))) _
  have HP : Hid (PS ((w.alloc (.cells #[.int .i64 0, .int .i64 0, .string ⟨#[]⟩, .slice none 0 0, .slice none 0 0] 26 (0, 0))).alloc (.cells #[.string s, .int .i64 0, .int .i64 0, .int .i64 0, .int .i64 0] 35 (0, 0))) (w.heap.size + 1) s 0 0 0 0) := Lib.hid ⟨hbox, fun w' hb => hL.below (e2.trans (hb.mono (by omega))), Nat.zero_le _, hs, by omega⟩
  have Y := Lib.hid ((Box.new w (.int .i64 0) (.int .i64 0) (.string ⟨#[]⟩) (.slice none 0 0) (.slice none 0 0)).alloc (.cells #[.string s, .int .i64 0, .int .i64 0, .int .i64 0, .int .i64 0] 35 (0, 0)))
  have HB := Lib.hid e2
  have HPR : Hid (parseR s = match pv s (s.size + 1) 1 0 0 with
    | .error e => .error e
    | .ok (t, j, _) => if sk spL s j < s.size then .error (sk spL s j, 3) else .ok t) := Lib.hid rfl
  clear e1 e2 hbox hL
  go_enter Tryz.func5, Tryz.ntmps5
  go_wp2_with fail
  refine (val_any (w.heap.size + 1) s (s.size + 1) 1 (by omega) 0 0 ((w.alloc (.cells #[.int .i64 0, .int .i64 0, .string ⟨#[]⟩, .slice none 0 0, .slice none 0 0] 26 (0, 0))).alloc (.cells #[.string s, .int .i64 0, .int .i64 0, .int .i64 0, .int .i64 0] 35 (0, 0))) HP.out (by omega) (by omega)).mono ?_
  rintro e w1 (⟨t, j, m, u, hr, rfl, hu, hp, hb, _, _, _⟩ | ⟨x, j, m, u, hr, rfl, hu, hp, hb⟩)
  rotate_left
  · have E1 : Hid (parseR s = .error x) := Lib.hid (by rw [HPR.out, hr])
    obtain ⟨k5, n5, s5, A5, li5, ci5, K5, lk5, ck5, rfl⟩ := hu
    have bz : Below w1.heap.size w1 (w1.alloc (.cells #[.int .i64 k5, .int .i64 n5, .string s5, .slice A5 li5 ci5, .slice K5 lk5 ck5] 26 (0, 0))) := (Below.refl _ _).alloc (Nat.le_refl _) _
    have HP1 := Lib.hid (hp.kept bz)
    have YW : Hid (Box (w1.alloc (.cells #[.int .i64 k5, .int .i64 n5, .string s5, .slice A5 li5 ci5, .slice K5 lk5 ck5] 26 (0, 0))) w.heap.size (.int .i64 0) (.int .i64 0) (.string ⟨#[]⟩) (.slice none 0 0) (.slice none 0 0)) := Lib.hid (Box.kept ((hb.block _ (by simp <;> omega) (by omega)).trans Y.out) bz)
    have HBW := Lib.hid (HB.out.trans ((((hb.mono HB.out.size).toBelow (by omega)).trans (bz.mono (by have h8 := hb.size; have h9 := HB.out.size; omega)))))
    obtain ⟨q0, q1, q2, q3, q4⟩ := HP1.out.box.cells
    clear hr hp hb bz
    obtain ⟨y0, y1, y2, y3, y4⟩ := YW.out.cells
    have g0 := YW.out.frz 0
    have g1 := YW.out.frz 1
    have g2 := YW.out.frz 2
    have g3 := YW.out.frz 3
    have g4 := YW.out.frz 4
    have ZZ := Lib.hid (Box.five YW.out (.int .i64 0) (.int .i64 0) (.string ⟨#[]⟩) (.slice none 0 0) (.slice none 0 0)).cells
    go_wp2_with fail
    go_region
    all_goals
      go_wp2_with fail
      obtain ⟨z0, z1, z2, z3, z4⟩ := ZZ.out
      refine bodyPost_ret (v := .tuple #[zeroV, .int .i64 x.1, .int .i64 x.2]) (by simp [results, Tryz.results5, go_sem, zeroV, z0, z1, z2, z3, z4]) rfl ⟨.inr ⟨x, E1.out, rfl⟩, ?_⟩
      exact Below.five HBW.out.drew (Nat.le_refl _) _ _ _ _ _
  · obtain ⟨k5, n5, s5, A5, li5, ci5, K5, lk5, ck5, rfl⟩ := hu.fiveV
    have bz : Below w1.heap.size w1 (w1.alloc (.cells #[.int .i64 k5, .int .i64 n5, .string s5, .slice A5 li5 ci5, .slice K5 lk5 ck5] 26 (0, 0))) := (Below.refl _ _).alloc (Nat.le_refl _) _
    have HP1 := Lib.hid (hp.kept bz)
    have h8 := hb.size
    have h9 : (((w.alloc (.cells #[.int .i64 0, .int .i64 0, .string ⟨#[]⟩, .slice none 0 0, .slice none 0 0] 26 (0, 0))).alloc (.cells #[.string s, .int .i64 0, .int .i64 0, .int .i64 0, .int .i64 0] 35 (0, 0)))).heap.size = w.heap.size + 2 := by simp
    have YW : Hid (Box (w1.alloc (.cells #[.int .i64 k5, .int .i64 n5, .string s5, .slice A5 li5 ci5, .slice K5 lk5 ck5] 26 (0, 0))) w.heap.size (.int .i64 0) (.int .i64 0) (.string ⟨#[]⟩) (.slice none 0 0) (.slice none 0 0)) := Lib.hid (Box.kept ((hb.block _ (by simp <;> omega) (by omega)).trans Y.out) bz)
    have XW : Hid (Box (w1.alloc (.cells #[.int .i64 k5, .int .i64 n5, .string s5, .slice A5 li5 ci5, .slice K5 lk5 ck5] 26 (0, 0))) w1.heap.size (.int .i64 k5) (.int .i64 n5) (.string s5) (.slice A5 li5 ci5) (.slice K5 lk5 ck5)) := Lib.hid (Box.new w1 _ _ _ _ _)
    have HBW := Lib.hid (HB.out.trans ((((hb.mono HB.out.size).toBelow (by omega)).trans (bz.mono (by omega)))))
    have HU := Lib.hid hu
    have HBZ := Lib.hid bz
    have E0 : Hid (parseR s = if sk spL s j < s.size then .error (sk spL s j, 3) else .ok t) := Lib.hid (by rw [HPR.out, hr])
    have h1w : w.heap.size + 1 < w1.heap.size := by omega
    clear hr hp hb bz hu
    go_wp2_with fail
    refine (skip_any HP1.out ⟨#[32, 9, 10, 13]⟩ (by decide)).mono ?_
    rintro e w2 ⟨rfl, hp2, hb2⟩
    have hp2 : PS w2 (w.heap.size + 1) s (sk spL s j) m 0 0 := hp2
    generalize sk spL s j = i2 at *
    have hi2 := hp2.hi
    have h10 := hb2.size
    have h11 : (w1.alloc (.cells #[.int .i64 k5, .int .i64 n5, .string s5, .slice A5 li5 ci5, .slice K5 lk5 ck5] 26 (0, 0))).heap.size = w1.heap.size + 1 := by simp
    have HP2 := Lib.hid hp2
    have Y2 : Hid (Box w2 w.heap.size (.int .i64 0) (.int .i64 0) (.string ⟨#[]⟩) (.slice none 0 0) (.slice none 0 0)) := Lib.hid ((hb2.block _ (by omega) (by omega)).trans YW.out)
    have X2 : Hid (Box w2 w1.heap.size (.int .i64 k5) (.int .i64 n5) (.string s5) (.slice A5 li5 ci5) (.slice K5 lk5 ck5)) := Lib.hid ((hb2.block _ (by omega) (by omega)).trans XW.out)
    have HBW2 := Lib.hid (HBW.out.trans ((hb2.mono (by omega : w.heap.size ≤ _)).toBelow (by omega)))
    have HU2 : Hid (RdS w2 (fun b => w.heap.size + 2 ≤ b ∧ b < w1.heap.size) (.agg #[.int .i64 k5, .int .i64 n5, .string s5, .slice A5 li5 ci5, .slice K5 lk5 ck5]) t) := Lib.hid (HU.out.kept (fun b hb => (hb2.block b (by have := hb.2; omega) (by have := hb.1; omega)).trans (HBZ.out.block b hb.2)) (fun b hb => ⟨by have := hb.1; omega, hb.2⟩))
    clear hp2 hb2 HU HBZ HBW XW YW HP1
    obtain ⟨q0, q1, q2, q3, q4⟩ := HP2.out.box.cells
    by_cases hlt : i2 < s.size
    · have E1 := Lib.hid (E0.out.trans (if_pos hlt))
      have hlt' : (i2 : Int) < s.size := by omega
      obtain ⟨y0, y1, y2, y3, y4⟩ := Y2.out.cells
      have g0 := Y2.out.frz 0
      have g1 := Y2.out.frz 1
      have g2 := Y2.out.frz 2
      have g3 := Y2.out.frz 3
      have g4 := Y2.out.frz 4
      have ZZ := Lib.hid (Box.five Y2.out (.int .i64 0) (.int .i64 0) (.string ⟨#[]⟩) (.slice none 0 0) (.slice none 0 0)).cells
      go_wp2_with fail
      go_region
      all_goals
        go_wp2_with fail
        obtain ⟨z0, z1, z2, z3, z4⟩ := ZZ.out
        refine bodyPost_ret (v := .tuple #[zeroV, .int .i64 i2, .int .i64 3]) (by simp [results, Tryz.results5, go_sem, zeroV, z0, z1, z2, z3, z4]) rfl ⟨.inr ⟨(i2, 3), E1.out, rfl⟩, ?_⟩
        exact Below.five HBW2.out.drew (Nat.le_refl _) _ _ _ _ _
    · have E1 := Lib.hid (E0.out.trans (if_neg hlt))
      have hlt' : ¬ (i2 : Int) < s.size := by omega
      obtain ⟨x0, x1, x2, x3, x4⟩ := X2.out.cells
      obtain ⟨y0, y1, y2, y3, y4⟩ := Y2.out.cells
      have g0 := Y2.out.frz 0
      have g1 := Y2.out.frz 1
      have g2 := Y2.out.frz 2
      have g3 := Y2.out.frz 3
      have g4 := Y2.out.frz 4
      have ZZ := Lib.hid (Box.five Y2.out (.int .i64 k5) (.int .i64 n5) (.string s5) (.slice A5 li5 ci5) (.slice K5 lk5 ck5)).cells
      have hne : w1.heap.size ≠ w.heap.size := by omega
      go_wp2_with fail
      obtain ⟨z0, z1, z2, z3, z4⟩ := ZZ.out
      refine bodyPost_ret (v := .tuple #[.agg #[.int .i64 k5, .int .i64 n5, .string s5, .slice A5 li5 ci5, .slice K5 lk5 ck5], .int .i64 0, .int .i64 0]) (by simp [results, Tryz.results5, go_sem, z0, z1, z2, z3, z4]) rfl ⟨.inl ⟨t, _, E1.out, rfl, ?_⟩, ?_⟩
      · refine HU2.out.kept (fun b hb => ?_) (fun b hb => ⟨by have := hb.1; omega, ?_⟩)
        · have hk : b ≠ w.heap.size := by have := hb.1; omega
          rw [Below.heap_setCell _ _ _ _ hk, Below.heap_setCell _ _ _ _ hk, Below.heap_setCell _ _ _ _ hk, Below.heap_setCell _ _ _ _ hk, Below.heap_setCell _ _ _ _ hk]
        · have h12 := hb.2
          simp [World.setCell]
          omega
      · exact Below.five HBW2.out (Nat.le_refl _) _ _ _ _ _
end Go.Proofs.YtcbajgcblfgmgaaGreatDoor
