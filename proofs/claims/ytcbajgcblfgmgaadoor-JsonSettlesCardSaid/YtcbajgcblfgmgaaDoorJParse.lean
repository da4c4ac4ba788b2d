
/-
  Parse. Writing into a strings.Builder.
-/
import Derived.Test.YtcbajgcblfgmgaaDoorJValue
import Derived.Test.YtcbajgcblfgmgaaDoorShelf
import Derived.Shelf.Strings.BuilderK
namespace Go.Proofs.YtcbajgcblfgmgaaDoor
open Go.RowKit
def ParsePost (w : World) (r : Except Er VT) (e : Ending) (w' : World) : Prop :=
  ((∃ t u, r = .ok t ∧ e = .returned (.tuple #[u, .int .i64 0, .int .i64 0]) ∧ RdS w' (Fresh w.heap.size w') u t) ∨
  (∃ x, r = .error x ∧ e = .returned (.tuple #[zeroV, .int .i64 x.1, .int .i64 x.2]))) ∧ Below w.heap.size w w'
theorem Bes.toBelow {p N : Nat} {w w' : World} (h : Bes p N w w') (hp : N ≤ p) : Below N w w' := ⟨h.os, h.tape, h.output, h.size, fun k hk => h.block k hk (by omega)⟩
theorem Below.five {N b : Nat} {w w' : World} (h : Below N w w') (hb : N ≤ b) (u0 u1 u2 u3 u4 : Value) : Below N w (((((w'.setCell ⟨b, 0, none⟩ u0).setCell ⟨b, 1, none⟩ u1).setCell ⟨b, 2, none⟩ u2).setCell ⟨b, 3, none⟩ u3).setCell ⟨b, 4, none⟩ u4) :=
  ((((h.setCell (p := ⟨b, 0, none⟩) hb u0).setCell (p := ⟨b, 1, none⟩) hb u1).setCell (p := ⟨b, 2, none⟩) hb u2).setCell (p := ⟨b, 3, none⟩) hb u3).setCell (p := ⟨b, 4, none⟩) hb u4
set_option maxRecDepth 100000 in
set_option maxHeartbeats 4000000 in
theorem parse_any (s : ByteArray) (w : World) (hL : T1.Laid w) (hs : s.size ≤ 1073741824) :
    Calls Tryd.prog 10 #[.string s] w (ParsePost w (parseR s)) := by
  have e1 : Below w.heap.size w (w.alloc (.cells #[.int .i64 0, .int .i64 0, .string ⟨#[]⟩, .slice none 0 0, .slice none 0 0] 25 (0, 0))) := (Below.refl _ _).alloc (Nat.le_refl _) _
  have e2 : Below w.heap.size w ((w.alloc (.cells #[.int .i64 0, .int .i64 0, .string ⟨#[]⟩, .slice none 0 0, .slice none 0 0] 25 (0, 0))).alloc (.cells #[.string s, .int .i64 0, .int .i64 0, .int .i64 0, .int .i64 0] 47 (0, 0))) := e1.alloc (by simp) _
  have hbox : PBox ((w.alloc (.cells #[.int .i64 0, .int .i64 0, .string ⟨#[]⟩, .slice none 0 0, .slice none 0 0] 25 (0, 0))).alloc (.cells #[.string s, .int .i64 0, .int .i64 0, .int .i64 0, .int .i64 0] 47 (0, 0))) (w.heap.size + 1) (.string s) (.int .i64 0) (.int .i64 0) (.int .i64 0) (.int .i64 0) := (by simp : (w.alloc (.cells #[.int .i64 0, .int .i64 0, .string ⟨#[]⟩, .slice none 0 0, .slice none 0 0] 25 (0, 0))).heap.size = w.heap.size + 1) ▸ heap_alloc_new (w.alloc (.cells #[.int .i64 0, .int .i64 0, .string ⟨#[]⟩, .slice none 0 0, .slice none 0 0] 25 (0, 0))) _
  have HP : Hid (PS ((w.alloc (.cells #[.int .i64 0, .int .i64 0, .string ⟨#[]⟩, .slice none 0 0, .slice none 0 0] 25 (0, 0))).alloc (.cells #[.string s, .int .i64 0, .int .i64 0, .int .i64 0, .int .i64 0] 47 (0, 0))) (w.heap.size + 1) s 0 0 0 0) := Lib.hid ⟨hbox, fun w' hb => hL.below (e2.trans (hb.mono (by omega))), Nat.zero_le _, hs, by omega⟩
  have Y := Lib.hid ((Box.new w (.int .i64 0) (.int .i64 0) (.string ⟨#[]⟩) (.slice none 0 0) (.slice none 0 0)).alloc (.cells #[.string s, .int .i64 0, .int .i64 0, .int .i64 0, .int .i64 0] 47 (0, 0)))
  have HB := Lib.hid e2
  have HPR : Hid (parseR s = match pv s (s.size + 1) 1 0 0 with
    | .error e => .error e
    | .ok (t, j, _) => if sk spL s j < s.size then .error (sk spL s j, 3) else .ok t) := Lib.hid rfl
  clear e1 e2 hbox hL
  go_enter Tryd.func10, Tryd.ntmps10
  go_wp2_with fail
  refine (val_any (w.heap.size + 1) s (s.size + 1) 1 (by omega) 0 0 ((w.alloc (.cells #[.int .i64 0, .int .i64 0, .string ⟨#[]⟩, .slice none 0 0, .slice none 0 0] 25 (0, 0))).alloc (.cells #[.string s, .int .i64 0, .int .i64 0, .int .i64 0, .int .i64 0] 47 (0, 0))) HP.out (by omega) (by omega)).mono ?_
  rintro e w1 (⟨t, j, m, u, hr, rfl, hu, hp, hb, _, _, _⟩ | ⟨x, j, m, u, hr, rfl, hu, hp, hb⟩)
  rotate_left
  · have E1 : Hid (parseR s = .error x) := Lib.hid (by rw [HPR.out, hr])
    obtain ⟨k5, n5, s5, A5, li5, ci5, K5, lk5, ck5, rfl⟩ := hu
    have bz : Below w1.heap.size w1 (w1.alloc (.cells #[.int .i64 k5, .int .i64 n5, .string s5, .slice A5 li5 ci5, .slice K5 lk5 ck5] 25 (0, 0))) := (Below.refl _ _).alloc (Nat.le_refl _) _
    have HP1 := Lib.hid (hp.kept bz)
    have YW : Hid (Box (w1.alloc (.cells #[.int .i64 k5, .int .i64 n5, .string s5, .slice A5 li5 ci5, .slice K5 lk5 ck5] 25 (0, 0))) w.heap.size (.int .i64 0) (.int .i64 0) (.string ⟨#[]⟩) (.slice none 0 0) (.slice none 0 0)) := Lib.hid (Box.kept ((hb.block _ (by simp <;> omega) (by omega)).trans Y.out) bz)
    have HBW := Lib.hid (HB.out.trans ((((hb.mono HB.out.size).toBelow (by omega)).trans (bz.mono (by have h8 := hb.size; have h9 := HB.out.size; omega)))))
    obtain ⟨q0, q1, q2, q3, q4⟩ := HP1.out.box.cells
    clear hr hp hb bz
    obtain ⟨y0, y1, y2, y3, y4⟩ := YW.out.cells
    have g0 := YW.out.frz 0
    have g1 := YW.out.frz 1
    have g2 := YW.out.frz 2
    have g3 := YW.out.frz 3
    have g4 := YW.out.frz 4
    have ZZ := Lib.hid (Box.five YW.out (.int .i64 0) (.int .i64 0) (.string ⟨#[]⟩) (.slice none 0 0) (.slice none 0 0)).cells
    go_wp2_with fail
    go_region
    all_goals
      go_wp2_with fail
      obtain ⟨z0, z1, z2, z3, z4⟩ := ZZ.out
      refine bodyPost_ret (v := .tuple #[zeroV, .int .i64 x.1, .int .i64 x.2]) (by simp [results, Tryd.results10, go_sem, zeroV, z0, z1, z2, z3, z4]) rfl ⟨.inr ⟨x, E1.out, rfl⟩, ?_⟩
      exact Below.five HBW.out.drew (Nat.le_refl _) _ _ _ _ _
  · obtain ⟨k5, n5, s5, A5, li5, ci5, K5, lk5, ck5, rfl⟩ := hu.fiveV
    have bz : Below w1.heap.size w1 (w1.alloc (.cells #[.int .i64 k5, .int .i64 n5, .string s5, .slice A5 li5 ci5, .slice K5 lk5 ck5] 25 (0, 0))) := (Below.refl _ _).alloc (Nat.le_refl _) _
    have HP1 := Lib.hid (hp.kept bz)
    have h8 := hb.size
    have h9 : (((w.alloc (.cells #[.int .i64 0, .int .i64 0, .string ⟨#[]⟩, .slice none 0 0, .slice none 0 0] 25 (0, 0))).alloc (.cells #[.string s, .int .i64 0, .int .i64 0, .int .i64 0, .int .i64 0] 47 (0, 0)))).heap.size = w.heap.size + 2 := by simp
    have YW : Hid (Box (w1.alloc (.cells #[.int .i64 k5, .int .i64 n5, .string s5, .slice A5 li5 ci5, .slice K5 lk5 ck5] 25 (0, 0))) w.heap.size (.int .i64 0) (.int .i64 0) (.string ⟨#[]⟩) (.slice none 0 0) (.slice none 0 0)) := Lib.hid (Box.kept ((hb.block _ (by simp <;> omega) (by omega)).trans Y.out) bz)
    have XW : Hid (Box (w1.alloc (.cells #[.int .i64 k5, .int .i64 n5, .string s5, .slice A5 li5 ci5, .slice K5 lk5 ck5] 25 (0, 0))) w1.heap.size (.int .i64 k5) (.int .i64 n5) (.string s5) (.slice A5 li5 ci5) (.slice K5 lk5 ck5)) := Lib.hid (Box.new w1 _ _ _ _ _)
    have HBW := Lib.hid (HB.out.trans ((((hb.mono HB.out.size).toBelow (by omega)).trans (bz.mono (by omega)))))
    have HU := Lib.hid hu
    have HBZ := Lib.hid bz
    have E0 : Hid (parseR s = if sk spL s j < s.size then .error (sk spL s j, 3) else .ok t) := Lib.hid (by rw [HPR.out, hr])
    have h1w : w.heap.size + 1 < w1.heap.size := by omega
    clear hr hp hb bz hu
    go_wp2_with fail
    refine (skip_any HP1.out ⟨#[32, 9, 10, 13]⟩ (by decide)).mono ?_
    rintro e w2 ⟨rfl, hp2, hb2⟩
    have hp2 : PS w2 (w.heap.size + 1) s (sk spL s j) m 0 0 := hp2
    generalize sk spL s j = i2 at *
    have hi2 := hp2.hi
    have h10 := hb2.size
    have h11 : (w1.alloc (.cells #[.int .i64 k5, .int .i64 n5, .string s5, .slice A5 li5 ci5, .slice K5 lk5 ck5] 25 (0, 0))).heap.size = w1.heap.size + 1 := by simp
    have HP2 := Lib.hid hp2
    have Y2 : Hid (Box w2 w.heap.size (.int .i64 0) (.int .i64 0) (.string ⟨#[]⟩) (.slice none 0 0) (.slice none 0 0)) := Lib.hid ((hb2.block _ (by omega) (by omega)).trans YW.out)
    have X2 : Hid (Box w2 w1.heap.size (.int .i64 k5) (.int .i64 n5) (.string s5) (.slice A5 li5 ci5) (.slice K5 lk5 ck5)) := Lib.hid ((hb2.block _ (by omega) (by omega)).trans XW.out)
    have HBW2 := Lib.hid (HBW.out.trans ((hb2.mono (by omega : w.heap.size ≤ _)).toBelow (by omega)))
    have HU2 : Hid (RdS w2 (fun b => w.heap.size + 2 ≤ b ∧ b < w1.heap.size) (.agg #[.int .i64 k5, .int .i64 n5, .string s5, .slice A5 li5 ci5, .slice K5 lk5 ck5]) t) := Lib.hid (HU.out.kept (fun b hb => (hb2.block b (by have := hb.2; omega) (by have := hb.1; omega)).trans (HBZ.out.block b hb.2)) (fun b hb => ⟨by have := hb.1; omega, hb.2⟩))
    clear hp2 hb2 HU HBZ HBW XW YW HP1
    obtain ⟨q0, q1, q2, q3, q4⟩ := HP2.out.box.cells
    by_cases hlt : i2 < s.size
    · have E1 := Lib.hid (E0.out.trans (if_pos hlt))
      have hlt' : (i2 : Int) < s.size := by omega
      obtain ⟨y0, y1, y2, y3, y4⟩ := Y2.out.cells
      have g0 := Y2.out.frz 0
      have g1 := Y2.out.frz 1
      have g2 := Y2.out.frz 2
      have g3 := Y2.out.frz 3
      have g4 := Y2.out.frz 4
      have ZZ := Lib.hid (Box.five Y2.out (.int .i64 0) (.int .i64 0) (.string ⟨#[]⟩) (.slice none 0 0) (.slice none 0 0)).cells
      go_wp2_with fail
      go_region
      all_goals
        go_wp2_with fail
        obtain ⟨z0, z1, z2, z3, z4⟩ := ZZ.out
        refine bodyPost_ret (v := .tuple #[zeroV, .int .i64 i2, .int .i64 3]) (by simp [results, Tryd.results10, go_sem, zeroV, z0, z1, z2, z3, z4]) rfl ⟨.inr ⟨(i2, 3), E1.out, rfl⟩, ?_⟩
        exact Below.five HBW2.out.drew (Nat.le_refl _) _ _ _ _ _
    · have E1 := Lib.hid (E0.out.trans (if_neg hlt))
      have hlt' : ¬ (i2 : Int) < s.size := by omega
      obtain ⟨x0, x1, x2, x3, x4⟩ := X2.out.cells
      obtain ⟨y0, y1, y2, y3, y4⟩ := Y2.out.cells
      have g0 := Y2.out.frz 0
      have g1 := Y2.out.frz 1
      have g2 := Y2.out.frz 2
      have g3 := Y2.out.frz 3
      have g4 := Y2.out.frz 4
      have ZZ := Lib.hid (Box.five Y2.out (.int .i64 k5) (.int .i64 n5) (.string s5) (.slice A5 li5 ci5) (.slice K5 lk5 ck5)).cells
      have hne : w1.heap.size ≠ w.heap.size := by omega
      go_wp2_with fail
      obtain ⟨z0, z1, z2, z3, z4⟩ := ZZ.out
      refine bodyPost_ret (v := .tuple #[.agg #[.int .i64 k5, .int .i64 n5, .string s5, .slice A5 li5 ci5, .slice K5 lk5 ck5], .int .i64 0, .int .i64 0]) (by simp [results, Tryd.results10, go_sem, z0, z1, z2, z3, z4]) rfl ⟨.inl ⟨t, _, E1.out, rfl, ?_⟩, ?_⟩
      · refine HU2.out.kept (fun b hb => ?_) (fun b hb => ⟨by have := hb.1; omega, ?_⟩)
        · have hk : b ≠ w.heap.size := by have := hb.1; omega
          rw [Below.heap_setCell _ _ _ _ hk, Below.heap_setCell _ _ _ _ hk, Below.heap_setCell _ _ _ _ hk, Below.heap_setCell _ _ _ _ hk, Below.heap_setCell _ _ _ _ hk]
        · have h12 := hb.2
          simp [World.setCell]
          omega
      · exact Below.five HBW2.out (Nat.le_refl _) _ _ _ _ _
end Go.Proofs.YtcbajgcblfgmgaaDoor
namespace Go.Proofs.YtcbajgcblfgmgaaDoor
open Go.RowKit
def layW : Go.Shelf.Ren := ⟨fun | 166 => 21 | 167 => 43 | 240 => 39 | 276 => 57 | n => n, fun | 0 => 0 | 3 => 3 | 4 => 4 | 5 => 5 | 9 => 9 | 20 => 20 | 37 => 41 | 70 => 40 | 72 => 43 | 75 => 54 | 80 => 45 | 164 => 80 | n => n, fun n => n⟩
theorem lay166 : Go.Proofs.Lays.n166 Tryd.prog layW := {
  mixed := by kernel_rfl
  f166 := Tryd.func21.trans (congrArg some (by kernel_rfl))
  f240 := Tryd.func39.trans (congrArg some (by kernel_rfl))
  f276 := Tryd.func57.trans (congrArg some (by kernel_rfl))
  t0 := Tryd.underlying0
  a0 := Tryd.isAgg0
  z0 := Tryd.sizeOf0
  v0 := Tryd.zeroValue0
  t3 := Tryd.underlying3
  a3 := Tryd.isAgg3
  z3 := Tryd.sizeOf3
  v3 := Tryd.zeroValue3
  t4 := Tryd.underlying4
  a4 := Tryd.isAgg4
  z4 := Tryd.sizeOf4
  v4 := Tryd.zeroValue4
  t9 := Tryd.underlying9
  a9 := Tryd.isAgg9
  z9 := Tryd.sizeOf9
  v9 := Tryd.zeroValue9
  t20 := Tryd.underlying20
  a20 := Tryd.isAgg20
  z20 := Tryd.sizeOf20
  v20 := Tryd.zeroValue20
  t37 := Tryd.underlying41
  a37 := Tryd.isAgg41
  z37 := Tryd.sizeOf41
  v37 := Tryd.zeroValue41
  t70 := Tryd.underlying40
  a70 := Tryd.isAgg40
  z70 := Tryd.sizeOf40
  v70 := Tryd.zeroValue40
  t72 := Tryd.underlying43
  a72 := Tryd.isAgg43
  z72 := Tryd.sizeOf43
  v72 := Tryd.zeroValue43
  t75 := Tryd.underlying54
  a75 := Tryd.isAgg54
  z75 := Tryd.sizeOf54
  v75 := Tryd.zeroValue54
  t164 := Tryd.underlying80
  a164 := Tryd.isAgg80
  z164 := Tryd.sizeOf80
  v164 := Tryd.zeroValue80 }
theorem lay167 : Go.Proofs.Lays.n167 Tryd.prog layW := {
  mixed := by kernel_rfl
  f167 := Tryd.func43.trans (congrArg some (by kernel_rfl))
  f240 := Tryd.func39.trans (congrArg some (by kernel_rfl))
  f276 := Tryd.func57.trans (congrArg some (by kernel_rfl))
  t0 := Tryd.underlying0
  a0 := Tryd.isAgg0
  z0 := Tryd.sizeOf0
  v0 := Tryd.zeroValue0
  t4 := Tryd.underlying4
  a4 := Tryd.isAgg4
  z4 := Tryd.sizeOf4
  v4 := Tryd.zeroValue4
  t5 := Tryd.underlying5
  a5 := Tryd.isAgg5
  z5 := Tryd.sizeOf5
  v5 := Tryd.zeroValue5
  t9 := Tryd.underlying9
  a9 := Tryd.isAgg9
  z9 := Tryd.sizeOf9
  v9 := Tryd.zeroValue9
  t20 := Tryd.underlying20
  a20 := Tryd.isAgg20
  z20 := Tryd.sizeOf20
  v20 := Tryd.zeroValue20
  t37 := Tryd.underlying41
  a37 := Tryd.isAgg41
  z37 := Tryd.sizeOf41
  v37 := Tryd.zeroValue41
  t70 := Tryd.underlying40
  a70 := Tryd.isAgg40
  z70 := Tryd.sizeOf40
  v70 := Tryd.zeroValue40
  t72 := Tryd.underlying43
  a72 := Tryd.isAgg43
  z72 := Tryd.sizeOf43
  v72 := Tryd.zeroValue43
  t75 := Tryd.underlying54
  a75 := Tryd.isAgg54
  z75 := Tryd.sizeOf54
  v75 := Tryd.zeroValue54
  t164 := Tryd.underlying80
  a164 := Tryd.isAgg80
  z164 := Tryd.sizeOf80
  v164 := Tryd.zeroValue80 }
theorem layX : Builder.Extra Tryd.prog layW := {
  sizeBuilder := by kernel_rfl
  liesBuilder := by kernel_rfl
  t5 := Tryd.underlying5
  a5 := Tryd.isAgg5
  z5 := Tryd.sizeOf5
  v5 := Tryd.zeroValue5
  infoByte := by kernel_rfl
  cellsByte := by kernel_rfl
  sizeByte := by kernel_rfl
  neB5 := by decide }
abbrev BD (B b : Nat) (l : List UInt8) (w : World) : Prop := Lib.IsBuilderF 43 5 B b (Lib.byteCells l) w
theorem writeString_any (B b : Nat) (l : List UInt8) (s : ByteArray) (w : World) (h : BD B b l w) (hl : l.length + s.size ≤ 1099511627776) (hB : B ≤ w.heap.size) :
    Calls Tryd.prog 21 #[pp b, .string s] w fun e w' => e = .returned (.tuple #[.int .i64 s.size, .nilIface]) ∧ BD B b (l ++ s.data.toList) w' ∧ Below B w w' ∧ Lib.OthersKept 5 (some b) w w' := by
  refine (Any.Builder_WriteString_k lay166 layX B b (Lib.byteCells l) s w h (by simp [Lib.byteCells]; omega) hB).mono ?_
  rintro e w' ⟨rfl, h1, h2⟩
  refine ⟨rfl, .inr ?_, h2⟩
  have e1 : Lib.byteCells l ++ Lib.strCells s = Lib.byteCells (l ++ s.data.toList) := by simp [Lib.byteCells, Lib.strCells]
  rw [← e1]
  exact h1
theorem writeByte_any (B b : Nat) (l : List UInt8) (c : UInt8) (w : World) (h : BD B b l w) (hl : l.length + 1 ≤ 1099511627776) (hB : B ≤ w.heap.size) :
    Calls Tryd.prog 43 #[pp b, .int .u8 c.toNat] w fun e w' => e = .returned .nilIface ∧ BD B b (l ++ [c]) w' ∧ Below B w w' ∧ Lib.OthersKept 5 (some b) w w' := by
  refine (Any.Builder_WriteByte_k lay167 layX B b (Lib.byteCells l) c.toNat w h (by simp [Lib.byteCells]; omega) hB).mono ?_
  rintro e w' ⟨rfl, h1, h2⟩
  refine ⟨rfl, .inr ?_, h2⟩
  have e1 : Lib.byteCells l ++ [.int .u8 c.toNat] = Lib.byteCells (l ++ [c]) := by simp [Lib.byteCells]
  rw [← e1]
  exact h1
end Go.Proofs.YtcbajgcblfgmgaaDoor
