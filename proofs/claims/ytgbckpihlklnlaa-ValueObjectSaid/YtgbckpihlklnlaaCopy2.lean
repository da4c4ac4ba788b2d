
/-
  Copies of leaves and of an object of two leaf items.
-/
import Derived.Test.YtgbckpihlklnlaaStable2
import Derived.Deep.AppendLies
namespace Go.Proofs.Ytgbckpihlklnlaa
open Go.RowKit
theorem infoV : (Try.prog.info? 26).map (fun i => (i.zero, i.size, i.bytes)) = some (some zeroV, 5, 80) := by kernel_rfl
theorem Box.frozen {W : World} {b : Nat} {c0 c1 c2 c3 c4 : Value} (h : Box W b c0 c1 c2 c3 c4) (i : Nat) : W.frozen? ⟨b, i, none⟩ = false := by
  unfold Box at h; simp [World.frozen?, h]
set_option maxHeartbeats 1000000 in
theorem clone_values (ad : Addr) (n c : Nat) (cells : List Value) (w : World) (hl : cells.length = n * 5) (hb : n * 80 ≤ 140737488351232) (hc : ∀ j u, cells[j]? = some u → w.cell? (ad.add j) = some u) (h1 : ∀ u ∈ cells, u.oneCell' = true) :
    Calls Try.prog 32 #[.slice (some ad) n c] w fun e w' => ∃ v', e = .returned v' ∧ w'.ownsRow w.heap.size 26 5 v' n cells ∧ Below w.heap.size w w' := by
  obtain ⟨i0, hi, hz0, hz1, hz2⟩ := info_parts infoV
  have q22 : ∀ (w : World) (a : Option Addr) (n c n' c' : Nat), (binOp .eql 23 (.slice a n c) (.slice none n' c')).run Try.prog w = .ok (.bool a.isNone) w := fun w a n c n' c' => Lib.run_eql_slice_nil w _ _ a n c n' c' Try.underlying23
  have HC := Lib.hid hc
  have H1 := Lib.hid h1
  have HL := Lib.hid hl
  clear hc h1 hl
  go_enter Try.func32, Try.ntmps32
  go_wp2_with (at_builtin; refine wpList_append_own _ rfl _ _ 23 rfl w.heap.size 26 i0 zeroV 5 80 Try.underlying23 hi hz0 hz1 hz2 rfl (by decide) _ _ _ rfl (World.ownsRow_made w #[] 0 (Nat.le_refl _) (Nat.zero_le _) rfl) ad n c cells rfl ?qc1 ?qc2 ?qc3 ?qc4 ?qc5 ?qc6 ?_)
  case qc1 => exact HL.out
  case qc2 =>
    intro j u hj
    exact Lib.cell?_alloc_some _ (HC.out j u hj)
  case qc3 => exact H1.out
  case qc4 => unfold maxLen; omega
  case qc5 => omega
  case qc6 => simp
  intro v' w1 hown hgrow hnil
  have HO : Hid (w1.ownsRow w.heap.size 26 5 v' n cells) := Lib.hid (by simpa using hown)
  have HB : Hid (Below w.heap.size w w1) := Lib.hid (((Below.refl _ w).alloc (Nat.le_refl _) _).grown hgrow (by simp) (by intro k hk; simp [Value.ownBlock] at hk; omega))
  clear hown hgrow hnil
  go_wp2
  go_ret
  exact ⟨v', rfl, HO.out, HB.out⟩
theorem clone_values_nil (n c : Nat) (w : World) :
    Calls Try.prog 32 #[.slice none n c] w fun e w' => e = .returned (.slice none 0 0) ∧ w = w' := by
  have q22 : ∀ (w : World) (a : Option Addr) (n c n' c' : Nat), (binOp .eql 23 (.slice a n c) (.slice none n' c')).run Try.prog w = .ok (.bool a.isNone) w := fun w a n c n' c' => Lib.run_eql_slice_nil w _ _ a n c n' c' Try.underlying23
  go_enter Try.func32, Try.ntmps32
  go_wp2_with fail
  go_ret
  exact ⟨rfl, rfl⟩
set_option maxHeartbeats 1000000 in
theorem copyLeaf (k n : Int) (s : ByteArray) (w : World) : Calls Try.prog 12 #[.agg #[.int .i64 k, .int .i64 n, .string s, .slice none 0 0, .slice none 0 0]] w
    fun e w' => e = .returned (.agg #[.int .i64 k, .int .i64 n, .string s, .slice none 0 0, .slice none 0 0]) ∧ Below w.heap.size w w' := by
  go_enter Try.func12, Try.ntmps12
  go_wp2_with fail
  refine (Try.slices_Clone_string_nil _ _ _).mono ?_
  rintro e w1 ⟨rfl, rfl⟩
  go_wp2_with fail
  refine (clone_values_nil _ _ _).mono ?_
  rintro e w1 ⟨rfl, rfl⟩
  go_wp2_with fail
  go_loop [16] (fun u => u = .int .i64 0) (fun _ => 0)
  case atStart => rfl
  case round =>
    obtain rfl := hrel
    go_wp2_with fail
    exact bodyPost_ret (v := .agg #[.int .i64 k, .int .i64 n, .string s, .slice none 0 0, .slice none 0 0]) (by simp [results, Try.results12, go_sem]) rfl ⟨rfl, (Box.two w _ _ _ _ _ _ _ _ _ _).2.2⟩
theorem bcell {W w1 : World} (hb : Below W.heap.size W w1) : (∀ b o, b < W.heap.size → w1.cell? ⟨b, o, none⟩ = W.cell? ⟨b, o, none⟩) ∧ (∀ b o, b < W.heap.size → w1.frozen? ⟨b, o, none⟩ = W.frozen? ⟨b, o, none⟩) :=
  ⟨fun b o h => hb.cell (p := ⟨b, o, none⟩) h, fun b o h => hb.frozen (p := ⟨b, o, none⟩) h⟩
theorem Box.set4 {W : World} {b : Nat} {c0 c1 c2 c3 c4 : Value} (h : Box W b c0 c1 c2 c3 c4) (u : Value) : Box (W.setCell ⟨b, 4, none⟩ u) b c0 c1 c2 c3 u := by
  unfold Box at h ⊢; simp [World.setCell, Array.getElem?_modify, h]
theorem Box.set3 {W : World} {b : Nat} {c0 c1 c2 c3 c4 : Value} (h : Box W b c0 c1 c2 c3 c4) (u : Value) : Box (W.setCell ⟨b, 3, none⟩ u) b c0 c1 c2 u c4 := by
  unfold Box at h ⊢; simp [World.setCell, Array.getElem?_modify, h]
def cells2 (x y : Int) : List Value := [.int .i64 2, .int .i64 x, .string ⟨#[]⟩, .slice none 0 0, .slice none 0 0, .int .i64 2, .int .i64 y, .string ⟨#[]⟩, .slice none 0 0, .slice none 0 0]
theorem st2_same0 {w : World} {kb ib : Nat} {a b : ByteArray} {x y : Int} (h : St2 w kb ib a b x y) :
    St2 (((((w.setCell ⟨ib, 0, none⟩ (.int .i64 2)).setCell ⟨ib, 1, none⟩ (.int .i64 x)).setCell ⟨ib, 2, none⟩ (.string ⟨#[]⟩)).setCell ⟨ib, 3, none⟩ (.slice none 0 0)).setCell ⟨ib, 4, none⟩ (.slice none 0 0)) kb ib a b x y := by
  obtain ⟨l1, l2, ne, k0, k1, fk0, fk1, c0, c1, c2, c3, c4, c5, c6, c7, c8, c9, f⟩ := h
  have ne' : ib ≠ kb := fun e => ne e.symm
  refine ⟨by simp [World.setCell]; omega, by simp [World.setCell]; omega, ne, ?_, ?_, ?_, ?_, ?_, ?_, ?_, ?_, ?_, ?_, ?_, ?_, ?_, ?_, ?_⟩
  all_goals try (go_simp; done)
  intro i hi
  have := f i hi
  go_simp
theorem st2_same5 {w : World} {kb ib : Nat} {a b : ByteArray} {x y : Int} (h : St2 w kb ib a b x y) :
    St2 (((((w.setCell ⟨ib, 5, none⟩ (.int .i64 2)).setCell ⟨ib, 6, none⟩ (.int .i64 y)).setCell ⟨ib, 7, none⟩ (.string ⟨#[]⟩)).setCell ⟨ib, 8, none⟩ (.slice none 0 0)).setCell ⟨ib, 9, none⟩ (.slice none 0 0)) kb ib a b x y := by
  obtain ⟨l1, l2, ne, k0, k1, fk0, fk1, c0, c1, c2, c3, c4, c5, c6, c7, c8, c9, f⟩ := h
  have ne' : ib ≠ kb := fun e => ne e.symm
  refine ⟨by simp [World.setCell]; omega, by simp [World.setCell]; omega, ne, ?_, ?_, ?_, ?_, ?_, ?_, ?_, ?_, ?_, ?_, ?_, ?_, ?_, ?_, ?_⟩
  all_goals try (go_simp; done)
  intro i hi
  have := f i hi
  go_simp
theorem st2_far {w : World} {kb ib : Nat} {a b : ByteArray} {x y : Int} (h : St2 w kb ib a b x y) {p : Addr} (h1 : kb ≠ p.block) (h2 : ib ≠ p.block) (u : Value) : St2 (w.setCell p u) kb ib a b x y := by
  have hk : ∀ i, (w.setCell p u).cell? ⟨kb, i, none⟩ = w.cell? ⟨kb, i, none⟩ := fun i => World.cell?_setCell_other _ _ _ _ (fun e => h1 (by rw [e]))
  have hi : ∀ i, (w.setCell p u).cell? ⟨ib, i, none⟩ = w.cell? ⟨ib, i, none⟩ := fun i => World.cell?_setCell_other _ _ _ _ (fun e => h2 (by rw [e]))
  exact ⟨by have := h.lk; simp [World.setCell]; omega, by have := h.li; simp [World.setCell]; omega, h.ne, (hk 0).trans h.k0, (hk 1).trans h.k1, by simpa using h.fk0, by simpa using h.fk1,
    (hi 0).trans h.c0, (hi 1).trans h.c1, (hi 2).trans h.c2, (hi 3).trans h.c3, (hi 4).trans h.c4, (hi 5).trans h.c5, (hi 6).trans h.c6, (hi 7).trans h.c7, (hi 8).trans h.c8, (hi 9).trans h.c9, fun i hl => by simpa using h.f i hl⟩
set_option maxHeartbeats 2000000 in
theorem copyObj2 (w : World) (K0 I0 ck0 ci0 : Nat) (a b : ByteArray) (x y : Int) (h : St2 w K0 I0 a b x y) :
    Calls Try.prog 12 #[.agg #[.int .i64 6, .int .i64 0, .string ⟨#[]⟩, .slice (some ⟨I0, 0, none⟩) 2 ci0, .slice (some ⟨K0, 0, none⟩) 2 ck0]] w
      fun e w' => ∃ kb ib ck ci, e = .returned (.agg #[.int .i64 6, .int .i64 0, .string ⟨#[]⟩, .slice (some ⟨ib, 0, none⟩) 2 ci, .slice (some ⟨kb, 0, none⟩) 2 ck]) ∧ St2 w' kb ib a b x y ∧ w.heap.size ≤ kb ∧ w.heap.size ≤ ib ∧ Below w.heap.size w w' := by
  have H := Lib.hid h
  have HK : Hid (∀ W, Below w.heap.size w W → Calls Try.prog 31 #[.slice (some ⟨K0, 0, none⟩) 2 ck0] W fun e w' => ∃ g cap, e = .returned (.slice (some ⟨g, 0, none⟩) 2 cap) ∧ W.heap.size ≤ g ∧ g < w'.heap.size ∧ w'.cell? ⟨g, 0, none⟩ = some (.string a) ∧ w'.cell? ⟨g, 1, none⟩ = some (.string b) ∧ w'.frozen? ⟨g, 0, none⟩ = false ∧ w'.frozen? ⟨g, 1, none⟩ = false ∧ Below W.heap.size W w') := Lib.hid (by
    intro W hW
    have hst := h.kept hW h.lk h.li
    refine (Try.slices_Clone_string K0 0 2 ck0 [a, b] W (by simp) (by omega) (fun j hj => ?_)).mono ?_
    · have : j = 0 ∨ j = 1 := by simp at hj; omega
      rcases this with rfl | rfl
      · exact hst.k0
      · exact hst.k1
    · rintro e w' ⟨v', he, hown, _, hb⟩
      obtain ⟨g, cap, hv, hg, hlt⟩ := hown.form (by omega)
      subst hv
      exact ⟨g, cap, he, hg, hlt, by rw [hown.cellAt 0 (by omega)]; rfl, by rw [hown.cellAt 1 (by omega)]; rfl, hown.frozenAt 0, hown.frozenAt 1, hb⟩)
  have HI : Hid (∀ W, Below w.heap.size w W → Calls Try.prog 32 #[.slice (some ⟨I0, 0, none⟩) 2 ci0] W fun e w' => ∃ g cap, e = .returned (.slice (some ⟨g, 0, none⟩) 2 cap) ∧ W.heap.size ≤ g ∧ g < w'.heap.size ∧ (∀ j, j < 10 → w'.cell? ⟨g, j, none⟩ = (cells2 x y)[j]?) ∧ (∀ j, w'.frozen? ⟨g, j, none⟩ = false) ∧ Below W.heap.size W w') := Lib.hid (by
    intro W hW
    have hst := h.kept hW h.lk h.li
    refine (clone_values ⟨I0, 0, none⟩ 2 ci0 (cells2 x y) W rfl (by omega) (fun j u hj => ?_) (by have h : (cells2 x y).all Value.oneCell' = true := rfl; exact List.all_eq_true.1 h)).mono ?_
    · have hj10 : j < 10 := (List.getElem?_eq_some_iff.1 hj).1
      rw [Addr.add_mid, Nat.zero_add]
      have hcs : j = 0 ∨ j = 1 ∨ j = 2 ∨ j = 3 ∨ j = 4 ∨ j = 5 ∨ j = 6 ∨ j = 7 ∨ j = 8 ∨ j = 9 := by omega
      rcases hcs with rfl | rfl | rfl | rfl | rfl | rfl | rfl | rfl | rfl | rfl <;> (simp [cells2] at hj; subst hj)
      · exact hst.c0
      · exact hst.c1
      · exact hst.c2
      · exact hst.c3
      · exact hst.c4
      · exact hst.c5
      · exact hst.c6
      · exact hst.c7
      · exact hst.c8
      · exact hst.c9
    · rintro e w' ⟨v', he, hown, hb⟩
      obtain ⟨g, cap, hv, hg, hlt⟩ := hown.form (by omega)
      subst hv
      exact ⟨g, cap, he, hg, hlt, fun j hj => hown.cellAt j (by omega), fun j => hown.frozenAt j, hb⟩)
  clear h
  go_enter Try.func12, Try.ntmps12
  go_wp2_with fail
  refine (HK.out _ (Box.two w _ _ _ _ _ _ _ _ _ _).2.2).mono ?_
  rintro e w1 ⟨kb, ck, rfl, hkb, hkl, k0, k1, fk0, fk1, hb1⟩
  obtain ⟨f1, f2, f3⟩ := Box.two w (.int .i64 6) (.int .i64 0) (.string ⟨#[]⟩) (.slice (some ⟨I0, 0, none⟩) 2 ci0) (.slice (some ⟨K0, 0, none⟩) 2 ck0) (.int .i64 0) (.int .i64 0) (.string ⟨#[]⟩) (.slice none 0 0) (.slice none 0 0)
  have HX1 := Lib.hid (f1.kept hb1)
  have HX2 := Lib.hid (f2.kept hb1)
  have HB1 := Lib.hid (f3.trans (hb1.mono f3.size))
  simp only [World.size_alloc] at hkb
  obtain ⟨x0, x1, x2, x3, x4⟩ := HX1.out.cells
  have z4 := HX1.out.frozen 4
  have HKB := Lib.hid (And.intro k0 (And.intro k1 (And.intro fk0 fk1)))
  clear f1 f2 f3 hb1 k0 k1 fk0 fk1
  go_wp2_with fail
  have hb2 := Below.setCell (p := ⟨w.heap.size, 4, none⟩) HB1.out (Nat.le_refl _) (.slice (some ⟨kb, 0, none⟩) 2 ck)
  refine (HI.out _ hb2).mono ?_
  rintro e w2 ⟨ib, ci, rfl, hib, hil, hic, hif, hb3⟩
  have hs3 := hb3.size
  simp only [World.size_setCell] at hib hs3
  have hl1 := HX1.out.lt
  have hl2 := HX2.out.lt
  have HY1 := Lib.hid ((HX1.out.set4 (.slice (some ⟨kb, 0, none⟩) 2 ck)).kept hb3)
  have HY2 := Lib.hid ((HX2.out.set (p := ⟨w.heap.size, 4, none⟩) (by show w.heap.size + 1 ≠ w.heap.size; omega) (.slice (some ⟨kb, 0, none⟩) 2 ck)).kept hb3)
  have HB3 := Lib.hid (hb2.trans (hb3.mono (by simp; omega)))
  obtain ⟨k0, k1, fk0, fk1⟩ := HKB.out
  have e1 : ∀ i, w2.cell? ⟨kb, i, none⟩ = w1.cell? ⟨kb, i, none⟩ := fun i => (hb3.cell (p := ⟨kb, i, none⟩) (by simp; omega)).trans (World.cell?_setCell_other _ _ _ _ (by intro e; injection e with e _; omega))
  have e2 : ∀ i, w2.frozen? ⟨kb, i, none⟩ = w1.frozen? ⟨kb, i, none⟩ := fun i => (hb3.frozen (p := ⟨kb, i, none⟩) (by simp; omega)).trans (by simp)
  have HST : Hid (St2 w2 kb ib a b x y) := Lib.hid ⟨by omega, hil, by omega, (e1 0).trans k0, (e1 1).trans k1, (e2 0).trans fk0, (e2 1).trans fk1, hic 0 (by omega), hic 1 (by omega), hic 2 (by omega), hic 3 (by omega), hic 4 (by omega), hic 5 (by omega), hic 6 (by omega), hic 7 (by omega), hic 8 (by omega), hic 9 (by omega), fun i _ => hif i⟩
  clear x0 x1 x2 x3 x4 z4 hb2 hb3 hic hif k0 k1 fk0 fk1 e1 e2
  obtain ⟨x0, x1, x2, x3, x4⟩ := HY1.out.cells
  have z3 := HY1.out.frozen 3
  go_wp2_with fail
  go_loopw [16] (fun u wr => ∃ j : Nat, j ≤ 2 ∧ u = .int .i64 j ∧ St2 wr kb ib a b x y ∧ Box wr w.heap.size (.int .i64 6) (.int .i64 0) (.string ⟨#[]⟩) (.slice (some ⟨ib, 0, none⟩) 2 ci) (.slice (some ⟨kb, 0, none⟩) 2 ck) ∧
    Box wr (w.heap.size + 1) (.int .i64 0) (.int .i64 0) (.string ⟨#[]⟩) (.slice none 0 0) (.slice none 0 0) ∧ Below w.heap.size w wr) (fun u _ => 2 - (intOf u).toNat)
  case atStart => exact ⟨0, by omega, rfl, st2_far HST.out (by show kb ≠ w.heap.size; omega) (by show ib ≠ w.heap.size; omega) _, HY1.out.set3 _, HY2.out.set (by show w.heap.size + 1 ≠ w.heap.size; omega) _, HB3.out.setCell (Nat.le_refl _) _⟩
  case round =>
    obtain ⟨j, hj, rfl, hst, hx, hy, hb⟩ := hrel
    have HST := Lib.hid hst
    have HX := Lib.hid hx
    have HY := Lib.hid hy
    have HB := Lib.hid hb
    have hl1 := hx.lt
    have hl2 := hy.lt
    obtain ⟨l1, l2, ne, k0, k1, fk0, fk1, c0, c1, c2, c3, c4, c5, c6, c7, c8, c9, f⟩ := hst
    obtain ⟨p0, p1, p2, p3, p4⟩ := hx.cells
    have hj3 : j = 0 ∨ j = 1 ∨ j = 2 := by omega
    clear x0 x1 x2 x3 x4 z3 hx hb
    have n1 : w.heap.size ≠ ib := by omega
    have n2 : w.heap.size ≠ wr.heap.size := by omega
    have n3 : ib ≠ wr.heap.size := by omega
    have n4 : ib ≠ w.heap.size := by omega
    have n5 : wr.heap.size ≠ ib := by omega
    have n6 : wr.heap.size ≠ w.heap.size := by omega
    rcases hj3 with rfl | rfl | rfl
    · have f0 := f 0 (by omega)
      have f1 := f 1 (by omega)
      have f2 := f 2 (by omega)
      have f3 := f 3 (by omega)
      have f4 := f 4 (by omega)
      clear f hy
      go_wp2_with fail
      go_region_held3 (fun w' => w'.cell? ⟨w.heap.size, 3, none⟩ = some (.slice (some ⟨ib, 0, none⟩) 2 ci) ∧ w'.cell? ⟨wr.heap.size, 0, none⟩ = some (.int .i64 2) ∧ w'.cell? ⟨wr.heap.size, 1, none⟩ = some (.int .i64 x) ∧ w'.cell? ⟨wr.heap.size, 2, none⟩ = some (.string ⟨#[]⟩) ∧ w'.cell? ⟨wr.heap.size, 3, none⟩ = some (.slice none 0 0) ∧ w'.cell? ⟨wr.heap.size, 4, none⟩ = some (.slice none 0 0))
        (go_keep)
        (first | (go_at_call 12; refine (copyLeaf _ _ _ _).mono ?_; rintro e w3 ⟨rfl, hb3⟩; obtain ⟨hc3, hf3⟩ := bcell hb3; have hs3 : wr.heap.size < w3.heap.size := (by have := hb3.size; simp at this; omega); have g3 : w3.cell? ⟨w.heap.size, 3, none⟩ = some (.slice (some ⟨ib, 0, none⟩) 2 ci) := (by rw [hc3 _ _ (by simp; omega)]; go_simp)))
      have b3 : Below wr.heap.size wr w3 := (((Below.refl _ _).alloc (Nat.le_refl _) _).drew).trans (hb3.mono (by simp))
      have HST3 := Lib.hid (st2_same0 (HST.out.kept b3 l1 l2))
      have HX3 := Lib.hid ((((((HX.out.kept b3).set (p := ⟨ib, 0, none⟩) n1 (.int .i64 2)).set (p := ⟨ib, 1, none⟩) n1 (.int .i64 x)).set (p := ⟨ib, 2, none⟩) n1 (.string ⟨#[]⟩)).set (p := ⟨ib, 3, none⟩) n1 (.slice none 0 0)).set (p := ⟨ib, 4, none⟩) n1 (.slice none 0 0))
      have n7 : w.heap.size + 1 ≠ ib := by omega
      have HY3 := Lib.hid ((((((HY.out.kept b3).set (p := ⟨ib, 0, none⟩) n7 (.int .i64 2)).set (p := ⟨ib, 1, none⟩) n7 (.int .i64 x)).set (p := ⟨ib, 2, none⟩) n7 (.string ⟨#[]⟩)).set (p := ⟨ib, 3, none⟩) n7 (.slice none 0 0)).set (p := ⟨ib, 4, none⟩) n7 (.slice none 0 0))
      have n8 : w.heap.size ≤ ib := by omega
      have HB3' := Lib.hid ((((((HB.out.trans (b3.mono HB.out.size)).setCell (p := ⟨ib, 0, none⟩) n8 (.int .i64 2)).setCell (p := ⟨ib, 1, none⟩) n8 (.int .i64 x)).setCell (p := ⟨ib, 2, none⟩) n8 (.string ⟨#[]⟩)).setCell (p := ⟨ib, 3, none⟩) n8 (.slice none 0 0)).setCell (p := ⟨ib, 4, none⟩) n8 (.slice none 0 0))
      clear b3 hb3 hc3 hf3 g3
      go_wp2_with fail
      go_roundw
      case rel => exact ⟨1, by omega, rfl, HST3.out, HX3.out, HY3.out, HB3'.out⟩
      case measure => simp [intOf]
    · have f5 := f 5 (by omega)
      have f6 := f 6 (by omega)
      have f7 := f 7 (by omega)
      have f8 := f 8 (by omega)
      have f9 := f 9 (by omega)
      clear f hy
      go_wp2_with fail
      go_region_held3 (fun w' => w'.cell? ⟨w.heap.size, 3, none⟩ = some (.slice (some ⟨ib, 0, none⟩) 2 ci) ∧ w'.cell? ⟨wr.heap.size, 0, none⟩ = some (.int .i64 2) ∧ w'.cell? ⟨wr.heap.size, 1, none⟩ = some (.int .i64 y) ∧ w'.cell? ⟨wr.heap.size, 2, none⟩ = some (.string ⟨#[]⟩) ∧ w'.cell? ⟨wr.heap.size, 3, none⟩ = some (.slice none 0 0) ∧ w'.cell? ⟨wr.heap.size, 4, none⟩ = some (.slice none 0 0))
        (go_keep)
        (first | (go_at_call 12; refine (copyLeaf _ _ _ _).mono ?_; rintro e w3 ⟨rfl, hb3⟩; obtain ⟨hc3, hf3⟩ := bcell hb3; have hs3 : wr.heap.size < w3.heap.size := (by have := hb3.size; simp at this; omega); have g3 : w3.cell? ⟨w.heap.size, 3, none⟩ = some (.slice (some ⟨ib, 0, none⟩) 2 ci) := (by rw [hc3 _ _ (by simp; omega)]; go_simp)))
      have b3 : Below wr.heap.size wr w3 := (((Below.refl _ _).alloc (Nat.le_refl _) _).drew).trans (hb3.mono (by simp))
      have HST3 := Lib.hid (st2_same5 (HST.out.kept b3 l1 l2))
      have HX3 := Lib.hid ((((((HX.out.kept b3).set (p := ⟨ib, 5, none⟩) n1 (.int .i64 2)).set (p := ⟨ib, 6, none⟩) n1 (.int .i64 y)).set (p := ⟨ib, 7, none⟩) n1 (.string ⟨#[]⟩)).set (p := ⟨ib, 8, none⟩) n1 (.slice none 0 0)).set (p := ⟨ib, 9, none⟩) n1 (.slice none 0 0))
      have n7 : w.heap.size + 1 ≠ ib := by omega
      have HY3 := Lib.hid ((((((HY.out.kept b3).set (p := ⟨ib, 5, none⟩) n7 (.int .i64 2)).set (p := ⟨ib, 6, none⟩) n7 (.int .i64 y)).set (p := ⟨ib, 7, none⟩) n7 (.string ⟨#[]⟩)).set (p := ⟨ib, 8, none⟩) n7 (.slice none 0 0)).set (p := ⟨ib, 9, none⟩) n7 (.slice none 0 0))
      have n8 : w.heap.size ≤ ib := by omega
      have HB3' := Lib.hid ((((((HB.out.trans (b3.mono HB.out.size)).setCell (p := ⟨ib, 5, none⟩) n8 (.int .i64 2)).setCell (p := ⟨ib, 6, none⟩) n8 (.int .i64 y)).setCell (p := ⟨ib, 7, none⟩) n8 (.string ⟨#[]⟩)).setCell (p := ⟨ib, 8, none⟩) n8 (.slice none 0 0)).setCell (p := ⟨ib, 9, none⟩) n8 (.slice none 0 0))
      clear b3 hb3 hc3 hf3 g3
      go_wp2_with fail
      go_roundw
      case rel => exact ⟨2, by omega, rfl, HST3.out, HX3.out, HY3.out, HB3'.out⟩
      case measure => simp [intOf]
    · obtain ⟨q0, q1, q2, q3, q4⟩ := hy.cells
      have g0 := hy.frozen 0
      have g1 := hy.frozen 1
      have g2 := hy.frozen 2
      have g3 := hy.frozen 3
      have g4 := hy.frozen 4
      have n8 : w.heap.size ≤ w.heap.size + 1 := by omega
      have m1 : kb ≠ w.heap.size + 1 := by omega
      have m2 : ib ≠ w.heap.size + 1 := by omega
      have HB4 := Lib.hid (((((HB.out.setCell (p := ⟨w.heap.size + 1, 0, none⟩) n8 (.int .i64 6)).setCell (p := ⟨w.heap.size + 1, 1, none⟩) n8 (.int .i64 0)).setCell (p := ⟨w.heap.size + 1, 2, none⟩) n8 (.string ⟨#[]⟩)).setCell (p := ⟨w.heap.size + 1, 3, none⟩) n8 (.slice (some ⟨ib, 0, none⟩) 2 ci)).setCell (p := ⟨w.heap.size + 1, 4, none⟩) n8 (.slice (some ⟨kb, 0, none⟩) 2 ck))
      have HST4 := Lib.hid (st2_far (p := ⟨w.heap.size + 1, 4, none⟩) (st2_far (p := ⟨w.heap.size + 1, 3, none⟩) (st2_far (p := ⟨w.heap.size + 1, 2, none⟩) (st2_far (p := ⟨w.heap.size + 1, 1, none⟩) (st2_far (p := ⟨w.heap.size + 1, 0, none⟩) HST.out m1 m2 (.int .i64 6)) m1 m2 (.int .i64 0)) m1 m2 (.string ⟨#[]⟩)) m1 m2 (.slice (some ⟨ib, 0, none⟩) 2 ci)) m1 m2 (.slice (some ⟨kb, 0, none⟩) 2 ck))
      clear hy f
      go_wp2_with fail
      refine bodyPost_ret (v := .agg #[.int .i64 6, .int .i64 0, .string ⟨#[]⟩, .slice (some ⟨ib, 0, none⟩) 2 ci, .slice (some ⟨kb, 0, none⟩) 2 ck]) (by simp [results, Try.results12, go_sem, q0, q1, q2, q3, q4]) rfl ⟨kb, ib, ck, ci, rfl, HST4.out, by omega, by omega, HB4.out⟩
end Go.Proofs.Ytgbckpihlklnlaa
