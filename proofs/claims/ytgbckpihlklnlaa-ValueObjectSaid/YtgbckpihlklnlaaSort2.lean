
/-
  Sorting an object of two leaf items.
-/
import Derived.Test.YtgbckpihlklnlaaGet
import Derived.BigRegion
import Derived.RegionTactic
import Derived.Lib.SliceRun
namespace Go.Proofs.Ytgbckpihlklnlaa
open Go.RowKit
/- Two keys and two integers, in rows that may be written. -/
structure St2 (w : World) (kb ib : Nat) (a b : ByteArray) (x y : Int) : Prop where
  lk : kb < w.heap.size
  li : ib < w.heap.size
  ne : kb ≠ ib
  k0 : w.cell? ⟨kb, 0, none⟩ = some (.string a)
  k1 : w.cell? ⟨kb, 1, none⟩ = some (.string b)
  fk0 : w.frozen? ⟨kb, 0, none⟩ = false
  fk1 : w.frozen? ⟨kb, 1, none⟩ = false
  c0 : w.cell? ⟨ib, 0, none⟩ = some (.int .i64 2)
  c1 : w.cell? ⟨ib, 1, none⟩ = some (.int .i64 x)
  c2 : w.cell? ⟨ib, 2, none⟩ = some (.string ⟨#[]⟩)
  c3 : w.cell? ⟨ib, 3, none⟩ = some (.slice none 0 0)
  c4 : w.cell? ⟨ib, 4, none⟩ = some (.slice none 0 0)
  c5 : w.cell? ⟨ib, 5, none⟩ = some (.int .i64 2)
  c6 : w.cell? ⟨ib, 6, none⟩ = some (.int .i64 y)
  c7 : w.cell? ⟨ib, 7, none⟩ = some (.string ⟨#[]⟩)
  c8 : w.cell? ⟨ib, 8, none⟩ = some (.slice none 0 0)
  c9 : w.cell? ⟨ib, 9, none⟩ = some (.slice none 0 0)
  f : ∀ i, i < 10 → w.frozen? ⟨ib, i, none⟩ = false
theorem St2.kept {w w' : World} {kb ib B : Nat} {a b : ByteArray} {x y : Int} (h : St2 w kb ib a b x y) (hb : Below B w w') (h1 : kb < B) (h2 : ib < B) : St2 w' kb ib a b x y := by
  have hk : ∀ i, w'.cell? ⟨kb, i, none⟩ = w.cell? ⟨kb, i, none⟩ := fun i => hb.cell (p := ⟨kb, i, none⟩) h1
  have hi : ∀ i, w'.cell? ⟨ib, i, none⟩ = w.cell? ⟨ib, i, none⟩ := fun i => hb.cell (p := ⟨ib, i, none⟩) h2
  have hs := hb.size
  exact ⟨by have := h.lk; omega, by have := h.li; omega, h.ne, (hk 0).trans h.k0, (hk 1).trans h.k1, (hb.frozen (p := ⟨kb, 0, none⟩) h1).trans h.fk0, (hb.frozen (p := ⟨kb, 1, none⟩) h1).trans h.fk1,
    (hi 0).trans h.c0, (hi 1).trans h.c1, (hi 2).trans h.c2, (hi 3).trans h.c3, (hi 4).trans h.c4, (hi 5).trans h.c5, (hi 6).trans h.c6, (hi 7).trans h.c7, (hi 8).trans h.c8, (hi 9).trans h.c9, fun i hl => (hb.frozen (p := ⟨ib, i, none⟩) h2).trans (h.f i hl)⟩
/- Nothing that was there has turned but blocks kb and ib. -/
structure Two (kb ib : Nat) (w w' : World) : Prop where
  os : w'.os = w.os
  tape : w'.tape = w.tape
  output : w'.output = w.output
  size : w.heap.size ≤ w'.heap.size
  block : ∀ g, g < w.heap.size → g ≠ kb → g ≠ ib → w'.heap[g]? = w.heap[g]?
theorem Two.refl (kb ib : Nat) (w : World) : Two kb ib w w := ⟨rfl, rfl, rfl, Nat.le_refl _, fun _ _ _ _ => rfl⟩
theorem Two.trans {kb ib : Nat} {a b c : World} (h : Two kb ib a b) (h' : Two kb ib b c) : Two kb ib a c :=
  ⟨h'.os.trans h.os, h'.tape.trans h.tape, h'.output.trans h.output, Nat.le_trans h.size h'.size, fun g hg h1 h2 => (h'.block g (Nat.lt_of_lt_of_le hg h.size) h1 h2).trans (h.block g hg h1 h2)⟩
theorem Two.of {kb ib : Nat} {w w' : World} (h : Below w.heap.size w w') : Two kb ib w w' := ⟨h.os, h.tape, h.output, h.size, fun g hg _ _ => h.block g hg⟩
theorem Two.below {kb ib B : Nat} {w w' : World} (h : Two kb ib w w') (h1 : B ≤ kb) (h2 : B ≤ ib) (h3 : B ≤ w.heap.size) : Below B w w' := ⟨h.os, h.tape, h.output, h.size, fun g hg => h.block g (by omega) (by omega) (by omega)⟩
theorem Two.setK {kb ib : Nat} {a w : World} (h : Two kb ib a w) (o : Nat) (u : Value) : Two kb ib a (w.setCell ⟨kb, o, none⟩ u) :=
  h.trans ⟨rfl, rfl, rfl, by simp [World.setCell], fun g _ h1 _ => Below.heap_setCell _ _ _ _ h1⟩
theorem Two.setI {kb ib : Nat} {a w : World} (h : Two kb ib a w) (o : Nat) (u : Value) : Two kb ib a (w.setCell ⟨ib, o, none⟩ u) :=
  h.trans ⟨rfl, rfl, rfl, by simp [World.setCell], fun g _ _ h2 => Below.heap_setCell _ _ _ _ h2⟩
theorem Two.alloc {kb ib : Nat} {a w : World} (h : Two kb ib a w) (o : Obj) : Two kb ib a (w.alloc o) := h.trans (.of ((Below.refl _ _).alloc (Nat.le_refl _) _))
theorem Two.drew {kb ib : Nat} {a w : World} (h : Two kb ib a w) : Two kb ib a w.drew := h.trans ⟨rfl, rfl, rfl, Nat.le_refl _, fun _ _ _ _ => rfl⟩
theorem Box.two_ {kb ib : Nat} {W W' : World} {b : Nat} {c0 c1 c2 c3 c4 : Value} (h : Box W b c0 c1 c2 c3 c4) (ht : Two kb ib W W') (h1 : b ≠ kb) (h2 : b ≠ ib) : Box W' b c0 c1 c2 c3 c4 := (ht.block b h.lt h1 h2).trans h
def byK (kb ib ck ci : Nat) : Value := .agg #[.int .i64 6, .int .i64 0, .string ⟨#[]⟩, .slice (some ⟨ib, 0, none⟩) 2 ci, .slice (some ⟨kb, 0, none⟩) 2 ck]
set_option maxHeartbeats 1000000 in
theorem less2 (w : World) (kb ib ck ci : Nat) (a b : ByteArray) (x y : Int) (h : St2 w kb ib a b x y) :
    Calls Try.prog 80 #[byK kb ib ck ci, .int .i64 1, .int .i64 0] w fun e w' => e = .returned (.bool (Op.bytesLess b.toList a.toList)) ∧ Below w.heap.size w w' := by
  unfold byK
  have hk0 := h.k0
  have hk1 := h.k1
  have l1 := h.lk
  clear h
  go_enter Try.func80, Try.ntmps80
  go_wp2_with fail
  go_quiet (fail)
  go_wp2_with fail
  go_ret
  exact ⟨rfl, ((Below.refl _ _).alloc (Nat.le_refl _) _).trans ⟨rfl, rfl, rfl, Nat.le_refl _, fun _ _ => rfl⟩⟩
theorem len2 (w : World) (kb ib ck ci : Nat) :
    Calls Try.prog 79 #[byK kb ib ck ci] w fun e w' => e = .returned (.int .i64 2) ∧ Below w.heap.size w w' := by
  unfold byK
  go_enter Try.func79, Try.ntmps79
  go_wp2_with fail
  go_ret
  exact ⟨rfl, (Below.refl _ _).alloc (Nat.le_refl _) _⟩
theorem st2_swapped {w : World} {kb ib : Nat} {a b : ByteArray} {x y : Int} (h : St2 w kb ib a b x y) (cs : Array Value) (t : TypeId) :
    let W := (((((((((((((w.setCell ⟨kb, 1, none⟩ (.string a)).setCell ⟨kb, 0, none⟩ (.string b)).setCell ⟨ib, 5, none⟩ (.int .i64 2)).setCell ⟨ib, 6, none⟩ (.int .i64 x)).setCell ⟨ib, 7, none⟩ (.string ⟨#[]⟩)).setCell ⟨ib, 8, none⟩ (.slice none 0 0)).setCell ⟨ib, 9, none⟩ (.slice none 0 0)).setCell
      ⟨ib, 0, none⟩ (.int .i64 2)).setCell ⟨ib, 1, none⟩ (.int .i64 y)).setCell ⟨ib, 2, none⟩ (.string ⟨#[]⟩)).setCell ⟨ib, 3, none⟩ (.slice none 0 0)).setCell ⟨ib, 4, none⟩ (.slice none 0 0)).alloc (.cells cs t (0, 0))).drew.drew
    St2 W kb ib b a y x ∧ Two kb ib w W := by
  obtain ⟨l1, l2, ne, k0, k1, fk0, fk1, c0, c1, c2, c3, c4, c5, c6, c7, c8, c9, f⟩ := h
  have n1 : kb ≠ w.heap.size := by omega
  have n3 : ib ≠ w.heap.size := by omega
  have ne' : ib ≠ kb := fun e => ne e.symm
  refine ⟨⟨by simp [World.setCell]; omega, by simp [World.setCell]; omega, ne, ?_, ?_, ?_, ?_, ?_, ?_, ?_, ?_, ?_, ?_, ?_, ?_, ?_, ?_, ?_⟩, ?_⟩
  all_goals try (go_simp; done)
  · intro i hi
    have := f i hi
    go_simp
  · exact (((((((((((((((Two.refl _ _ _).setK _ _).setK _ _).setI _ _).setI _ _).setI _ _).setI _ _).setI _ _).setI _ _).setI _ _).setI _ _).setI _ _).setI _ _).alloc _).drew).drew
end Go.Proofs.Ytgbckpihlklnlaa
