
/-
  A region that draws its order, whose operations read or call what leaves older memory alone: one walk serves every order.
-/
import Derived.Test.YtcbajgcblfgmgaaGreatDoorVal
namespace Go.Proofs.YtcbajgcblfgmgaaGreatDoor
open Go.RowKit
structure Past (W : World) where
  w : World
  b : Below W.heap.size W w
instance {W : World} : Nonempty (Past W) := ⟨⟨W, Below.refl _ _⟩⟩
theorem Past.le {W : World} (x : Past W) : W.heap.size ≤ x.w.heap.size := x.b.size
theorem Past.below {W : World} {B : Nat} (x : Past W) (h : B ≤ W.heap.size) : Below B W x.w := x.b.mono h
/- A contract that leaves older memory alone, met in a world of the class. -/
theorem past_of {P : Program} {W : World} {f : FuncId} {args : Array Value} {v : Value} (x : Past W) (h : Calls P f args x.w fun e w' => e = .returned v ∧ Below x.w.heap.size x.w w') :
    Calls P f args x.w fun e w'' => e = .returned v ∧ ∃ y : Past W, w'' = y.w :=
  h.mono fun _ _ ⟨he, hb⟩ => ⟨he, ⟨_, x.b.trans (hb.mono x.le)⟩, rfl⟩
theorem past_same {P : Program} {W : World} {f : FuncId} {args : Array Value} {v : Value} (x : Past W) (h : Calls P f args x.w fun e w' => e = .returned v ∧ x.w = w') :
    Calls P f args x.w fun e w'' => e = .returned v ∧ ∃ y : Past W, w'' = y.w :=
  h.mono fun _ _ ⟨he, hb⟩ => ⟨he, x, hb.symm⟩
theorem past_block {W : World} {b : Nat} {o : Obj} (h : W.heap[b]? = some o) (x : Past W) : x.w.heap[b]? = some o := by
  have hb : b < W.heap.size := by
    rcases Nat.lt_or_ge b W.heap.size with h' | h'
    · exact h'
    · rw [Array.getElem?_eq_none h'] at h; cases h
  exact (x.b.block b hb).trans h
/- What a box of a value is. -/
def Box (W : World) (b : Nat) (c0 c1 c2 c3 c4 : Value) : Prop := W.heap[b]? = some (.cells #[c0, c1, c2, c3, c4] 26 (0, 0))
theorem Box.cells {W : World} {b : Nat} {c0 c1 c2 c3 c4 : Value} (h : Box W b c0 c1 c2 c3 c4) :
    W.cell? ⟨b, 0, none⟩ = some c0 ∧ W.cell? ⟨b, 1, none⟩ = some c1 ∧ W.cell? ⟨b, 2, none⟩ = some c2 ∧ W.cell? ⟨b, 3, none⟩ = some c3 ∧ W.cell? ⟨b, 4, none⟩ = some c4 := by
  refine ⟨?_, ?_, ?_, ?_, ?_⟩ <;> rw [cell_of_row _ _ _ _ _ _ h] <;> rfl
theorem Box.past {W : World} {b : Nat} {c0 c1 c2 c3 c4 : Value} (h : Box W b c0 c1 c2 c3 c4) :
    (∀ x : Past W, x.w.cell? ⟨b, 0, none⟩ = some c0) ∧ (∀ x : Past W, x.w.cell? ⟨b, 1, none⟩ = some c1) ∧ (∀ x : Past W, x.w.cell? ⟨b, 2, none⟩ = some c2) ∧ (∀ x : Past W, x.w.cell? ⟨b, 3, none⟩ = some c3) ∧ (∀ x : Past W, x.w.cell? ⟨b, 4, none⟩ = some c4) := by
  have hx := fun x : Past W => Box.cells (W := x.w) (past_block h x)
  exact ⟨fun x => (hx x).1, fun x => (hx x).2.1, fun x => (hx x).2.2.1, fun x => (hx x).2.2.2.1, fun x => (hx x).2.2.2.2⟩
theorem Box.kept {W W' : World} {b : Nat} {c0 c1 c2 c3 c4 : Value} (h : Box W b c0 c1 c2 c3 c4) (hb : Below W.heap.size W W') : Box W' b c0 c1 c2 c3 c4 := past_block h ⟨W', hb⟩
theorem Box.new (W : World) (c0 c1 c2 c3 c4 : Value) : Box (W.alloc (.cells #[c0, c1, c2, c3, c4] 26 (0, 0))) W.heap.size c0 c1 c2 c3 c4 := heap_alloc_new _ _
theorem Box.alloc {W : World} {b : Nat} {c0 c1 c2 c3 c4 : Value} (h : Box W b c0 c1 c2 c3 c4) (o : Obj) : Box (W.alloc o) b c0 c1 c2 c3 c4 := h.kept ((Below.refl _ _).alloc (Nat.le_refl _) _)
theorem Box.set {W : World} {b : Nat} {c0 c1 c2 c3 c4 : Value} (h : Box W b c0 c1 c2 c3 c4) {p : Addr} (hp : b ≠ p.block) (u : Value) : Box (W.setCell p u) b c0 c1 c2 c3 c4 := (Below.heap_setCell W p u b hp).trans h
theorem Box.lt {W : World} {b : Nat} {c0 c1 c2 c3 c4 : Value} (h : Box W b c0 c1 c2 c3 c4) : b < W.heap.size := by
  unfold Box at h
  rcases Nat.lt_or_ge b W.heap.size with h' | h'
  · exact h'
  · rw [Array.getElem?_eq_none h'] at h; cases h
theorem Box.two (w : World) (c0 c1 c2 c3 c4 d0 d1 d2 d3 d4 : Value) : let W := (w.alloc (.cells #[c0, c1, c2, c3, c4] 26 (0, 0))).alloc (.cells #[d0, d1, d2, d3, d4] 26 (0, 0))
    Box W w.heap.size c0 c1 c2 c3 c4 ∧ Box W (w.heap.size + 1) d0 d1 d2 d3 d4 ∧ Below w.heap.size w W := by
  refine ⟨(Box.new _ _ _ _ _ _).alloc _, ?_, ((Below.refl _ _).alloc (Nat.le_refl _) _).alloc (by simp) _⟩
  have := Box.new (w.alloc (.cells #[c0, c1, c2, c3, c4] 26 (0, 0))) d0 d1 d2 d3 d4
  simpa using this
theorem C5.past {W : World} {a : Addr} {c0 c1 c2 c3 c4 : Value} {v : Value} (h : C5 W a v) (e : v = .agg #[c0, c1, c2, c3, c4]) (ha : a.block < W.heap.size) :
    (∀ x : Past W, x.w.cell? a = some c0) ∧ (∀ x : Past W, x.w.cell? ⟨a.block, a.off + 1, none⟩ = some c1) ∧ (∀ x : Past W, x.w.cell? ⟨a.block, a.off + 2, none⟩ = some c2) ∧ (∀ x : Past W, x.w.cell? ⟨a.block, a.off + 3, none⟩ = some c3) ∧ (∀ x : Past W, x.w.cell? ⟨a.block, a.off + 4, none⟩ = some c4) := by
  subst e
  have hx := fun x : Past W => h.kept ha x.b
  refine ⟨fun x => ?_, fun x => ?_, fun x => ?_, fun x => ?_, fun x => ?_⟩
  all_goals
    obtain ⟨d0, d1, d2, d3, d4, e, h0, h1, h2, h3, h4⟩ := hx x
    simp only [Value.agg.injEq, Array.mk.injEq, List.cons.injEq, and_true] at e
    obtain ⟨rfl, rfl, rfl, rfl, rfl⟩ := e
    assumption
/- THE STEP: the region in the class. 'F': what is known of the world at the region's head. -/
theorem wp_region_past {id : Nat} {Q : Exit → Act → World → Prop} {a : Act} {w : World} {l : List Oper} (F : World → Prop) (hF : F w) (hB : Region.lexB .any l.toArray = true)
    (h : ∀ W, F W → Below w.heap.size w W → wpQuiet Tryz.prog l.toArray (fun w' => ∃ x : Past W, w' = x.w) (fun a' => ∀ w', (∃ x : Past W, w' = x.w) → Q .normal a' w') l a) : (Code.region id l.toArray true).wp Tryz.prog Q a w :=
  wp_region_quiet (C := fun w' => ∃ x : Past w, w' = x.w) (by kernel_rfl) hB ⟨⟨_, (Below.refl _ _).drew⟩, rfl⟩ (by simpa using h w hF (Below.refl _ _))
/- A list of one value that lies in a block of its own. -/
theorem Rd.list1 {W : World} {B b : Nat} {c0 c1 c2 c3 c4 : Value} {t : VT} (hx : Box W b c0 c1 c2 c3 c4) (hb : b < B) (hr : Rd W B (.agg #[c0, c1, c2, c3, c4]) t) :
    Rd W B (.agg #[.int .i64 5, .int .i64 0, .string ⟨#[]⟩, .slice (some ⟨b, 0, none⟩) 1 1, .slice none 0 0]) (.mk 5 0 ⟨#[]⟩ [t] []) := by
  obtain ⟨x0, x1, x2, x3, x4⟩ := hx.cells
  refine .mk (fun _ => .agg #[c0, c1, c2, c3, c4]) (by unfold small; omega) (by unfold small; omega) (by decide) (by simp) rfl rfl (by decide) (by decide) (fun _ => ⟨_, rfl, hb, fun i hi => ?_⟩) (fun i u hu => ?_) (fun h => by simp at h)
  · obtain rfl : i = 0 := by omega
    exact ⟨_, _, _, _, _, rfl, x0, x1, x2, x3, x4⟩
  · cases i with
    | zero => simp at hu; subst hu; exact hr
    | succ j => simp at hu
end Go.Proofs.YtcbajgcblfgmgaaGreatDoor
