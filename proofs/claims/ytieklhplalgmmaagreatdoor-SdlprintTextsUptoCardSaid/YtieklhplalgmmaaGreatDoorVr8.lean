
/-
  Texts joined: YMem YIter YBuild YMake YParts YCmp.
-/
import Derived.Test.YtieklhplalgmmaaGreatDoorVr1
import Derived.Test.YtieklhplalgmmaaGreatDoorVr6
import Derived.Test.YtieklhplalgmmaaGreatDoorVr3
import Derived.ArgAppend
import Derived.DataElems
import Derived.RangeFuncBox
import Derived.RangeFuncLeaves
import Derived.RangeFuncWrites
import Derived.RangeFuncBound
import Derived.RangeFuncCalls
import Derived.Shelf.Abstract
import Derived.Shelf.RegionOpen
import Derived.OwnWalkIn
import Derived.TacticsInMore
import Derived.LoopNIn
import Derived.LoopIn
import Derived.Shelf.Strings.BuilderK
namespace Go.Proofs.YtieklhplalgmmaaGreatDoor.K
open Go.RowKit
def IntsAt (w : World) (B : Nat) (A : Option Addr) (xs : Ws) : Prop := 0 < xs.length → ∃ a, A = some a ∧ a.block < B ∧ ∀ (i : Nat) (x : Int), xs[i]? = some x → w.cell? (a.add i) = some (.int .i64 x)
theorem IntsAt.kept {w w' : World} {B : Nat} {A : Option Addr} {xs : Ws} (h : IntsAt w B A xs) (hb : Below B w w') : IntsAt w' B A xs := fun h0 => by
  obtain ⟨a, e, ha, hc⟩ := h h0
  exact ⟨a, e, ha, fun i x hx => (World.cell?_of_block (w := w) (hb.block _ (by rw [add_block]; exact ha))).trans (hc i x hx)⟩
theorem IntsAt.mono {w : World} {B B' : Nat} {A : Option Addr} {xs : Ws} (h : IntsAt w B A xs) (hB : B ≤ B') : IntsAt w B' A xs := fun h0 => by
  obtain ⟨a, e, ha, hc⟩ := h h0
  exact ⟨a, e, Nat.lt_of_lt_of_le ha hB, hc⟩
theorem IntsAt.stay {w w' : World} {A : Option Addr} {xs : Ws} (h : IntsAt w w.heap.size A xs) (hb : Below w.heap.size w w') : IntsAt w' w'.heap.size A xs := (h.kept hb).mono hb.size
theorem IntsAt.nil (w : World) (B : Nat) (A : Option Addr) : IntsAt w B A [] := fun h => absurd h (Nat.lt_irrefl _)
def subA (A : Option Addr) (k c : Nat) : Option Addr := A.map fun a => if c = k then a else a.add k
theorem IntsAt.drop {w : World} {B : Nat} {A : Option Addr} {xs : Ws} (h : IntsAt w B A xs) (k c : Nat) (hc : xs.length ≤ c) : IntsAt w B (subA A k c) (xs.drop k) := fun h0 => by
  rw [List.length_drop] at h0
  obtain ⟨a, rfl, ha, hx⟩ := h (by omega)
  refine ⟨a.add k, by unfold subA; simp only [Option.map_some, Option.some.injEq]; exact if_neg (by omega), by rw [add_block]; exact ha, fun i x hi => ?_⟩
  rw [Addr.add_add]
  exact hx _ _ (by rw [← hi, List.getElem?_drop])
def SlV (w : World) (B : Nat) (v : Value) (xs : Ws) : Prop := ∃ A c, v = .slice A xs.length c ∧ xs.length ≤ c ∧ IntsAt w B A xs
def RefV (w : World) (B : Nat) (v : Value) (n : ByteArray) (xs : Ws) : Prop := ∃ A c, v = .agg #[.string n, .slice A xs.length c] ∧ xs.length ≤ c ∧ IntsAt w B A xs
theorem SlV.kept {w w' : World} {B : Nat} {v : Value} {xs : Ws} (h : SlV w B v xs) (hb : Below B w w') : SlV w' B v xs := by
  obtain ⟨A, c, e, hc, h⟩ := h; exact ⟨A, c, e, hc, h.kept hb⟩
theorem SlV.mono {w : World} {B B' : Nat} {v : Value} {xs : Ws} (h : SlV w B v xs) (hB : B ≤ B') : SlV w B' v xs := by
  obtain ⟨A, c, e, hc, h⟩ := h; exact ⟨A, c, e, hc, h.mono hB⟩
theorem RefV.kept {w w' : World} {B : Nat} {v : Value} {n : ByteArray} {xs : Ws} (h : RefV w B v n xs) (hb : Below B w w') : RefV w' B v n xs := by
  obtain ⟨A, c, e, hc, h⟩ := h; exact ⟨A, c, e, hc, h.kept hb⟩
theorem RefV.mono {w : World} {B B' : Nat} {v : Value} {n : ByteArray} {xs : Ws} (h : RefV w B v n xs) (hB : B ≤ B') : RefV w B' v n xs := by
  obtain ⟨A, c, e, hc, h⟩ := h; exact ⟨A, c, e, hc, h.mono hB⟩
theorem RefV.stay {w w' : World} {v : Value} {n : ByteArray} {xs : Ws} (h : RefV w w.heap.size v n xs) (hb : Below w.heap.size w w') : RefV w' w'.heap.size v n xs := (h.kept hb).mono hb.size
theorem SlV.stay {w w' : World} {v : Value} {xs : Ws} (h : SlV w w.heap.size v xs) (hb : Below w.heap.size w w') : SlV w' w'.heap.size v xs := (h.kept hb).mono hb.size
def RefPost (n : ByteArray) (xs : Ws) (w : World) (e : Ending) (w' : World) : Prop := (∃ u, e = .returned u ∧ RefV w' w'.heap.size u n xs) ∧ Below w.heap.size w w'
def SlPost (xs : Ws) (w : World) (e : Ending) (w' : World) : Prop := (∃ u, e = .returned u ∧ SlV w' w'.heap.size u xs) ∧ Below w.heap.size w w'
def BxR (W : World) (b : Nat) (c0 c1 : Value) : Prop := W.heap[b]? = some (.cells #[c0, c1] 38 (0, 0))
theorem BxR.cells {W : World} {b : Nat} {c0 c1 : Value} (h : BxR W b c0 c1) : W.cell? ⟨b, 0, none⟩ = some c0 ∧ W.cell? ⟨b, 1, none⟩ = some c1 := by
  refine ⟨?_, ?_⟩ <;> rw [cell_of_row _ _ _ _ _ _ h] <;> rfl
theorem BxR.frz {W : World} {b : Nat} {c0 c1 : Value} (h : BxR W b c0 c1) (i : Nat) : W.frozen? ⟨b, i, none⟩ = false := by
  unfold BxR at h; simp [World.frozen?, h]
theorem BxR.s0 {W : World} {b : Nat} {c0 c1 : Value} (h : BxR W b c0 c1) (u : Value) : BxR (W.setCell ⟨b, 0, none⟩ u) b u c1 := by
  unfold BxR at h ⊢; simp [World.setCell, Array.getElem?_modify, h]
theorem BxR.s1 {W : World} {b : Nat} {c0 c1 : Value} (h : BxR W b c0 c1) (u : Value) : BxR (W.setCell ⟨b, 1, none⟩ u) b c0 u := by
  unfold BxR at h ⊢; simp [World.setCell, Array.getElem?_modify, h]
theorem BxR.two {W : World} {b : Nat} {c0 c1 : Value} (h : BxR W b c0 c1) (u0 u1 : Value) : BxR ((W.setCell ⟨b, 0, none⟩ u0).setCell ⟨b, 1, none⟩ u1) b u0 u1 := (h.s0 u0).s1 u1
theorem BxR.lt {W : World} {b : Nat} {c0 c1 : Value} (h : BxR W b c0 c1) : b < W.heap.size := by
  unfold BxR at h
  rcases Nat.lt_or_ge b W.heap.size with h' | h'
  · exact h'
  · rw [Array.getElem?_eq_none h'] at h; cases h
theorem BxR.kept {W W' : World} {b : Nat} {c0 c1 : Value} (h : BxR W b c0 c1) (hb : W'.heap[b]? = W.heap[b]?) : BxR W' b c0 c1 := hb.trans h
theorem BxR.stay {W W' : World} {b : Nat} {c0 c1 : Value} (h : BxR W b c0 c1) (hb : Below W.heap.size W W') : BxR W' b c0 c1 := h.kept (hb.block b h.lt)
theorem BxR.new (W : World) (c0 c1 : Value) : BxR (W.alloc (.cells #[c0, c1] 38 (0, 0))) W.heap.size c0 c1 := heap_alloc_new _ _
theorem BxR.alloc {W : World} {b : Nat} {c0 c1 : Value} (h : BxR W b c0 c1) (o : Obj) : BxR (W.alloc o) b c0 c1 := h.stay ((Below.refl _ _).alloc (Nat.le_refl _) _)
theorem Below.pair {N b : Nat} {w w' : World} (h : Below N w w') (hb : N ≤ b) (u0 u1 : Value) : Below N w ((w'.setCell ⟨b, 0, none⟩ u0).setCell ⟨b, 1, none⟩ u1) :=
  (h.setCell (p := ⟨b, 0, none⟩) hb u0).setCell (p := ⟨b, 1, none⟩) hb u1
theorem BxR.args (w : World) (c0 c1 : Value) : let W := (w.alloc (.cells #[c0, c1] 38 (0, 0))).alloc (.cells #[.string ⟨#[]⟩, .slice none 0 0] 38 (0, 0))
    BxR W w.heap.size c0 c1 ∧ BxR W (w.heap.size + 1) (.string ⟨#[]⟩) (.slice none 0 0) ∧ Below w.heap.size w W ∧ W.heap.size = w.heap.size + 2 := by
  refine ⟨(BxR.new _ _ _).alloc _, ?_, ((Below.refl _ _).alloc (Nat.le_refl _) _).alloc (by simp) _, by simp⟩
  have := BxR.new (w.alloc (.cells #[c0, c1] 38 (0, 0))) (.string ⟨#[]⟩) (.slice none 0 0)
  simpa using this
theorem BxR.both (w : World) (c0 c1 d0 d1 : Value) : let W := (w.alloc (.cells #[c0, c1] 38 (0, 0))).alloc (.cells #[d0, d1] 38 (0, 0))
    BxR W w.heap.size c0 c1 ∧ BxR W (w.heap.size + 1) d0 d1 ∧ Below w.heap.size w W ∧ W.heap.size = w.heap.size + 2 := by
  refine ⟨(BxR.new _ _ _).alloc _, ?_, ((Below.refl _ _).alloc (Nat.le_refl _) _).alloc (by simp) _, by simp⟩
  have := BxR.new (w.alloc (.cells #[c0, c1] 38 (0, 0))) d0 d1
  simpa using this
theorem infoI : (Tryz.prog.info? 3).map (fun i => (i.zero, i.size, i.bytes)) = some (some (.int .i64 0), 1, 8) := by kernel_rfl
theorem infoIp : ∃ i, Tryz.prog.info? 3 = some i ∧ i.zero = some (.int .i64 0) ∧ i.size = 1 ∧ i.bytes = 8 := by
  have h := infoI
  cases hi : Tryz.prog.info? 3 with
  | none => rw [hi] at h; simp at h
  | some i => rw [hi] at h; simp at h; exact ⟨i, rfl, h.1, h.2.1, h.2.2⟩
def inC (xs : Ws) : List Value := xs.map (Value.int .i64)
def OwnI (w : World) (base : Nat) (v : Value) (xs : Ws) : Prop := w.ownsRow base 3 1 v xs.length (inC xs)
theorem row_kept {w w' : World} {base : Nat} {e : TypeId} {size : Nat} {v : Value} {n : Nat} {xs : List Value} (h : w.ownsRow base e size v n xs) (hb : ∀ g, base ≤ g → g < w.heap.size → v.ownBlock = some g → w'.heap[g]? = w.heap[g]?) : w'.ownsRow base e size v n xs := by
  refine ⟨h.1, h.2.imp id ?_⟩
  rintro ⟨g, cap, cur, rfl, e2, e3, r⟩
  have hg : g < w.heap.size := by
    rcases Nat.lt_or_ge g w.heap.size with h' | h'
    · exact h'
    · rw [Array.getElem?_eq_none h'] at e3; cases e3
  exact ⟨g, cap, cur, rfl, e2, (hb g e2 hg rfl).trans e3, r⟩
theorem OwnI.stay {w w' : World} {base : Nat} {v : Value} {xs : Ws} (h : OwnI w base v xs) (hb : Below w.heap.size w w') : OwnI w' base v xs := row_kept h fun g _ hg _ => hb.block g hg
theorem OwnI.nil (w : World) (base : Nat) : OwnI w base (.slice none 0 0) [] := ⟨rfl, .inl ⟨rfl, rfl⟩⟩
theorem OwnI.lt {w : World} {base : Nat} {v : Value} {xs : Ws} (h : OwnI w base v xs) : ∀ k, v.ownBlock = some k → base ≤ k ∧ k < w.heap.size := World.ownsRow.lt h
theorem OwnI.zero (w : World) : OwnI (w.alloc (.cells #[] 3 (0, 0))) w.heap.size (.slice (some ⟨w.heap.size, 0, none⟩) 0 0) [] := by
  refine ⟨rfl, .inr ⟨w.heap.size, 0, #[], rfl, Nat.le_refl _, heap_alloc_new _ _, Nat.le_refl _, by decide, rfl, rfl⟩⟩
theorem OwnI.sl {w : World} {base : Nat} {v : Value} {xs : Ws} (h : OwnI w base v xs) : SlV w w.heap.size v xs := by
  have hh : w.ownsRow base 3 1 v xs.length (inC xs) := h
  rcases hh.2 with ⟨rfl, hz⟩ | ⟨g, cap, cur, rfl, h1, h2, h3⟩
  · have : xs = [] := List.eq_nil_of_length_eq_zero hz
    subst this
    exact ⟨none, 0, rfl, Nat.le_refl _, IntsAt.nil _ _ _⟩
  · have hlt := (World.ownsRow.lt hh g rfl).2
    refine ⟨some ⟨g, 0, none⟩, cap, rfl, h3.1, fun _ => ⟨_, rfl, hlt, fun i x hx => ?_⟩⟩
    exact hh.cells (g := g) rfl i (.int .i64 x) (by unfold inC; simp [hx])
theorem inC_app (a b : Ws) : inC (a ++ b) = inC a ++ inC b := List.map_append
theorem inC_len (a : Ws) : (inC a).length = a.length := List.length_map _
theorem inC_cell {w : World} {a : Addr} {xs : Ws} (h : ∀ (i : Nat) (x : Int), xs[i]? = some x → w.cell? (a.add i) = some (.int .i64 x)) : ∀ j u, (inC xs)[j]? = some u → w.cell? (a.add j) = some u := by
  intro j u hj
  unfold inC at hj
  rw [List.getElem?_map, Option.map_eq_some_iff] at hj
  obtain ⟨x, hx, rfl⟩ := hj
  exact h j x hx
theorem inC_one (xs : Ws) : ∀ u ∈ inC xs, u.oneCell' = true := by
  intro u hu
  unfold inC at hu
  obtain ⟨x, _, rfl⟩ := List.mem_map.1 hu
  rfl
def Full (v : Value) : Prop := v = .slice none 0 0 ∨ ∃ g n, v = .slice (some ⟨g, 0, none⟩) n n
theorem ints_append {w : World} (ty : TypeId) {base : Nat} {v : Value} {xs : Ws} (hown : OwnI w base v xs) (hf : Full v) (hbase : base ≤ w.heap.size) {B : Nat} {A : Option Addr} {c : Nat} {ys : Ws} (h : IntsAt w B A ys)
    (hl : xs.length + ys.length ≤ 2000000) : ∃ v' w', (Builtin.append_ #[36, 36] ty #[v, .slice A ys.length c]).run Tryz.prog w = .ok v' w' ∧ Below w.heap.size w w' ∧ OwnI w' base v' (xs ++ ys) := by
  obtain ⟨i, hi, hz, hsize, hby⟩ := infoIp
  by_cases h0 : 0 < ys.length
  · obtain ⟨a, rfl, ha, hc⟩ := h h0
    have hg : ∃ v' w', (Builtin.append_ #[36, 36] ty #[v, .slice (some a) ys.length c]).run Tryz.prog w = .ok v' w' ∧ w'.ownsRow base 3 1 v' (xs.length + ys.length) (inC xs ++ inC ys) ∧ w.grownBy w' none := by
      rcases hf with rfl | ⟨g, n, rfl⟩
      · obtain ⟨v', w', hr, h2, h3, _⟩ := run_append_own (P := Tryz.prog) w base 36 ty 3 i _ 1 8 Tryz.underlying36 hi hz hsize hby rfl (by decide) _ _ _ hown a ys.length c (inC ys) (by rw [inC_len, Nat.mul_one]) (inC_cell hc) (inC_one ys) (by unfold maxLen; omega) (by omega) hbase
        exact ⟨v', w', hr, h2, h3⟩
      · have hn : n = xs.length := by
          rcases hown.2 with ⟨e, _⟩ | ⟨g', cap, cur, e, _⟩
          · cases e
          · cases e; rfl
        subst hn
        obtain ⟨v', w', hr, h2, h3⟩ := run_append_arg_grows (P := Tryz.prog) w 36 ty 3 i _ 1 8 Tryz.underlying36 hi hz hsize hby rfl (by decide) ⟨g, 0, none⟩ xs.length xs.length (inC xs) (by rw [inC_len, Nat.mul_one]) (World.ownsRow.cells hown (g := g) rfl) a ys.length c (inC ys) (by rw [inC_len, Nat.mul_one]) (inC_cell hc) (by omega) (by unfold maxLen; omega) (by omega)
        refine ⟨v', w', hr, ⟨h2.1, h2.2.imp id ?_⟩, h3⟩
        rintro ⟨g', cap, cur, e1, e2, r⟩
        exact ⟨g', cap, cur, e1, Nat.le_trans hbase e2, r⟩
    obtain ⟨v', w', hr, h2, h3⟩ := hg
    refine ⟨v', w', hr, ⟨h3.os, h3.tape, h3.output, h3.size, fun k hk => h3.block k hk (fun e => by cases e)⟩, ?_⟩
    unfold OwnI
    rw [List.length_append, inC_app]
    exact h2
  · have : ys = [] := List.eq_nil_of_length_eq_zero (by omega)
    subst this
    refine ⟨v, w, ?_, Below.refl _ _, by rw [List.append_nil]; exact hown⟩
    rcases hf with rfl | ⟨g, n, rfl⟩
    · cases A <;> simp [Builtin.append_, run_underlying Tryz.underlying36, sizeOf, typeInfo, hi, Builtin.lenOf, Builtin.firstCells, loadCells, loadCellsFrom]
    · cases A <;> simp [Builtin.append_, run_underlying Tryz.underlying36, sizeOf, typeInfo, hi, Builtin.lenOf, Builtin.firstCells, loadCells, loadCellsFrom, storeCells]
def Fact.ref (n : ByteArray) (xs : Ws) : Fact := ⟨fun u w => RefV w w.heap.size u n xs, fun _ _ _ h hb => h.stay hb⟩
def Fact.sl (xs : Ws) : Fact := ⟨fun u w => SlV w w.heap.size u xs, fun _ _ _ h hb => h.stay hb⟩
def Fact.row (base : Nat) (xs : Ws) : Fact := ⟨fun u w => (OwnI w base u xs ∧ base ≤ w.heap.size) ∧ Full u, fun _ _ _ h hb => ⟨⟨h.1.1.stay hb, Nat.le_trans h.1.2 hb.size⟩, h.2⟩⟩
section
variable {ops : Array Oper} {Q : Exit → Act → World → Prop} {o : Oper} {a : Act} {w : World} {R : Value → World → Prop}
theorem rc_fa0 (hw : Region.wanted o (yielded ops a.tmps) = true) (x : Operand) {g : Nat}
    (ho : o.op = .fieldAddr 38 x 0) (hx : a.eval x = .pointer (some ⟨g, 0, none⟩)) (h : R (.pointer (some ⟨g, 0, none⟩)) w) : Runs Tryz.prog ops Q o a w R :=
  runs_value hw (by generalize a.eval = ρ at hx; simp [execOp, ho, go_sem, hx]) h
theorem rc_fa1 (hw : Region.wanted o (yielded ops a.tmps) = true) (x : Operand) {g : Nat}
    (ho : o.op = .fieldAddr 38 x 1) (hx : a.eval x = .pointer (some ⟨g, 0, none⟩)) (h : R (.pointer (some ⟨g, 1, none⟩)) w) : Runs Tryz.prog ops Q o a w R :=
  runs_value hw (by generalize a.eval = ρ at hx; simp [execOp, ho, go_sem, hx]) h
theorem rc_ldS (hw : Region.wanted o (yielded ops a.tmps) = true) (x : Operand) {g i : Nat} {v : Value}
    (ho : o.op = .load 9 x) (hx : a.eval x = .pointer (some ⟨g, i, none⟩)) (hc : w.cell? ⟨g, i, none⟩ = some v) (h : R v w) : Runs Tryz.prog ops Q o a w R :=
  runs_value hw (by generalize a.eval = ρ at hx; simp [execOp, ho, go_sem, hx, hc]) h
theorem rc_ldI (hw : Region.wanted o (yielded ops a.tmps) = true) (x : Operand) {g i : Nat} {v : Value}
    (ho : o.op = .load 36 x) (hx : a.eval x = .pointer (some ⟨g, i, none⟩)) (hc : w.cell? ⟨g, i, none⟩ = some v) (h : R v w) : Runs Tryz.prog ops Q o a w R :=
  runs_value hw (by generalize a.eval = ρ at hx; simp [execOp, ho, go_sem, hx, hc]) h
theorem rc_made0 (hw : Region.wanted o (yielded ops a.tmps) = true) (ho : o.op = .buildSlice 36 0 #[])
    (h : R (.slice (some ⟨w.heap.size, 0, none⟩) 0 0) (w.alloc (.cells #[] 3 (0, 0)))) : Runs Tryz.prog ops Q o a w R :=
  runs_value hw (by simp [execOp, ho, go_sem]) h
theorem rc_slice (hw : Region.wanted o (yielded ops a.tmps) = true) (x y : Operand) {A : Option Addr} {l c k : Nat} (ho : o.op = .slice 36 x (some y) none none) (hx : a.eval x = .slice A l c) (hy : a.eval y = .int .i64 k) (hk : k ≤ l) (hl : l ≤ c)
    (h : R (.slice (subA A k c) (l - k) (c - k)) w) : Runs Tryz.prog ops Q o a w R :=
  runs_value hw (by
    generalize a.eval = ρ at hx hy
    have h1 : (k : Int) ≤ (l : Int) := by omega
    have h2 : (l : Int) ≤ (c : Int) := by omega
    cases A with
    | none => simp [execOp, ho, go_sem, hx, hy, subA, h1]
    | some b => simp [execOp, ho, go_sem, hx, hy, subA, h1]; split <;> rfl) h
theorem rc_build (hw : Region.wanted o (yielded ops a.tmps) = true) (x y : Operand) {n : ByteArray} {A : Option Addr} {l c : Nat} (ho : o.op = .build 38 #[(0, x), (1, y)]) (hx : a.eval x = .string n) (hy : a.eval y = .slice A l c)
    (h : R (.agg #[.string n, .slice A l c]) w) : Runs Tryz.prog ops Q o a w R :=
  runs_value hw (by generalize a.eval = ρ at hx hy; simp [execOp, ho, go_sem, hx, hy]) h
theorem rc_append (hw : Region.wanted o (yielded ops a.tmps) = true) (x y : Operand) (ho : o.op = .call { callee := .builtin .append, args := #[x, y], argTypes := #[36, 36] }) {base : Nat} {v : Value} {xs : Ws} (hx : a.eval x = v)
    (hown : OwnI w base v xs) (hf : Full v) (hbase : base ≤ w.heap.size) {B c l : Nat} {A : Option Addr} {ys : Ws} (hy : a.eval y = .slice A l c) (hyl : l = ys.length) (hys : IntsAt w B A ys) (hl : xs.length + ys.length ≤ 2000000)
    (h : ∀ v' w', Below w.heap.size w w' → OwnI w' base v' (xs ++ ys) → R v' w') : Runs Tryz.prog ops Q o a w R := by
  subst hyl
  obtain ⟨v', w', hr, hb, hk⟩ := ints_append o.type (c := c) hown hf hbase hys hl
  refine runs_value (v := v') (w' := w') hw ?_ (h v' w' hb hk)
  unfold execOp
  simp only [ho, resolve, invoke, builtin, Sem.run_bind, Sem.run_pure, Result.andThen_ok, List.map_toArray, List.map_cons, List.map_nil, hx, hy, hr]
theorem store_run {P : Program} {W : World} {p : Addr} {u v : Value} (hc : W.cell? p = some u) (hf : W.frozen? p = false) (hv : v.oneCell' = true) : (store p v).run P W = .ok () (W.setCell p v) := by
  rw [run_store P W p v _ hv, hc]
  simp [hf]
def RefB (w : World) (b : Nat) (n : ByteArray) (xs : Ws) : Prop := ∃ A c, BxR w b (.string n) (.slice A xs.length c) ∧ xs.length ≤ c ∧ IntsAt w w.heap.size A xs
theorem RefB.stay {w w' : World} {b : Nat} {n : ByteArray} {xs : Ws} (h : RefB w b n xs) (hb : Below w.heap.size w w') : RefB w' b n xs := by
  obtain ⟨A, c, h1, h2, h3⟩ := h; exact ⟨A, c, h1.stay hb, h2, h3.stay hb⟩
theorem RefB.v {w : World} {b : Nat} {n : ByteArray} {xs : Ws} (h : RefB w b n xs) : ∃ c0 c1, BxR w b c0 c1 ∧ RefV w w.heap.size (.agg #[c0, c1]) n xs := by
  obtain ⟨A, c, h1, h2, h3⟩ := h; exact ⟨_, _, h1, A, c, rfl, h2, h3⟩
theorem IntsAt.off {w : World} {B g : Nat} {A : Option Addr} {xs : Ws} (h : IntsAt w B A xs) {s : ByteArray} {A' : Option Addr} {l c : Nat} (hb : BxR w g (.string s) (.slice A' l c)) (j : Nat) (u : Value) : IntsAt (w.setCell ⟨g, j, none⟩ u) B A xs := fun h0 => by
  obtain ⟨a, e, ha, hc⟩ := h h0
  refine ⟨a, e, ha, fun i x hx => ?_⟩
  have hx' := hc i x hx
  by_cases hg : (a.add i).block = g
  · exfalso
    rw [show a.add i = ⟨g, (a.add i).off, (a.add i).spot⟩ by rw [← hg]] at hx'
    unfold BxR at hb
    generalize (a.add i).off = k at hx'
    generalize (a.add i).spot = sp at hx'
    unfold World.cell? at hx'
    rw [hb] at hx'
    match k, hx' with
    | 0, h => simp at h
    | 1, h => simp at h
    | k + 2, h => simp at h
  · exact (World.cell?_of_block (w := w) (Below.heap_setCell w _ _ _ hg)).trans hx'
theorem RefB.put {w : World} {g : Nat} {s : ByteArray} {A' : Option Addr} {l c : Nat} (hb : BxR w g (.string s) (.slice A' l c)) {n : ByteArray} {xs : Ws} {A : Option Addr} {d : Nat} (hd : xs.length ≤ d) (h : IntsAt w w.heap.size A xs) :
    RefB ((w.setCell ⟨g, 0, none⟩ (.string n)).setCell ⟨g, 1, none⟩ (.slice A xs.length d)) g n xs := by
  refine ⟨A, d, hb.two _ _, hd, ?_⟩
  have h1 := (h.off hb 0 (.string n)).off (hb.s0 (.string n)) 1 (.slice A xs.length d)
  simpa using h1
theorem RefB.off {w : World} {g b : Nat} {s : ByteArray} {A' : Option Addr} {l c : Nat} (hb : BxR w g (.string s) (.slice A' l c)) {n : ByteArray} {xs : Ws} (h : RefB w b n xs) (hn : b ≠ g) (j : Nat) (u : Value) : RefB (w.setCell ⟨g, j, none⟩ u) b n xs := by
  obtain ⟨A, d, h1, h2, h3⟩ := h
  exact ⟨A, d, h1.kept (Below.heap_setCell w _ _ _ hn), h2, by simpa using h3.off hb j u⟩
theorem rk_ldS (hw : Region.wanted o (yielded ops a.tmps) = true) (x : Operand) {g : Nat} {n : ByteArray} {xs : Ws}
    (ho : o.op = .load 9 x) (hx : a.eval x = .pointer (some ⟨g, 0, none⟩)) (hb : RefB w g n xs) (h : R (.string n) w) : Runs Tryz.prog ops Q o a w R := by
  obtain ⟨A, c, h1, h2, h3⟩ := hb; exact rc_ldS hw x ho hx h1.cells.1 h
theorem rk_ldI (hw : Region.wanted o (yielded ops a.tmps) = true) (x : Operand) {g : Nat} {n : ByteArray} {xs : Ws}
    (ho : o.op = .load 36 x) (hx : a.eval x = .pointer (some ⟨g, 1, none⟩)) (hb : RefB w g n xs) (h : ∀ u, SlV w w.heap.size u xs → R u w) : Runs Tryz.prog ops Q o a w R := by
  obtain ⟨A, c, h1, h2, h3⟩ := hb; exact rc_ldI hw x ho hx h1.cells.2 (h _ ⟨A, c, rfl, h2, h3⟩)
theorem rk_slice (hw : Region.wanted o (yielded ops a.tmps) = true) (x y : Operand) {xs : Ws} {k : Nat} (ho : o.op = .slice 36 x (some y) none none) (hx : SlV w w.heap.size (a.eval x) xs) (hy : a.eval y = .int .i64 k) (hk : k ≤ xs.length)
    (h : ∀ u, SlV w w.heap.size u (xs.drop k) → R u w) : Runs Tryz.prog ops Q o a w R := by
  obtain ⟨A, c, e, h2, h3⟩ := hx
  refine rc_slice hw x y ho e hy hk h2 (h _ ⟨subA A k c, c - k, by rw [List.length_drop], by rw [List.length_drop]; omega, h3.drop k c h2⟩)
theorem rk_append (hw : Region.wanted o (yielded ops a.tmps) = true) (x y : Operand) (ho : o.op = .call { callee := .builtin .append, args := #[x, y], argTypes := #[36, 36] }) {base : Nat} {xs ys : Ws}
    (hx : (OwnI w base (a.eval x) xs ∧ base ≤ w.heap.size) ∧ Full (a.eval x)) (hy : SlV w w.heap.size (a.eval y) ys) (hl : xs.length + ys.length ≤ 2000000) (h : ∀ v' w', Below w.heap.size w w' → SlV w' w'.heap.size v' (xs ++ ys) → R v' w') : Runs Tryz.prog ops Q o a w R := by
  obtain ⟨A, c, e, h2, h3⟩ := hy
  exact rc_append hw x y ho rfl hx.1.1 hx.2 hx.1.2 e rfl h3 hl fun v' w' hb ho => h v' w' hb ho.sl
theorem rk_build (hw : Region.wanted o (yielded ops a.tmps) = true) (x y : Operand) {n : ByteArray} {xs : Ws} (ho : o.op = .build 38 #[(0, x), (1, y)]) (hx : a.eval x = .string n) (hy : SlV w w.heap.size (a.eval y) xs)
    (h : ∀ u, RefV w w.heap.size u n xs → R u w) : Runs Tryz.prog ops Q o a w R := by
  obtain ⟨A, c, e, h2, h3⟩ := hy
  exact rc_build hw x y ho hx e (h _ ⟨A, c, rfl, h2, h3⟩)
theorem store2_run {x y : Operand} {g : Nat} {b0 b1 c0 c1 : Value} (ho : o.op = .store 38 x y) (hx : a.eval x = .pointer (some ⟨g, 0, none⟩)) (hy : a.eval y = .agg #[c0, c1]) (hb : BxR w g b0 b1) (h0 : c0.oneCell' = true) (h1 : c1.oneCell' = true) :
    (execOp a.eval o).run Tryz.prog w = .ok .skip ((w.setCell ⟨g, 0, none⟩ c0).setCell ⟨g, 1, none⟩ c1) := by
  have q0 := store_run (P := Tryz.prog) (hb.cells.1) (hb.frz 0) h0
  have hb1 := hb.s0 c0
  have q1 := store_run (P := Tryz.prog) (hb1.cells.2) (hb1.frz 1) h1
  generalize a.eval = ρ at hx hy
  simp [execOp, ho, go_sem, hx, hy, q0, q1]
theorem str_eq (n m : ByteArray) : (n.toList == m.toList) = decide (n = m) := by
  rw [Lib.toList_data, Lib.toList_data]
  by_cases h : n = m
  · subst h; simp
  · have : ¬ n.data = m.data := fun e => h (by cases n; cases m; simp at e; rw [e])
    simp [h, this]
theorem rk_store (hw : Region.wanted o (yielded ops a.tmps) = true) (x y : Operand) {g : Nat} {s n : ByteArray} {A' : Option Addr} {l c : Nat} {xs : Ws} (ho : o.op = .store 38 x y) (hx : a.eval x = .pointer (some ⟨g, 0, none⟩))
    (hb : BxR w g (.string s) (.slice A' l c)) (hy : RefV w w.heap.size (a.eval y) n xs) (h : ∀ w', RefB w' g n xs → (∀ N, N ≤ g → Below N w w') → R undef w') : Runs Tryz.prog ops Q o a w R := by
  obtain ⟨A, d, e, h2, h3⟩ := hy
  refine runs_skip hw (w' := (w.setCell ⟨g, 0, none⟩ (.string n)).setCell ⟨g, 1, none⟩ (.slice A xs.length d)) ?_ (h _ (RefB.put hb h2 h3) fun N hN => Below.pair (Below.refl _ _) hN _ _)
  exact store2_run ho hx e hb rfl rfl
theorem rk_made0 (hw : Region.wanted o (yielded ops a.tmps) = true) (ho : o.op = .buildSlice 36 0 #[]) {N : Nat} (hN : N ≤ w.heap.size)
    (h : ∀ v w', Below w.heap.size w w' → (OwnI w' N v [] ∧ N ≤ w'.heap.size) ∧ Full v → R v w') : Runs Tryz.prog ops Q o a w R := by
  refine rc_made0 hw ho (h _ _ ((Below.refl _ _).alloc (Nat.le_refl _) _) ⟨⟨⟨(OwnI.zero w).1, (OwnI.zero w).2.imp id ?_⟩, by simp; omega⟩, .inr ⟨_, _, rfl⟩⟩)
  rintro ⟨g, cap, cur, e1, e2, r⟩
  exact ⟨g, cap, cur, e1, Nat.le_trans hN e2, r⟩
end
end Go.Proofs.YtieklhplalgmmaaGreatDoor.K
namespace Go.Proofs.YtieklhplalgmmaaGreatDoor.K
open Go.RowKit Go.Shelf
attribute [local go_sem] Oper.semAt_some
def bwL (xs : Ws) (k : Nat) : List (Int × Int) := (List.range k).map fun j => (((xs.length - 1 - j : Nat) : Int), xs.getD (xs.length - 1 - j) 0)
theorem bw_succ (xs : Ws) (k : Nat) : bwL xs (k + 1) = bwL xs k ++ [(((xs.length - 1 - k : Nat) : Int), xs.getD (xs.length - 1 - k) 0)] := by simp [bwL, List.range_succ]
theorem bw_len (xs : Ws) (k : Nat) : (bwL xs k).length = k := by simp [bwL]
theorem bw_all (xs : Ws) : (bwL xs xs.length).map (fun p => p.2) = xs.reverse := by
  apply List.ext_getElem
  · simp [bwL]
  · intro i h1 h2
    have hi : i < xs.length := by simpa [bwL] using h1
    have h3 : xs.length - 1 - i < xs.length := by omega
    simp [bwL, h3]
def KpB (n0 b : Nat) (W W' : World) : Prop := Below n0 W W' ∧ W'.heap[b]? = W.heap[b]?
theorem KpB.trans {n0 b : Nat} {A B C : World} (h : KpB n0 b A B) (k : KpB n0 b B C) : KpB n0 b A C := ⟨h.1.trans k.1, k.2.trans h.2⟩
theorem KpB.refl (n0 b : Nat) (W : World) : KpB n0 b W W := ⟨Below.refl _ _, rfl⟩
set_option maxRecDepth 100000 in
set_option maxHeartbeats 2000000 in
theorem bwd1_in (F : Fence) (n : Nat) (h7 : F.fn 107) (hro : F.round = none) (hn : 1 ≤ n) (l Bs n0 : Nat) (A : Option Addr) (c : Nat) (xs : Ws) (hl : xs.length ≤ 1000000) (J Jx : List (Int × Int) → World → Prop)
    (hY : ∀ pre x W, J pre W → pre.length < xs.length → YieldAt F (n - 1) Tryz.prog l #[.int .i64 x.1, .int .i64 x.2] W fun e W' =>
      (e = .returned (.bool true) ∧ J (pre ++ [x]) W' ∧ KpB n0 Bs W W') ∨ (e = .returned (.bool false) ∧ Jx (pre ++ [x]) W'))
    (W : World) (hBs : W.cell? ⟨Bs, 0, none⟩ = some (.slice A xs.length c)) (hc : IntsAt W n0 A xs) (h0 : J [] W) :
    CallsIn F n Tryz.prog 107 #[.func (.yield l) #[] #[], .pointer (some ⟨Bs, 0, none⟩)] W fun e W' => (∃ v, e = .returned v) ∧
      ((∃ ys, ys = bwL xs xs.length ∧ J ys W') ∨ (∃ pre, (∃ k, k ≤ xs.length ∧ pre = bwL xs k) ∧ Jx pre W')) := by
  refine callsIn_of_wp Tryz.func107 rfl h7 ?_ hro
  simp only [Tryz.ntmps107, List.size_toArray, List.length_cons, List.length_nil, Nat.reduceAdd, Nat.reduceSub, Array.replicate_succ, Array.replicate_zero, List.push_toArray, List.append_toArray, List.nil_append, List.cons_append]
  have hlm : ((xs.length : Int) ≤ 1000000) := by omega
  gi_wp2
  gi_loopw [3] (fun i wr => ∃ m : Nat, m ≤ xs.length ∧ i = .int .i64 ((m : Int) - 1) ∧ J (bwL xs (xs.length - m)) wr ∧ KpB n0 Bs W wr)
    (fun i _ => (intOf i + 1).toNat)
  case atStart => exact ⟨xs.length, Nat.le_refl _, rfl, by rw [Nat.sub_self]; exact h0, KpB.refl _ _ _⟩
  case round =>
    obtain ⟨m, hm, rfl, hJs, hnx⟩ := hrel
    have hbs : wr.cell? ⟨Bs, 0, none⟩ = some (.slice A xs.length c) := (World.cell?_of_block (w := W) hnx.2).trans hBs
    cases m with
    | zero =>
      gi_wp2
      go_end0
      exact ⟨⟨_, rfl⟩, .inl ⟨_, rfl, hJs⟩⟩
    | succ j =>
      obtain ⟨a, ea, ha, hcell⟩ := hc.kept hnx.1 (by omega)
      subst ea
      have hj : j < xs.length := by omega
      have hcx := hcell j _ (List.getElem?_eq_getElem hj)
      have e1 : xs.length - 1 - (xs.length - (j + 1)) = j := by omega
      have e2 : xs.length - (j + 1) + 1 = xs.length - j := by omega
      have e3 : xs.getD j 0 = xs[j] := by simp [hj]
      have hbw := bw_succ xs (xs.length - (j + 1))
      rw [e1, e2, e3] at hbw
      generalize xs[j] = x at *
      have hjl : (j : Int) < xs.length := by omega
      obtain ⟨fn, tmps, assign, body, hy, hR⟩ := hY _ ((j : Int), x) wr hJs (by rw [bw_len]; omega)
      dsimp only at hy
      have HBW := Lib.hid hbw
      have HNX := Lib.hid hnx
      clear hbw hnx e1 e2 e3 hcell hj
      gi_wp2
      refine hR.mono ?_
      rintro e W3 (⟨rfl, hJ3, hk3⟩ | ⟨rfl, hJx3⟩)
      · have HJ3 := Lib.hid hJ3
        have HK3 := Lib.hid hk3
        clear hJ3 hk3
        gi_wp2
        go_roundw
        case rel => exact ⟨j, by omega, by go_num, by rw [HBW.out]; exact HJ3.out, HNX.out.trans HK3.out⟩
        case measure => simp [intOf]
      · have HJ3 := Lib.hid hJx3
        clear hJx3
        gi_wp2
        refine bodyPost_ret (results_none rfl _ _ _) rfl ?_
        exact ⟨⟨_, rfl⟩, .inr ⟨_, ⟨_, by omega, HBW.out.symm⟩, HJ3.out⟩⟩
set_option maxHeartbeats 1000000 in
theorem bwd_in (F : Fence) (n : Nat) (h5 : F.fn 90) (hro : F.round = none) (a : Option Addr) (len cap : Nat) (w : World) :
    CallsIn F n Tryz.prog 90 #[.slice a len cap] w fun e w' => e = .returned (.func (.func 107) #[] #[.pointer (some ⟨w.heap.size, 0, none⟩)]) ∧ w' = w.alloc (.cells #[.slice a len cap] 36) := by
  refine callsIn_of_wp Tryz.func90 rfl h5 ?_ hro
  simp only [Tryz.ntmps90, List.size_toArray, List.length_cons, List.length_nil, Nat.reduceAdd, Nat.reduceSub, Array.replicate_succ, Array.replicate_zero, List.push_toArray, List.append_toArray, List.nil_append, List.cons_append]
  gi_wp2
  go_ret
  exact ⟨rfl, rfl⟩
theorem bwd_stops (F : Fence) (n : Nat) (h7 : F.fn 107) (hro : F.round = none) (hn : 1 ≤ n) (Bs n0 : Nat) (A : Option Addr) (c : Nat) (xs : Ws) (hl : xs.length ≤ 1000000) (w : World) (hBs : Bs < w.heap.size) (hn0 : n0 ≤ w.heap.size)
    (hc : w.cell? ⟨Bs, 0, none⟩ = some (.slice A xs.length c)) (hI : IntsAt w n0 A xs) :
    SeqStopsK F n Tryz.prog 107 #[.pointer (some ⟨Bs, 0, none⟩)] (fun x : Int × Int => #[Value.int .i64 x.1, Value.int .i64 x.2]) (KpB n0 Bs) (fun ys => ys = bwL xs xs.length)
      (fun pre => ∃ k, k ≤ xs.length ∧ pre = bwL xs k) xs.length w := fun l J Jx W hW _ _ hY h0 =>
  bwd1_in F n h7 hro hn l Bs n0 A c xs hl J Jx hY W ((hW.cell (p := ⟨Bs, 0, none⟩) hBs).trans hc) (hI.kept (hW.mono hn0)) h0
end Go.Proofs.YtieklhplalgmmaaGreatDoor.K
namespace Go.Proofs.YtieklhplalgmmaaGreatDoor.K
open Go.RowKit
abbrev pp (b : Nat) : Value := .pointer (some ⟨b, 0, none⟩)
open Go.RowKit
def layW : Go.Shelf.Ren := ⟨fun | 166 => 63 | 240 => 84 | 276 => 100 | n => n, fun | 0 => 0 | 3 => 3 | 4 => 4 | 5 => 5 | 9 => 9 | 20 => 20 | 37 => 48 | 70 => 47 | 72 => 50 | 75 => 105 | 80 => 56 | 164 => 132 | n => n, fun n => n⟩
theorem lay166 : Go.Proofs.Lays.n166 Tryz.prog layW := {
  mixed := by kernel_rfl
  f166 := Tryz.func63.trans (congrArg some (by kernel_rfl))
  f240 := Tryz.func84.trans (congrArg some (by kernel_rfl))
  f276 := Tryz.func100.trans (congrArg some (by kernel_rfl))
  t0 := Tryz.underlying0
  a0 := Tryz.isAgg0
  z0 := Tryz.sizeOf0
  v0 := Tryz.zeroValue0
  t3 := Tryz.underlying3
  a3 := Tryz.isAgg3
  z3 := Tryz.sizeOf3
  v3 := Tryz.zeroValue3
  t4 := Tryz.underlying4
  a4 := Tryz.isAgg4
  z4 := Tryz.sizeOf4
  v4 := Tryz.zeroValue4
  t9 := Tryz.underlying9
  a9 := Tryz.isAgg9
  z9 := Tryz.sizeOf9
  v9 := Tryz.zeroValue9
  t20 := Tryz.underlying20
  a20 := Tryz.isAgg20
  z20 := Tryz.sizeOf20
  v20 := Tryz.zeroValue20
  t37 := Tryz.underlying48
  a37 := Tryz.isAgg48
  z37 := Tryz.sizeOf48
  v37 := Tryz.zeroValue48
  t70 := Tryz.underlying47
  a70 := Tryz.isAgg47
  z70 := Tryz.sizeOf47
  v70 := Tryz.zeroValue47
  t72 := Tryz.underlying50
  a72 := Tryz.isAgg50
  z72 := Tryz.sizeOf50
  v72 := Tryz.zeroValue50
  t75 := Tryz.underlying105
  a75 := Tryz.isAgg105
  z75 := Tryz.sizeOf105
  v75 := Tryz.zeroValue105
  t164 := Tryz.underlying132
  a164 := Tryz.isAgg132
  z164 := Tryz.sizeOf132
  v164 := Tryz.zeroValue132 }
theorem layX : Builder.Extra Tryz.prog layW := {
  sizeBuilder := by kernel_rfl
  liesBuilder := by kernel_rfl
  t5 := Tryz.underlying5
  a5 := Tryz.isAgg5
  z5 := Tryz.sizeOf5
  v5 := Tryz.zeroValue5
  infoByte := by kernel_rfl
  cellsByte := by kernel_rfl
  sizeByte := by kernel_rfl
  neB5 := by decide }
abbrev BD (B b : Nat) (l : List UInt8) (w : World) : Prop := Lib.IsBuilderF 50 5 B b (Lib.byteCells l) w
theorem writeString_any (B b : Nat) (l : List UInt8) (s : ByteArray) (w : World) (h : BD B b l w) (hl : l.length + s.size ≤ 1099511627776) (hB : B ≤ w.heap.size) :
    Calls Tryz.prog 63 #[pp b, .string s] w fun e w' => e = .returned (.tuple #[.int .i64 s.size, .nilIface]) ∧ BD B b (l ++ s.data.toList) w' ∧ Below B w w' ∧ Lib.OthersKept 5 (some b) w w' := by
  refine (Any.Builder_WriteString_k lay166 layX B b (Lib.byteCells l) s w h (by simp [Lib.byteCells]; omega) hB).mono ?_
  rintro e w' ⟨rfl, h1, h2⟩
  refine ⟨rfl, .inr ?_, h2⟩
  have e1 : Lib.byteCells l ++ Lib.strCells s = Lib.byteCells (l ++ s.data.toList) := by simp [Lib.byteCells, Lib.strCells]
  rw [← e1]
  exact h1
end Go.Proofs.YtieklhplalgmmaaGreatDoor.K
namespace Go.Proofs.YtieklhplalgmmaaGreatDoor.K
open Go.RowKit
set_option maxRecDepth 100000 in
set_option maxHeartbeats 2000000 in
theorem cut_any (n : ByteArray) (xs : Ws) (v : Value) (w : World) (h : RefV w w.heap.size v n xs) (hk : 1 ≤ xs.length) (hl : xs.length ≤ 1000000) : Calls Tryz.prog 111 #[v] w (RefPost n (xs.drop 1) w) := by
  obtain ⟨A, c, rfl, hc, hi⟩ := h
  obtain ⟨x1, x2, x3, x4⟩ := BxR.args w (.string n) (.slice A xs.length c)
  have R0 : Hid (RefB ((w.alloc (.cells #[.string n, .slice A xs.length c] 38 (0, 0))).alloc (.cells #[.string ⟨#[]⟩, .slice none 0 0] 38 (0, 0))) w.heap.size n xs) := Lib.hid ⟨A, c, x1, hc, hi.stay x3⟩
  have Y0 := Lib.hid x2
  have B0 := Lib.hid x3
  have Z0 := Lib.hid x4
  have HK := Lib.hid hk
  have HL : Hid (([] : Ws).length + (xs.drop 1).length ≤ 2000000) := Lib.hid (by rw [List.length_drop]; show 0 + _ ≤ _; omega)
  clear hk
  clear hc hi x1 x2 x3 x4 hl
  go_enter Tryz.func111, Tryz.ntmps111
  go_wp2_with fail
  generalize ((w.alloc (.cells #[.string n, .slice A xs.length c] 38 (0, 0))).alloc (.cells #[.string ⟨#[]⟩, .slice none 0 0] 38 (0, 0))) = W0 at *
  refine wp_region_late (by kernel_rfl) (by kernel_rfl) 8 7 (by kernel_rfl) (fun _ => false) (by kernel_rfl) (by decide) [Fact.is (.pointer (some ⟨w.heap.size, 0, none⟩)), Fact.is (.string n), Fact.row w.heap.size [], Fact.is (.pointer (some ⟨w.heap.size, 1, none⟩)), Fact.sl xs, Fact.sl (xs.drop 1), Fact.sl (xs.drop 1), Fact.ref n (xs.drop 1), Fact.any] (fun _ w' => RefB w' (w.heap.size + 1) n (xs.drop 1) ∧ Below w.heap.size w w') (fun _ _ _ _ h => by cases h) ?_ (fun _ _ _ _ h => by cases h) ?_ ?_
  · intro i o ho his _ a wn hf hbl had
    have hi : i < 9 := (Array.getElem?_eq_some_iff.1 ho).1
    have hc : i = 0 ∨ i = 1 ∨ i = 2 ∨ i = 3 ∨ i = 4 ∨ i = 5 ∨ i = 6 ∨ i = 7 := by omega
    rcases hc with rfl | rfl | rfl | rfl | rfl | rfl | rfl | rfl
    · cases ho
      have h0 : a.tmps.getD 1 undef = .pointer (some ⟨w.heap.size, 0, none⟩) := hf.slot 1 (by kernel_rfl)
      exact rc_fa0 rfl (.tmp 1) rfl h0 ⟨Below.refl _ _, rfl⟩
    · cases ho
      have h0 : vof _ a 0 = .pointer (some ⟨w.heap.size, 0, none⟩) := had ⟨0, .data⟩ (by simp) rfl (by decide)
      exact rk_ldS rfl (.tmp 3) rfl h0 (R0.out.stay hbl) ⟨Below.refl _ _, rfl⟩
    · cases ho
      exact rk_made0 rfl rfl (by have h1 := hbl.size; have h2 := Z0.out; omega) fun v w1 hb1 hv => ⟨hb1, hv⟩
    · cases ho
      have h0 : a.tmps.getD 1 undef = .pointer (some ⟨w.heap.size, 0, none⟩) := hf.slot 1 (by kernel_rfl)
      exact rc_fa1 rfl (.tmp 1) rfl h0 ⟨Below.refl _ _, rfl⟩
    · cases ho
      have h0 : vof _ a 3 = .pointer (some ⟨w.heap.size, 1, none⟩) := had ⟨3, .data⟩ (by simp) rfl (by decide)
      exact rk_ldI rfl (.tmp 6) rfl h0 (R0.out.stay hbl) fun u hu => ⟨Below.refl _ _, hu⟩
    · cases ho
      have h0 : SlV wn wn.heap.size (vof _ a 4) xs := had ⟨4, .data⟩ (by simp) rfl (by decide)
      exact rk_slice rfl (.tmp 7) _ (k := 1) rfl h0 rfl HK.out fun u hu => ⟨Below.refl _ _, hu⟩
    · cases ho
      have h0 : (OwnI wn w.heap.size (vof _ a 2) [] ∧ w.heap.size ≤ wn.heap.size) ∧ Full (vof _ a 2) := had ⟨2, .data⟩ (by simp) rfl (by decide)
      have h1 : SlV wn wn.heap.size (vof _ a 5) (xs.drop 1) := had ⟨5, .data⟩ (by simp) rfl (by decide)
      exact rk_append rfl (.tmp 5) (.tmp 8) rfl h0 h1 HL.out fun v w1 hb1 hv => ⟨hb1, hv⟩
    · cases ho
      have h0 : vof _ a 1 = .string n := had ⟨1, .data⟩ (by simp) rfl (by decide)
      have h1 : SlV wn wn.heap.size (vof _ a 6) (xs.drop 1) := had ⟨6, .data⟩ (by simp) rfl (by decide)
      exact rk_build rfl (.tmp 4) (.tmp 9) rfl h0 h1 fun u hu => ⟨Below.refl _ _, hu⟩
  · intro o ho a wn hf hbl had
    cases ho
    have s2 : a.eval (.tmp 2) = .pointer (some ⟨w.heap.size + 1, 0, none⟩) := hf.slot 2 (by kernel_rfl)
    have hv : RefV wn wn.heap.size (vof _ a 7) n (xs.drop 1) := had ⟨7, .data⟩ (by simp) rfl (by decide)
    exact rk_store rfl (.tmp 2) _ rfl s2 (Y0.out.stay hbl) hv fun w' h1 h2 => ⟨h1, (B0.out.trans (hbl.mono B0.out.size)).trans (h2 _ (by omega))⟩
  · intro a wn hf _ hfin
    obtain ⟨c0, c1, hbx, hrv⟩ := hfin.1.v
    have s2 : a.tmps.getD 2 undef = .pointer (some ⟨w.heap.size + 1, 0, none⟩) := hf.slot 2 (by kernel_rfl)
    have hd : a.defers = [] := hf.1
    obtain ⟨p0, p1⟩ := hbx.cells
    have HR := Lib.hid hrv
    have HB := Lib.hid hfin.2
    rw [Array.getD_eq_getD_getElem?] at s2
    clear hfin hf hbx hrv
    go_wp2_with fail
    exact bodyPost_ret (v := .agg #[c0, c1]) (by simp [results, Tryz.results111, go_sem, s2, p0, p1]) hd ⟨⟨_, rfl, HR.out⟩, HB.out⟩
end Go.Proofs.YtieklhplalgmmaaGreatDoor.K
namespace Go.Proofs.YtieklhplalgmmaaGreatDoor.K
open Go.RowKit
def BoolPost (b : Bool) (w : World) (e : Ending) (w' : World) : Prop := e = .returned (.bool b) ∧ Below w.heap.size w w'
def OptPost (n : ByteArray) (o : Option Ws) (w : World) (e : Ending) (w' : World) : Prop :=
  (∃ u, e = .returned (.tuple #[u, .bool o.isSome]) ∧ match o with | some xs => RefV w' w'.heap.size u n xs | none => u = .agg #[.string ⟨#[]⟩, .slice none 0 0]) ∧ Below w.heap.size w w'
theorem risnn_any (n : ByteArray) (xs : Ws) (v : Value) (w : World) (h : RefV w w.heap.size v n xs) : Calls Tryz.prog 110 #[v] w (BoolPost (nnB xs) w) := by
  obtain ⟨A, c, rfl, hc, hi⟩ := h
  have hb := (Below.refl w.heap.size w).alloc (Nat.le_refl _) (.cells #[.string n, .slice A xs.length c] 38 (0, 0))
  have h2 := hi.stay hb
  cases xs with
  | nil =>
    have HB := Lib.hid hb
    clear hb hi h2 hc
    go_enter Tryz.func110, Tryz.ntmps110
    go_wp2_with fail
    all_goals exact bodyPost_ret (v := .bool false) (by simp [results, Tryz.results110, go_sem]) rfl ⟨rfl, HB.out⟩
  | cons x r =>
    obtain ⟨a, rfl, ha, hcell⟩ := hi (by simp)
    obtain ⟨a', e, _, hc2⟩ := h2 (by simp)
    cases e
    have c0 := hc2 0 x rfl
    have c00 : a.add 0 = a := rfl
    rw [c00] at c0
    have HB := Lib.hid hb
    have hv : ((nnB (x :: r)) : Bool) = (x == 1) := by unfold nnB; simp
    have HV := Lib.hid hv
    have hp : (0 : Int) < ((x :: r : Ws).length : Int) := by simp
    generalize (x :: r : Ws).length = l at *
    clear hb hi h2 hc hcell hc2 ha hv
    go_enter Tryz.func110, Tryz.ntmps110
    go_wp2_with fail
    all_goals (refine bodyPost_ret (v := .bool (x == 1)) (by simp [results, Tryz.results110, go_sem]) rfl ⟨?_, HB.out⟩; rw [HV.out])
theorem OptPost.none {n : ByteArray} {w w' : World} {e : Ending} (h : OptPost n none w e w') : e = .returned (.tuple #[.agg #[.string ⟨#[]⟩, .slice none 0 0], .bool false]) ∧ Below w.heap.size w w' := by
  obtain ⟨⟨u, rfl, rfl⟩, hb⟩ := h; exact ⟨rfl, hb⟩
theorem OptPost.some {n : ByteArray} {zs : Ws} {w w' : World} {e : Ending} (h : OptPost n (some zs) w e w') : (∃ u, e = .returned (.tuple #[u, .bool true]) ∧ RefV w' w'.heap.size u n zs) ∧ Below w.heap.size w w' := by
  obtain ⟨⟨u, rfl, hu⟩, hb⟩ := h; exact ⟨⟨u, rfl, hu⟩, hb⟩
end Go.Proofs.YtieklhplalgmmaaGreatDoor.K
namespace Go.Proofs.YtieklhplalgmmaaGreatDoor.K
open Go.RowKit
theorem ints_round {w wr : World} {B k : Nat} {A : Option Addr} {xs : Ws} (h : IntsAt w B A xs) (hb : Below B w wr) (hk : k < xs.length) : ∃ a x, A = some a ∧ a.block < B ∧ xs[k]? = some x ∧ wr.cell? (a.add k) = some (.int .i64 x) := by
  obtain ⟨a, e, ha, hc⟩ := (h.kept hb) (by omega)
  exact ⟨a, xs[k], e, ha, List.getElem?_eq_getElem hk, hc k _ (List.getElem?_eq_getElem hk)⟩
theorem cell_past {W : World} {a : Addr} {v : Value} (h : W.cell? a = some v) (ha : a.block < W.heap.size) (x : Past W) : x.w.cell? a = some v := (World.cell?_of_block (w := W) (x.b.block _ ha)).trans h
theorem take_one {xs : Ws} {k : Nat} {x : Int} (h : xs[k]? = some x) : xs.take (k + 1) = xs.take k ++ [x] := by
  obtain ⟨h1, h2⟩ := List.getElem?_eq_some_iff.1 h
  rw [← h2]; exact (List.take_append_getElem h1).symm
theorem drop_one {xs : Ws} {k : Nat} {x : Int} (h : xs[k]? = some x) : xs.drop k = x :: xs.drop (k + 1) := by
  obtain ⟨h1, h2⟩ := List.getElem?_eq_some_iff.1 h
  rw [← h2]; exact List.drop_eq_getElem_cons h1
set_option maxRecDepth 100000 in
set_option maxHeartbeats 2000000 in
theorem equal_any (xs ys : Ws) (v u : Value) (w : World) (hx : SlV w w.heap.size v xs) (hy : SlV w w.heap.size u ys) (hl : xs.length ≤ 1000000) : Calls Tryz.prog 94 #[v, u] w (BoolPost (decide (xs = ys)) w) := by
  obtain ⟨A, c, rfl, hc, hi⟩ := hx
  obtain ⟨B, d, rfl, hd, hj⟩ := hy
  by_cases hlen : xs.length = ys.length
  · have HA := Lib.hid hi
    have HB := Lib.hid hj
    have HLEN : Hid ((xs.length : Int) ≤ 1000000) := Lib.hid (by omega)
    have HL := Lib.hid hlen
    rw [← hlen]
    clear hc hi hd hj hl hlen
    go_enter Tryz.func94, Tryz.ntmps94
    go_wp2_with fail
    go_loopw [5, 13] (fun z i wr => ∃ k : Nat, i = .int .i64 k ∧ k ≤ xs.length ∧ xs.take k = ys.take k ∧ Below w.heap.size w wr) (fun _ i _ => xs.length - (intOf i).toNat)
    case atStart => exact ⟨0, rfl, Nat.zero_le _, rfl, Below.refl _ _⟩
    case round =>
      obtain ⟨k, rfl, hk, he, hw⟩ := hrel
      have HE := Lib.hid he
      have HW := Lib.hid hw
      have hlm := HLEN.out
      clear he
      by_cases hlt : k < xs.length
      · obtain ⟨a, x, rfl, ha, hp, h0⟩ := ints_round HA.out hw hlt
        obtain ⟨b, y, rfl, hb, hq, h1⟩ := ints_round HB.out hw (by rw [← HL.out]; exact hlt)
        have hlt' : (k : Int) < xs.length := by omega
        have HP := Lib.hid hp
        have HQ := Lib.hid hq
        have HA0 : Hid ((a.add k).block < wr.heap.size) := Lib.hid (by rw [add_block]; exact Nat.lt_of_lt_of_le ha hw.size)
        have HB0 : Hid ((b.add k).block < wr.heap.size) := Lib.hid (by rw [add_block]; exact Nat.lt_of_lt_of_le hb hw.size)
        have H0 := Lib.hid h0
        have H1 := Lib.hid h1
        clear hp hq hw ha hb h0 h1
        by_cases hxy : x = y
        · subst hxy
          have hn : (x != x) = false := by simp
          go_wp2_with fail
          refine wp_region_past (fun W => W.cell? (a.add k) = some (.int .i64 x) ∧ W.cell? (b.add k) = some (.int .i64 x) ∧ Below wr.heap.size wr W) ⟨H0.out, H1.out, Below.refl _ _⟩ (by kernel_rfl) ?_
          intro W ⟨f1, f2, f3⟩ hbw
          have y0 := cell_past f1 (Nat.lt_of_lt_of_le HA0.out f3.size)
          have y1 := cell_past f2 (Nat.lt_of_lt_of_le HB0.out f3.size)
          repeat (go_big_quiet_step (fail))
          refine wpQuiet_nil ?_
          intro _ hw'
          obtain ⟨xw, rfl⟩ := hw'
          have HBY := Lib.hid (HW.out.trans ((f3.trans (xw.b.mono f3.size)).mono HW.out.size))
          clear y0 y1 f1 f2 f3 hbw
          generalize xw.w = wy at *
          go_wp2_with fail
          go_roundw
          case rel => exact ⟨k + 1, by go_num, by omega, by rw [take_one HP.out, take_one HQ.out, HE.out], HBY.out⟩
          case measure => simp [intOf]; omega
        · have hn : (x != y) = true := by simp [hxy]
          have HN : Hid (decide (xs = ys) = false) := Lib.hid (by
            rw [decide_eq_false_iff_not]; rintro rfl
            rw [HP.out] at HQ; exact hxy (Option.some.inj HQ.out))
          clear hxy
          go_wp2_with fail
          refine wp_region_past (fun W => W.cell? (a.add k) = some (.int .i64 x) ∧ W.cell? (b.add k) = some (.int .i64 y) ∧ Below wr.heap.size wr W) ⟨H0.out, H1.out, Below.refl _ _⟩ (by kernel_rfl) ?_
          intro W ⟨f1, f2, f3⟩ hbw
          have y0 := cell_past f1 (Nat.lt_of_lt_of_le HA0.out f3.size)
          have y1 := cell_past f2 (Nat.lt_of_lt_of_le HB0.out f3.size)
          repeat (go_big_quiet_step (fail))
          refine wpQuiet_nil ?_
          intro _ hw'
          obtain ⟨xw, rfl⟩ := hw'
          have HBY := Lib.hid (HW.out.trans ((f3.trans (xw.b.mono f3.size)).mono HW.out.size))
          clear y0 y1 f1 f2 f3 hbw
          generalize xw.w = wy at *
          go_wp2_with fail
          go_ret
          exact ⟨by rw [HN.out]; rfl, HBY.out⟩
      · have hlt' : ¬ (k : Int) < xs.length := by omega
        have HN : Hid (decide (xs = ys) = true) := Lib.hid (by
          have e := HE.out
          rw [List.take_of_length_le (by omega), List.take_of_length_le (by have := HL.out; omega)] at e
          exact decide_eq_true e)
        clear hw
        go_wp2_with fail
        go_ret
        exact ⟨by rw [HN.out]; rfl, HW.out⟩
  · have HN : Hid (decide (xs = ys) = false) := Lib.hid (by rw [decide_eq_false_iff_not]; rintro rfl; exact hlen rfl)
    have hne : ((xs.length : Int) != (ys.length : Int)) = true := by
      rw [bne_iff_ne]; omega
    have hne' : ¬ ((xs.length : Int) = (ys.length : Int)) := by omega
    clear hc hi hd hj hl hlen
    go_enter Tryz.func94, Tryz.ntmps94
    go_wp2_with fail
    all_goals exact bodyPost_ret (v := .bool false) (by simp [results, Tryz.results94, go_sem]) rfl ⟨by rw [HN.out], Below.refl _ _⟩
set_option maxRecDepth 100000 in
set_option maxHeartbeats 2000000 in
theorem tsame2_any (n m : ByteArray) (xs ys : Ws) (v u : Value) (w : World) (hx : RefV w w.heap.size v n xs) (hy : RefV w w.heap.size u m ys) (hl : xs.length ≤ 1000000) : Calls Tryz.prog 74 #[v, u] w (BoolPost (decide (n = m ∧ xs = ys)) w) := by
  obtain ⟨A, c, rfl, hc, hi⟩ := hx
  obtain ⟨B, d, rfl, hd, hj⟩ := hy
  obtain ⟨x1, x2, x3, x4⟩ := BxR.both w (.string n) (.slice A xs.length c) (.string m) (.slice B ys.length d)
  have CALL : Hid (Calls Tryz.prog 94 #[.slice A xs.length c, .slice B ys.length d] ((w.alloc (.cells #[.string n, .slice A xs.length c] 38 (0, 0))).alloc (.cells #[.string m, .slice B ys.length d] 38 (0, 0))) (BoolPost (decide (xs = ys)) ((w.alloc (.cells #[.string n, .slice A xs.length c] 38 (0, 0))).alloc (.cells #[.string m, .slice B ys.length d] 38 (0, 0))))) :=
    Lib.hid (equal_any xs ys _ _ _ ⟨A, c, rfl, hc, hi.stay x3⟩ ⟨B, d, rfl, hd, hj.stay x3⟩ hl)
  have hs := str_eq n m
  have B0 := Lib.hid x3
  clear hc hd hi hj x1 x2 x3 x4 hl
  by_cases hnm : n = m
  · have HV : Hid (decide (n = m ∧ xs = ys) = decide (xs = ys)) := Lib.hid (by simp [hnm])
    rw [decide_eq_true hnm] at hs
    clear hnm
    go_enter Tryz.func74, Tryz.ntmps74
    go_wp2_with fail
    refine CALL.out.mono ?_
    rintro e w1 ⟨rfl, hb1⟩
    have HB := Lib.hid (B0.out.trans (hb1.mono B0.out.size))
    clear hb1 CALL
    go_wp2_with fail
    exact bodyPost_ret (v := .bool (decide (xs = ys))) (by simp [results, Tryz.results74, go_sem]) rfl ⟨by rw [HV.out], HB.out⟩
  · have HV : Hid (decide (n = m ∧ xs = ys) = false) := Lib.hid (by simp [hnm])
    rw [decide_eq_false hnm] at hs
    clear hnm
    go_enter Tryz.func74, Tryz.ntmps74
    go_wp2_with fail
    all_goals exact bodyPost_ret (v := .bool false) (by simp [results, Tryz.results74, go_sem]) rfl ⟨by rw [HV.out], B0.out⟩
theorem append_I {w : World} {ops : Array Oper} {rest : List Oper} {o : Oper} {a : Act} {Q : Exit → Act → World → Prop} (hgd : o.guard = none) (s x : Operand)
    (ho : o.op = .call { callee := .builtin .append, args := #[s, x], argTypes := #[36, 36] }) (base : Nat) (v : Value) (ss : Ws) (hs : a.eval s = v) (hown : OwnI w base v ss)
    (ad : Addr) (c : Nat) (p : Int) (hx : a.eval x = .slice (some ad) 1 c) (hnews : w.cell? ad = some (.int .i64 p)) (had : ad.add 0 = ad)
    (hlen : ss.length ≤ 1000000) (hbase : base ≤ w.heap.size)
    (h : ∀ v' w', OwnI w' base v' (ss ++ [p]) → w.grownBy w' v.ownBlock → wpList Tryz.prog ops Q rest (a.put o.dst v') w') : wpList Tryz.prog ops Q (o :: rest) a w := by
  obtain ⟨i0, hi, hz0, hz1, hz2⟩ := infoIp
  refine wpList_append_own w hgd s x 36 ho base 3 i0 (.int .i64 0) 1 8 Tryz.underlying36 hi hz0 hz1 hz2 rfl (by decide) v ss.length _ hs hown ad 1 c [.int .i64 p] hx rfl ?_ ?_ (by unfold maxLen; omega) (by omega) hbase ?_
  · intro j u hj
    cases j with
    | zero => cases hj; rw [had]; exact hnews
    | succ j => simp at hj
  · intro u hu
    simp at hu; subst hu; rfl
  · intro v' w' h1 h2 _
    refine h v' w' ?_ h2
    unfold OwnI
    rw [List.length_append, inC_app]
    exact h1
theorem str_one {xs : Ws} {k : Nat} {x : Int} (h : xs[k]? = some x) : strL (xs.take (k + 1)) = if x = 1 then strL (xs.take k) else strL (xs.take k) ++ [x] := by
  rw [take_one h, str_app]
  by_cases hx : x = 1
  · subst hx; rw [if_pos rfl]; show _ ++ [] = _; rw [List.append_nil]
  · rw [if_neg hx]; simp [strL, hx]
theorem str_le (xs : Ws) : (strL xs).length ≤ xs.length := List.length_filter_le _ _
theorem str_take_le (xs : Ws) (k : Nat) : (strL (xs.take k)).length ≤ xs.length := Nat.le_trans (str_le _) (by rw [List.length_take]; omega)
set_option maxRecDepth 100000 in
set_option maxHeartbeats 2000000 in
theorem without_any (xs : Ws) (v0 : Value) (w : World) (h : SlV w w.heap.size v0 xs) (hl : xs.length ≤ 900000) : Calls Tryz.prog 89 #[v0] w fun e w' => (∃ u, e = .returned u ∧ OwnI w' w.heap.size u (strL xs)) ∧ Below w.heap.size w w' := by
  obtain ⟨A, c0, rfl, hc, hi⟩ := h
  have HI := Lib.hid hi
  have hle : w.heap.size ≤ w.heap.size := Nat.le_refl _
  have HLE := Lib.hid hle
  clear hc hi hle
  have HLEN : Hid ((xs.length : Int) ≤ 900000) := Lib.hid (by omega)
  go_enter Tryz.func89, Tryz.ntmps89
  go_wp2_with fail
  go_loopw [3, 5, 8] (fun v _ i wr => ∃ k : Nat, i = .int .i64 k ∧ k ≤ xs.length ∧ OwnI wr w.heap.size v (strL (xs.take k)) ∧ Below w.heap.size w wr) (fun _ _ i _ => xs.length - (intOf i).toNat)
  case atStart => exact ⟨0, rfl, Nat.zero_le _, OwnI.nil _ _, Below.refl _ _⟩
  case round =>
    obtain ⟨k, rfl, hk, hown, hb⟩ := hrel
    have HO := Lib.hid hown
    have HB := Lib.hid hb
    have hlm := HLEN.out
    clear hown
    by_cases hlt : k < xs.length
    · obtain ⟨a, x, rfl, ha, hp, h0⟩ := ints_round HI.out hb hlt
      have hlt' : (k : Int) < xs.length := by omega
      have hs := str_one hp
      have HKL := Lib.hid (str_take_le xs k)
      clear hp hb ha
      by_cases hx : x = 1
      · subst hx
        rw [if_pos rfl] at hs
        have HS := Lib.hid hs
        clear hs
        go_wp2_with fail
        go_roundw
        case rel => exact ⟨k + 1, by go_num, by omega, by rw [HS.out]; exact HO.out, HB.out⟩
        case measure => simp [intOf]; omega
      · rw [if_neg hx] at hs
        have HS := Lib.hid hs
        have hxb : (x != 1) = true := by simp [hx]
        clear hs
        go_wp2_with (at_builtin; refine append_I rfl (.tmp 14) (.tmp 16) rfl w.heap.size _ _ rfl ((HO.out).stay ((Below.refl _ _).alloc (Nat.le_refl _) _)) ⟨wr.heap.size, 0, none⟩ 1 x rfl (by simp) rfl (by have := HKL.out; have := HLEN.out; omega) (by have := HB.out.size; simp; omega) ?_; intro v' w1 hv hg; have HV := Lib.hid hv; have HG := Lib.hid ((HB.out.alloc HB.out.size _).grown hg (by have := HB.out.size; simp; omega) (fun g hg => (HO.out.lt g hg).1)); clear hv hg)
        go_roundw
        case rel => exact ⟨k + 1, by go_num, by omega, by rw [HS.out]; exact HV.out, HG.out⟩
        case measure => simp [intOf]; omega
    · have hlt' : ¬ (k : Int) < xs.length := by omega
      have HT : Hid (xs.take k = xs) := Lib.hid (List.take_of_length_le (by omega))
      clear hb
      go_wp2_with fail
      go_ret
      exact ⟨⟨_, rfl, by have := HO.out; rw [HT.out] at this; exact this⟩, HB.out⟩
theorem without_sl (xs : Ws) (v0 : Value) (w : World) (h : SlV w w.heap.size v0 xs) (hl : xs.length ≤ 900000) : Calls Tryz.prog 89 #[v0] w (SlPost (strL xs) w) :=
  (without_any xs v0 w h hl).mono fun _ _ ⟨⟨u, e, hu⟩, hb⟩ => ⟨⟨u, e, hu.sl⟩, hb⟩
end Go.Proofs.YtieklhplalgmmaaGreatDoor.K
