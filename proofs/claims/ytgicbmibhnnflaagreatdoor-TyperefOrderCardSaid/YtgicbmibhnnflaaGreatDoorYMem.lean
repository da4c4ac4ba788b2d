
/-
  Type references in memory; rows of integers that a call makes.
-/
import Derived.Test.YtgicbmibhnnflaaGreatDoorYReg
import Derived.Test.YtgicbmibhnnflaaGreatDoorYPure
import Derived.ArgAppend
import Derived.DataElems
namespace Go.Proofs.YtgicbmibhnnflaaGreatDoor
open Go.RowKit
theorem add_block (a : Addr) (n : Nat) : (a.add n).block = a.block := by
  unfold Addr.add; split <;> rfl
def IntsAt (w : World) (B : Nat) (A : Option Addr) (xs : Ws) : Prop := 0 < xs.length → ∃ a, A = some a ∧ a.block < B ∧ ∀ (i : Nat) (x : Int), xs[i]? = some x → w.cell? (a.add i) = some (.int .i64 x)
theorem IntsAt.kept {w w' : World} {B : Nat} {A : Option Addr} {xs : Ws} (h : IntsAt w B A xs) (hb : Below B w w') : IntsAt w' B A xs := fun h0 => by
  obtain ⟨a, e, ha, hc⟩ := h h0
  exact ⟨a, e, ha, fun i x hx => (World.cell?_of_block (w := w) (hb.block _ (by rw [add_block]; exact ha))).trans (hc i x hx)⟩
theorem IntsAt.mono {w : World} {B B' : Nat} {A : Option Addr} {xs : Ws} (h : IntsAt w B A xs) (hB : B ≤ B') : IntsAt w B' A xs := fun h0 => by
  obtain ⟨a, e, ha, hc⟩ := h h0
  exact ⟨a, e, Nat.lt_of_lt_of_le ha hB, hc⟩
theorem IntsAt.stay {w w' : World} {A : Option Addr} {xs : Ws} (h : IntsAt w w.heap.size A xs) (hb : Below w.heap.size w w') : IntsAt w' w'.heap.size A xs := (h.kept hb).mono hb.size
theorem IntsAt.nil (w : World) (B : Nat) (A : Option Addr) : IntsAt w B A [] := fun h => absurd h (Nat.lt_irrefl _)
/- A part of a list. -/
def subA (A : Option Addr) (k c : Nat) : Option Addr := A.map fun a => if c = k then a else a.add k
theorem IntsAt.drop {w : World} {B : Nat} {A : Option Addr} {xs : Ws} (h : IntsAt w B A xs) (k c : Nat) (hc : xs.length ≤ c) : IntsAt w B (subA A k c) (xs.drop k) := fun h0 => by
  rw [List.length_drop] at h0
  obtain ⟨a, rfl, ha, hx⟩ := h (by omega)
  refine ⟨a.add k, by unfold subA; simp only [Option.map_some, Option.some.injEq]; exact if_neg (by omega), by rw [add_block]; exact ha, fun i x hi => ?_⟩
  rw [Addr.add_add]
  exact hx _ _ (by rw [← hi, List.getElem?_drop])
def SlV (w : World) (B : Nat) (v : Value) (xs : Ws) : Prop := ∃ A c, v = .slice A xs.length c ∧ xs.length ≤ c ∧ IntsAt w B A xs
def RefV (w : World) (B : Nat) (v : Value) (n : ByteArray) (xs : Ws) : Prop := ∃ A c, v = .agg #[.string n, .slice A xs.length c] ∧ xs.length ≤ c ∧ IntsAt w B A xs
theorem SlV.kept {w w' : World} {B : Nat} {v : Value} {xs : Ws} (h : SlV w B v xs) (hb : Below B w w') : SlV w' B v xs := by
  obtain ⟨A, c, e, hc, h⟩ := h; exact ⟨A, c, e, hc, h.kept hb⟩
theorem SlV.mono {w : World} {B B' : Nat} {v : Value} {xs : Ws} (h : SlV w B v xs) (hB : B ≤ B') : SlV w B' v xs := by
  obtain ⟨A, c, e, hc, h⟩ := h; exact ⟨A, c, e, hc, h.mono hB⟩
theorem RefV.kept {w w' : World} {B : Nat} {v : Value} {n : ByteArray} {xs : Ws} (h : RefV w B v n xs) (hb : Below B w w') : RefV w' B v n xs := by
  obtain ⟨A, c, e, hc, h⟩ := h; exact ⟨A, c, e, hc, h.kept hb⟩
theorem RefV.mono {w : World} {B B' : Nat} {v : Value} {n : ByteArray} {xs : Ws} (h : RefV w B v n xs) (hB : B ≤ B') : RefV w B' v n xs := by
  obtain ⟨A, c, e, hc, h⟩ := h; exact ⟨A, c, e, hc, h.mono hB⟩
theorem RefV.stay {w w' : World} {v : Value} {n : ByteArray} {xs : Ws} (h : RefV w w.heap.size v n xs) (hb : Below w.heap.size w w') : RefV w' w'.heap.size v n xs := (h.kept hb).mono hb.size
theorem SlV.stay {w w' : World} {v : Value} {xs : Ws} (h : SlV w w.heap.size v xs) (hb : Below w.heap.size w w') : SlV w' w'.heap.size v xs := (h.kept hb).mono hb.size
/- What a call with a reference as its result leaves. -/
def RefPost (n : ByteArray) (xs : Ws) (w : World) (e : Ending) (w' : World) : Prop := (∃ u, e = .returned u ∧ RefV w' w'.heap.size u n xs) ∧ Below w.heap.size w w'
def SlPost (xs : Ws) (w : World) (e : Ending) (w' : World) : Prop := (∃ u, e = .returned u ∧ SlV w' w'.heap.size u xs) ∧ Below w.heap.size w w'
/- A reference in a variable of its own. -/
def BxR (W : World) (b : Nat) (c0 c1 : Value) : Prop := W.heap[b]? = some (.cells #[c0, c1] 24 (0, 0))
theorem BxR.cells {W : World} {b : Nat} {c0 c1 : Value} (h : BxR W b c0 c1) : W.cell? ⟨b, 0, none⟩ = some c0 ∧ W.cell? ⟨b, 1, none⟩ = some c1 := by
  refine ⟨?_, ?_⟩ <;> rw [cell_of_row _ _ _ _ _ _ h] <;> rfl
theorem BxR.frz {W : World} {b : Nat} {c0 c1 : Value} (h : BxR W b c0 c1) (i : Nat) : W.frozen? ⟨b, i, none⟩ = false := by
  unfold BxR at h; simp [World.frozen?, h]
theorem BxR.s0 {W : World} {b : Nat} {c0 c1 : Value} (h : BxR W b c0 c1) (u : Value) : BxR (W.setCell ⟨b, 0, none⟩ u) b u c1 := by
  unfold BxR at h ⊢; simp [World.setCell, Array.getElem?_modify, h]
theorem BxR.s1 {W : World} {b : Nat} {c0 c1 : Value} (h : BxR W b c0 c1) (u : Value) : BxR (W.setCell ⟨b, 1, none⟩ u) b c0 u := by
  unfold BxR at h ⊢; simp [World.setCell, Array.getElem?_modify, h]
theorem BxR.two {W : World} {b : Nat} {c0 c1 : Value} (h : BxR W b c0 c1) (u0 u1 : Value) : BxR ((W.setCell ⟨b, 0, none⟩ u0).setCell ⟨b, 1, none⟩ u1) b u0 u1 := (h.s0 u0).s1 u1
theorem BxR.lt {W : World} {b : Nat} {c0 c1 : Value} (h : BxR W b c0 c1) : b < W.heap.size := by
  unfold BxR at h
  rcases Nat.lt_or_ge b W.heap.size with h' | h'
  · exact h'
  · rw [Array.getElem?_eq_none h'] at h; cases h
theorem BxR.kept {W W' : World} {b : Nat} {c0 c1 : Value} (h : BxR W b c0 c1) (hb : W'.heap[b]? = W.heap[b]?) : BxR W' b c0 c1 := hb.trans h
theorem BxR.stay {W W' : World} {b : Nat} {c0 c1 : Value} (h : BxR W b c0 c1) (hb : Below W.heap.size W W') : BxR W' b c0 c1 := h.kept (hb.block b h.lt)
theorem BxR.new (W : World) (c0 c1 : Value) : BxR (W.alloc (.cells #[c0, c1] 24 (0, 0))) W.heap.size c0 c1 := heap_alloc_new _ _
theorem BxR.alloc {W : World} {b : Nat} {c0 c1 : Value} (h : BxR W b c0 c1) (o : Obj) : BxR (W.alloc o) b c0 c1 := h.stay ((Below.refl _ _).alloc (Nat.le_refl _) _)
theorem Below.pair {N b : Nat} {w w' : World} (h : Below N w w') (hb : N ≤ b) (u0 u1 : Value) : Below N w ((w'.setCell ⟨b, 0, none⟩ u0).setCell ⟨b, 1, none⟩ u1) :=
  (h.setCell (p := ⟨b, 0, none⟩) hb u0).setCell (p := ⟨b, 1, none⟩) hb u1
/- The variable of an argument and of the result. -/
theorem BxR.args (w : World) (c0 c1 : Value) : let W := (w.alloc (.cells #[c0, c1] 24 (0, 0))).alloc (.cells #[.string ⟨#[]⟩, .slice none 0 0] 24 (0, 0))
    BxR W w.heap.size c0 c1 ∧ BxR W (w.heap.size + 1) (.string ⟨#[]⟩) (.slice none 0 0) ∧ Below w.heap.size w W ∧ W.heap.size = w.heap.size + 2 := by
  refine ⟨(BxR.new _ _ _).alloc _, ?_, ((Below.refl _ _).alloc (Nat.le_refl _) _).alloc (by simp) _, by simp⟩
  have := BxR.new (w.alloc (.cells #[c0, c1] 24 (0, 0))) (.string ⟨#[]⟩) (.slice none 0 0)
  simpa using this
theorem BxR.both (w : World) (c0 c1 d0 d1 : Value) : let W := (w.alloc (.cells #[c0, c1] 24 (0, 0))).alloc (.cells #[d0, d1] 24 (0, 0))
    BxR W w.heap.size c0 c1 ∧ BxR W (w.heap.size + 1) d0 d1 ∧ Below w.heap.size w W ∧ W.heap.size = w.heap.size + 2 := by
  refine ⟨(BxR.new _ _ _).alloc _, ?_, ((Below.refl _ _).alloc (Nat.le_refl _) _).alloc (by simp) _, by simp⟩
  have := BxR.new (w.alloc (.cells #[c0, c1] 24 (0, 0))) d0 d1
  simpa using this
/- Rows of integers. -/
theorem infoI : (Tryz.prog.info? 3).map (fun i => (i.zero, i.size, i.bytes)) = some (some (.int .i64 0), 1, 8) := by kernel_rfl
theorem infoIp : ∃ i, Tryz.prog.info? 3 = some i ∧ i.zero = some (.int .i64 0) ∧ i.size = 1 ∧ i.bytes = 8 := by
  have h := infoI
  cases hi : Tryz.prog.info? 3 with
  | none => rw [hi] at h; simp at h
  | some i => rw [hi] at h; simp at h; exact ⟨i, rfl, h.1, h.2.1, h.2.2⟩
def inC (xs : Ws) : List Value := xs.map (Value.int .i64)
def OwnI (w : World) (base : Nat) (v : Value) (xs : Ws) : Prop := w.ownsRow base 3 1 v xs.length (inC xs)
theorem row_kept {w w' : World} {base : Nat} {e : TypeId} {size : Nat} {v : Value} {n : Nat} {xs : List Value} (h : w.ownsRow base e size v n xs) (hb : ∀ g, base ≤ g → g < w.heap.size → v.ownBlock = some g → w'.heap[g]? = w.heap[g]?) : w'.ownsRow base e size v n xs := by
  refine ⟨h.1, h.2.imp id ?_⟩
  rintro ⟨g, cap, cur, rfl, e2, e3, r⟩
  have hg : g < w.heap.size := by
    rcases Nat.lt_or_ge g w.heap.size with h' | h'
    · exact h'
    · rw [Array.getElem?_eq_none h'] at e3; cases e3
  exact ⟨g, cap, cur, rfl, e2, (hb g e2 hg rfl).trans e3, r⟩
theorem OwnI.stay {w w' : World} {base : Nat} {v : Value} {xs : Ws} (h : OwnI w base v xs) (hb : Below w.heap.size w w') : OwnI w' base v xs := row_kept h fun g _ hg _ => hb.block g hg
theorem OwnI.nil (w : World) (base : Nat) : OwnI w base (.slice none 0 0) [] := ⟨rfl, .inl ⟨rfl, rfl⟩⟩
theorem OwnI.lt {w : World} {base : Nat} {v : Value} {xs : Ws} (h : OwnI w base v xs) : ∀ k, v.ownBlock = some k → base ≤ k ∧ k < w.heap.size := World.ownsRow.lt h
theorem OwnI.one (w : World) (x : Int) : OwnI (w.alloc (.cells #[.int .i64 x] 3 (0, 0))) w.heap.size (.slice (some ⟨w.heap.size, 0, none⟩) 1 1) [x] := by
  refine ⟨rfl, .inr ⟨w.heap.size, 1, #[.int .i64 x], rfl, Nat.le_refl _, heap_alloc_new _ _, Nat.le_refl _, by decide, rfl, rfl⟩⟩
theorem OwnI.zero (w : World) : OwnI (w.alloc (.cells #[] 3 (0, 0))) w.heap.size (.slice (some ⟨w.heap.size, 0, none⟩) 0 0) [] := by
  refine ⟨rfl, .inr ⟨w.heap.size, 0, #[], rfl, Nat.le_refl _, heap_alloc_new _ _, Nat.le_refl _, by decide, rfl, rfl⟩⟩
theorem OwnI.sl {w : World} {base : Nat} {v : Value} {xs : Ws} (h : OwnI w base v xs) : SlV w w.heap.size v xs := by
  have hh : w.ownsRow base 3 1 v xs.length (inC xs) := h
  rcases hh.2 with ⟨rfl, hz⟩ | ⟨g, cap, cur, rfl, h1, h2, h3⟩
  · have : xs = [] := List.eq_nil_of_length_eq_zero hz
    subst this
    exact ⟨none, 0, rfl, Nat.le_refl _, IntsAt.nil _ _ _⟩
  · have hlt := (World.ownsRow.lt hh g rfl).2
    refine ⟨some ⟨g, 0, none⟩, cap, rfl, h3.1, fun _ => ⟨_, rfl, hlt, fun i x hx => ?_⟩⟩
    exact hh.cells (g := g) rfl i (.int .i64 x) (by unfold inC; simp [hx])
theorem inC_app (a b : Ws) : inC (a ++ b) = inC a ++ inC b := List.map_append
theorem inC_len (a : Ws) : (inC a).length = a.length := List.length_map _
theorem inC_cell {w : World} {a : Addr} {xs : Ws} (h : ∀ (i : Nat) (x : Int), xs[i]? = some x → w.cell? (a.add i) = some (.int .i64 x)) : ∀ j u, (inC xs)[j]? = some u → w.cell? (a.add j) = some u := by
  intro j u hj
  unfold inC at hj
  rw [List.getElem?_map, Option.map_eq_some_iff] at hj
  obtain ⟨x, hx, rfl⟩ := hj
  exact h j x hx
theorem inC_one (xs : Ws) : ∀ u ∈ inC xs, u.oneCell' = true := by
  intro u hu
  unfold inC at hu
  obtain ⟨x, _, rfl⟩ := List.mem_map.1 hu
  rfl
/- What is appended to a row without room. -/
def Full (v : Value) : Prop := v = .slice none 0 0 ∨ ∃ g n, v = .slice (some ⟨g, 0, none⟩) n n
theorem ints_append {w : World} (ty : TypeId) {base : Nat} {v : Value} {xs : Ws} (hown : OwnI w base v xs) (hf : Full v) (hbase : base ≤ w.heap.size) {B : Nat} {A : Option Addr} {c : Nat} {ys : Ws} (h : IntsAt w B A ys)
    (hl : xs.length + ys.length ≤ 2000000) : ∃ v' w', (Builtin.append_ #[22, 22] ty #[v, .slice A ys.length c]).run Tryz.prog w = .ok v' w' ∧ Below w.heap.size w w' ∧ OwnI w' base v' (xs ++ ys) := by
  obtain ⟨i, hi, hz, hsize, hby⟩ := infoIp
  by_cases h0 : 0 < ys.length
  · obtain ⟨a, rfl, ha, hc⟩ := h h0
    have hg : ∃ v' w', (Builtin.append_ #[22, 22] ty #[v, .slice (some a) ys.length c]).run Tryz.prog w = .ok v' w' ∧ w'.ownsRow base 3 1 v' (xs.length + ys.length) (inC xs ++ inC ys) ∧ w.grownBy w' none := by
      rcases hf with rfl | ⟨g, n, rfl⟩
      · obtain ⟨v', w', hr, h2, h3, _⟩ := run_append_own (P := Tryz.prog) w base 22 ty 3 i _ 1 8 Tryz.underlying22 hi hz hsize hby rfl (by decide) _ _ _ hown a ys.length c (inC ys) (by rw [inC_len, Nat.mul_one]) (inC_cell hc) (inC_one ys) (by unfold maxLen; omega) (by omega) hbase
        exact ⟨v', w', hr, h2, h3⟩
      · have hn : n = xs.length := by
          rcases hown.2 with ⟨e, _⟩ | ⟨g', cap, cur, e, _⟩
          · cases e
          · cases e; rfl
        subst hn
        obtain ⟨v', w', hr, h2, h3⟩ := run_append_arg_grows (P := Tryz.prog) w 22 ty 3 i _ 1 8 Tryz.underlying22 hi hz hsize hby rfl (by decide) ⟨g, 0, none⟩ xs.length xs.length (inC xs) (by rw [inC_len, Nat.mul_one]) (World.ownsRow.cells hown (g := g) rfl) a ys.length c (inC ys) (by rw [inC_len, Nat.mul_one]) (inC_cell hc) (by omega) (by unfold maxLen; omega) (by omega)
        refine ⟨v', w', hr, ⟨h2.1, h2.2.imp id ?_⟩, h3⟩
        rintro ⟨g', cap, cur, e1, e2, r⟩
        exact ⟨g', cap, cur, e1, Nat.le_trans hbase e2, r⟩
    obtain ⟨v', w', hr, h2, h3⟩ := hg
    refine ⟨v', w', hr, ⟨h3.os, h3.tape, h3.output, h3.size, fun k hk => h3.block k hk (fun e => by cases e)⟩, ?_⟩
    unfold OwnI
    rw [List.length_append, inC_app]
    exact h2
  · have : ys = [] := List.eq_nil_of_length_eq_zero (by omega)
    subst this
    refine ⟨v, w, ?_, Below.refl _ _, by rw [List.append_nil]; exact hown⟩
    rcases hf with rfl | ⟨g, n, rfl⟩
    · cases A <;> simp [Builtin.append_, run_underlying Tryz.underlying22, sizeOf, typeInfo, hi, Builtin.lenOf, Builtin.firstCells, loadCells, loadCellsFrom]
    · cases A <;> simp [Builtin.append_, run_underlying Tryz.underlying22, sizeOf, typeInfo, hi, Builtin.lenOf, Builtin.firstCells, loadCells, loadCellsFrom, storeCells]
/- Facts on single operations. -/
def Fact.ref (n : ByteArray) (xs : Ws) : Fact := ⟨fun u w => RefV w w.heap.size u n xs, fun _ _ _ h hb => h.stay hb⟩
def Fact.sl (xs : Ws) : Fact := ⟨fun u w => SlV w w.heap.size u xs, fun _ _ _ h hb => h.stay hb⟩
def Fact.row (base : Nat) (xs : Ws) : Fact := ⟨fun u w => (OwnI w base u xs ∧ base ≤ w.heap.size) ∧ Full u, fun _ _ _ h hb => ⟨⟨h.1.1.stay hb, Nat.le_trans h.1.2 hb.size⟩, h.2⟩⟩
section
variable {ops : Array Oper} {Q : Exit → Act → World → Prop} {o : Oper} {a : Act} {w : World} {R : Value → World → Prop}
theorem rc_fa0 (hw : Region.wanted o (yielded ops a.tmps) = true) (x : Operand) {g : Nat}
    (ho : o.op = .fieldAddr 24 x 0) (hx : a.eval x = .pointer (some ⟨g, 0, none⟩)) (h : R (.pointer (some ⟨g, 0, none⟩)) w) : Runs Tryz.prog ops Q o a w R :=
  runs_value hw (by generalize a.eval = ρ at hx; simp [execOp, ho, go_sem, hx]) h
theorem rc_fa1 (hw : Region.wanted o (yielded ops a.tmps) = true) (x : Operand) {g : Nat}
    (ho : o.op = .fieldAddr 24 x 1) (hx : a.eval x = .pointer (some ⟨g, 0, none⟩)) (h : R (.pointer (some ⟨g, 1, none⟩)) w) : Runs Tryz.prog ops Q o a w R :=
  runs_value hw (by generalize a.eval = ρ at hx; simp [execOp, ho, go_sem, hx]) h
theorem rc_ldS (hw : Region.wanted o (yielded ops a.tmps) = true) (x : Operand) {g i : Nat} {v : Value}
    (ho : o.op = .load 9 x) (hx : a.eval x = .pointer (some ⟨g, i, none⟩)) (hc : w.cell? ⟨g, i, none⟩ = some v) (h : R v w) : Runs Tryz.prog ops Q o a w R :=
  runs_value hw (by generalize a.eval = ρ at hx; simp [execOp, ho, go_sem, hx, hc]) h
theorem rc_ldI (hw : Region.wanted o (yielded ops a.tmps) = true) (x : Operand) {g i : Nat} {v : Value}
    (ho : o.op = .load 22 x) (hx : a.eval x = .pointer (some ⟨g, i, none⟩)) (hc : w.cell? ⟨g, i, none⟩ = some v) (h : R v w) : Runs Tryz.prog ops Q o a w R :=
  runs_value hw (by generalize a.eval = ρ at hx; simp [execOp, ho, go_sem, hx, hc]) h
theorem rc_ldR (hw : Region.wanted o (yielded ops a.tmps) = true) (x : Operand) {c0 c1 : Value} {g : Nat}
    (ho : o.op = .load 24 x) (hx : a.eval x = .pointer (some ⟨g, 0, none⟩)) (hb : BxR w g c0 c1) (h : R (.agg #[c0, c1]) w) : Runs Tryz.prog ops Q o a w R :=
  ⟨hw, wp_load_row 24 x ho g hx _ _ _ _ hb Tryz.underlying24 rfl (by kernel_rfl) ⟨_, rfl, h⟩⟩
theorem rc_move (hw : Region.wanted o (yielded ops a.tmps) = true) (x : Operand) {v : Value}
    (ho : o.op = .move x) (hx : a.eval x = v) (h : R v w) : Runs Tryz.prog ops Q o a w R :=
  runs_value hw (by generalize a.eval = ρ at hx; simp [execOp, ho, go_sem, hx]) h
theorem rc_made1 (hw : Region.wanted o (yielded ops a.tmps) = true) (x : Operand) {n : Int} (ho : o.op = .buildSlice 22 1 #[(0, x)]) (hx : a.eval x = .int .i64 n)
    (h : R (.slice (some ⟨w.heap.size, 0, none⟩) 1 1) (w.alloc (.cells #[.int .i64 n] 3 (0, 0)))) : Runs Tryz.prog ops Q o a w R :=
  runs_value hw (by generalize a.eval = ρ at hx; simp [execOp, ho, go_sem, hx]) h
theorem rc_made0 (hw : Region.wanted o (yielded ops a.tmps) = true) (ho : o.op = .buildSlice 22 0 #[])
    (h : R (.slice (some ⟨w.heap.size, 0, none⟩) 0 0) (w.alloc (.cells #[] 3 (0, 0)))) : Runs Tryz.prog ops Q o a w R :=
  runs_value hw (by simp [execOp, ho, go_sem]) h
theorem rc_slice (hw : Region.wanted o (yielded ops a.tmps) = true) (x y : Operand) {A : Option Addr} {l c k : Nat} (ho : o.op = .slice 22 x (some y) none none) (hx : a.eval x = .slice A l c) (hy : a.eval y = .int .i64 k) (hk : k ≤ l) (hl : l ≤ c)
    (h : R (.slice (subA A k c) (l - k) (c - k)) w) : Runs Tryz.prog ops Q o a w R :=
  runs_value hw (by
    generalize a.eval = ρ at hx hy
    have h1 : (k : Int) ≤ (l : Int) := by omega
    have h2 : (l : Int) ≤ (c : Int) := by omega
    cases A with
    | none => simp [execOp, ho, go_sem, hx, hy, subA, h1]
    | some b => simp [execOp, ho, go_sem, hx, hy, subA, h1]; split <;> rfl) h
theorem rc_build (hw : Region.wanted o (yielded ops a.tmps) = true) (x y : Operand) {n : ByteArray} {A : Option Addr} {l c : Nat} (ho : o.op = .build 24 #[(0, x), (1, y)]) (hx : a.eval x = .string n) (hy : a.eval y = .slice A l c)
    (h : R (.agg #[.string n, .slice A l c]) w) : Runs Tryz.prog ops Q o a w R :=
  runs_value hw (by generalize a.eval = ρ at hx hy; simp [execOp, ho, go_sem, hx, hy]) h
theorem rc_append (hw : Region.wanted o (yielded ops a.tmps) = true) (x y : Operand) (ho : o.op = .call { callee := .builtin .append, args := #[x, y], argTypes := #[22, 22] }) {base : Nat} {v : Value} {xs : Ws} (hx : a.eval x = v)
    (hown : OwnI w base v xs) (hf : Full v) (hbase : base ≤ w.heap.size) {B c l : Nat} {A : Option Addr} {ys : Ws} (hy : a.eval y = .slice A l c) (hyl : l = ys.length) (hys : IntsAt w B A ys) (hl : xs.length + ys.length ≤ 2000000)
    (h : ∀ v' w', Below w.heap.size w w' → OwnI w' base v' (xs ++ ys) → R v' w') : Runs Tryz.prog ops Q o a w R := by
  subst hyl
  obtain ⟨v', w', hr, hb, hk⟩ := ints_append o.type (c := c) hown hf hbase hys hl
  refine runs_value (v := v') (w' := w') hw ?_ (h v' w' hb hk)
  unfold execOp
  simp only [ho, resolve, invoke, builtin, Sem.run_bind, Sem.run_pure, Result.andThen_ok, List.map_toArray, List.map_cons, List.map_nil, hx, hy, hr]
theorem store_run {P : Program} {W : World} {p : Addr} {u v : Value} (hc : W.cell? p = some u) (hf : W.frozen? p = false) (hv : v.oneCell' = true) : (store p v).run P W = .ok () (W.setCell p v) := by
  rw [run_store P W p v _ hv, hc]
  simp [hf]
/- A variable that holds a reference. -/
def RefB (w : World) (b : Nat) (n : ByteArray) (xs : Ws) : Prop := ∃ A c, BxR w b (.string n) (.slice A xs.length c) ∧ xs.length ≤ c ∧ IntsAt w w.heap.size A xs
theorem RefB.stay {w w' : World} {b : Nat} {n : ByteArray} {xs : Ws} (h : RefB w b n xs) (hb : Below w.heap.size w w') : RefB w' b n xs := by
  obtain ⟨A, c, h1, h2, h3⟩ := h; exact ⟨A, c, h1.stay hb, h2, h3.stay hb⟩
theorem RefB.v {w : World} {b : Nat} {n : ByteArray} {xs : Ws} (h : RefB w b n xs) : ∃ c0 c1, BxR w b c0 c1 ∧ RefV w w.heap.size (.agg #[c0, c1]) n xs := by
  obtain ⟨A, c, h1, h2, h3⟩ := h; exact ⟨_, _, h1, A, c, rfl, h2, h3⟩
/- A list of integers lies in no such variable. -/
theorem IntsAt.off {w : World} {B g : Nat} {A : Option Addr} {xs : Ws} (h : IntsAt w B A xs) {s : ByteArray} {A' : Option Addr} {l c : Nat} (hb : BxR w g (.string s) (.slice A' l c)) (j : Nat) (u : Value) : IntsAt (w.setCell ⟨g, j, none⟩ u) B A xs := fun h0 => by
  obtain ⟨a, e, ha, hc⟩ := h h0
  refine ⟨a, e, ha, fun i x hx => ?_⟩
  have hx' := hc i x hx
  by_cases hg : (a.add i).block = g
  · exfalso
    rw [show a.add i = ⟨g, (a.add i).off, (a.add i).spot⟩ by rw [← hg]] at hx'
    unfold BxR at hb
    generalize (a.add i).off = k at hx'
    generalize (a.add i).spot = sp at hx'
    unfold World.cell? at hx'
    rw [hb] at hx'
    match k, hx' with
    | 0, h => simp at h
    | 1, h => simp at h
    | k + 2, h => simp at h
  · exact (World.cell?_of_block (w := w) (Below.heap_setCell w _ _ _ hg)).trans hx'
theorem RefB.put {w : World} {g : Nat} {s : ByteArray} {A' : Option Addr} {l c : Nat} (hb : BxR w g (.string s) (.slice A' l c)) {n : ByteArray} {xs : Ws} {A : Option Addr} {d : Nat} (hd : xs.length ≤ d) (h : IntsAt w w.heap.size A xs) :
    RefB ((w.setCell ⟨g, 0, none⟩ (.string n)).setCell ⟨g, 1, none⟩ (.slice A xs.length d)) g n xs := by
  refine ⟨A, d, hb.two _ _, hd, ?_⟩
  have h1 := (h.off hb 0 (.string n)).off (hb.s0 (.string n)) 1 (.slice A xs.length d)
  simpa using h1
theorem RefB.off {w : World} {g b : Nat} {s : ByteArray} {A' : Option Addr} {l c : Nat} (hb : BxR w g (.string s) (.slice A' l c)) {n : ByteArray} {xs : Ws} (h : RefB w b n xs) (hn : b ≠ g) (j : Nat) (u : Value) : RefB (w.setCell ⟨g, j, none⟩ u) b n xs := by
  obtain ⟨A, d, h1, h2, h3⟩ := h
  exact ⟨A, d, h1.kept (Below.heap_setCell w _ _ _ hn), h2, by simpa using h3.off hb j u⟩
theorem rk_ldS (hw : Region.wanted o (yielded ops a.tmps) = true) (x : Operand) {g : Nat} {n : ByteArray} {xs : Ws}
    (ho : o.op = .load 9 x) (hx : a.eval x = .pointer (some ⟨g, 0, none⟩)) (hb : RefB w g n xs) (h : R (.string n) w) : Runs Tryz.prog ops Q o a w R := by
  obtain ⟨A, c, h1, h2, h3⟩ := hb; exact rc_ldS hw x ho hx h1.cells.1 h
theorem rk_ldI (hw : Region.wanted o (yielded ops a.tmps) = true) (x : Operand) {g : Nat} {n : ByteArray} {xs : Ws}
    (ho : o.op = .load 22 x) (hx : a.eval x = .pointer (some ⟨g, 1, none⟩)) (hb : RefB w g n xs) (h : ∀ u, SlV w w.heap.size u xs → R u w) : Runs Tryz.prog ops Q o a w R := by
  obtain ⟨A, c, h1, h2, h3⟩ := hb; exact rc_ldI hw x ho hx h1.cells.2 (h _ ⟨A, c, rfl, h2, h3⟩)
theorem rk_ldR (hw : Region.wanted o (yielded ops a.tmps) = true) (x : Operand) {g : Nat} {n : ByteArray} {xs : Ws}
    (ho : o.op = .load 24 x) (hx : a.eval x = .pointer (some ⟨g, 0, none⟩)) (hb : RefB w g n xs) (h : ∀ u, RefV w w.heap.size u n xs → R u w) : Runs Tryz.prog ops Q o a w R := by
  obtain ⟨A, c, h1, h2, h3⟩ := hb; exact rc_ldR hw x ho hx h1 (h _ ⟨A, c, rfl, h2, h3⟩)
theorem rk_slice (hw : Region.wanted o (yielded ops a.tmps) = true) (x y : Operand) {xs : Ws} {k : Nat} (ho : o.op = .slice 22 x (some y) none none) (hx : SlV w w.heap.size (a.eval x) xs) (hy : a.eval y = .int .i64 k) (hk : k ≤ xs.length)
    (h : ∀ u, SlV w w.heap.size u (xs.drop k) → R u w) : Runs Tryz.prog ops Q o a w R := by
  obtain ⟨A, c, e, h2, h3⟩ := hx
  refine rc_slice hw x y ho e hy hk h2 (h _ ⟨subA A k c, c - k, by rw [List.length_drop], by rw [List.length_drop]; omega, h3.drop k c h2⟩)
theorem rk_append (hw : Region.wanted o (yielded ops a.tmps) = true) (x y : Operand) (ho : o.op = .call { callee := .builtin .append, args := #[x, y], argTypes := #[22, 22] }) {base : Nat} {xs ys : Ws}
    (hx : (OwnI w base (a.eval x) xs ∧ base ≤ w.heap.size) ∧ Full (a.eval x)) (hy : SlV w w.heap.size (a.eval y) ys) (hl : xs.length + ys.length ≤ 2000000) (h : ∀ v' w', Below w.heap.size w w' → SlV w' w'.heap.size v' (xs ++ ys) → R v' w') : Runs Tryz.prog ops Q o a w R := by
  obtain ⟨A, c, e, h2, h3⟩ := hy
  exact rc_append hw x y ho rfl hx.1.1 hx.2 hx.1.2 e rfl h3 hl fun v' w' hb ho => h v' w' hb ho.sl
theorem rk_build (hw : Region.wanted o (yielded ops a.tmps) = true) (x y : Operand) {n : ByteArray} {xs : Ws} (ho : o.op = .build 24 #[(0, x), (1, y)]) (hx : a.eval x = .string n) (hy : SlV w w.heap.size (a.eval y) xs)
    (h : ∀ u, RefV w w.heap.size u n xs → R u w) : Runs Tryz.prog ops Q o a w R := by
  obtain ⟨A, c, e, h2, h3⟩ := hy
  exact rc_build hw x y ho hx e (h _ ⟨A, c, rfl, h2, h3⟩)
theorem store2_run {x y : Operand} {g : Nat} {b0 b1 c0 c1 : Value} (ho : o.op = .store 24 x y) (hx : a.eval x = .pointer (some ⟨g, 0, none⟩)) (hy : a.eval y = .agg #[c0, c1]) (hb : BxR w g b0 b1) (h0 : c0.oneCell' = true) (h1 : c1.oneCell' = true) :
    (execOp a.eval o).run Tryz.prog w = .ok .skip ((w.setCell ⟨g, 0, none⟩ c0).setCell ⟨g, 1, none⟩ c1) := by
  have q0 := store_run (P := Tryz.prog) (hb.cells.1) (hb.frz 0) h0
  have hb1 := hb.s0 c0
  have q1 := store_run (P := Tryz.prog) (hb1.cells.2) (hb1.frz 1) h1
  generalize a.eval = ρ at hx hy
  simp [execOp, ho, go_sem, hx, hy, q0, q1]
theorem str_eq (n m : ByteArray) : (n.toList == m.toList) = decide (n = m) := by
  rw [Lib.toList_data, Lib.toList_data]
  by_cases h : n = m
  · subst h; simp
  · have : ¬ n.data = m.data := fun e => h (by cases n; cases m; simp at e; rw [e])
    simp [h, this]
theorem rk_store (hw : Region.wanted o (yielded ops a.tmps) = true) (x y : Operand) {g : Nat} {s n : ByteArray} {A' : Option Addr} {l c : Nat} {xs : Ws} (ho : o.op = .store 24 x y) (hx : a.eval x = .pointer (some ⟨g, 0, none⟩))
    (hb : BxR w g (.string s) (.slice A' l c)) (hy : RefV w w.heap.size (a.eval y) n xs) (h : ∀ w', RefB w' g n xs → (∀ N, N ≤ g → Below N w w') → R undef w') : Runs Tryz.prog ops Q o a w R := by
  obtain ⟨A, d, e, h2, h3⟩ := hy
  refine runs_skip hw (w' := (w.setCell ⟨g, 0, none⟩ (.string n)).setCell ⟨g, 1, none⟩ (.slice A xs.length d)) ?_ (h _ (RefB.put hb h2 h3) fun N hN => Below.pair (Below.refl _ _) hN _ _)
  exact store2_run ho hx e hb rfl rfl
theorem rk_made1 (hw : Region.wanted o (yielded ops a.tmps) = true) (x : Operand) {n : Int} (ho : o.op = .buildSlice 22 1 #[(0, x)]) (hx : a.eval x = .int .i64 n) {N : Nat} (hN : N ≤ w.heap.size)
    (h : ∀ v w', Below w.heap.size w w' → (OwnI w' N v [n] ∧ N ≤ w'.heap.size) ∧ Full v → R v w') : Runs Tryz.prog ops Q o a w R := by
  refine rc_made1 hw x ho hx (h _ _ ((Below.refl _ _).alloc (Nat.le_refl _) _) ⟨⟨⟨(OwnI.one w n).1, (OwnI.one w n).2.imp id ?_⟩, by simp; omega⟩, .inr ⟨_, _, rfl⟩⟩)
  rintro ⟨g, cap, cur, e1, e2, r⟩
  exact ⟨g, cap, cur, e1, Nat.le_trans hN e2, r⟩
theorem rk_made0 (hw : Region.wanted o (yielded ops a.tmps) = true) (ho : o.op = .buildSlice 22 0 #[]) {N : Nat} (hN : N ≤ w.heap.size)
    (h : ∀ v w', Below w.heap.size w w' → (OwnI w' N v [] ∧ N ≤ w'.heap.size) ∧ Full v → R v w') : Runs Tryz.prog ops Q o a w R := by
  refine rc_made0 hw ho (h _ _ ((Below.refl _ _).alloc (Nat.le_refl _) _) ⟨⟨⟨(OwnI.zero w).1, (OwnI.zero w).2.imp id ?_⟩, by simp; omega⟩, .inr ⟨_, _, rfl⟩⟩)
  rintro ⟨g, cap, cur, e1, e2, r⟩
  exact ⟨g, cap, cur, e1, Nat.le_trans hN e2, r⟩
theorem rk_call1 (hw : Region.wanted o (yielded ops a.tmps) = true) {f : FuncId} {x : Operand} {ts : Array TypeId} {v : Value} (ho : o.op = .call { callee := .value (.func f), args := #[x], argTypes := ts }) (hen : ∀ (args : Array Value) (w : World), (callFunc f args).run Tryz.prog w = .ok (.enter f args) w)
    (hx : a.eval x = v) (hc : Calls Tryz.prog f #[v] w fun e w' => ∃ v, e = .returned v ∧ R v w') : Runs Tryz.prog ops Q o a w R :=
  runs_call hw f #[x] ts ho hen #[v] (by rw [map1, hx]) hc
theorem rk_call2 (hw : Region.wanted o (yielded ops a.tmps) = true) {f : FuncId} {x y : Operand} {ts : Array TypeId} {v u : Value} (ho : o.op = .call { callee := .value (.func f), args := #[x, y], argTypes := ts }) (hen : ∀ (args : Array Value) (w : World), (callFunc f args).run Tryz.prog w = .ok (.enter f args) w)
    (hx : a.eval x = v) (hy : a.eval y = u) (hc : Calls Tryz.prog f #[v, u] w fun e w' => ∃ v, e = .returned v ∧ R v w') : Runs Tryz.prog ops Q o a w R :=
  runs_call hw f #[x, y] ts ho hen #[v, u] (by rw [map2, hx, hy]) hc
theorem rk_eqlS (hw : Region.wanted o (yielded ops a.tmps) = true) (x y : Operand) {n m : ByteArray} {b : Bool}
    (ho : o.op = .binOp .eql 9 x y 9) (hx : a.eval x = .string n) (hy : a.eval y = .string m) (hc : decide (n = m) = b) (h : R (.bool b) w) : Runs Tryz.prog ops Q o a w R :=
  runs_value hw (by
    have e := str_eq n m
    generalize a.eval = ρ at hx hy; subst hc; simp [execOp, ho, go_sem, hx, hy, e]) h
theorem rk_pickT (hw : Region.wanted o (yielded ops a.tmps) = true) (c x y : Operand) {v : Value}
    (ho : o.op = .pick c x y) (hc : a.eval c = .bool true) (hx : a.eval x = v) (h : R v w) : Runs Tryz.prog ops Q o a w R :=
  runs_value hw (by generalize a.eval = ρ at hx hc; simp [execOp, ho, go_sem, hx, hc]) h
theorem rk_pickF (hw : Region.wanted o (yielded ops a.tmps) = true) (c x y : Operand) {v : Value}
    (ho : o.op = .pick c x y) (hc : a.eval c = .bool false) (hy : a.eval y = v) (h : R v w) : Runs Tryz.prog ops Q o a w R :=
  runs_value hw (by generalize a.eval = ρ at hy hc; simp [execOp, ho, go_sem, hy, hc]) h
theorem rk_assign (hw : Region.wanted o (yielded ops a.tmps) = true) (x : Operand) {v : Value} (ho : o.op = .assign x) (hx : a.eval x = v) (h : R v w) : Runs Tryz.prog ops Q o a w R :=
  runs_value hw (by generalize a.eval = ρ at hx; simp [execOp, ho, go_sem, hx]) h
theorem rk_eqlB (hw : Region.wanted o (yielded ops a.tmps) = true) (x y : Operand) {n m b : Bool}
    (ho : o.op = .binOp .eql 4 x y 4) (hx : a.eval x = .bool n) (hy : a.eval y = .bool m) (hc : (n == m) = b) (h : R (.bool b) w) : Runs Tryz.prog ops Q o a w R :=
  runs_value hw (by generalize a.eval = ρ at hx hy; subst hc; simp [execOp, ho, go_sem, hx, hy]) h
theorem rk_neqB (hw : Region.wanted o (yielded ops a.tmps) = true) (x y : Operand) {n m b : Bool}
    (ho : o.op = .binOp .neq 4 x y 4) (hx : a.eval x = .bool n) (hy : a.eval y = .bool m) (hc : (n != m) = b) (h : R (.bool b) w) : Runs Tryz.prog ops Q o a w R :=
  runs_value hw (by generalize a.eval = ρ at hx hy; subst hc; simp [execOp, ho, go_sem, hx, hy]; cases n <;> cases m <;> rfl) h
theorem rk_neqE (hw : Region.wanted o (yielded ops a.tmps) = true) (x y : Operand) {n m : Int} {b : Bool}
    (ho : o.op = .binOp .neq 35 x y 35) (hx : a.eval x = .int .i64 n) (hy : a.eval y = .int .i64 m) (hc : (n != m) = b) (h : R (.bool b) w) : Runs Tryz.prog ops Q o a w R :=
  runs_value hw (by generalize a.eval = ρ at hx hy; subst hc; simp [execOp, ho, go_sem, hx, hy]) h
theorem rk_conv (hw : Region.wanted o (yielded ops a.tmps) = true) (x : Operand) {n : Int} (ho : o.op = .convert 35 3 x) (hx : a.eval x = .int .i64 n) (h1 : -9223372036854775808 ≤ n) (h2 : n < 9223372036854775808) (h : R (.int .i64 n) w) : Runs Tryz.prog ops Q o a w R :=
  runs_value hw (by generalize a.eval = ρ at hx; simp [execOp, ho, go_sem, hx]; rw [IntKind.wrap_i64]; omega) h
theorem rk_call0 (hw : Region.wanted o (yielded ops a.tmps) = true) {f : FuncId} {ts : Array TypeId} (ho : o.op = .call { callee := .value (.func f), args := #[], argTypes := ts }) (hen : ∀ (args : Array Value) (w : World), (callFunc f args).run Tryz.prog w = .ok (.enter f args) w)
    (hc : Calls Tryz.prog f #[] w fun e w' => ∃ v, e = .returned v ∧ R v w') : Runs Tryz.prog ops Q o a w R :=
  runs_call hw f #[] ts ho hen #[] (by simp) hc
theorem rk_neqS (hw : Region.wanted o (yielded ops a.tmps) = true) (x y : Operand) {n m : ByteArray} {b : Bool}
    (ho : o.op = .binOp .neq 9 x y 9) (hx : a.eval x = .string n) (hy : a.eval y = .string m) (hc : (!decide (n = m)) = b) (h : R (.bool b) w) : Runs Tryz.prog ops Q o a w R :=
  runs_value hw (by
    have e := str_eq n m
    generalize a.eval = ρ at hx hy; subst hc; simp [execOp, ho, go_sem, hx, hy, e]) h
end
end Go.Proofs.YtgicbmibhnnflaaGreatDoor
