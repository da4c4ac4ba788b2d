
/-
  The reference's Copy: single operations.
-/
import Derived.Test.YtgbckpihlklnlaaRCopy
import Derived.Test.YtgbckpihlklnlaaFacts2
namespace Go.Proofs.Ytgbckpihlklnlaa
open Go.RowKit
theorem runs_fa0 {ops : Array Oper} {Q : Exit → Act → World → Prop} {o : Oper} {a : Act} {w : World} {R : Value → World → Prop} (hw : Region.wanted o (yielded ops a.tmps) = true) (x : Operand) {g : Nat}
    (ho : o.op = .fieldAddr 26 x 0) (hx : a.eval x = .pointer (some ⟨g, 0, none⟩)) (h : R (.pointer (some ⟨g, 0, none⟩)) w) : Runs Try.prog ops Q o a w R :=
  runs_value hw (by generalize a.eval = ρ at hx; simp [execOp, ho, go_sem, hx]) h
theorem runs_fa1 {ops : Array Oper} {Q : Exit → Act → World → Prop} {o : Oper} {a : Act} {w : World} {R : Value → World → Prop} (hw : Region.wanted o (yielded ops a.tmps) = true) (x : Operand) {g : Nat}
    (ho : o.op = .fieldAddr 26 x 1) (hx : a.eval x = .pointer (some ⟨g, 0, none⟩)) (h : R (.pointer (some ⟨g, 1, none⟩)) w) : Runs Try.prog ops Q o a w R :=
  runs_value hw (by generalize a.eval = ρ at hx; simp [execOp, ho, go_sem, hx]) h
theorem runs_fa2 {ops : Array Oper} {Q : Exit → Act → World → Prop} {o : Oper} {a : Act} {w : World} {R : Value → World → Prop} (hw : Region.wanted o (yielded ops a.tmps) = true) (x : Operand) {g : Nat}
    (ho : o.op = .fieldAddr 26 x 2) (hx : a.eval x = .pointer (some ⟨g, 0, none⟩)) (h : R (.pointer (some ⟨g, 2, none⟩)) w) : Runs Try.prog ops Q o a w R :=
  runs_value hw (by generalize a.eval = ρ at hx; simp [execOp, ho, go_sem, hx]) h
theorem runs_fa3 {ops : Array Oper} {Q : Exit → Act → World → Prop} {o : Oper} {a : Act} {w : World} {R : Value → World → Prop} (hw : Region.wanted o (yielded ops a.tmps) = true) (x : Operand) {g : Nat}
    (ho : o.op = .fieldAddr 26 x 3) (hx : a.eval x = .pointer (some ⟨g, 0, none⟩)) (h : R (.pointer (some ⟨g, 3, none⟩)) w) : Runs Try.prog ops Q o a w R :=
  runs_value hw (by generalize a.eval = ρ at hx; simp [execOp, ho, go_sem, hx]) h
theorem runs_fa4 {ops : Array Oper} {Q : Exit → Act → World → Prop} {o : Oper} {a : Act} {w : World} {R : Value → World → Prop} (hw : Region.wanted o (yielded ops a.tmps) = true) (x : Operand) {g : Nat}
    (ho : o.op = .fieldAddr 26 x 4) (hx : a.eval x = .pointer (some ⟨g, 0, none⟩)) (h : R (.pointer (some ⟨g, 4, none⟩)) w) : Runs Try.prog ops Q o a w R :=
  runs_value hw (by generalize a.eval = ρ at hx; simp [execOp, ho, go_sem, hx]) h
theorem runs_ld_int {ops : Array Oper} {Q : Exit → Act → World → Prop} {o : Oper} {a : Act} {w : World} {R : Value → World → Prop} (hw : Region.wanted o (yielded ops a.tmps) = true) (x : Operand) {g i : Nat} {v : Value}
    (ho : o.op = .load 3 x) (hx : a.eval x = .pointer (some ⟨g, i, none⟩)) (hc : w.cell? ⟨g, i, none⟩ = some v) (h : R v w) : Runs Try.prog ops Q o a w R :=
  runs_value hw (by generalize a.eval = ρ at hx; simp [execOp, ho, go_sem, hx, hc]) h
theorem runs_ld_str {ops : Array Oper} {Q : Exit → Act → World → Prop} {o : Oper} {a : Act} {w : World} {R : Value → World → Prop} (hw : Region.wanted o (yielded ops a.tmps) = true) (x : Operand) {g i : Nat} {v : Value}
    (ho : o.op = .load 9 x) (hx : a.eval x = .pointer (some ⟨g, i, none⟩)) (hc : w.cell? ⟨g, i, none⟩ = some v) (h : R v w) : Runs Try.prog ops Q o a w R :=
  runs_value hw (by generalize a.eval = ρ at hx; simp [execOp, ho, go_sem, hx, hc]) h
theorem runs_ld_vals {ops : Array Oper} {Q : Exit → Act → World → Prop} {o : Oper} {a : Act} {w : World} {R : Value → World → Prop} (hw : Region.wanted o (yielded ops a.tmps) = true) (x : Operand) {g i : Nat} {v : Value}
    (ho : o.op = .load 23 x) (hx : a.eval x = .pointer (some ⟨g, i, none⟩)) (hc : w.cell? ⟨g, i, none⟩ = some v) (h : R v w) : Runs Try.prog ops Q o a w R :=
  runs_value hw (by generalize a.eval = ρ at hx; simp [execOp, ho, go_sem, hx, hc]) h
theorem runs_ld_strs {ops : Array Oper} {Q : Exit → Act → World → Prop} {o : Oper} {a : Act} {w : World} {R : Value → World → Prop} (hw : Region.wanted o (yielded ops a.tmps) = true) (x : Operand) {g i : Nat} {v : Value}
    (ho : o.op = .load 22 x) (hx : a.eval x = .pointer (some ⟨g, i, none⟩)) (hc : w.cell? ⟨g, i, none⟩ = some v) (h : R v w) : Runs Try.prog ops Q o a w R :=
  runs_value hw (by generalize a.eval = ρ at hx; simp [execOp, ho, go_sem, hx, hc]) h
theorem runs_empty {ops : Array Oper} {Q : Exit → Act → World → Prop} {o : Oper} {a : Act} {w : World} {R : Value → World → Prop} (hw : Region.wanted o (yielded ops a.tmps) = true)
    (ho : o.op = .buildSlice 22 0 #[]) (h : R (.slice (some ⟨w.heap.size, 0, none⟩) 0 0) (w.alloc (.cells #[] 9 (0, 0)))) : Runs Try.prog ops Q o a w R :=
  runs_value hw (by simp [execOp, ho, go_sem]) h
theorem runs_build5 {ops : Array Oper} {Q : Exit → Act → World → Prop} {o : Oper} {a : Act} {w : World} {R : Value → World → Prop} (hw : Region.wanted o (yielded ops a.tmps) = true) (x0 x1 x2 x3 x4 : Operand) {k n : Int} {s : ByteArray} {A K : Option Addr} {li ci lk ck : Nat}
    (ho : o.op = .build 26 #[(0, x0), (1, x1), (2, x2), (3, x3), (4, x4)]) (h0 : a.eval x0 = .int .i64 k) (h1 : a.eval x1 = .int .i64 n) (h2 : a.eval x2 = .string s) (h3 : a.eval x3 = .slice A li ci) (h4 : a.eval x4 = .slice K lk ck)
    (h : R (.agg #[.int .i64 k, .int .i64 n, .string s, .slice A li ci, .slice K lk ck]) w) : Runs Try.prog ops Q o a w R :=
  runs_value hw (by
    generalize a.eval = ρ at h0 h1 h2 h3 h4
    simp [execOp, ho, go_sem, h0, h1, h2, h3, h4]) h
theorem append_keys (w : World) (ty : TypeId) (a0 : Addr) (K : Option Addr) (lk ck : Nat) (keys : List ByteArray) (B : Nat) (hlk : keys.length = lk) (hbk : lk * 16 ≤ 140737488351232) (hK : KeysAt w B K keys) :
    ∃ A2 c2 w', (Builtin.append_ #[22, 22] ty #[.slice (some a0) 0 0, .slice K lk ck]).run Try.prog w = .ok (.slice A2 lk c2) w' ∧ Below w.heap.size w w' ∧ KeysS w' (Fresh w.heap.size w') A2 keys := by
  obtain ⟨i, hi, hz, hsize, hby⟩ := info_parts5 infoS
  by_cases h0 : 0 < lk
  · obtain ⟨a, rfl, hab, hc⟩ := hK (by omega)
    obtain ⟨v', w', hr, hown, hg⟩ := run_append_arg_grows (P := Try.prog) w 22 ty 9 i _ 1 16 Try.underlying22 hi hz hsize hby rfl (by decide) a0 0 0 [] rfl (by simp) a lk ck (keys.map Value.string) (by simp [hlk]) (by
      intro j u hj
      rw [List.getElem?_map, Option.map_eq_some_iff] at hj
      obtain ⟨s, hs, rfl⟩ := hj
      exact hc j s hs) (by omega) (by unfold maxLen; omega) (by omega)
    rcases hown.2 with ⟨rfl, e⟩ | ⟨g, cap, cur, rfl, h1, h2, h3, h4, h5, h6⟩
    · omega
    · rw [Nat.zero_add] at hr
      refine ⟨_, _, _, hr, ?_, fun _ => ⟨_, rfl, ⟨h1, (own_lt (g := g) hown rfl).2⟩, fun k s hs => ?_⟩⟩
      · exact ⟨hg.os, hg.tape, hg.output, hg.size, fun k hk => hg.block k hk (by intro e; cases e)⟩
      · exact hown.cells (g := g) rfl k (.string s) (by simp [hs])
  · obtain rfl : lk = 0 := by omega
    have hk : keys = [] := List.eq_nil_of_length_eq_zero hlk
    subst hk
    refine ⟨some a0, 0, w, ?_, Below.refl _ _, fun h => absurd h (by simp)⟩
    cases K <;> simp [Builtin.append_, run_underlying Try.underlying22, sizeOf, typeInfo, hi, Builtin.lenOf, Builtin.firstCells, loadCells, loadCellsFrom, storeCells]
theorem runs_append_keys {ops : Array Oper} {Q : Exit → Act → World → Prop} {o : Oper} {a : Act} {w : World} {R : Value → World → Prop} (hw : Region.wanted o (yielded ops a.tmps) = true) (x y : Operand)
    (ho : o.op = .call { callee := .builtin .append, args := #[x, y], argTypes := #[22, 22] }) (a0 : Addr) (hx : a.eval x = .slice (some a0) 0 0) (K : Option Addr) (lk ck : Nat) (hy : a.eval y = .slice K lk ck) (keys : List ByteArray) (B : Nat)
    (hlk : keys.length = lk) (hbk : lk * 16 ≤ 140737488351232) (hK : KeysAt w B K keys) (h : ∀ A2 c2 w', Below w.heap.size w w' → KeysS w' (Fresh w.heap.size w') A2 keys → R (.slice A2 lk c2) w') : Runs Try.prog ops Q o a w R := by
  obtain ⟨A2, c2, w', hr, hb, hks⟩ := append_keys w o.type a0 K lk ck keys B hlk hbk hK
  refine runs_value (v := .slice A2 lk c2) (w' := w') hw ?_ (h A2 c2 w' hb hks)
  unfold execOp
  simp only [ho, resolve, invoke, builtin, Sem.run_bind, Sem.run_pure, Result.andThen_ok, List.map_toArray, List.map_cons, List.map_nil, hx, hy, hr]
end Go.Proofs.Ytgbckpihlklnlaa
