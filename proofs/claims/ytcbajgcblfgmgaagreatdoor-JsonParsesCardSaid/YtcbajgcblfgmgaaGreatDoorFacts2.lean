
/-
  Regions by facts: the frame behind them; single operations.
-/
import Derived.Test.YtcbajgcblfgmgaaGreatDoorFacts
import Derived.Shelf.GgSortMore.Iface
namespace Go.Proofs.YtcbajgcblfgmgaaGreatDoor
open Go.RowKit
def over (a0 : Act) (ds : List Tmp) (f : Tmp → Value) : Act := ds.foldl (fun a d => a.put (some d) (f d)) a0
theorem over_size (ds : List Tmp) (f : Tmp → Value) : ∀ a0 : Act, (over a0 ds f).tmps.size = a0.tmps.size ∧ (over a0 ds f).defers = a0.defers := by
  induction ds with
  | nil => intro a0; exact ⟨rfl, rfl⟩
  | cons d r ih => intro a0; have := ih (a0.put (some d) (f d)); simpa [over, Act.put] using this
theorem over_get (ds : List Tmp) (f : Tmp → Value) : ∀ (a0 : Act) (k : Nat), (over a0 ds f).tmps[k]? = if k ∈ ds ∧ k < a0.tmps.size then some (f k) else a0.tmps[k]? := by
  induction ds with
  | nil => intro a0 k; simp [over]
  | cons d r ih =>
    intro a0 k
    have := ih (a0.put (some d) (f d)) k
    rw [show over a0 (d :: r) f = over (a0.put (some d) (f d)) r f from rfl, this]
    simp only [Act.put, Array.size_setIfInBounds, List.mem_cons]
    by_cases h1 : k ∈ r ∧ k < a0.tmps.size
    · rw [if_pos h1, if_pos ⟨.inr h1.1, h1.2⟩]
    · rw [if_neg h1]
      by_cases e : d = k
      · subst e
        by_cases h2 : d < a0.tmps.size
        · rw [if_pos ⟨.inl rfl, h2⟩]; simp [h2]
        · have h4 : a0.tmps.size ≤ d := Nat.le_of_not_lt h2
          rw [if_neg (fun h => h2 h.2), Array.getElem?_eq_none (by simpa using h4), Array.getElem?_eq_none h4]
      · rw [Array.getElem?_setIfInBounds_ne e, if_neg]
        rintro ⟨h | h, h2⟩
        · exact e h.symm
        · exact h1 ⟨h, h2⟩
theorem over_of {ops : Array Oper} {a0 a : Act} (h : Fr ops a0 a) (ds : List Tmp) (hd : ∀ i k, dstOf ops i = some k → k ∈ ds) : a = over a0 ds (fun d => a.tmps.getD d undef) := by
  obtain ⟨h1, h2, h3⟩ := h
  obtain ⟨s1, s2⟩ := over_size ds (fun d => a.tmps.getD d undef) a0
  have ht : a.tmps = (over a0 ds (fun d => a.tmps.getD d undef)).tmps := by
    apply Array.ext_getElem?
    intro k
    rw [over_get]
    by_cases hk : k ∈ ds ∧ k < a0.tmps.size
    · rw [if_pos hk, Array.getD_eq_getD_getElem?, Array.getElem?_eq_getElem (by omega)]; rfl
    · rw [if_neg hk]
      by_cases hm : k ∈ ds
      · have h4 : a0.tmps.size ≤ k := by
          rcases Nat.lt_or_ge k a0.tmps.size with h | h
          · exact absurd ⟨hm, h⟩ hk
          · exact h
        rw [Array.getElem?_eq_none (by omega), Array.getElem?_eq_none h4]
      · exact h3 k (fun i e => hm (hd i k e))
  cases a
  generalize over _ _ _ = o at *
  cases o
  simp_all
theorem runs_load5 {ops : Array Oper} {Q : Exit → Act → World → Prop} {o : Oper} {a : Act} {w : World} {R : Value → World → Prop} (hw : Region.wanted o (yielded ops a.tmps) = true) (x : Operand) {c0 c1 c2 c3 c4 : Value} {g : Nat}
    (ho : o.op = .load 26 x) (hx : a.eval x = .pointer (some ⟨g, 0, none⟩)) (hb : Box w g c0 c1 c2 c3 c4) (h : R (.agg #[c0, c1, c2, c3, c4]) w) : Runs Tryz.prog ops Q o a w R :=
  ⟨hw, wp_load_row 26 x ho g hx _ _ _ _ hb Tryz.underlying26 rfl (by kernel_rfl) ⟨_, rfl, h⟩⟩
theorem Fr.slot {ops : Array Oper} {a0 a : Act} (h : Fr ops a0 a) (k : Nat) (hk : ((List.range ops.size).all fun i => decide (dstOf ops i ≠ some k)) = true) : a.tmps.getD k undef = a0.tmps.getD k undef := by
  rw [Array.getD_eq_getD_getElem?, Array.getD_eq_getD_getElem?, h.2.2 k]
  intro i e
  have hi : i < ops.size := by
    rcases Nat.lt_or_ge i ops.size with h' | h'
    · exact h'
    · simp [dstOf, Array.getElem?_eq_none h'] at e
  have := List.all_eq_true.1 hk i (List.mem_range.2 hi)
  exact (of_decide_eq_true this) e
theorem runs_call {P : Program} {ops : Array Oper} {Q : Exit → Act → World → Prop} {o : Oper} {a : Act} {w : World} {R : Value → World → Prop} (hw : Region.wanted o (yielded ops a.tmps) = true) (f : FuncId) (xs : Array Operand) (ts : Array TypeId)
    (ho : o.op = .call { callee := .value (.func f), args := xs, argTypes := ts }) (hen : ∀ (args : Array Value) (w : World), (callFunc f args).run P w = .ok (.enter f args) w) (vs : Array Value) (hx : xs.map a.eval = vs)
    (hc : Calls P f vs w fun e w' => ∃ v, e = .returned v ∧ R v w') : Runs P ops Q o a w R := by
  refine ⟨hw, ?_⟩
  unfold Oper.wp
  have he : (execOp a.eval o).run P w = .ok (.enter f vs) w := by
    simp [execOp, ho, go_sem, hx, hen]
  rw [he]
  exact hc.mono fun e w' ⟨v, hv, hr⟩ => by subst hv; exact ⟨v, rfl, hr⟩
theorem runs_value {P : Program} {ops : Array Oper} {Q : Exit → Act → World → Prop} {o : Oper} {a : Act} {w w' : World} {v : Value} {R : Value → World → Prop} (hw : Region.wanted o (yielded ops a.tmps) = true)
    (he : (execOp a.eval o).run P w = .ok (.value v) w') (h : R v w') : Runs P ops Q o a w R := by
  refine ⟨hw, ?_⟩
  unfold Oper.wp
  rw [he]
  exact ⟨v, rfl, h⟩
theorem runs_skip {P : Program} {ops : Array Oper} {Q : Exit → Act → World → Prop} {o : Oper} {a : Act} {w w' : World} {R : Value → World → Prop} (hw : Region.wanted o (yielded ops a.tmps) = true)
    (he : (execOp a.eval o).run P w = .ok .skip w') (h : R undef w') : Runs P ops Q o a w R := by
  refine ⟨hw, ?_⟩
  unfold Oper.wp
  rw [he]
  exact ⟨undef, rfl, h⟩
theorem map1 {α β : Type} (f : α → β) (x : α) : (#[x] : Array α).map f = #[f x] := by simp
theorem map2 {α β : Type} (f : α → β) (x y : α) : (#[x, y] : Array α).map f = #[f x, f y] := by simp
def zerosV : Array Value := #[.int .i64 0, .int .i64 0, .string ⟨#[]⟩, .slice none 0 0, .slice none 0 0]
theorem runs_alloc5 {ops : Array Oper} {Q : Exit → Act → World → Prop} {o : Oper} {a : Act} {w : World} {R : Value → World → Prop} (hw : Region.wanted o (yielded ops a.tmps) = true)
    (ho : o.op = .alloc 26) (h : R (.pointer (some ⟨w.heap.size, 0, none⟩)) (w.alloc (.cells zerosV 26 (0, 0)))) : Runs Tryz.prog ops Q o a w R :=
  runs_value hw (by simp [execOp, ho, go_sem, zerosV]) h
theorem runs_slice1 {ops : Array Oper} {Q : Exit → Act → World → Prop} {o : Oper} {a : Act} {w : World} {R : Value → World → Prop} (hw : Region.wanted o (yielded ops a.tmps) = true) (x : Operand) {c0 c1 c2 c3 c4 : Value}
    (ho : o.op = .buildSlice 23 1 #[(0, x)]) (hx : a.eval x = .agg #[c0, c1, c2, c3, c4]) (h : R (.slice (some ⟨w.heap.size, 0, none⟩) 1 1) (w.alloc (.cells #[c0, c1, c2, c3, c4] 26 (0, 0)))) : Runs Tryz.prog ops Q o a w R :=
  runs_value hw (by generalize a.eval = ρ at hx; simp [execOp, ho, go_sem, hx]) h
theorem runs_slice2 {ops : Array Oper} {Q : Exit → Act → World → Prop} {o : Oper} {a : Act} {w : World} {R : Value → World → Prop} (hw : Region.wanted o (yielded ops a.tmps) = true) (x y : Operand) {c0 c1 c2 c3 c4 d0 d1 d2 d3 d4 : Value}
    (ho : o.op = .buildSlice 23 2 #[(0, x), (1, y)]) (hx : a.eval x = .agg #[c0, c1, c2, c3, c4]) (hy : a.eval y = .agg #[d0, d1, d2, d3, d4]) (h : R (.slice (some ⟨w.heap.size, 0, none⟩) 2 2) (w.alloc (.cells #[c0, c1, c2, c3, c4, d0, d1, d2, d3, d4] 26 (0, 0)))) : Runs Tryz.prog ops Q o a w R :=
  runs_value hw (by generalize a.eval = ρ at hx hy; simp [execOp, ho, go_sem, hx, hy]) h
theorem Box.s0 {W : World} {b : Nat} {c0 c1 c2 c3 c4 : Value} (h : Box W b c0 c1 c2 c3 c4) (u : Value) : Box (W.setCell ⟨b, 0, none⟩ u) b u c1 c2 c3 c4 := by
  unfold Box at h ⊢; simp [World.setCell, Array.getElem?_modify, h]
theorem Box.s1 {W : World} {b : Nat} {c0 c1 c2 c3 c4 : Value} (h : Box W b c0 c1 c2 c3 c4) (u : Value) : Box (W.setCell ⟨b, 1, none⟩ u) b c0 u c2 c3 c4 := by
  unfold Box at h ⊢; simp [World.setCell, Array.getElem?_modify, h]
theorem Box.s2 {W : World} {b : Nat} {c0 c1 c2 c3 c4 : Value} (h : Box W b c0 c1 c2 c3 c4) (u : Value) : Box (W.setCell ⟨b, 2, none⟩ u) b c0 c1 u c3 c4 := by
  unfold Box at h ⊢; simp [World.setCell, Array.getElem?_modify, h]
theorem Box.s3 {W : World} {b : Nat} {c0 c1 c2 c3 c4 : Value} (h : Box W b c0 c1 c2 c3 c4) (u : Value) : Box (W.setCell ⟨b, 3, none⟩ u) b c0 c1 c2 u c4 := by
  unfold Box at h ⊢; simp [World.setCell, Array.getElem?_modify, h]
theorem Box.s4 {W : World} {b : Nat} {c0 c1 c2 c3 c4 : Value} (h : Box W b c0 c1 c2 c3 c4) (u : Value) : Box (W.setCell ⟨b, 4, none⟩ u) b c0 c1 c2 c3 u := by
  unfold Box at h ⊢; simp [World.setCell, Array.getElem?_modify, h]
theorem Box.five {W : World} {b : Nat} {c0 c1 c2 c3 c4 : Value} (h : Box W b c0 c1 c2 c3 c4) (u0 u1 u2 u3 u4 : Value) : Box (((((W.setCell ⟨b, 0, none⟩ u0).setCell ⟨b, 1, none⟩ u1).setCell ⟨b, 2, none⟩ u2).setCell ⟨b, 3, none⟩ u3).setCell ⟨b, 4, none⟩ u4) b u0 u1 u2 u3 u4 :=
  ((((h.s0 u0).s1 u1).s2 u2).s3 u3).s4 u4
theorem Box.frz {W : World} {b : Nat} {c0 c1 c2 c3 c4 : Value} (h : Box W b c0 c1 c2 c3 c4) (i : Nat) : W.frozen? ⟨b, i, none⟩ = false := by
  unfold Box at h; simp [World.frozen?, h]
theorem store_run {P : Program} {W : World} {p : Addr} {u v : Value} (hc : W.cell? p = some u) (hf : W.frozen? p = false) (hv : v.oneCell' = true) : (store p v).run P W = .ok () (W.setCell p v) := by
  rw [run_store P W p v _ hv, hc]
  simp [hf]
theorem runs_store5 {ops : Array Oper} {Q : Exit → Act → World → Prop} {o : Oper} {a : Act} {w : World} {R : Value → World → Prop} (hw : Region.wanted o (yielded ops a.tmps) = true) (x y : Operand) {g : Nat} {b0 b1 b2 b3 b4 c0 c1 c2 c3 c4 : Value}
    (ho : o.op = .store 26 x y) (hx : a.eval x = .pointer (some ⟨g, 0, none⟩)) (hy : a.eval y = .agg #[c0, c1, c2, c3, c4]) (hb : Box w g b0 b1 b2 b3 b4) (h0 : c0.oneCell' = true) (h1 : c1.oneCell' = true) (h2 : c2.oneCell' = true) (h3 : c3.oneCell' = true) (h4 : c4.oneCell' = true)
    (h : R undef (((((w.setCell ⟨g, 0, none⟩ c0).setCell ⟨g, 1, none⟩ c1).setCell ⟨g, 2, none⟩ c2).setCell ⟨g, 3, none⟩ c3).setCell ⟨g, 4, none⟩ c4)) : Runs Tryz.prog ops Q o a w R :=
  runs_skip hw (by
    have q0 := store_run (P := Tryz.prog) (hb.cells.1) (hb.frz 0) h0
    have hb1 := hb.s0 c0
    have q1 := store_run (P := Tryz.prog) (hb1.cells.2.1) (hb1.frz 1) h1
    have hb2 := hb1.s1 c1
    have q2 := store_run (P := Tryz.prog) (hb2.cells.2.2.1) (hb2.frz 2) h2
    have hb3 := hb2.s2 c2
    have q3 := store_run (P := Tryz.prog) (hb3.cells.2.2.2.1) (hb3.frz 3) h3
    have hb4 := hb3.s3 c3
    have q4 := store_run (P := Tryz.prog) (hb4.cells.2.2.2.2) (hb4.frz 4) h4
    generalize a.eval = ρ at hx hy
    simp [execOp, ho, go_sem, hx, hy, q0, q1, q2, q3, q4]) h
theorem runs_extract {P : Program} {ops : Array Oper} {Q : Exit → Act → World → Prop} {o : Oper} {a : Act} {w : World} {R : Value → World → Prop} (hw : Region.wanted o (yielded ops a.tmps) = true) (x : Operand) (i : Nat) (vs : Array Value) {v : Value}
    (ho : o.op = .extract x i) (hx : a.eval x = .tuple vs) (hv : vs[i]? = some v) (h : R v w) : Runs P ops Q o a w R :=
  runs_value hw (by generalize a.eval = ρ at hx; simp [execOp, ho, go_sem, hx, hv]) h
theorem runs_move {P : Program} {ops : Array Oper} {Q : Exit → Act → World → Prop} {o : Oper} {a : Act} {w : World} {R : Value → World → Prop} (hw : Region.wanted o (yielded ops a.tmps) = true) (x : Operand) {v : Value}
    (ho : o.op = .move x) (hx : a.eval x = v) (h : R v w) : Runs P ops Q o a w R :=
  runs_value hw (by generalize a.eval = ρ at hx; simp [execOp, ho, go_sem, hx]) h
theorem runs_assign {P : Program} {ops : Array Oper} {Q : Exit → Act → World → Prop} {o : Oper} {a : Act} {w : World} {R : Value → World → Prop} (hw : Region.wanted o (yielded ops a.tmps) = true) (x : Operand) {v : Value}
    (ho : o.op = .assign x) (hx : a.eval x = v) (h : R v w) : Runs P ops Q o a w R :=
  runs_value hw (by generalize a.eval = ρ at hx; simp [execOp, ho, go_sem, hx]) h
theorem wanted_of {ops : Array Oper} {o : Oper} {a : Act} {j : Nat} (hg : o.guard = some (j, true)) (hv : vof ops a j = .bool true) : Region.wanted o (yielded ops a.tmps) = true := by
  unfold Region.wanted
  rw [hg]
  have : yielded ops a.tmps j = some true := by
    unfold yielded
    unfold vof dstOf at hv
    cases e : (ops[j]?).bind (·.dst) with
    | none => rw [e] at hv; cases hv
    | some d =>
      rw [e] at hv
      simp only [Array.getD_eq_getD_getElem?] at hv
      simp only [Option.bind_some]
      cases e' : a.tmps[d]? with
      | none => rw [e'] at hv; cases hv
      | some v => rw [e'] at hv; simp only [Option.getD_some] at hv; rw [hv]
  simp only [this]
  rfl
theorem runs_pick {P : Program} {ops : Array Oper} {Q : Exit → Act → World → Prop} {o : Oper} {a : Act} {w : World} {R : Value → World → Prop} (hw : Region.wanted o (yielded ops a.tmps) = true) (c x y : Operand) {v : Value}
    (ho : o.op = .pick c x y) (hc : a.eval c = .bool true) (hx : a.eval x = v) (h : R v w) : Runs P ops Q o a w R :=
  runs_value hw (by generalize a.eval = ρ at hx hc; simp [execOp, ho, go_sem, hx, hc]) h
theorem runs_eql {ops : Array Oper} {Q : Exit → Act → World → Prop} {o : Oper} {a : Act} {w : World} {R : Value → World → Prop} (hw : Region.wanted o (yielded ops a.tmps) = true) (x y : Operand) {n m : Int}
    (ho : o.op = .binOp .eql 3 x y 3) (hx : a.eval x = .int .i64 n) (hy : a.eval y = .int .i64 m) (h : R (.bool (n == m)) w) : Runs Tryz.prog ops Q o a w R :=
  runs_value hw (by generalize a.eval = ρ at hx hy; simp [execOp, ho, go_sem, hx, hy]) h
theorem runs_build01 {ops : Array Oper} {Q : Exit → Act → World → Prop} {o : Oper} {a : Act} {w : World} {R : Value → World → Prop} (hw : Region.wanted o (yielded ops a.tmps) = true) (k n : Int)
    (ho : o.op = .build 26 #[(0, .const (.int .i64 k)), (1, .const (.int .i64 n))]) (h : R (.agg #[.int .i64 k, .int .i64 n, .string ⟨#[]⟩, .slice none 0 0, .slice none 0 0]) w) : Runs Tryz.prog ops Q o a w R :=
  runs_value hw (by
    have e0 : a.eval (.const (.int .i64 k)) = .int .i64 k := rfl
    have e1 : a.eval (.const (.int .i64 n)) = .int .i64 n := rfl
    generalize a.eval = ρ at e0 e1
    simp [execOp, ho, go_sem, e0, e1]) h
theorem runs_build02 {ops : Array Oper} {Q : Exit → Act → World → Prop} {o : Oper} {a : Act} {w : World} {R : Value → World → Prop} (hw : Region.wanted o (yielded ops a.tmps) = true) (k : Int) (s : ByteArray)
    (ho : o.op = .build 26 #[(0, .const (.int .i64 k)), (2, .const (.string s))]) (h : R (.agg #[.int .i64 k, .int .i64 0, .string s, .slice none 0 0, .slice none 0 0]) w) : Runs Tryz.prog ops Q o a w R :=
  runs_value hw (by
    have e0 : a.eval (.const (.int .i64 k)) = .int .i64 k := rfl
    have e1 : a.eval (.const (.string s)) = .string s := rfl
    generalize a.eval = ρ at e0 e1
    simp [execOp, ho, go_sem, e0, e1]) h
end Go.Proofs.YtcbajgcblfgmgaaGreatDoor
