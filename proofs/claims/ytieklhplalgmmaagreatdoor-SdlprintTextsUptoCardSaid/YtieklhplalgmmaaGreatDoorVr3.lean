
/-
  Texts joined: DOpen YPure N0 KPast NL RefText.
-/
import Derived.Test.YtieklhplalgmmaaGreatDoorVr2
import Derived.ChangeSlices
import Derived.WalkKit
import Derived.Test.YtieklhplalgmmaaGreatDoorVr1
import Derived.Lib.ItoaLen
import Derived.Deep.QuietTactic
import Derived.BigQuiet
import Derived.Deep.RegionLaw
import Derived.Deep.AppendLies
namespace Go.Proofs.YtieklhplalgmmaaGreatDoor
open Go.RowKit Go.ChangeShapes Go.WideShapes
theorem at_add (b : Addr) (j : Nat) : b.add j = at_ b j := by cases j <;> rfl
theorem bulk_mem {H : Type} : ∀ (l : List (DataW H)) (d : DataW H), d ∈ l → Rows.uptoBulk d ≤ Rows.uptoBulkAll l
  | a :: r, d, h => by
    rw [Rows.uptoBulkAll]
    rcases List.mem_cons.1 h with rfl | h
    · omega
    · have := bulk_mem r d h; omega
section
variable {H : Type} {enc : TypeId × Value → H} {w : World} {spare : Nat → Bool} {held : Bool}
set_option maxRecDepth 100000 in
theorem open_rows {α : Type} (T SL : TypeId) (k bytes : Nat) (R : World → Nat → (Nat → Value) → α → Prop) (S : α → Prop) (hu : Tryz.prog.underlying SL = some (.slice T)) (hk : Tryz.prog.cellsOf T = k) (hk0 : 0 < k) (hb : Tryz.prog.bytesOf T = bytes) (dflt : α)
    (hel : ∀ (fuel : Nat) (cs : List Value) (x : DataW H × List MemPlace), DataW.trod enc Tryz.prog w 0 spare held fuel T cs = some x → (∀ n ∈ x.1.weights Tryz.prog T, n ≤ reachBytes) → ∃ (f : Nat → Value) (y : α), cs = (List.range k).map f ∧ R w w.heap.size f y ∧ (Rows.uptoBulk x.1 ≤ 1048576 → S y))
    {fuel : Nat} {cs : List Value} {x : DataW H × List MemPlace} (h : DataW.trod enc Tryz.prog w 0 spare held fuel SL cs = some x) (hw : ∀ n ∈ x.1.weights Tryz.prog SL, n ≤ reachBytes) :
    ∃ (A : Option Addr) (l c : Nat) (ys : List α), cs = [.slice A l c] ∧ Sl k bytes R w w.heap.size (.slice A l c) ys ∧ (Rows.uptoBulk x.1 ≤ 1048576 → ∀ y ∈ ys, S y) := by
  rcases DataW.trod_slice hu h with ⟨e3, _⟩ | ⟨a, len, cap, elems, rest, m, rfl, e3, rfl, _, hlc, hcm, hle, hat, hsp, hns⟩
  · exact ⟨_, _, _, [], e3, ⟨none, 0, rfl, Nat.le_refl _, by simp, fun _ _ => undef, fun h0 => absurd h0 (by simp), fun i y hy => by simp at hy⟩, fun _ y hy => by cases hy⟩
  · have hw3 : ∀ d ∈ elems.map (·.1), ∀ q ∈ d.weights Tryz.prog T, q ≤ reachBytes := by
      intro d hd q hq
      refine hw q ?_
      simp only [DataW.weights, hu, List.mem_append, List.mem_cons]
      exact .inr (.inl (weights_all hd q hq))
    have hb3 : len * bytes ≤ 140737488355328 - 4096 := by
      have := hw ((elems.length + rest.length) * bytes) (by
        simp only [DataW.weights, hu, List.mem_append, List.mem_cons, hb, List.length_map]
        simp)
      unfold reachBytes at this
      rw [hle] at this
      have h2 : len * bytes ≤ (len + rest.length) * bytes := Nat.mul_le_mul_right _ (by omega)
      omega
    rw [hk] at hat
    have hitem : ∀ i, i < len → ∃ T2 : (Nat → Value) × α, (∀ j, j < k → w.cell? (at_ (a.add (i * k)) j) = some (T2.1 j)) ∧ R w w.heap.size T2.1 T2.2 ∧ (Rows.uptoBulkAll (elems.map (·.1)) ≤ 1048576 → S T2.2) := by
      intro i hi
      have h1 := hat i hi
      have hlt : i < elems.length := by omega
      rw [List.getElem?_eq_getElem hlt, Option.bind_eq_some_iff] at h1
      obtain ⟨cs', hc, ht⟩ := h1
      have hmem := List.mem_map_of_mem (f := fun q : DataW H × List MemPlace => q.1) (List.getElem_mem hlt)
      obtain ⟨f, y, rfl, hr, hs⟩ := hel m cs' _ ht (hw3 _ hmem)
      obtain ⟨_, _, hg⟩ := World.cells?_some hc
      refine ⟨⟨f, y⟩, fun j hj => ?_, hr, fun hbk => hs (Nat.le_trans (bulk_mem _ _ hmem) hbk)⟩
      rw [← at_add, hg j hj]
      simp [hj]
    obtain ⟨T2, hT⟩ : ∃ T2 : Nat → (Nat → Value) × α, ∀ i, i < len → (∀ j, j < k → w.cell? (at_ (a.add (i * k)) j) = some ((T2 i).1 j)) ∧ R w w.heap.size (T2 i).1 (T2 i).2 ∧ (Rows.uptoBulkAll (elems.map (·.1)) ≤ 1048576 → S (T2 i).2) := by
      refine ⟨fun i => if h : i < len then (hitem i h).choose else (fun _ => undef, dflt), fun i h => ?_⟩
      simp only [dif_pos h]
      exact (hitem i h).choose_spec
    refine ⟨some a, len, cap, (List.range len).map fun i => (T2 i).2, e3, ⟨some a, cap, by simp, by simpa using hlc, by simp; unfold big; omega, fun i => (T2 i).1, fun h0 => ⟨a, rfl, ?_, fun i hi j hj => (hT i (by simpa using hi)).1 j hj⟩, fun i y hi => ?_⟩, fun hbk y hy => ?_⟩
    · have := lt_cell ((hT 0 (by simpa using h0)).1 0 hk0)
      rwa [at_block, add_block] at this
    · have hlt : i < len := by simpa using (List.getElem?_eq_some_iff.1 hi).1
      simp [hlt] at hi
      subst hi
      exact (hT i hlt).2.1
    · obtain ⟨i, hi, rfl⟩ := List.mem_map.1 hy
      refine (hT i (List.mem_range.1 hi)).2.2 ?_
      simp only [Rows.uptoBulk] at hbk
      omega
theorem cellsLapi_Arg : Tryz.prog.cellsOf 93 = 1 := by kernel_rfl
theorem cellsLapi_Dir : Tryz.prog.cellsOf 30 = 1 := by kernel_rfl
theorem cellsLapi_Field : Tryz.prog.cellsOf 31 = 1 := by kernel_rfl
theorem cellsLapi_Input : Tryz.prog.cellsOf 33 = 1 := by kernel_rfl
theorem cellsLapi_Member : Tryz.prog.cellsOf 32 = 1 := by kernel_rfl
theorem cellsLstring : Tryz.prog.cellsOf 29 = 1 := by kernel_rfl
theorem cellsapi_Arg : Tryz.prog.cellsOf 97 = 6 := by kernel_rfl
theorem cellsapi_Def : Tryz.prog.cellsOf 35 = 7 := by kernel_rfl
theorem cellsapi_Dir : Tryz.prog.cellsOf 95 = 2 := by kernel_rfl
theorem cellsapi_Field : Tryz.prog.cellsOf 40 = 5 := by kernel_rfl
theorem cellsapi_Input : Tryz.prog.cellsOf 78 = 10 := by kernel_rfl
theorem cellsapi_Member : Tryz.prog.cellsOf 74 = 2 := by kernel_rfl
theorem cellsapi_Ref : Tryz.prog.cellsOf 38 = 2 := by kernel_rfl
theorem cellsapi_Value : Tryz.prog.cellsOf 45 = 5 := by kernel_rfl
theorem cellsbool : Tryz.prog.cellsOf 4 = 1 := by kernel_rfl
theorem cellsint : Tryz.prog.cellsOf 3 = 1 := by kernel_rfl
theorem cellsstring : Tryz.prog.cellsOf 9 = 1 := by kernel_rfl
set_option maxRecDepth 100000 in
theorem open_rf {fuel : Nat} {cs : List Value} {x : DataW H × List MemPlace} (h : DataW.trod enc Tryz.prog w 0 spare held fuel 38 cs = some x) (hw : ∀ n ∈ x.1.weights Tryz.prog 38, n ≤ reachBytes) :
    ∃ (c0 c1 : Value) (n : ByteArray) (xs : List Int), cs = [c0, c1] ∧ RfR w w.heap.size c0 c1 n xs := by
  obtain ⟨xs, n, rfl, rfl, hl, hxl, hf⟩ := DataW.trod_struct Tryz.underlying38 h
  rw [cellsapi_Ref] at hl
  match cs, hl, xs, hxl with
  | [c0, c1], _, [x0, x1], _ =>
  have f0 : DataW.trod enc Tryz.prog w 0 spare held n 9 [c0] = some x0 := by
    have this : DataW.trod enc Tryz.prog w 0 spare held n 9 (([c0, c1].drop 0).take (Tryz.prog.cellsOf 9)) = some x0 := hf 0 _ rfl
    rw [cellsstring] at this; exact this
  have f1 : DataW.trod enc Tryz.prog w 0 spare held n 36 [c1] = some x1 := by
    have this : DataW.trod enc Tryz.prog w 0 spare held n 36 (([c0, c1].drop 1).take (Tryz.prog.cellsOf 36)) = some x1 := hf 1 _ rfl
    rw [show Tryz.prog.cellsOf 36 = 1 by kernel_rfl] at this; exact this
  obtain ⟨s, e0, rfl, hs⟩ := DataW.trod_string Tryz.underlying9 f0
  have hw' : ∀ q ∈ ((Lit.string s.data.toList |> (.lit : Lit → DataW H)).weights Tryz.prog 9 ++ (x1.1.weights Tryz.prog 36 ++ [])), q ≤ reachBytes := by
    intro q hq
    refine hw q ?_
    simpa only [DataW.weights, Tryz.underlying38, DataW.weightsEach, List.map_cons, List.map_nil] using hq
  have hss : s.size ≤ 140737488351232 := by
    have := hw' s.data.toList.length (by simp [DataW.weights])
    unfold reachBytes at this
    rw [size_eq] at this; exact this
  obtain ⟨A, l, c, ys, e1, hsl, _⟩ := open_rows (enc := enc) (spare := spare) (held := held) 3 36 1 8 IntR (fun _ => True) Tryz.underlying36 cellsint (by decide) (by kernel_rfl) 0
    (fun fuel cs x hx _ => by
      obtain ⟨k0, e, rfl, wf0⟩ := DataW.trod_int Tryz.underlying3 hx
      exact ⟨fun _ => .int .i64 k0, k0, e, ⟨rfl, small_of wf0⟩, fun _ => trivial⟩) f1 (fun q hq => hw' q (by simp [hq]))
  simp only [List.cons.injEq, and_true] at e0 e1
  subst e0 e1
  exact ⟨_, _, s, ys, rfl, ⟨rfl, hss, hsl⟩⟩
set_option maxRecDepth 100000 in
theorem open_Arg (fuel : Nat) (cs : List Value) (x : DataW H × List MemPlace) (h : DataW.trod enc Tryz.prog w 0 spare held fuel 97 cs = some x) (hw : ∀ n ∈ x.1.weights Tryz.prog 97, n ≤ reachBytes) :
    ∃ (f : Nat → Value) (y : (ByteArray × VT)), cs = (List.range 6).map f ∧ ArgR w w.heap.size f y ∧ (Rows.uptoBulk x.1 ≤ 1048576 → (fun y => y.2.bw ≤ 1048576) y) := by
  obtain ⟨xs, n, rfl, rfl, hl, hxl, hf⟩ := DataW.trod_struct Tryz.underlying97 h
  rw [cellsapi_Arg] at hl
  match cs, hl, xs, hxl with
  | [c0, c1, c2, c3, c4, c5], _, [x0, x1], _ =>
  have f0 : DataW.trod enc Tryz.prog w 0 spare held n 9 [c0] = some x0 := by
    have this : DataW.trod enc Tryz.prog w 0 spare held n 9 (([c0, c1, c2, c3, c4, c5].drop 0).take (Tryz.prog.cellsOf 9)) = some x0 := hf 0 _ rfl
    rw [cellsstring] at this; exact this
  have f1 : DataW.trod enc Tryz.prog w 0 spare held n 45 [c1, c2, c3, c4, c5] = some x1 := by
    have this : DataW.trod enc Tryz.prog w 0 spare held n 45 (([c0, c1, c2, c3, c4, c5].drop 1).take (Tryz.prog.cellsOf 45)) = some x1 := hf 1 _ rfl
    rw [cellsapi_Value] at this; exact this
  obtain ⟨s0, e0, rfl, hs0⟩ := DataW.trod_string Tryz.underlying9 f0
  have hw' : ∀ q ∈ (((Lit.string s0.data.toList |> (.lit : Lit → DataW H)).weights Tryz.prog 9) ++ ((x1.1.weights Tryz.prog 45) ++ [])), q ≤ reachBytes := by
    intro q hq
    refine hw q ?_
    simpa only [DataW.weights, Tryz.underlying97, DataW.weightsEach, List.map_cons, List.map_nil] using hq
  have hz0 : s0.size ≤ 140737488351232 := by
    have := hw' s0.data.toList.length (by simp [DataW.weights])
    unfold reachBytes at this
    rw [size_eq] at this; exact this
  obtain ⟨d0, d1, d2, d3, d4, t1, e1, hrd1, hbk1⟩ := open_tree_b n f1 (fun q hq => hw' q (by simp [hq]))
  simp only [List.cons.injEq, and_true] at e0 e1
  subst e0
  obtain ⟨rfl, rfl, rfl, rfl, rfl⟩ := e1
  refine ⟨fun j => ([Value.string s0, c1, c2, c3, c4, c5] : List Value).getD j undef, (s0, t1), rfl, ?_, fun hB => ?_⟩
  · exact ⟨rfl, hz0, hrd1⟩
  · exact by show t1.bw ≤ _; have := hbk1; simp only [Rows.uptoBulk, Rows.uptoBulkAll, List.map_cons, List.map_nil] at hB; omega
def ArgT0 : (ByteArray × VT) := (⟨#[]⟩, .mk 0 0 ⟨#[]⟩ [] [])
set_option maxRecDepth 100000 in
theorem open_Dir (fuel : Nat) (cs : List Value) (x : DataW H × List MemPlace) (h : DataW.trod enc Tryz.prog w 0 spare held fuel 95 cs = some x) (hw : ∀ n ∈ x.1.weights Tryz.prog 95, n ≤ reachBytes) :
    ∃ (f : Nat → Value) (y : DirT), cs = (List.range 2).map f ∧ DirR w w.heap.size f y ∧ (Rows.uptoBulk x.1 ≤ 1048576 → (fun y => argsS y.args) y) := by
  obtain ⟨xs, n, rfl, rfl, hl, hxl, hf⟩ := DataW.trod_struct Tryz.underlying95 h
  rw [cellsapi_Dir] at hl
  match cs, hl, xs, hxl with
  | [c0, c1], _, [x0, x1], _ =>
  have f0 : DataW.trod enc Tryz.prog w 0 spare held n 9 [c0] = some x0 := by
    have this : DataW.trod enc Tryz.prog w 0 spare held n 9 (([c0, c1].drop 0).take (Tryz.prog.cellsOf 9)) = some x0 := hf 0 _ rfl
    rw [cellsstring] at this; exact this
  have f1 : DataW.trod enc Tryz.prog w 0 spare held n 93 [c1] = some x1 := by
    have this : DataW.trod enc Tryz.prog w 0 spare held n 93 (([c0, c1].drop 1).take (Tryz.prog.cellsOf 93)) = some x1 := hf 1 _ rfl
    rw [cellsLapi_Arg] at this; exact this
  obtain ⟨s0, e0, rfl, hs0⟩ := DataW.trod_string Tryz.underlying9 f0
  have hw' : ∀ q ∈ (((Lit.string s0.data.toList |> (.lit : Lit → DataW H)).weights Tryz.prog 9) ++ ((x1.1.weights Tryz.prog 93) ++ [])), q ≤ reachBytes := by
    intro q hq
    refine hw q ?_
    simpa only [DataW.weights, Tryz.underlying95, DataW.weightsEach, List.map_cons, List.map_nil] using hq
  have hz0 : s0.size ≤ 140737488351232 := by
    have := hw' s0.data.toList.length (by simp [DataW.weights])
    unfold reachBytes at this
    rw [size_eq] at this; exact this
  obtain ⟨A1, l1, cc1, ys1, e1, hsl1, hS1⟩ := open_rows (enc := enc) (spare := spare) (held := held) 97 93 6 96 ArgR (fun y => y.2.bw ≤ 1048576) Tryz.underlying93 cellsapi_Arg (by decide) (by kernel_rfl) ArgT0 open_Arg f1 (fun q hq => hw' q (by simp [hq]))
  simp only [List.cons.injEq, and_true] at e0 e1
  subst e0
  subst e1
  refine ⟨fun j => ([Value.string s0, Value.slice A1 l1 cc1] : List Value).getD j undef, ⟨s0, ys1⟩, rfl, ?_, fun hB => ?_⟩
  · exact ⟨rfl, hz0, hsl1⟩
  · exact hS1 (by simp only [Rows.uptoBulk, Rows.uptoBulkAll, List.map_cons, List.map_nil] at hB; omega)
def DirT0 : DirT := ⟨⟨#[]⟩, []⟩
set_option maxRecDepth 100000 in
theorem open_Inp (fuel : Nat) (cs : List Value) (x : DataW H × List MemPlace) (h : DataW.trod enc Tryz.prog w 0 spare held fuel 78 cs = some x) (hw : ∀ n ∈ x.1.weights Tryz.prog 78, n ≤ reachBytes) :
    ∃ (f : Nat → Value) (y : InpT), cs = (List.range 10).map f ∧ InpR w w.heap.size f y ∧ (Rows.uptoBulk x.1 ≤ 1048576 → (fun x => x.dflt.bw ≤ 1048576 ∧ dirsS x.dirs ∧ x.tw.length ≤ 17592186044416) y) := by
  obtain ⟨xs, n, rfl, rfl, hl, hxl, hf⟩ := DataW.trod_struct Tryz.underlying78 h
  rw [cellsapi_Input] at hl
  match cs, hl, xs, hxl with
  | [c0, c1, c2, c3, c4, c5, c6, c7, c8, c9], _, [x0, x1, x2, x3, x4], _ =>
  have f0 : DataW.trod enc Tryz.prog w 0 spare held n 9 [c0] = some x0 := by
    have this : DataW.trod enc Tryz.prog w 0 spare held n 9 (([c0, c1, c2, c3, c4, c5, c6, c7, c8, c9].drop 0).take (Tryz.prog.cellsOf 9)) = some x0 := hf 0 _ rfl
    rw [cellsstring] at this; exact this
  have f1 : DataW.trod enc Tryz.prog w 0 spare held n 38 [c1, c2] = some x1 := by
    have this : DataW.trod enc Tryz.prog w 0 spare held n 38 (([c0, c1, c2, c3, c4, c5, c6, c7, c8, c9].drop 1).take (Tryz.prog.cellsOf 38)) = some x1 := hf 1 _ rfl
    rw [cellsapi_Ref] at this; exact this
  have f2 : DataW.trod enc Tryz.prog w 0 spare held n 4 [c3] = some x2 := by
    have this : DataW.trod enc Tryz.prog w 0 spare held n 4 (([c0, c1, c2, c3, c4, c5, c6, c7, c8, c9].drop 3).take (Tryz.prog.cellsOf 4)) = some x2 := hf 2 _ rfl
    rw [cellsbool] at this; exact this
  have f3 : DataW.trod enc Tryz.prog w 0 spare held n 45 [c4, c5, c6, c7, c8] = some x3 := by
    have this : DataW.trod enc Tryz.prog w 0 spare held n 45 (([c0, c1, c2, c3, c4, c5, c6, c7, c8, c9].drop 4).take (Tryz.prog.cellsOf 45)) = some x3 := hf 3 _ rfl
    rw [cellsapi_Value] at this; exact this
  have f4 : DataW.trod enc Tryz.prog w 0 spare held n 30 [c9] = some x4 := by
    have this : DataW.trod enc Tryz.prog w 0 spare held n 30 (([c0, c1, c2, c3, c4, c5, c6, c7, c8, c9].drop 9).take (Tryz.prog.cellsOf 30)) = some x4 := hf 4 _ rfl
    rw [cellsLapi_Dir] at this; exact this
  obtain ⟨s0, e0, rfl, hs0⟩ := DataW.trod_string Tryz.underlying9 f0
  obtain ⟨b2, e2, rfl⟩ := DataW.trod_bool Tryz.underlying4 f2
  have hw' : ∀ q ∈ (((Lit.string s0.data.toList |> (.lit : Lit → DataW H)).weights Tryz.prog 9) ++ ((x1.1.weights Tryz.prog 38) ++ (((Lit.bool b2 |> (.lit : Lit → DataW H)).weights Tryz.prog 4) ++ ((x3.1.weights Tryz.prog 45) ++ ((x4.1.weights Tryz.prog 30) ++ []))))), q ≤ reachBytes := by
    intro q hq
    refine hw q ?_
    simpa only [DataW.weights, Tryz.underlying78, DataW.weightsEach, List.map_cons, List.map_nil] using hq
  have hz0 : s0.size ≤ 140737488351232 := by
    have := hw' s0.data.toList.length (by simp [DataW.weights])
    unfold reachBytes at this
    rw [size_eq] at this; exact this
  obtain ⟨r0, r1, n1, ws1, e1, hrf1⟩ := open_rf f1 (fun q hq => hw' q (by simp [hq]))
  obtain ⟨d0, d1, d2, d3, d4, t3, e3, hrd3, hbk3⟩ := open_tree_b n f3 (fun q hq => hw' q (by simp [hq]))
  obtain ⟨A4, l4, cc4, ys4, e4, hsl4, hS4⟩ := open_rows (enc := enc) (spare := spare) (held := held) 95 30 2 40 DirR (fun y => argsS y.args) Tryz.underlying30 cellsapi_Dir (by decide) (by kernel_rfl) DirT0 open_Dir f4 (fun q hq => hw' q (by simp [hq]))
  simp only [List.cons.injEq, and_true] at e0 e1 e2 e3 e4
  subst e0
  obtain ⟨rfl, rfl⟩ := e1
  subst e2
  obtain ⟨rfl, rfl, rfl, rfl, rfl⟩ := e3
  subst e4
  refine ⟨fun j => ([Value.string s0, c1, c2, Value.bool b2, c4, c5, c6, c7, c8, Value.slice A4 l4 cc4] : List Value).getD j undef, ⟨s0, n1, ws1, b2, t3, ys4⟩, rfl, ?_, fun hB => ?_⟩
  · exact ⟨rfl, hz0, hrf1, rfl, hrd3, hsl4⟩
  · exact ⟨by show t3.bw ≤ _; have := hbk3; simp only [Rows.uptoBulk, Rows.uptoBulkAll, List.map_cons, List.map_nil] at hB; omega, hS4 (by simp only [Rows.uptoBulk, Rows.uptoBulkAll, List.map_cons, List.map_nil] at hB; omega), by obtain ⟨_, _, _, _, h8⟩ := hrf1.wraps.form; show ws1.length ≤ _; unfold big at h8; omega⟩
def InpT0 : InpT := ⟨⟨#[]⟩, ⟨#[]⟩, [], false, .mk 0 0 ⟨#[]⟩ [] [], []⟩
set_option maxRecDepth 100000 in
theorem open_Fld (fuel : Nat) (cs : List Value) (x : DataW H × List MemPlace) (h : DataW.trod enc Tryz.prog w 0 spare held fuel 40 cs = some x) (hw : ∀ n ∈ x.1.weights Tryz.prog 40, n ≤ reachBytes) :
    ∃ (f : Nat → Value) (y : FldT), cs = (List.range 5).map f ∧ FldR w w.heap.size f y ∧ (Rows.uptoBulk x.1 ≤ 1048576 → (fun x => inpsS x.args ∧ dirsS x.dirs ∧ x.tw.length ≤ 17592186044416) y) := by
  obtain ⟨xs, n, rfl, rfl, hl, hxl, hf⟩ := DataW.trod_struct Tryz.underlying40 h
  rw [cellsapi_Field] at hl
  match cs, hl, xs, hxl with
  | [c0, c1, c2, c3, c4], _, [x0, x1, x2, x3], _ =>
  have f0 : DataW.trod enc Tryz.prog w 0 spare held n 9 [c0] = some x0 := by
    have this : DataW.trod enc Tryz.prog w 0 spare held n 9 (([c0, c1, c2, c3, c4].drop 0).take (Tryz.prog.cellsOf 9)) = some x0 := hf 0 _ rfl
    rw [cellsstring] at this; exact this
  have f1 : DataW.trod enc Tryz.prog w 0 spare held n 33 [c1] = some x1 := by
    have this : DataW.trod enc Tryz.prog w 0 spare held n 33 (([c0, c1, c2, c3, c4].drop 1).take (Tryz.prog.cellsOf 33)) = some x1 := hf 1 _ rfl
    rw [cellsLapi_Input] at this; exact this
  have f2 : DataW.trod enc Tryz.prog w 0 spare held n 38 [c2, c3] = some x2 := by
    have this : DataW.trod enc Tryz.prog w 0 spare held n 38 (([c0, c1, c2, c3, c4].drop 2).take (Tryz.prog.cellsOf 38)) = some x2 := hf 2 _ rfl
    rw [cellsapi_Ref] at this; exact this
  have f3 : DataW.trod enc Tryz.prog w 0 spare held n 30 [c4] = some x3 := by
    have this : DataW.trod enc Tryz.prog w 0 spare held n 30 (([c0, c1, c2, c3, c4].drop 4).take (Tryz.prog.cellsOf 30)) = some x3 := hf 3 _ rfl
    rw [cellsLapi_Dir] at this; exact this
  obtain ⟨s0, e0, rfl, hs0⟩ := DataW.trod_string Tryz.underlying9 f0
  have hw' : ∀ q ∈ (((Lit.string s0.data.toList |> (.lit : Lit → DataW H)).weights Tryz.prog 9) ++ ((x1.1.weights Tryz.prog 33) ++ ((x2.1.weights Tryz.prog 38) ++ ((x3.1.weights Tryz.prog 30) ++ [])))), q ≤ reachBytes := by
    intro q hq
    refine hw q ?_
    simpa only [DataW.weights, Tryz.underlying40, DataW.weightsEach, List.map_cons, List.map_nil] using hq
  have hz0 : s0.size ≤ 140737488351232 := by
    have := hw' s0.data.toList.length (by simp [DataW.weights])
    unfold reachBytes at this
    rw [size_eq] at this; exact this
  obtain ⟨A1, l1, cc1, ys1, e1, hsl1, hS1⟩ := open_rows (enc := enc) (spare := spare) (held := held) 78 33 10 168 InpR (fun x => x.dflt.bw ≤ 1048576 ∧ dirsS x.dirs ∧ x.tw.length ≤ 17592186044416) Tryz.underlying33 cellsapi_Input (by decide) (by kernel_rfl) InpT0 open_Inp f1 (fun q hq => hw' q (by simp [hq]))
  obtain ⟨r0, r1, n2, ws2, e2, hrf2⟩ := open_rf f2 (fun q hq => hw' q (by simp [hq]))
  obtain ⟨A3, l3, cc3, ys3, e3, hsl3, hS3⟩ := open_rows (enc := enc) (spare := spare) (held := held) 95 30 2 40 DirR (fun y => argsS y.args) Tryz.underlying30 cellsapi_Dir (by decide) (by kernel_rfl) DirT0 open_Dir f3 (fun q hq => hw' q (by simp [hq]))
  simp only [List.cons.injEq, and_true] at e0 e1 e2 e3
  subst e0
  subst e1
  obtain ⟨rfl, rfl⟩ := e2
  subst e3
  refine ⟨fun j => ([Value.string s0, Value.slice A1 l1 cc1, c2, c3, Value.slice A3 l3 cc3] : List Value).getD j undef, ⟨s0, ys1, n2, ws2, ys3⟩, rfl, ?_, fun hB => ?_⟩
  · exact ⟨rfl, hz0, hsl1, hrf2, hsl3⟩
  · exact ⟨hS1 (by simp only [Rows.uptoBulk, Rows.uptoBulkAll, List.map_cons, List.map_nil] at hB; omega), hS3 (by simp only [Rows.uptoBulk, Rows.uptoBulkAll, List.map_cons, List.map_nil] at hB; omega), by obtain ⟨_, _, _, _, h8⟩ := hrf2.wraps.form; show ws2.length ≤ _; unfold big at h8; omega⟩
def FldT0 : FldT := ⟨⟨#[]⟩, [], ⟨#[]⟩, [], []⟩
set_option maxRecDepth 100000 in
theorem open_Mem (fuel : Nat) (cs : List Value) (x : DataW H × List MemPlace) (h : DataW.trod enc Tryz.prog w 0 spare held fuel 74 cs = some x) (hw : ∀ n ∈ x.1.weights Tryz.prog 74, n ≤ reachBytes) :
    ∃ (f : Nat → Value) (y : MemT), cs = (List.range 2).map f ∧ MemR w w.heap.size f y ∧ (Rows.uptoBulk x.1 ≤ 1048576 → (fun x => dirsS x.dirs) y) := by
  obtain ⟨xs, n, rfl, rfl, hl, hxl, hf⟩ := DataW.trod_struct Tryz.underlying74 h
  rw [cellsapi_Member] at hl
  match cs, hl, xs, hxl with
  | [c0, c1], _, [x0, x1], _ =>
  have f0 : DataW.trod enc Tryz.prog w 0 spare held n 9 [c0] = some x0 := by
    have this : DataW.trod enc Tryz.prog w 0 spare held n 9 (([c0, c1].drop 0).take (Tryz.prog.cellsOf 9)) = some x0 := hf 0 _ rfl
    rw [cellsstring] at this; exact this
  have f1 : DataW.trod enc Tryz.prog w 0 spare held n 30 [c1] = some x1 := by
    have this : DataW.trod enc Tryz.prog w 0 spare held n 30 (([c0, c1].drop 1).take (Tryz.prog.cellsOf 30)) = some x1 := hf 1 _ rfl
    rw [cellsLapi_Dir] at this; exact this
  obtain ⟨s0, e0, rfl, hs0⟩ := DataW.trod_string Tryz.underlying9 f0
  have hw' : ∀ q ∈ (((Lit.string s0.data.toList |> (.lit : Lit → DataW H)).weights Tryz.prog 9) ++ ((x1.1.weights Tryz.prog 30) ++ [])), q ≤ reachBytes := by
    intro q hq
    refine hw q ?_
    simpa only [DataW.weights, Tryz.underlying74, DataW.weightsEach, List.map_cons, List.map_nil] using hq
  have hz0 : s0.size ≤ 140737488351232 := by
    have := hw' s0.data.toList.length (by simp [DataW.weights])
    unfold reachBytes at this
    rw [size_eq] at this; exact this
  obtain ⟨A1, l1, cc1, ys1, e1, hsl1, hS1⟩ := open_rows (enc := enc) (spare := spare) (held := held) 95 30 2 40 DirR (fun y => argsS y.args) Tryz.underlying30 cellsapi_Dir (by decide) (by kernel_rfl) DirT0 open_Dir f1 (fun q hq => hw' q (by simp [hq]))
  simp only [List.cons.injEq, and_true] at e0 e1
  subst e0
  subst e1
  refine ⟨fun j => ([Value.string s0, Value.slice A1 l1 cc1] : List Value).getD j undef, ⟨s0, ys1⟩, rfl, ?_, fun hB => ?_⟩
  · exact ⟨rfl, hz0, hsl1⟩
  · exact hS1 (by simp only [Rows.uptoBulk, Rows.uptoBulkAll, List.map_cons, List.map_nil] at hB; omega)
def MemT0 : MemT := ⟨⟨#[]⟩, []⟩
set_option maxRecDepth 100000 in
theorem open_Def (fuel : Nat) (cs : List Value) (x : DataW H × List MemPlace) (h : DataW.trod enc Tryz.prog w 0 spare held fuel 35 cs = some x) (hw : ∀ n ∈ x.1.weights Tryz.prog 35, n ≤ reachBytes) :
    ∃ (f : Nat → Value) (y : DefT), cs = (List.range 7).map f ∧ DefR w w.heap.size f y ∧ (Rows.uptoBulk x.1 ≤ 1048576 → (fun x => dirsS x.dirs ∧ inpsS x.inputs ∧ fldsS x.fields ∧ memsS x.members ∧ x.impl.length ≤ 17592186044416) y) := by
  obtain ⟨xs, n, rfl, rfl, hl, hxl, hf⟩ := DataW.trod_struct Tryz.underlying35 h
  rw [cellsapi_Def] at hl
  match cs, hl, xs, hxl with
  | [c0, c1, c2, c3, c4, c5, c6], _, [x0, x1, x2, x3, x4, x5, x6], _ =>
  have f0 : DataW.trod enc Tryz.prog w 0 spare held n 3 [c0] = some x0 := by
    have this : DataW.trod enc Tryz.prog w 0 spare held n 3 (([c0, c1, c2, c3, c4, c5, c6].drop 0).take (Tryz.prog.cellsOf 3)) = some x0 := hf 0 _ rfl
    rw [cellsint] at this; exact this
  have f1 : DataW.trod enc Tryz.prog w 0 spare held n 9 [c1] = some x1 := by
    have this : DataW.trod enc Tryz.prog w 0 spare held n 9 (([c0, c1, c2, c3, c4, c5, c6].drop 1).take (Tryz.prog.cellsOf 9)) = some x1 := hf 1 _ rfl
    rw [cellsstring] at this; exact this
  have f2 : DataW.trod enc Tryz.prog w 0 spare held n 29 [c2] = some x2 := by
    have this : DataW.trod enc Tryz.prog w 0 spare held n 29 (([c0, c1, c2, c3, c4, c5, c6].drop 2).take (Tryz.prog.cellsOf 29)) = some x2 := hf 2 _ rfl
    rw [cellsLstring] at this; exact this
  have f3 : DataW.trod enc Tryz.prog w 0 spare held n 30 [c3] = some x3 := by
    have this : DataW.trod enc Tryz.prog w 0 spare held n 30 (([c0, c1, c2, c3, c4, c5, c6].drop 3).take (Tryz.prog.cellsOf 30)) = some x3 := hf 3 _ rfl
    rw [cellsLapi_Dir] at this; exact this
  have f4 : DataW.trod enc Tryz.prog w 0 spare held n 31 [c4] = some x4 := by
    have this : DataW.trod enc Tryz.prog w 0 spare held n 31 (([c0, c1, c2, c3, c4, c5, c6].drop 4).take (Tryz.prog.cellsOf 31)) = some x4 := hf 4 _ rfl
    rw [cellsLapi_Field] at this; exact this
  have f5 : DataW.trod enc Tryz.prog w 0 spare held n 32 [c5] = some x5 := by
    have this : DataW.trod enc Tryz.prog w 0 spare held n 32 (([c0, c1, c2, c3, c4, c5, c6].drop 5).take (Tryz.prog.cellsOf 32)) = some x5 := hf 5 _ rfl
    rw [cellsLapi_Member] at this; exact this
  have f6 : DataW.trod enc Tryz.prog w 0 spare held n 33 [c6] = some x6 := by
    have this : DataW.trod enc Tryz.prog w 0 spare held n 33 (([c0, c1, c2, c3, c4, c5, c6].drop 6).take (Tryz.prog.cellsOf 33)) = some x6 := hf 6 _ rfl
    rw [cellsLapi_Input] at this; exact this
  obtain ⟨k0, e0, rfl, wf0⟩ := DataW.trod_int Tryz.underlying3 f0
  obtain ⟨s1, e1, rfl, hs1⟩ := DataW.trod_string Tryz.underlying9 f1
  have hw' : ∀ q ∈ (((Lit.int .i64 k0 |> (.lit : Lit → DataW H)).weights Tryz.prog 3) ++ (((Lit.string s1.data.toList |> (.lit : Lit → DataW H)).weights Tryz.prog 9) ++ ((x2.1.weights Tryz.prog 29) ++ ((x3.1.weights Tryz.prog 30) ++ ((x4.1.weights Tryz.prog 31) ++ ((x5.1.weights Tryz.prog 32) ++ ((x6.1.weights Tryz.prog 33) ++ []))))))), q ≤ reachBytes := by
    intro q hq
    refine hw q ?_
    simpa only [DataW.weights, Tryz.underlying35, DataW.weightsEach, List.map_cons, List.map_nil] using hq
  have hz1 : s1.size ≤ 140737488351232 := by
    have := hw' s1.data.toList.length (by simp [DataW.weights])
    unfold reachBytes at this
    rw [size_eq] at this; exact this
  obtain ⟨A2, l2, cc2, ys2, e2, hsl2, _⟩ := open_rows (enc := enc) (spare := spare) (held := held) 9 29 1 16 StrR (fun _ => True) Tryz.underlying29 cellsstring (by decide) (by kernel_rfl) ⟨#[]⟩
    (fun fuel cs x hx hwx => by
      obtain ⟨s, e, rfl, hs⟩ := DataW.trod_string Tryz.underlying9 hx
      refine ⟨fun _ => .string s, s, e, ⟨rfl, ?_⟩, fun _ => trivial⟩
      have := hwx s.data.toList.length (by simp [DataW.weights])
      unfold reachBytes at this
      rw [size_eq] at this; exact this) f2 (fun q hq => hw' q (by simp [hq]))
  obtain ⟨A3, l3, cc3, ys3, e3, hsl3, hS3⟩ := open_rows (enc := enc) (spare := spare) (held := held) 95 30 2 40 DirR (fun y => argsS y.args) Tryz.underlying30 cellsapi_Dir (by decide) (by kernel_rfl) DirT0 open_Dir f3 (fun q hq => hw' q (by simp [hq]))
  obtain ⟨A4, l4, cc4, ys4, e4, hsl4, hS4⟩ := open_rows (enc := enc) (spare := spare) (held := held) 40 31 5 104 FldR (fun x => inpsS x.args ∧ dirsS x.dirs ∧ x.tw.length ≤ 17592186044416) Tryz.underlying31 cellsapi_Field (by decide) (by kernel_rfl) FldT0 open_Fld f4 (fun q hq => hw' q (by simp [hq]))
  obtain ⟨A5, l5, cc5, ys5, e5, hsl5, hS5⟩ := open_rows (enc := enc) (spare := spare) (held := held) 74 32 2 40 MemR (fun x => dirsS x.dirs) Tryz.underlying32 cellsapi_Member (by decide) (by kernel_rfl) MemT0 open_Mem f5 (fun q hq => hw' q (by simp [hq]))
  obtain ⟨A6, l6, cc6, ys6, e6, hsl6, hS6⟩ := open_rows (enc := enc) (spare := spare) (held := held) 78 33 10 168 InpR (fun x => x.dflt.bw ≤ 1048576 ∧ dirsS x.dirs ∧ x.tw.length ≤ 17592186044416) Tryz.underlying33 cellsapi_Input (by decide) (by kernel_rfl) InpT0 open_Inp f6 (fun q hq => hw' q (by simp [hq]))
  simp only [List.cons.injEq, and_true] at e0 e1 e2 e3 e4 e5 e6
  subst e0
  subst e1
  subst e2
  subst e3
  subst e4
  subst e5
  subst e6
  refine ⟨fun j => ([Value.int .i64 k0, Value.string s1, Value.slice A2 l2 cc2, Value.slice A3 l3 cc3, Value.slice A4 l4 cc4, Value.slice A5 l5 cc5, Value.slice A6 l6 cc6] : List Value).getD j undef, ⟨k0, s1, ys2, ys3, ys4, ys5, ys6⟩, rfl, ?_, fun hB => ?_⟩
  · exact ⟨rfl, small_of wf0, rfl, hz1, hsl2, hsl3, hsl4, hsl5, hsl6⟩
  · exact ⟨hS3 (by simp only [Rows.uptoBulk, Rows.uptoBulkAll, List.map_cons, List.map_nil] at hB; omega), hS6 (by simp only [Rows.uptoBulk, Rows.uptoBulkAll, List.map_cons, List.map_nil] at hB; omega), hS4 (by simp only [Rows.uptoBulk, Rows.uptoBulkAll, List.map_cons, List.map_nil] at hB; omega), hS5 (by simp only [Rows.uptoBulk, Rows.uptoBulkAll, List.map_cons, List.map_nil] at hB; omega), by obtain ⟨_, _, _, _, h8⟩ := hsl2.form; show ys2.length ≤ _; unfold big at h8; omega⟩
def DefT0 : DefT := ⟨0, ⟨#[]⟩, [], [], [], [], []⟩
end
end Go.Proofs.YtieklhplalgmmaaGreatDoor
namespace Go.Proofs.YtieklhplalgmmaaGreatDoor.K
abbrev Ws := List Int
def nnB (ws : Ws) : Bool := ws.head? == some 1
def strL (ws : Ws) : Ws := ws.filter (fun w => decide (w ≠ 1))
def rtF : Bool → Ws → Bool
  | _, [] => true
  | p, w :: r => (w == 2 || (w == 1 && !p)) && rtF (w == 1) r
theorem str_app (a b : Ws) : strL (a ++ b) = strL a ++ strL b := List.filter_append _ _
def endB (w : Int) : UInt8 := if w = 1 then 33 else 93
def prL (n : List UInt8) (ws : Ws) : List UInt8 := List.replicate (strL ws).length 91 ++ n ++ ws.reverse.map endB
theorem pr_nil (n : List UInt8) : prL n [] = n := by simp [prL, strL]
theorem pr_one (n : List UInt8) (r : Ws) : prL n (1 :: r) = prL n r ++ [33] := by
  unfold prL
  rw [show strL (1 :: r) = strL r from rfl]; simp [endB]
theorem pr_two (n : List UInt8) (w : Int) (r : Ws) (h : w ≠ 1) : prL n (w :: r) = 91 :: prL n r ++ [93] := by
  unfold prL
  rw [show strL (w :: r) = w :: strL r by simp [strL, h]]; simp [endB, h, List.replicate_succ]
end Go.Proofs.YtieklhplalgmmaaGreatDoor.K
namespace Go.Proofs.YtieklhplalgmmaaGreatDoor
open Go.RowKit
def jn (sep : List UInt8) : List (List UInt8) → List UInt8
  | [] => []
  | a :: r => a ++ (r.map (fun x => sep ++ x)).flatten
theorem jn_nil (sep : List UInt8) : jn sep [] = [] := rfl
theorem jn_snoc (sep : List UInt8) (xs : List (List UInt8)) (a : List UInt8) : jn sep (xs ++ [a]) = jn sep xs ++ ((if xs.length = 0 then [] else sep) ++ a) := by
  cases xs with
  | nil => simp [jn]
  | cons x r => simp [jn]
theorem take_sn {α : Type} {xs : List α} {j : Nat} {a : α} (h : xs[j]? = some a) : xs.take (j + 1) = xs.take j ++ [a] := by
  obtain ⟨hj, e⟩ := List.getElem?_eq_some_iff.1 h
  rw [List.take_succ_eq_append_getElem hj, e]
theorem jn_take (sep : List UInt8) {xs : List (List UInt8)} {j : Nat} {a : List UInt8} (h : xs[j]? = some a) : jn sep (xs.take (j + 1)) = jn sep (xs.take j) ++ ((if j = 0 then [] else sep) ++ a) := by
  obtain ⟨hj, _⟩ := List.getElem?_eq_some_iff.1 h
  rw [take_sn h, jn_snoc, List.length_take, Nat.min_eq_left (by omega)]
theorem jn_mono (sep : List UInt8) (xs : List (List UInt8)) : ∀ (j : Nat), (jn sep (xs.take j)).length ≤ (jn sep xs).length := by
  intro j
  cases xs with
  | nil => simp
  | cons x r =>
    cases j with
    | zero => simp [jn]
    | succ j =>
      simp only [List.take_succ_cons, jn, List.length_append]
      have : (List.map (fun x => sep ++ x) r).flatten.length = (List.map (fun x => sep ++ x) (r.take j)).flatten.length + (List.map (fun x => sep ++ x) (r.drop j)).flatten.length := by
        rw [← List.length_append, ← List.flatten_append, ← List.map_append, List.take_append_drop]
      omega
theorem jn_step_le (sep : List UInt8) {xs : List (List UInt8)} {j : Nat} {a : List UInt8} (h : xs[j]? = some a) : (jn sep (xs.take j)).length + ((if j = 0 then [] else sep : List UInt8)).length + a.length ≤ (jn sep xs).length := by
  have := jn_mono sep xs (j + 1)
  rw [jn_take sep h] at this
  simp only [List.length_append] at this ⊢
  omega
def bL (s : ByteArray) : List UInt8 := s.data.toList
theorem bL_len (s : ByteArray) : (bL s).length = s.size := by unfold bL; rw [Array.length_toList]; rfl
theorem lit_size (l : List UInt8) : (⟨l.toArray⟩ : ByteArray).size = l.length := rfl
theorem lit_bL (l : List UInt8) : bL ⟨l.toArray⟩ = l := rfl
def nullB : List UInt8 := [110, 117, 108, 108]
def falseB : List UInt8 := [102, 97, 108, 115, 101]
def trueB : List UInt8 := [116, 114, 117, 101]
def qL (s : ByteArray) : List UInt8 := T1.quoteL s.data.toList
mutual
def VT.src : VT → List UInt8
  | .mk k n s items keys =>
    if k = 0 then nullB else if k = 1 then (if n = 0 then falseB else trueB) else if k = 2 then Lib.itoa n else if k = 3 then qL s else if k = 4 then bL s
    else if k = 5 then 91 :: (jn [44, 32] (VT.srcs items) ++ [93]) else if k = 6 then 123 :: (jn [44, 32] (List.zipWith (fun a b => bL a ++ (58 :: 32 :: b)) keys (VT.srcs items)) ++ [125])
    else if k = 7 then 36 :: bL s else []
def VT.srcs : List VT → List (List UInt8)
  | [] => []
  | t :: r => t.src :: VT.srcs r
end
theorem srcs_map : ∀ l : List VT, VT.srcs l = l.map VT.src
  | [] => rfl
  | t :: r => by rw [VT.srcs, srcs_map r]; rfl
def objTxt (keys : List ByteArray) (items : List VT) : List (List UInt8) := List.zipWith (fun a b => bL a ++ (58 :: 32 :: b)) keys (items.map VT.src)
theorem src_eq (k n : Int) (s : ByteArray) (items : List VT) (keys : List ByteArray) : (VT.mk k n s items keys).src =
    if k = 0 then nullB else if k = 1 then (if n = 0 then falseB else trueB) else if k = 2 then Lib.itoa n else if k = 3 then qL s else if k = 4 then bL s
    else if k = 5 then 91 :: (jn [44, 32] (items.map VT.src) ++ [93]) else if k = 6 then 123 :: (jn [44, 32] (objTxt keys items) ++ [125])
    else if k = 7 then 36 :: bL s else [] := by
  rw [VT.src, srcs_map]; rfl
mutual
def VT.fit : VT → Prop
  | .mk k n s items keys => (0 ≤ k ∧ k ≤ 7) ∧ (k = 1 → n = 0 ∨ n = 1) ∧ (k = 6 → keys.length = items.length) ∧ (k = 4 → 0 < s.size) ∧ s.size ≤ 1099511627776 ∧ VT.fits items
def VT.fits : List VT → Prop
  | [] => True
  | t :: r => t.fit ∧ VT.fits r
end
theorem fits_at : ∀ {l : List VT} {i : Nat} {t : VT}, VT.fits l → l[i]? = some t → t.fit
  | [], i, t, _, h => by simp at h
  | x :: r, 0, t, hf, h => by simp at h; subst h; rw [VT.fits] at hf; exact hf.1
  | x :: r, i + 1, t, hf, h => by rw [VT.fits] at hf; exact fits_at hf.2 (by simpa using h)
theorem fits_of : ∀ {l : List VT}, (∀ t ∈ l, t.fit) → VT.fits l
  | [], _ => trivial
  | x :: r, h => ⟨h x (by simp), fits_of fun t ht => h t (by simp [ht])⟩
def argTxt (x : ByteArray × VT) : List UInt8 := bL x.1 ++ ([58, 32] ++ x.2.src)
def dirTxt (d : DirT) : List UInt8 := [64] ++ (bL d.name ++ (if d.args.length = 0 then [] else [40] ++ (jn [44, 32] (d.args.map argTxt) ++ [41])))
def dirsTxt (l : List DirT) : List UInt8 := jn [32] (l.map dirTxt)
def tailTxt (l : List DirT) : List UInt8 := if l.length = 0 then [] else [32] ++ dirsTxt l
def refTxt (n : ByteArray) (ws : List Int) : List UInt8 := K.prL n.data.toList ws
def inpTxt (x : InpT) : List UInt8 := bL x.name ++ ([58, 32] ++ (refTxt x.tn x.tw ++ ((if x.has = true then [32, 61, 32] ++ x.dflt.src else []) ++ tailTxt x.dirs)))
def fldTxt (x : FldT) : List UInt8 := bL x.name ++ ((if x.args.length = 0 then [] else [40] ++ (jn [44, 32] (x.args.map inpTxt) ++ [41])) ++ ([58, 32] ++ (refTxt x.tn x.tw ++ tailTxt x.dirs)))
def memTxt (x : MemT) : List UInt8 := bL x.name ++ tailTxt x.dirs
def lineTxt (a : List UInt8) : List UInt8 := [32, 32] ++ (a ++ [10])
def blkTxt (ds : List DirT) (ls : List (List UInt8)) : List UInt8 := tailTxt ds ++ ([32, 123, 10] ++ ((ls.map lineTxt).flatten ++ [125, 10]))
def implTxt (l : List ByteArray) : List UInt8 := if l.length = 0 then [] else [32, 105, 109, 112, 108, 101, 109, 101, 110, 116, 115, 32] ++ jn [32, 38, 32] (l.map bL)
def uniTxt (ds : List DirT) (l : List MemT) : List UInt8 := tailTxt ds ++ ([32, 61, 32] ++ (jn [32, 124, 32] (l.map memTxt) ++ [10]))
def wType : List UInt8 := [116, 121, 112, 101, 32]
def wInterface : List UInt8 := [105, 110, 116, 101, 114, 102, 97, 99, 101, 32]
def wUnion : List UInt8 := [117, 110, 105, 111, 110, 32]
def wEnum : List UInt8 := [101, 110, 117, 109, 32]
def wInput : List UInt8 := [105, 110, 112, 117, 116, 32]
def defTxt (d : DefT) : List UInt8 :=
  if d.kind = 1 then wType ++ (bL d.name ++ (implTxt d.impl ++ blkTxt d.dirs (d.fields.map fldTxt)))
  else if d.kind = 2 then wInterface ++ (bL d.name ++ blkTxt d.dirs (d.fields.map fldTxt))
  else if d.kind = 3 then wUnion ++ (bL d.name ++ uniTxt d.dirs d.members)
  else if d.kind = 4 then wEnum ++ (bL d.name ++ blkTxt d.dirs (d.members.map memTxt))
  else if d.kind = 5 then wInput ++ (bL d.name ++ blkTxt d.dirs (d.inputs.map inpTxt))
  else []
def docTxt (l : List DefT) : List UInt8 := jn [10] (l.map defTxt)
end Go.Proofs.YtieklhplalgmmaaGreatDoor
namespace Go.Proofs.YtieklhplalgmmaaGreatDoor.K
open Go.RowKit
structure Past (W : World) where
  w : World
  b : Below W.heap.size W w
instance {W : World} : Nonempty (Past W) := ⟨⟨W, Below.refl _ _⟩⟩
theorem Past.le {W : World} (x : Past W) : W.heap.size ≤ x.w.heap.size := x.b.size
theorem past_of {P : Program} {W : World} {f : FuncId} {args : Array Value} {v : Value} (x : Past W) (h : Calls P f args x.w fun e w' => e = .returned v ∧ Below x.w.heap.size x.w w') :
    Calls P f args x.w fun e w'' => e = .returned v ∧ ∃ y : Past W, w'' = y.w :=
  h.mono fun _ _ ⟨he, hb⟩ => ⟨he, ⟨_, x.b.trans (hb.mono x.le)⟩, rfl⟩
theorem past_block {W : World} {b : Nat} {o : Obj} (h : W.heap[b]? = some o) (x : Past W) : x.w.heap[b]? = some o := by
  have hb : b < W.heap.size := by
    rcases Nat.lt_or_ge b W.heap.size with h' | h'
    · exact h'
    · rw [Array.getElem?_eq_none h'] at h; cases h
  exact (x.b.block b hb).trans h
theorem wp_region_past {id : Nat} {Q : Exit → Act → World → Prop} {a : Act} {w : World} {l : List Oper} (F : World → Prop) (hF : F w) (hB : Region.lexB .any l.toArray = true)
    (h : ∀ W, F W → Below w.heap.size w W → wpQuiet Tryz.prog l.toArray (fun w' => ∃ x : Past W, w' = x.w) (fun a' => ∀ w', (∃ x : Past W, w' = x.w) → Q .normal a' w') l a) : (Code.region id l.toArray true).wp Tryz.prog Q a w :=
  wp_region_quiet (C := fun w' => ∃ x : Past w, w' = x.w) (by kernel_rfl) hB ⟨⟨_, (Below.refl _ _).drew⟩, rfl⟩ (by simpa using h w hF (Below.refl _ _))
end Go.Proofs.YtieklhplalgmmaaGreatDoor.K
namespace Go.Proofs.YtieklhplalgmmaaGreatDoor
open Go.RowKit
theorem cat_ex (s t : ByteArray) (h : s.size + t.size ≤ 9223372036854775807) : ∃ u : ByteArray, bL u = bL s ++ bL t ∧ ∀ w, (Op.stringOp .add s t).run Tryz.prog w = .ok (.string u) w := by
  refine ⟨s ++ t, ?_, fun w => run_string_add_sum w s t h⟩
  obtain ⟨⟨a⟩⟩ := s
  obtain ⟨⟨b⟩⟩ := t
  rw [ByteArray.mk_append_mk]
  rfl
def StrsV (w : World) (A : Option Addr) (ss : List ByteArray) : Prop := 0 < ss.length → ∃ a, A = some a ∧ ∀ (j : Nat) (s : ByteArray), ss[j]? = some s → w.cell? (a.add j) = some (.string s)
set_option maxRecDepth 100000 in
set_option maxHeartbeats 1000000 in
theorem rjoin_any (ss : List ByteArray) (A : Option Addr) (n c : Nat) (sep : ByteArray) (w : World) (h : StrsV w A ss) (hn : ss.length = n) (hs : n ≤ 140737488351232) (hl : (jn (bL sep) (ss.map bL)).length ≤ 140737488355328) :
    Calls Tryz.prog 19 #[.slice A n c, .string sep] w fun e w' => (∃ o : ByteArray, e = .returned (.string o) ∧ bL o = jn (bL sep) (ss.map bL)) ∧ w = w' := by
  have HS := Lib.hid h
  have HN := Lib.hid hn
  have HLL := Lib.hid hl
  have hni : (n : Int) ≤ 140737488351232 := by omega
  clear h hn hl
  go_enter Tryz.func19, Tryz.ntmps19
  go_wp2_with fail
  go_loopw [5, 6] (fun v i wr => ∃ (k : Nat) (o : ByteArray), k ≤ n ∧ i = .int .i64 k ∧ v = .string o ∧ Hid (bL o = jn (bL sep) ((ss.map bL).take k) ∧ w = wr)) (fun _ i _ => n - (intOf i).toNat)
  case atStart => exact ⟨0, ⟨#[]⟩, Nat.zero_le _, rfl, rfl, Lib.hid ⟨rfl, rfl⟩⟩
  case round =>
    obtain ⟨k, o, hk, rfl, rfl, hr⟩ := hrel
    obtain ⟨ho, hw⟩ := hr.out
    subst hw
    have HO := Lib.hid ho
    clear ho hr
    by_cases hlt : k < n
    · obtain ⟨s, hx⟩ : ∃ s, ss[k]? = some s := ⟨_, List.getElem?_eq_getElem (by rw [HN.out]; exact hlt)⟩
      obtain ⟨a, rfl, hc⟩ := HS.out (by rw [HN.out]; omega)
      have c0 := hc k s hx
      have hxm : (ss.map bL)[k]? = some (bL s) := by rw [List.getElem?_map, hx]; rfl
      have HTK := Lib.hid (jn_take (bL sep) hxm)
      have hst := jn_step_le (bL sep) hxm
      have hll := HLL.out
      have hol : o.size = (jn (bL sep) ((ss.map bL).take k)).length := by rw [← bL_len, HO.out]
      have hsl := bL_len s
      have hpl := bL_len sep
      have hlt' : (k : Int) < n := by omega
      by_cases hk0 : k = 0
      · have hk0' : ¬ (k : Int) > 0 := by omega
        rw [if_pos hk0] at hst
        rw [if_pos hk0] at HTK
        obtain ⟨u, hu, hadd⟩ := cat_ex o s (by rw [hol, ← hsl]; simp only [List.length_nil] at hst; omega)
        have HU : Hid (bL u = jn (bL sep) ((ss.map bL).take (k + 1))) := Lib.hid (by rw [hu, HTK.out, HO.out, List.nil_append])
        clear hu hst hol hsl hpl hll hc hx hxm hk0 HTK
        go_wp2_with fail
        go_roundw
        case rel => exact ⟨k + 1, u, by omega, by go_num, rfl, Lib.hid ⟨HU.out, trivial⟩⟩
        case measure => simp [intOf]; omega
      · have hk0' : (k : Int) > 0 := by omega
        rw [if_neg hk0] at hst
        rw [if_neg hk0] at HTK
        obtain ⟨q, hq, hadd1⟩ := cat_ex o sep (by rw [hol, ← hpl]; omega)
        have hql : q.size = o.size + sep.size := by rw [← bL_len, hq, List.length_append, bL_len, bL_len]
        obtain ⟨u, hu, hadd⟩ := cat_ex q s (by rw [hql, hol, ← hsl, ← hpl]; omega)
        have HU : Hid (bL u = jn (bL sep) ((ss.map bL).take (k + 1))) := Lib.hid (by rw [hu, hq, HTK.out, HO.out, List.append_assoc])
        clear hu hq hql hst hol hsl hpl hll hc hx hxm hk0 HTK
        go_wp2_with fail
        go_roundw
        case rel => exact ⟨k + 1, u, by omega, by go_num, rfl, Lib.hid ⟨HU.out, trivial⟩⟩
        case measure => simp [intOf]; omega
    · have : k = n := by omega
      subst this
      have HF : Hid (bL o = jn (bL sep) (ss.map bL)) := Lib.hid (by have := HO.out; rwa [List.take_of_length_le (by rw [List.length_map, HN.out]; exact Nat.le_refl _)] at this)
      go_wp2_with fail
      go_ret
      exact ⟨⟨o, rfl, HF.out⟩, rfl⟩
end Go.Proofs.YtieklhplalgmmaaGreatDoor
namespace Go.Proofs.YtieklhplalgmmaaGreatDoor.T1
open Go.RowKit
def letU (n : Int) : Bool := letB n || n == 95
theorem rdigit_any (n : Int) (w : World) (h0 : 0 ≤ n) (h1 : n ≤ 255) :
    Calls Tryz.prog 53 #[.int .u8 n] w fun e w' => e = .returned (.bool (digB n)) ∧ w = w' := by
  go_enter Tryz.func53, Tryz.ntmps53
  go_wp2
  all_goals go_ret
  all_goals (simp [digB, *]; try omega)
theorem rletter_any (n : Int) (w : World) (h0 : 0 ≤ n) (h1 : n ≤ 255) :
    Calls Tryz.prog 52 #[.int .u8 n] w fun e w' => e = .returned (.bool (letU n)) ∧ w = w' := by
  go_enter Tryz.func52, Tryz.ntmps52
  go_wp2
  all_goals go_ret
  all_goals refine ⟨congrArg Ending.returned (congrArg Value.bool ?_), rfl⟩
  all_goals (rw [Bool.eq_iff_iff]; simp [letU, letB, *]; try omega)
theorem rname_short (s : ByteArray) (w : World) (h : s.size = 0) :
    Calls Tryz.prog 23 #[.string s] w fun e w' => e = .returned (.bool false) ∧ w = w' := by
  have h' : (s.size : Int) < 1 := by omega
  clear h
  go_enter Tryz.func23, Tryz.ntmps23
  go_wp2_with fail
  go_ret
  exact ⟨rfl, rfl⟩
theorem rname_long (s : ByteArray) (w : World) (hs : s.size ≤ maxLen) (h : 64 < s.size) :
    Calls Tryz.prog 23 #[.string s] w fun e w' => e = .returned (.bool false) ∧ w = w' := by
  unfold maxLen at hs
  go_enter Tryz.func23, Tryz.ntmps23
  go_wp2_with fail
  go_ret
  exact ⟨rfl, rfl⟩
theorem nm_of (n : Int) : nmB n = (letU n || digB n) := by unfold nmB letU; cases letB n <;> cases digB n <;> simp
def HeadOk (l : List UInt8) (k : Nat) : Prop := allNm (l.take k) = true ∧ (0 < k → digB ((l.getD 0 0).toNat : Int) = false)
theorem headOk_zero (l : List UInt8) : HeadOk l 0 := ⟨rfl, fun h => absurd h (by omega)⟩
theorem headOk_succ {l : List UInt8} {k : Nat} (h : HeadOk l k) (hk : k < l.length) (h1 : nmB (l[k].toNat : Int) = true) (h2 : k = 0 → digB (l[k].toNat : Int) = false) : HeadOk l (k + 1) := by
  refine ⟨all_take_succ l (fun c => nmB (c.toNat : Int)) k hk h.1 h1, fun _ => ?_⟩
  by_cases e : k = 0
  · subst e; rw [List.getD_eq_getElem?_getD, List.getElem?_eq_getElem hk]; exact h2 rfl
  · exact h.2 (by omega)
theorem headOk_end {l : List UInt8} (h : HeadOk l l.length) (h0 : 0 < l.length) (h1 : l.length ≤ 64) : nameL l = true := by
  unfold nameL
  have e := h.1
  rw [List.take_length] at e
  rw [h.2 h0, e]
  cases l with
  | nil => simp at h0
  | cons a l => simp at h1 ⊢; omega
theorem name_no_at {l : List UInt8} {k : Nat} (hk : k < l.length) (h : nmB (l[k].toNat : Int) = false) : nameL l = false := by
  unfold nameL
  rw [show allNm l = false from all_of_at l (fun c => nmB (c.toNat : Int)) k hk h]; simp
theorem name_no_head {l : List UInt8} (hk : 0 < l.length) (h : digB (l[0].toNat : Int) = true) : nameL l = false := by
  unfold nameL
  rw [List.getD_eq_getElem?_getD, List.getElem?_eq_getElem hk, Option.getD_some, h]; simp
theorem rname_loop (s : ByteArray) (w : World) (h0 : 0 < s.size) (h : s.size ≤ 64) :
    Calls Tryz.prog 23 #[.string s] w fun e w' => e = .returned (.bool (nameL s.data.toList)) ∧ w = w' := by
  have hl := Lib.hid (size_eq s)
  go_enter Tryz.func23, Tryz.ntmps23
  go_wp2_with fail
  go_loop [3] (fun i => ∃ k : Nat, k ≤ s.size ∧ i = .int .i64 k ∧ HeadOk s.data.toList k) (fun i => s.size - (intOf i).toNat)
  case atStart => exact ⟨0, Nat.zero_le _, rfl, headOk_zero _⟩
  case round =>
    obtain ⟨k, hk, rfl, hH⟩ := hrel
    by_cases hlt : k < s.size
    · have hbk := byte_lt s[k]
      have hlk : k < s.data.toList.length := by rw [hl.out]; exact hlt
      cases n1 : letU (s[k].toNat : Int)
      · cases n2 : digB (s[k].toNat : Int)
        · have H2 : Hid (nameL s.data.toList = false) := Lib.hid (name_no_at hlk (by show nmB (s[k].toNat : Int) = false; rw [nm_of, n1, n2]; rfl))
          go_wp2_with (first | (go_at_call 52; refine (rletter_any _ _ (by omega) (by omega)).mono ?_; rintro e w' ⟨rfl, rfl⟩) | (go_at_call 53; refine (rdigit_any _ _ (by omega) (by omega)).mono ?_; rintro e w' ⟨rfl, rfl⟩))
          all_goals go_ret
          all_goals exact ⟨by rw [H2.out]; rfl, rfl⟩
        · by_cases hd : k = 0
          · subst hd
            have H2 : Hid (nameL s.data.toList = false) := Lib.hid (name_no_head hlk n2)
            go_wp2_with (first | (go_at_call 52; refine (rletter_any _ _ (by omega) (by omega)).mono ?_; rintro e w' ⟨rfl, rfl⟩) | (go_at_call 53; refine (rdigit_any _ _ (by omega) (by omega)).mono ?_; rintro e w' ⟨rfl, rfl⟩))
            all_goals go_ret
            all_goals exact ⟨by rw [H2.out]; rfl, rfl⟩
          · have hd' : ((k : Int) == 0) = false := by rw [beq_eq_false_iff_ne]; omega
            have H3 := Lib.hid (headOk_succ hH hlk (by show nmB (s[k].toNat : Int) = true; rw [nm_of, n1, n2]; rfl) (fun e => absurd e hd))
            clear hH
            go_wp2_with (first | (go_at_call 52; refine (rletter_any _ _ (by omega) (by omega)).mono ?_; rintro e w' ⟨rfl, rfl⟩) | (go_at_call 53; refine (rdigit_any _ _ (by omega) (by omega)).mono ?_; rintro e w' ⟨rfl, rfl⟩))
            go_round
            case rel => exact ⟨k + 1, by omega, by go_num, H3.out⟩
            case measure => simp [intOf]; omega
      · have hnd : digB (s[k].toNat : Int) = false := by
          unfold letU letB at n1; unfold digB; simp at n1 ⊢; omega
        have H3 := Lib.hid (headOk_succ hH hlk (by show nmB (s[k].toNat : Int) = true; rw [nm_of, n1]; rfl) (fun _ => hnd))
        clear hH hnd
        go_wp2_with (go_at_call 52; refine (rletter_any _ _ (by omega) (by omega)).mono ?_; rintro e w' ⟨rfl, rfl⟩)
        go_round
        case rel => exact ⟨k + 1, by omega, by go_num, H3.out⟩
        case measure => simp [intOf]; omega
    · obtain rfl : k = s.size := by omega
      have H1 : Hid (nameL s.data.toList = true) := Lib.hid (headOk_end (by rw [hl.out]; exact hH) (by rw [hl.out]; exact h0) (by rw [hl.out]; exact h))
      go_wp2
      go_ret
      exact ⟨by rw [H1.out]; rfl, rfl⟩
theorem rname_any (s : ByteArray) (w : World) (hs : s.size ≤ maxLen) :
    Calls Tryz.prog 23 #[.string s] w fun e w' => e = .returned (.bool (nameL s.data.toList)) ∧ w = w' := by
  have hl := size_eq s
  by_cases h0 : s.size = 0
  · have e : s.data.toList = [] := List.eq_nil_of_length_eq_zero (by omega)
    rw [e]; exact rname_short s w h0
  by_cases h1 : 64 < s.size
  · have e : nameL s.data.toList = false := by unfold nameL; rw [hl]; simp; omega
    rw [e]; exact rname_long s w hs h1
  exact rname_loop s w (by omega) (by omega)
theorem hp2 : ∀ (l : List UInt8) (h : 2 ≤ l.length), Lib.hasPrefix l [95, 95] = (((l[0]'(by omega)).toNat : Int) == 95 && ((l[1]'(by omega)).toNat : Int) == 95)
  | a :: b :: r, _ => by
    unfold Lib.hasPrefix
    rw [Bool.eq_iff_iff]
    simp only [List.isPrefixOf, Bool.and_true, Bool.and_eq_true, beq_iff_eq, List.getElem_cons_zero, List.getElem_cons_succ]
    constructor
    · rintro ⟨rfl, rfl⟩; exact ⟨rfl, rfl⟩
    · rintro ⟨ha, hb⟩
      exact ⟨(UInt8.toNat_inj.1 (by have : (95 : UInt8).toNat = 95 := rfl; omega)).symm, (UInt8.toNat_inj.1 (by have : (95 : UInt8).toNat = 95 := rfl; omega)).symm⟩
  | [_], h => absurd h (by simp)
  | [], h => absurd h (by simp)
end Go.Proofs.YtieklhplalgmmaaGreatDoor.T1
