
/-
  Plain arguments are read. A value argument is read: its tree, and that its measure is at most the datum's bulk.
-/
import Derived.Test.YtcbajgcblfgmgaaDoorOpen
import Derived.Test.YtcbajgcblfgmgaaDoorJWeight
import Derived.Test.YtcbajgcblfgmgaaDoorRows
namespace Go.Proofs.YtcbajgcblfgmgaaDoor
open Go.RowKit Go.ChangeShapes Go.WideShapes
section
variable {H : Type} {enc : TypeId × Value → H} {W : World} {spare : Nat → Bool} {held : Bool}
set_option maxRecDepth 100000 in
theorem open_str {base : Nat} {v : Value} {d : DataW H} {p : List MemPlace} (hok : Value.okWide Tryd.prog W .any base 9 v) (h : DataW.Trod enc Tryd.prog W 0 spare held 9 v d p)
    (hw : ∀ n ∈ d.weights Tryd.prog 9, n ≤ reachBytes) : ∃ s, v = .string s ∧ s.size ≤ 140737488351232 := by
  obtain ⟨s, rfl, rfl, rfl, m⟩ := Go.ChangeMaps.open_string Tryd.underlying9 hok h
  refine ⟨s, rfl, ?_⟩
  have := hw s.data.toList.length (by simp [DataW.weights])
  unfold reachBytes at this
  rw [size_eq] at this; exact this
set_option maxRecDepth 100000 in
theorem open_num {base : Nat} {v : Value} {d : DataW H} {p : List MemPlace} (hok : Value.okWide Tryd.prog W .any base 3 v) (h : DataW.Trod enc Tryd.prog W 0 spare held 3 v d p) : ∃ n, v = .int .i64 n ∧ small n := by
  obtain ⟨n, rfl, rfl, rfl, m⟩ := open_int Tryd.underlying3 hok h
  exact ⟨n, rfl, small_of m⟩
set_option maxRecDepth 100000 in
theorem open_yes {base : Nat} {v : Value} (hok : Value.okWide Tryd.prog W .any base 4 v) : ∃ b, v = .bool b :=
  okWide_bool Tryd.underlying4 hok
end
end Go.Proofs.YtcbajgcblfgmgaaDoor
namespace Go.Proofs.YtcbajgcblfgmgaaDoor
open Go.RowKit Go.ChangeShapes Go.WideShapes
section
variable {H : Type} {enc : TypeId × Value → H} {w : World} {spare : Nat → Bool} {held : Bool}
theorem bulk_strs (Sx : Nat → ByteArray) : ∀ (l : List Nat), Rows.uptoBulkAll (l.map fun i => (.lit (.string (Sx i).data.toList) : DataW H)) = ksum (l.map Sx)
  | [] => rfl
  | i :: r => by
    have h := bulk_strs Sx r
    simp only [List.map_cons, Rows.uptoBulkAll, Rows.uptoBulk, h, ksum, List.sum_cons, T1.size_eq]
    omega
theorem bws_map : ∀ (ds : List (DataW H)) (f : Nat → VT), (∀ i d, ds[i]? = some d → (f i).bw ≤ Rows.uptoBulk d) → VT.bws ((List.range ds.length).map f) ≤ Rows.uptoBulkAll ds
  | [], _, _ => by simp [VT.bws]
  | d :: r, f, h => by
    have h0 := h 0 d rfl
    have h1 := bws_map r (fun i => f (i + 1)) (fun i d hd => h (i + 1) d hd)
    rw [List.length_cons, List.range_succ_eq_map, List.map_cons, List.map_map, VT.bws, Rows.uptoBulkAll]
    have e : (f ∘ Nat.succ) = fun i => f (i + 1) := rfl
    rw [e]
    omega
/- A slice of strings. -/
set_option maxRecDepth 100000 in
theorem open_keys_b {fuel : Nat} {cs : List Value} {x : DataW H × List MemPlace} (h : DataW.trod enc Tryd.prog w 0 spare held fuel 23 cs = some x) (hw : ∀ n ∈ x.1.weights Tryd.prog 23, n ≤ reachBytes) :
    ∃ (K : Option Addr) (lk ck : Nat) (keys : List ByteArray), cs = [.slice K lk ck] ∧ keys.length = lk ∧ lk * 16 ≤ 140737488351232 ∧ (∀ s ∈ keys, s.size ≤ 140737488351232) ∧ KeysAt w w.heap.size K keys ∧ ksum keys + 1 ≤ Rows.uptoBulk x.1 := by
  rcases Go.Deep.open_strs Tryd.underlying23 Tryd.underlying9 cellsS h with ⟨rfl, rfl⟩ | ⟨a, len, cap, m, Sx, rfl, _, hl, hm, hmm, rfl, hx⟩
  · exact ⟨none, 0, 0, [], rfl, rfl, by decide, by simp, fun h => by simp at h, by simp [ksum, Rows.uptoBulk]⟩
  · have hml : len ≤ m := by rw [hmm]; split <;> omega
    have hw0 : ∀ n ∈ (m * 16) :: (DataW.weightsAll Tryd.prog 9 ((List.range len).map fun i => (.lit (.string (Sx i).data.toList) : DataW H))), n ≤ reachBytes := by
      intro n hn
      refine hw n ?_
      simp only [DataW.weights, Tryd.underlying23, bytesS, List.length_map, List.length_range]
      rcases List.mem_cons.1 hn with rfl | hn
      · rw [show len + (m - len) = m by omega]; simp
      · simp [hn]
    have h1 := hw0 _ (List.mem_cons_self ..)
    unfold reachBytes at h1
    refine ⟨some a, len, cap, (List.range len).map Sx, rfl, by simp, by omega, ?_, fun h0 => ⟨a, rfl, ?_, ?_⟩, by simp only [Rows.uptoBulk]; rw [bulk_strs]; omega⟩
    · intro s hs
      obtain ⟨i, hi, rfl⟩ := List.mem_map.1 hs
      have h2 := hw0 (Sx i).data.toList.length (List.mem_cons_of_mem _ (weights_all (d := .lit (.string (Sx i).data.toList)) (List.mem_map.2 ⟨i, hi, rfl⟩) _ (by simp [DataW.weights])))
      unfold reachBytes at h2
      rw [size_eq] at h2; exact h2
    · have h2 : 0 < len := by simpa using h0
      have := lt_cell (hx 0 (by omega)).1
      rwa [add_block] at this
    · intro i s hi
      have h2 : i < len := by simpa using (List.getElem?_eq_some_iff.1 hi).1
      rw [(hx i (by omega)).1]
      simp [h2] at hi
      rw [hi]
set_option maxRecDepth 100000 in
theorem open_tree_b : ∀ (fuel : Nat) {cs : List Value} {x : DataW H × List MemPlace}, DataW.trod enc Tryd.prog w 0 spare held fuel 25 cs = some x → (∀ n ∈ x.1.weights Tryd.prog 25, n ≤ reachBytes) →
    ∃ c0 c1 c2 c3 c4 t, cs = [c0, c1, c2, c3, c4] ∧ Rd w w.heap.size (.agg #[c0, c1, c2, c3, c4]) t ∧ t.bw ≤ Rows.uptoBulk x.1 := by
  intro fuel
  induction fuel using Nat.strongRecOn with
  | ind fuel ih =>
  intro cs x h hw
  obtain ⟨xs, n, rfl, rfl, hl, hxl, hf⟩ := DataW.trod_struct Tryd.underlying25 h
  rw [cellsV] at hl
  match cs, hl, xs, hxl with
  | [c0, c1, c2, c3, c4], _, [x0, x1, x2, x3, x4], _ =>
  have f0 : DataW.trod enc Tryd.prog w 0 spare held n 3 [c0] = some x0 := by
    have this : DataW.trod enc Tryd.prog w 0 spare held n 3 (([c0, c1, c2, c3, c4].drop 0).take (Tryd.prog.cellsOf 3)) = some x0 := hf 0 _ rfl
    rw [cellsI] at this; exact this
  have f1 : DataW.trod enc Tryd.prog w 0 spare held n 3 [c1] = some x1 := by
    have this : DataW.trod enc Tryd.prog w 0 spare held n 3 (([c0, c1, c2, c3, c4].drop 1).take (Tryd.prog.cellsOf 3)) = some x1 := hf 1 _ rfl
    rw [cellsI] at this; exact this
  have f2 : DataW.trod enc Tryd.prog w 0 spare held n 9 [c2] = some x2 := by
    have this : DataW.trod enc Tryd.prog w 0 spare held n 9 (([c0, c1, c2, c3, c4].drop 2).take (Tryd.prog.cellsOf 9)) = some x2 := hf 2 _ rfl
    rw [cellsS] at this; exact this
  have f3 : DataW.trod enc Tryd.prog w 0 spare held n 22 [c3] = some x3 := by
    have this : DataW.trod enc Tryd.prog w 0 spare held n 22 (([c0, c1, c2, c3, c4].drop 3).take (Tryd.prog.cellsOf 22)) = some x3 := hf 3 _ rfl
    rw [cellsLV] at this; exact this
  have f4 : DataW.trod enc Tryd.prog w 0 spare held n 23 [c4] = some x4 := by
    have this : DataW.trod enc Tryd.prog w 0 spare held n 23 (([c0, c1, c2, c3, c4].drop 4).take (Tryd.prog.cellsOf 23)) = some x4 := hf 4 _ rfl
    rw [cellsLS] at this; exact this
  obtain ⟨k0, e0, rfl, wf0⟩ := DataW.trod_int Tryd.underlying3 f0
  obtain ⟨k1, e1, rfl, wf1⟩ := DataW.trod_int Tryd.underlying3 f1
  obtain ⟨s, e2, rfl, hs⟩ := DataW.trod_string Tryd.underlying9 f2
  have hw' : ∀ n ∈ (Lit.int .i64 k0 |> (.lit : Lit → DataW H)).weights Tryd.prog 3 ++ ((Lit.int .i64 k1 |> (.lit : Lit → DataW H)).weights Tryd.prog 3 ++ ((Lit.string s.data.toList |> (.lit : Lit → DataW H)).weights Tryd.prog 9 ++ (x3.1.weights Tryd.prog 22 ++ (x4.1.weights Tryd.prog 23 ++ [])))), n ≤ reachBytes := by
    intro n hn
    refine hw n ?_
    simpa only [DataW.weights, Tryd.underlying25, DataW.weightsEach, List.map_cons, List.map_nil] using hn
  obtain ⟨K, lk, ck, keys, e4, hlk, hbk, hks, hK, hkb⟩ := open_keys_b f4 (fun n hn => hw' n (by simp [hn]))
  have hss : s.size ≤ 140737488351232 := by
    have := hw' s.data.toList.length (by simp [DataW.weights])
    unfold reachBytes at this
    rw [size_eq] at this; exact this
  simp only [List.cons.injEq, and_true] at e0 e1 e2 e4
  subst e0 e1 e2 e4
  have hk0 : small k0 := small_of wf0
  have hk1 : small k1 := small_of wf1
  rcases DataW.trod_slice Tryd.underlying22 f3 with ⟨e3, _⟩ | ⟨a, len, cap, elems, rest, m, rfl, e3, rfl, _, hlc, hcm, hel, hat, hsp, hns⟩
  · simp only [List.cons.injEq, and_true] at e3
    subst e3
    exact ⟨_, _, _, _, _, .mk k0 k1 s [] keys, rfl, .mk (fun _ => undef) hk0 hk1 hss hks rfl hlk (by decide) hbk (fun h0 => by omega) (fun i t hi => by simp at hi) hK, by
      rw [bw_eq]
      simp only [Rows.uptoBulk, Rows.uptoBulkAll, List.map_cons, List.map_nil, T1.size_eq, VT.bws] at hkb ⊢
      omega⟩
  · simp only [List.cons.injEq, and_true] at e3
    subst e3
    have hw3 : ∀ d ∈ elems.map (·.1), ∀ q ∈ d.weights Tryd.prog 25, q ≤ reachBytes := by
      intro d hd q hq
      refine hw' q ?_
      simp only [DataW.weights, Tryd.underlying22, List.mem_append, List.mem_cons]
      exact .inr (.inr (.inr (.inl (.inr (.inl (weights_all hd q hq))))))
    have hb3 : len * 80 ≤ 140737488351232 := by
      have := hw' ((elems.length + rest.length) * 80) (by
        simp only [DataW.weights, Tryd.underlying22, List.mem_append, List.mem_cons, bytesV, List.length_map]
        simp)
      unfold reachBytes at this
      omega
    rw [cellsV] at hat
    have hitem : ∀ i, i < len → ∃ T : Value × VT, C5 w (a.add (i * 5)) T.1 ∧ Rd w w.heap.size T.1 T.2 ∧ ∀ d, (elems.map (·.1))[i]? = some d → T.2.bw ≤ Rows.uptoBulk d := by
      intro i hi
      have h1 := hat i hi
      have hlt : i < elems.length := by omega
      rw [List.getElem?_eq_getElem hlt, Option.bind_eq_some_iff] at h1
      obtain ⟨cs', hc, ht⟩ := h1
      obtain ⟨d0, d1, d2, d3, d4, t, rfl, hrd, hbk2⟩ := ih m (by omega) ht (hw3 _ (List.mem_map_of_mem (List.getElem_mem hlt)))
      obtain ⟨_, _, hg⟩ := World.cells?_some hc
      refine ⟨⟨_, t⟩, ⟨_, _, _, _, _, rfl, ?_, ?_, ?_, ?_, ?_⟩, hrd, fun d hd => ?_⟩
      · have := hg 0 (by omega); simpa [Addr.add] using this
      · have := hg 1 (by omega); simpa [Addr.add] using this
      · have := hg 2 (by omega); simpa [Addr.add] using this
      · have := hg 3 (by omega); simpa [Addr.add] using this
      · have := hg 4 (by omega); simpa [Addr.add] using this
      · rw [List.getElem?_map, List.getElem?_eq_getElem hlt] at hd
        cases hd
        exact hbk2
    obtain ⟨T, hT⟩ : ∃ T : Nat → Value × VT, ∀ i, i < len → C5 w (a.add (i * 5)) (T i).1 ∧ Rd w w.heap.size (T i).1 (T i).2 ∧ ∀ d, (elems.map (·.1))[i]? = some d → (T i).2.bw ≤ Rows.uptoBulk d := by
      refine ⟨fun i => if h : i < len then (hitem i h).choose else (undef, .mk 0 0 ⟨#[]⟩ [] []), fun i h => ?_⟩
      simp only [dif_pos h]
      exact (hitem i h).choose_spec
    have hsum := bws_map (elems.map (·.1)) (fun i => (T i).2) (fun i d hd => (hT i (by
      have := (List.getElem?_eq_some_iff.1 hd).1
      simp at this; omega)).2.2 d hd)
    have hll : (elems.map (·.1)).length = len := by simp; omega
    rw [hll] at hsum
    refine ⟨_, _, _, _, _, .mk k0 k1 s ((List.range len).map fun i => (T i).2) keys, rfl, .mk (fun i => (T i).1) hk0 hk1 hss hks (by simp) hlk hb3 hbk (fun h0 => ⟨a, rfl, ?_, fun i hi => (hT i hi).1⟩) (fun i t hi => ?_) hK, ?_⟩
    · obtain ⟨_, _, _, _, _, _, h0, _⟩ := (hT 0 h0).1
      have := lt_cell h0
      rwa [add_block] at this
    · have hlt : i < len := by simpa using (List.getElem?_eq_some_iff.1 hi).1
      simp [hlt] at hi
      subst hi
      exact (hT i hlt).2.1
    · rw [bw_eq]
      simp only [Rows.uptoBulk, Rows.uptoBulkAll, List.map_cons, List.map_nil, T1.size_eq] at hkb ⊢
      omega
end
end Go.Proofs.YtcbajgcblfgmgaaDoor
