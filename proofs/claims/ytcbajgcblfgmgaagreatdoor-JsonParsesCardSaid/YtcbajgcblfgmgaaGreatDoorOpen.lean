
/-
  A value argument is read: its tree.
-/
import Derived.Test.YtcbajgcblfgmgaaGreatDoorVal
import Derived.ChangeArms
import Derived.Deep.Strs
import Derived.SizedLaws
import Derived.ChangeMaps
import Derived.WideShapes
import Derived.OpenShut
namespace Go.Proofs.YtcbajgcblfgmgaaGreatDoor
open Go.RowKit Go.ChangeShapes Go.WideShapes
theorem cellsV : Tryz.prog.cellsOf 26 = 5 := by kernel_rfl
theorem cellsS : Tryz.prog.cellsOf 9 = 1 := by kernel_rfl
theorem bytesV : Tryz.prog.bytesOf 26 = 80 := by kernel_rfl
theorem bytesS : Tryz.prog.bytesOf 9 = 16 := by kernel_rfl
theorem cellsI : Tryz.prog.cellsOf 3 = 1 := by kernel_rfl
theorem cellsLV : Tryz.prog.cellsOf 23 = 1 := by kernel_rfl
theorem cellsLS : Tryz.prog.cellsOf 24 = 1 := by kernel_rfl
section
variable {H : Type} {enc : TypeId × Value → H} {w : World} {spare : Nat → Bool} {held : Bool}
theorem lt_cell {a : Addr} {v : Value} (h : w.cell? a = some v) : a.block < w.heap.size := by
  unfold World.cell? at h
  rcases Nat.lt_or_ge a.block w.heap.size with h' | h'
  · exact h'
  · rw [Array.getElem?_eq_none h'] at h; simp at h
theorem weights_all {e : TypeId} : ∀ {l : List (DataW H)} {d : DataW H}, d ∈ l → ∀ n ∈ d.weights Tryz.prog e, n ∈ DataW.weightsAll Tryz.prog e l
  | [], _, h, _, _ => by simp at h
  | x :: r, d, h, n, hn => by
    rw [DataW.weightsAll, List.mem_append]
    rcases List.mem_cons.1 h with rfl | h
    · exact .inl hn
    · exact .inr (weights_all h n hn)
theorem small_of {n : Int} (wf : (Lit.int .i64 n).wf = true) : small n := by
  exact bounds_i64 wf
/- A slice of strings. -/
set_option maxRecDepth 100000 in
theorem open_keys {fuel : Nat} {cs : List Value} {x : DataW H × List MemPlace} (h : DataW.trod enc Tryz.prog w 0 spare held fuel 24 cs = some x) (hw : ∀ n ∈ x.1.weights Tryz.prog 24, n ≤ reachBytes) :
    ∃ (K : Option Addr) (lk ck : Nat) (keys : List ByteArray), cs = [.slice K lk ck] ∧ keys.length = lk ∧ lk * 16 ≤ 140737488351232 ∧ (∀ s ∈ keys, s.size ≤ 140737488351232) ∧ KeysAt w w.heap.size K keys := by
  rcases Go.Deep.open_strs Tryz.underlying24 Tryz.underlying9 cellsS h with ⟨rfl, _⟩ | ⟨a, len, cap, m, Sx, rfl, _, hl, hm, hmm, rfl, hx⟩
  · exact ⟨none, 0, 0, [], rfl, rfl, by decide, by simp, fun h => by simp at h⟩
  · have hml : len ≤ m := by rw [hmm]; split <;> omega
    have hw0 : ∀ n ∈ (m * 16) :: (DataW.weightsAll Tryz.prog 9 ((List.range len).map fun i => (.lit (.string (Sx i).data.toList) : DataW H))), n ≤ reachBytes := by
      intro n hn
      refine hw n ?_
      simp only [DataW.weights, Tryz.underlying24, bytesS, List.length_map, List.length_range]
      rcases List.mem_cons.1 hn with rfl | hn
      · rw [show len + (m - len) = m by omega]; simp
      · simp [hn]
    have h1 := hw0 _ (List.mem_cons_self ..)
    unfold reachBytes at h1
    refine ⟨some a, len, cap, (List.range len).map Sx, rfl, by simp, by omega, ?_, fun h0 => ⟨a, rfl, ?_, ?_⟩⟩
    · intro s hs
      obtain ⟨i, hi, rfl⟩ := List.mem_map.1 hs
      have h2 := hw0 (Sx i).data.toList.length (List.mem_cons_of_mem _ (weights_all (d := .lit (.string (Sx i).data.toList)) (List.mem_map.2 ⟨i, hi, rfl⟩) _ (by simp [DataW.weights])))
      unfold reachBytes at h2
      rw [size_eq] at h2; exact h2
    · have h2 : 0 < len := by simpa using h0
      have := lt_cell (hx 0 (by omega)).1
      rwa [add_block] at this
    · intro i s hi
      have h2 : i < len := by simpa using (List.getElem?_eq_some_iff.1 hi).1
      rw [(hx i (by omega)).1]
      simp [h2] at hi
      rw [hi]
/- A value's tree. -/
set_option maxRecDepth 100000 in
theorem open_tree : ∀ (fuel : Nat) {cs : List Value} {x : DataW H × List MemPlace}, DataW.trod enc Tryz.prog w 0 spare held fuel 26 cs = some x → (∀ n ∈ x.1.weights Tryz.prog 26, n ≤ reachBytes) →
    ∃ c0 c1 c2 c3 c4 t, cs = [c0, c1, c2, c3, c4] ∧ Rd w w.heap.size (.agg #[c0, c1, c2, c3, c4]) t := by
  intro fuel
  induction fuel using Nat.strongRecOn with
  | ind fuel ih =>
  intro cs x h hw
  obtain ⟨xs, n, rfl, rfl, hl, hxl, hf⟩ := DataW.trod_struct Tryz.underlying26 h
  rw [cellsV] at hl
  match cs, hl, xs, hxl with
  | [c0, c1, c2, c3, c4], _, [x0, x1, x2, x3, x4], _ =>
  have f0 : DataW.trod enc Tryz.prog w 0 spare held n 3 [c0] = some x0 := by
    have this : DataW.trod enc Tryz.prog w 0 spare held n 3 (([c0, c1, c2, c3, c4].drop 0).take (Tryz.prog.cellsOf 3)) = some x0 := hf 0 _ rfl
    rw [cellsI] at this; exact this
  have f1 : DataW.trod enc Tryz.prog w 0 spare held n 3 [c1] = some x1 := by
    have this : DataW.trod enc Tryz.prog w 0 spare held n 3 (([c0, c1, c2, c3, c4].drop 1).take (Tryz.prog.cellsOf 3)) = some x1 := hf 1 _ rfl
    rw [cellsI] at this; exact this
  have f2 : DataW.trod enc Tryz.prog w 0 spare held n 9 [c2] = some x2 := by
    have this : DataW.trod enc Tryz.prog w 0 spare held n 9 (([c0, c1, c2, c3, c4].drop 2).take (Tryz.prog.cellsOf 9)) = some x2 := hf 2 _ rfl
    rw [cellsS] at this; exact this
  have f3 : DataW.trod enc Tryz.prog w 0 spare held n 23 [c3] = some x3 := by
    have this : DataW.trod enc Tryz.prog w 0 spare held n 23 (([c0, c1, c2, c3, c4].drop 3).take (Tryz.prog.cellsOf 23)) = some x3 := hf 3 _ rfl
    rw [cellsLV] at this; exact this
  have f4 : DataW.trod enc Tryz.prog w 0 spare held n 24 [c4] = some x4 := by
    have this : DataW.trod enc Tryz.prog w 0 spare held n 24 (([c0, c1, c2, c3, c4].drop 4).take (Tryz.prog.cellsOf 24)) = some x4 := hf 4 _ rfl
    rw [cellsLS] at this; exact this
  obtain ⟨k0, e0, rfl, wf0⟩ := DataW.trod_int Tryz.underlying3 f0
  obtain ⟨k1, e1, rfl, wf1⟩ := DataW.trod_int Tryz.underlying3 f1
  obtain ⟨s, e2, rfl, hs⟩ := DataW.trod_string Tryz.underlying9 f2
  have hw' : ∀ n ∈ (Lit.int .i64 k0 |> (.lit : Lit → DataW H)).weights Tryz.prog 3 ++ ((Lit.int .i64 k1 |> (.lit : Lit → DataW H)).weights Tryz.prog 3 ++ ((Lit.string s.data.toList |> (.lit : Lit → DataW H)).weights Tryz.prog 9 ++ (x3.1.weights Tryz.prog 23 ++ (x4.1.weights Tryz.prog 24 ++ [])))), n ≤ reachBytes := by
    intro n hn
    refine hw n ?_
    simpa only [DataW.weights, Tryz.underlying26, DataW.weightsEach, List.map_cons, List.map_nil] using hn
  obtain ⟨K, lk, ck, keys, e4, hlk, hbk, hks, hK⟩ := open_keys f4 (fun n hn => hw' n (by simp [hn]))
  have hss : s.size ≤ 140737488351232 := by
    have := hw' s.data.toList.length (by simp [DataW.weights])
    unfold reachBytes at this
    rw [size_eq] at this; exact this
  simp only [List.cons.injEq, and_true] at e0 e1 e2 e4
  subst e0 e1 e2 e4
  have hk0 : small k0 := small_of wf0
  have hk1 : small k1 := small_of wf1
  rcases DataW.trod_slice Tryz.underlying23 f3 with ⟨e3, _⟩ | ⟨a, len, cap, elems, rest, m, rfl, e3, rfl, _, hlc, hcm, hel, hat, hsp, hns⟩
  · simp only [List.cons.injEq, and_true] at e3
    subst e3
    exact ⟨_, _, _, _, _, .mk k0 k1 s [] keys, rfl, .mk (fun _ => undef) hk0 hk1 hss hks rfl hlk (by decide) hbk (fun h0 => by omega) (fun i t hi => by simp at hi) hK⟩
  · simp only [List.cons.injEq, and_true] at e3
    subst e3
    have hw3 : ∀ d ∈ elems.map (·.1), ∀ q ∈ d.weights Tryz.prog 26, q ≤ reachBytes := by
      intro d hd q hq
      refine hw' q ?_
      simp only [DataW.weights, Tryz.underlying23, List.mem_append, List.mem_cons]
      exact .inr (.inr (.inr (.inl (.inr (.inl (weights_all hd q hq))))))
    have hb3 : len * 80 ≤ 140737488351232 := by
      have := hw' ((elems.length + rest.length) * 80) (by
        simp only [DataW.weights, Tryz.underlying23, List.mem_append, List.mem_cons, bytesV, List.length_map]
        simp)
      unfold reachBytes at this
      omega
    rw [cellsV] at hat
    have hitem : ∀ i, i < len → ∃ d0 d1 d2 d3 d4 t, C5 w (a.add (i * 5)) (.agg #[d0, d1, d2, d3, d4]) ∧ Rd w w.heap.size (.agg #[d0, d1, d2, d3, d4]) t := by
      intro i hi
      have h1 := hat i hi
      have hlt : i < elems.length := by omega
      rw [List.getElem?_eq_getElem hlt, Option.bind_eq_some_iff] at h1
      obtain ⟨cs', hc, ht⟩ := h1
      obtain ⟨d0, d1, d2, d3, d4, t, rfl, hrd⟩ := ih m (by omega) ht (hw3 _ (List.mem_map_of_mem (List.getElem_mem hlt)))
      obtain ⟨_, _, hg⟩ := World.cells?_some hc
      refine ⟨d0, d1, d2, d3, d4, t, ⟨_, _, _, _, _, rfl, ?_, ?_, ?_, ?_, ?_⟩, hrd⟩
      · have := hg 0 (by omega); simpa [Addr.add] using this
      · have := hg 1 (by omega); simpa [Addr.add] using this
      · have := hg 2 (by omega); simpa [Addr.add] using this
      · have := hg 3 (by omega); simpa [Addr.add] using this
      · have := hg 4 (by omega); simpa [Addr.add] using this
    obtain ⟨T, hT⟩ : ∃ T : Nat → Value × VT, ∀ i, i < len → C5 w (a.add (i * 5)) (T i).1 ∧ Rd w w.heap.size (T i).1 (T i).2 := by
      refine ⟨fun i => if h : i < len then (.agg #[(hitem i h).choose, (hitem i h).choose_spec.choose, (hitem i h).choose_spec.choose_spec.choose, (hitem i h).choose_spec.choose_spec.choose_spec.choose, (hitem i h).choose_spec.choose_spec.choose_spec.choose_spec.choose], (hitem i h).choose_spec.choose_spec.choose_spec.choose_spec.choose_spec.choose) else (undef, .mk 0 0 ⟨#[]⟩ [] []), fun i h => ?_⟩
      simp only [dif_pos h]
      exact (hitem i h).choose_spec.choose_spec.choose_spec.choose_spec.choose_spec.choose_spec
    refine ⟨_, _, _, _, _, .mk k0 k1 s ((List.range len).map fun i => (T i).2) keys, rfl, .mk (fun i => (T i).1) hk0 hk1 hss hks (by simp) hlk hb3 hbk (fun h0 => ⟨a, rfl, ?_, fun i hi => (hT i hi).1⟩) (fun i t hi => ?_) hK⟩
    · obtain ⟨_, _, _, _, _, _, h0, _⟩ := (hT 0 h0).1
      have := lt_cell h0
      rwa [add_block] at this
    · have hlt : i < len := by simpa using (List.getElem?_eq_some_iff.1 hi).1
      simp [hlt] at hi
      subst hi
      exact (hT i hlt).2
set_option maxRecDepth 100000 in
theorem open_value {W : World} {base : Nat} {v : Value} {d : DataW H} {p : List MemPlace} (hok : Value.okWide Tryz.prog W .any base 26 v) (h : DataW.Trod enc Tryz.prog W 0 spare held 26 v d p)
    (hw : ∀ n ∈ d.weights Tryz.prog 26, n ≤ reachBytes) : ∃ t, Rd W W.heap.size v t := by
  obtain ⟨cs, rfl, _⟩ := okWide_struct Tryz.underlying26 hok
  obtain ⟨fuel, hf⟩ := h
  obtain ⟨c0, c1, c2, c3, c4, t, e, hrd⟩ := open_tree fuel hf hw
  have e2 : cs = #[c0, c1, c2, c3, c4] := by
    have : cs.toList = [c0, c1, c2, c3, c4] := by simpa [Value.cells] using e
    exact Array.toList_inj.1 this
  subst e2
  exact ⟨t, hrd⟩
end
end Go.Proofs.YtcbajgcblfgmgaaGreatDoor
