
/-
  Lists of names and of values are read.
-/
import Derived.Test.YtgbckpihlklnlaaOpen2
namespace Go.Proofs.Ytgbckpihlklnlaa
open Go.RowKit Go.ChangeShapes Go.WideShapes
section
variable {H : Type} {enc : TypeId × Value → H} {W : World} {spare : Nat → Bool} {held : Bool}
theorem open_names {base : Nat} {v : Value} {d : DataW H} {p : List MemPlace} (hok : Value.okWide Try.prog W .any base 22 v) (h : DataW.Trod enc Try.prog W 0 spare held 22 v d p)
    (hw : ∀ n ∈ d.weights Try.prog 22, n ≤ reachBytes) :
    ∃ (K : Option Addr) (lk ck : Nat) (keys : List ByteArray), v = .slice K lk ck ∧ keys.length = lk ∧ lk * 16 ≤ 140737488351232 ∧ (∀ s ∈ keys, s.size ≤ 140737488351232) ∧ KeysAt W W.heap.size K keys := by
  obtain ⟨fuel, hf⟩ := h
  obtain ⟨K, lk, ck, keys, e, h1, h2, h3, h4⟩ := open_keys hf hw
  obtain ⟨A, l, c, rfl⟩ : ∃ A l c, v = .slice A l c := okWide_slice Try.underlying22 hok
  have e2 : Value.slice A l c = Value.slice K lk ck := by simpa [Value.cells] using e
  exact ⟨K, lk, ck, keys, e2, h1, h2, h3, h4⟩
/- A slice of values: what the struct with these items reads as. -/
theorem open_values {base : Nat} {v : Value} {d : DataW H} {p : List MemPlace} (hok : Value.okWide Try.prog W .any base 23 v) (h : DataW.Trod enc Try.prog W 0 spare held 23 v d p)
    (hw : ∀ n ∈ d.weights Try.prog 23, n ≤ reachBytes) :
    ∃ (A : Option Addr) (li ci : Nat) (items : List VT), v = .slice A li ci ∧ Rd W W.heap.size (.agg #[.int .i64 0, .int .i64 0, .string ⟨#[]⟩, .slice A li ci, .slice none 0 0]) (.mk 0 0 ⟨#[]⟩ items []) := by
  obtain ⟨fuel, hf⟩ := h
  obtain ⟨A0, l0, c0, rfl⟩ : ∃ A l c, v = .slice A l c := okWide_slice Try.underlying23 hok
  have z0 : small 0 := by unfold small; omega
  rcases DataW.trod_slice Try.underlying23 hf with ⟨e3, _⟩ | ⟨a, len, cap, elems, rest, m, e1, e3, hx, _, hlc, hcm, hel, hat, hsp, hns⟩
  · have e4 : Value.slice A0 l0 c0 = Value.slice none 0 0 := by simpa [Value.cells] using e3
    cases e4
    exact ⟨none, 0, 0, [], rfl, .mk (fun _ => undef) z0 z0 (by decide) (by simp) rfl rfl (by decide) (by decide) (fun h0 => by omega) (fun i t hi => by simp at hi) (fun h => by simp at h)⟩
  · have e4 : Value.slice A0 l0 c0 = Value.slice (some a) len cap := by simpa [Value.cells] using e3
    cases e4
    obtain ⟨rfl, rfl⟩ := Prod.mk.inj hx
    have hw3 : ∀ d ∈ elems.map (·.1), ∀ q ∈ d.weights Try.prog 26, q ≤ reachBytes := by
      intro d hd q hq
      refine hw q ?_
      simp only [DataW.weights, Try.underlying23, List.mem_append, List.mem_cons]
      exact .inr (.inl (weights_all hd q hq))
    have hb3 : l0 * 80 ≤ 140737488351232 := by
      have := hw ((elems.length + rest.length) * 80) (by
        simp only [DataW.weights, Try.underlying23, List.mem_append, List.mem_cons, bytesV, List.length_map]
        simp)
      unfold reachBytes at this
      omega
    rw [cellsV] at hat
    have hitem : ∀ i, i < l0 → ∃ T : Value × VT, C5 W (a.add (i * 5)) T.1 ∧ Rd W W.heap.size T.1 T.2 := by
      intro i hi
      have h1 := hat i hi
      have hlt : i < elems.length := by omega
      rw [List.getElem?_eq_getElem hlt, Option.bind_eq_some_iff] at h1
      obtain ⟨cs', hc, ht⟩ := h1
      obtain ⟨d0, d1, d2, d3, d4, t, rfl, hrd⟩ := open_tree m ht (hw3 _ (List.mem_map_of_mem (List.getElem_mem hlt)))
      obtain ⟨_, _, hg⟩ := World.cells?_some hc
      refine ⟨⟨_, t⟩, ⟨_, _, _, _, _, rfl, ?_, ?_, ?_, ?_, ?_⟩, hrd⟩
      · have := hg 0 (by omega); simpa [Addr.add] using this
      · have := hg 1 (by omega); simpa [Addr.add] using this
      · have := hg 2 (by omega); simpa [Addr.add] using this
      · have := hg 3 (by omega); simpa [Addr.add] using this
      · have := hg 4 (by omega); simpa [Addr.add] using this
    obtain ⟨T, hT⟩ : ∃ T : Nat → Value × VT, ∀ i, i < l0 → C5 W (a.add (i * 5)) (T i).1 ∧ Rd W W.heap.size (T i).1 (T i).2 := by
      refine ⟨fun i => if h : i < l0 then (hitem i h).choose else (undef, .mk 0 0 ⟨#[]⟩ [] []), fun i hi => ?_⟩
      simp only [dif_pos hi]
      exact (hitem i hi).choose_spec
    refine ⟨_, _, _, (List.range l0).map fun i => (T i).2, rfl, .mk (fun i => (T i).1) z0 z0 (by decide) (by simp) (by simp) rfl hb3 (by decide) (fun h0 => ⟨a, rfl, ?_, fun i hi => (hT i hi).1⟩) (fun i t hi => ?_) (fun h => by simp at h)⟩
    · obtain ⟨_, _, _, _, _, _, h0, _⟩ := (hT 0 h0).1
      have := lt_cell h0
      rwa [add_block] at this
    · have hlt : i < l0 := by simpa using (List.getElem?_eq_some_iff.1 hi).1
      simp [hlt] at hi
      subst hi
      exact (hT i hlt).2
end
end Go.Proofs.Ytgbckpihlklnlaa
