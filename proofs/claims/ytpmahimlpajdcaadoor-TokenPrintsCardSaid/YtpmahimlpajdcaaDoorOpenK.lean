
/-
  A list of tokens is read.
-/
import Derived.Test.YtpmahimlpajdcaaDoorOwn
import Derived.ChangeArms
import Derived.Deep.Strs
import Derived.SizedLaws
import Derived.ChangeMaps
import Derived.WideShapes
import Derived.OpenShut
namespace Go.Proofs.YtpmahimlpajdcaaDoor
open Go.RowKit Go.ChangeShapes Go.WideShapes
theorem cellsR : Tryd.prog.cellsOf 31 = 3 := by kernel_rfl
theorem bytesR : Tryd.prog.bytesOf 31 = 32 := by kernel_rfl
theorem cellsSt : Tryd.prog.cellsOf 9 = 1 := by kernel_rfl
theorem cellsIn : Tryd.prog.cellsOf 3 = 1 := by kernel_rfl
theorem lt_cell {w : World} {a : Addr} {v : Value} (h : w.cell? a = some v) : a.block < w.heap.size := by
  unfold World.cell? at h
  rcases Nat.lt_or_ge a.block w.heap.size with h' | h'
  · exact h'
  · rw [Array.getElem?_eq_none h'] at h; simp at h
section
variable {H : Type} {enc : TypeId × Value → H} {w : World} {spare : Nat → Bool} {held : Bool}
set_option maxRecDepth 100000 in
theorem open_tok {fuel : Nat} {cs : List Value} {x : DataW H × List MemPlace} (h : DataW.trod enc Tryd.prog w 0 spare held fuel 31 cs = some x) :
    ∃ p : Tz, cs = [.int .i64 p.1, .string ⟨p.2.1.toArray⟩, .int .i64 p.2.2] := by
  obtain ⟨xs, n, rfl, rfl, hl, hxl, hf⟩ := DataW.trod_struct Tryd.underlying31 h
  rw [cellsR] at hl
  match cs, hl, xs, hxl with
  | [c0, c1, c2], _, [x0, x1, x2], _ =>
  have f0 : DataW.trod enc Tryd.prog w 0 spare held n 3 [c0] = some x0 := by
    have this : DataW.trod enc Tryd.prog w 0 spare held n 3 (([c0, c1, c2].drop 0).take (Tryd.prog.cellsOf 3)) = some x0 := hf 0 _ rfl
    rw [cellsIn] at this; exact this
  have f1 : DataW.trod enc Tryd.prog w 0 spare held n 9 [c1] = some x1 := by
    have this : DataW.trod enc Tryd.prog w 0 spare held n 9 (([c0, c1, c2].drop 1).take (Tryd.prog.cellsOf 9)) = some x1 := hf 1 _ rfl
    rw [cellsSt] at this; exact this
  have f2 : DataW.trod enc Tryd.prog w 0 spare held n 3 [c2] = some x2 := by
    have this : DataW.trod enc Tryd.prog w 0 spare held n 3 (([c0, c1, c2].drop 2).take (Tryd.prog.cellsOf 3)) = some x2 := hf 2 _ rfl
    rw [cellsIn] at this; exact this
  obtain ⟨k0, e0, rfl, wf0⟩ := DataW.trod_int Tryd.underlying3 f0
  obtain ⟨s, e1, rfl, hs⟩ := DataW.trod_string Tryd.underlying9 f1
  obtain ⟨k2, e2, rfl, wf2⟩ := DataW.trod_int Tryd.underlying3 f2
  simp only [List.cons.injEq, and_true] at e0 e1 e2
  subst e0 e1 e2
  exact ⟨(k0, s.data.toList, k2), by simp⟩
set_option maxRecDepth 100000 in
theorem open_toks {W : World} {base : Nat} {v : Value} {d : DataW H} {p : List MemPlace} (hok : Value.okWide Tryd.prog W .any base 29 v) (h : DataW.Trod enc Tryd.prog W 0 spare held 29 v d p)
    (hw : ∀ n ∈ d.weights Tryd.prog 29, n ≤ reachBytes) :
    ∃ (A : Option Addr) (c : Nat) (zs : List Tz), v = .slice A zs.length c ∧ zs.length * 32 ≤ 140737488351232 ∧ ZAt W W.heap.size A zs := by
  obtain ⟨fuel, hf⟩ := h
  obtain ⟨A0, l0, c0, rfl⟩ : ∃ A l c, v = .slice A l c := okWide_slice Tryd.underlying29 hok
  rcases DataW.trod_slice Tryd.underlying29 hf with ⟨e3, _⟩ | ⟨a, len, cap, elems, rest, m, e1, e3, hx, _, hlc, hcm, hel, hat, hsp, hns⟩
  · have e4 : Value.slice A0 l0 c0 = Value.slice none 0 0 := by simpa [Value.cells] using e3
    cases e4
    exact ⟨none, 0, [], rfl, by decide, fun h0 => absurd h0 (by simp)⟩
  · have e4 : Value.slice A0 l0 c0 = Value.slice (some a) len cap := by simpa [Value.cells] using e3
    cases e4
    obtain ⟨rfl, rfl⟩ := Prod.mk.inj hx
    have hb3 : l0 * 32 ≤ 140737488351232 := by
      have := hw ((elems.length + rest.length) * 32) (by
        simp only [DataW.weights, Tryd.underlying29, List.mem_append, List.mem_cons, bytesR, List.length_map]
        simp)
      unfold reachBytes at this
      omega
    rw [cellsR] at hat
    have hitem : ∀ i, i < l0 → ∃ q : Tz, C3 W (a.add (i * 3)) q := by
      intro i hi
      have h1 := hat i hi
      have hlt : i < elems.length := by omega
      rw [List.getElem?_eq_getElem hlt, Option.bind_eq_some_iff] at h1
      obtain ⟨cs', hc, ht⟩ := h1
      obtain ⟨q, rfl⟩ := open_tok ht
      obtain ⟨_, _, hg⟩ := World.cells?_some hc
      refine ⟨q, ?_, ?_, ?_⟩
      · have := hg 0 (by simp); simpa [Addr.add] using this
      · have := hg 1 (by simp); simpa [Addr.add] using this
      · have := hg 2 (by simp); simpa [Addr.add] using this
    obtain ⟨T, hT⟩ : ∃ T : Nat → Tz, ∀ i, i < l0 → C3 W (a.add (i * 3)) (T i) :=
      ⟨fun i => if h : i < l0 then (hitem i h).choose else (0, [], 0), fun i h => by simp only [dif_pos h]; exact (hitem i h).choose_spec⟩
    refine ⟨some a, c0, (List.range l0).map T, by simp, by simpa using hb3, fun h0 => ⟨a, rfl, ?_, fun i q hi => ?_⟩⟩
    · have h2 : 0 < l0 := by simpa using h0
      have := lt_cell (hT 0 h2).1
      rwa [add_block] at this
    · have hlt : i < l0 := by simpa using (List.getElem?_eq_some_iff.1 hi).1
      simp [hlt] at hi
      subst hi
      exact hT i hlt
end
end Go.Proofs.YtpmahimlpajdcaaDoor
