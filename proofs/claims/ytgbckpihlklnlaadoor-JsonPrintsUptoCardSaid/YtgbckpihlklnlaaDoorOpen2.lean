
/-
  Plain arguments are read.
-/
import Derived.Test.YtgbckpihlklnlaaDoorOpen
namespace Go.Proofs.YtgbckpihlklnlaaDoor
open Go.RowKit Go.ChangeShapes Go.WideShapes
section
variable {H : Type} {enc : TypeId × Value → H} {W : World} {spare : Nat → Bool} {held : Bool}
set_option maxRecDepth 100000 in
theorem open_str {base : Nat} {v : Value} {d : DataW H} {p : List MemPlace} (hok : Value.okWide Tryd.prog W .any base 9 v) (h : DataW.Trod enc Tryd.prog W 0 spare held 9 v d p)
    (hw : ∀ n ∈ d.weights Tryd.prog 9, n ≤ reachBytes) : ∃ s, v = .string s ∧ s.size ≤ 140737488351232 := by
  obtain ⟨s, rfl, rfl, rfl, m⟩ := Go.ChangeMaps.open_string Tryd.underlying9 hok h
  refine ⟨s, rfl, ?_⟩
  have := hw s.data.toList.length (by simp [DataW.weights])
  unfold reachBytes at this
  rw [size_eq] at this; exact this
set_option maxRecDepth 100000 in
theorem open_num {base : Nat} {v : Value} {d : DataW H} {p : List MemPlace} (hok : Value.okWide Tryd.prog W .any base 3 v) (h : DataW.Trod enc Tryd.prog W 0 spare held 3 v d p) : ∃ n, v = .int .i64 n ∧ small n := by
  obtain ⟨n, rfl, rfl, rfl, m⟩ := open_int Tryd.underlying3 hok h
  exact ⟨n, rfl, small_of m⟩
set_option maxRecDepth 100000 in
theorem open_yes {base : Nat} {v : Value} (hok : Value.okWide Tryd.prog W .any base 4 v) : ∃ b, v = .bool b :=
  okWide_bool Tryd.underlying4 hok
end
end Go.Proofs.YtgbckpihlklnlaaDoor
