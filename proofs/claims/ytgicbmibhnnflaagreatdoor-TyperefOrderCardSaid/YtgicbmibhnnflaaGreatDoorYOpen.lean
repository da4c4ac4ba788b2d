
/-
  A reference that comes in is read.
-/
import Derived.Test.YtgicbmibhnnflaaGreatDoorYMem
import Derived.Test.YtgicbmibhnnflaaGreatDoorWitK
import Derived.ChangeSlices
namespace Go.Proofs.YtgicbmibhnnflaaGreatDoor
open Go.RowKit Go.ChangeShapes Go.WideShapes
theorem cellsRf : Tryz.prog.cellsOf 24 = 2 := by kernel_rfl
theorem cellsRs : Tryz.prog.cellsOf 9 = 1 := by kernel_rfl
theorem cellsRl : Tryz.prog.cellsOf 22 = 1 := by kernel_rfl
theorem cellsRi : Tryz.prog.cellsOf 3 = 1 := by kernel_rfl
theorem lt_of_cell {w : World} {a : Addr} {v : Value} (h : w.cell? a = some v) : a.block < w.heap.size := by
  unfold World.cell? at h
  rcases Nat.lt_or_ge a.block w.heap.size with h' | h'
  · exact h'
  · rw [Array.getElem?_eq_none h'] at h; simp at h
section
variable {H : Type} {enc : TypeId × Value → H} {w : World} {spare : Nat → Bool} {held : Bool}
set_option maxRecDepth 100000 in
theorem open_ref_l {fuel : Nat} {cs : List Value} {x : DataW H × List MemPlace} (h : DataW.trod enc Tryz.prog w 0 spare held fuel 24 cs = some x) :
    ∃ (n : ByteArray) (A : Option Addr) (c : Nat) (zs : Ws), cs = [.string n, .slice A zs.length c] ∧ n.size ≤ maxLen ∧ zs.length ≤ c ∧ IntsAt w w.heap.size A zs := by
  obtain ⟨xs, n, rfl, rfl, hl, hxl, hf⟩ := DataW.trod_struct Tryz.underlying24 h
  rw [cellsRf] at hl
  match cs, hl, xs, hxl with
  | [c0, c1], _, [x0, x1], _ =>
  have f0 : DataW.trod enc Tryz.prog w 0 spare held n 9 [c0] = some x0 := by
    have this : DataW.trod enc Tryz.prog w 0 spare held n 9 (([c0, c1].drop 0).take (Tryz.prog.cellsOf 9)) = some x0 := hf 0 _ rfl
    rw [cellsRs] at this; exact this
  have f1 : DataW.trod enc Tryz.prog w 0 spare held n 22 [c1] = some x1 := by
    have this : DataW.trod enc Tryz.prog w 0 spare held n 22 (([c0, c1].drop 1).take (Tryz.prog.cellsOf 22)) = some x1 := hf 1 _ rfl
    rw [cellsRl] at this; exact this
  obtain ⟨s, e0, rfl, hs⟩ := DataW.trod_string Tryz.underlying9 f0
  rcases open_ints Tryz.underlying22 Tryz.underlying3 cellsRi f1 with ⟨e1, _⟩ | ⟨a, len, cap, zs, e1, _, hlc, _, hzl, _, hc, _⟩
  · simp only [List.cons.injEq, and_true] at e0 e1
    subst e0 e1
    exact ⟨s, none, 0, [], rfl, by first | exact hs | omega, Nat.le_refl _, IntsAt.nil _ _ _⟩
  · simp only [List.cons.injEq, and_true] at e0 e1
    subst e0 e1
    have hlz : len ≤ zs.length := by rw [hzl]; split <;> omega
    have htl : (zs.take len).length = len := by rw [List.length_take]; omega
    refine ⟨s, some a, cap, zs.take len, by rw [htl], by first | exact hs | omega, by rw [htl]; exact hlc, fun h0 => ⟨a, rfl, ?_, fun i x hx => ?_⟩⟩
    · exact lt_of_cell (hc 0 (by rw [htl] at h0; omega))
    · have hi := (List.getElem?_eq_some_iff.1 hx).1
      rw [htl] at hi
      have := hc i (by omega)
      rw [this]
      rw [List.getElem?_take_of_lt hi] at hx
      rw [List.getD_eq_getElem?_getD, hx]; rfl
set_option maxRecDepth 100000 in
theorem open_ref {W : World} {base : Nat} {v : Value} {d : DataW H} {p : List MemPlace} (hok : Value.okWide Tryz.prog W .any base 24 v) (h : DataW.Trod enc Tryz.prog W 0 spare held 24 v d p) :
    ∃ n xs, RefV W W.heap.size v n xs ∧ n.size ≤ maxLen := by
  obtain ⟨cs, rfl, _⟩ := okWide_struct Tryz.underlying24 hok
  obtain ⟨fuel, hf⟩ := h
  obtain ⟨n, A, c, zs, e, h1, h2, h3⟩ := open_ref_l hf
  have e2 : cs = #[.string n, .slice A zs.length c] := by
    have : cs.toList = [.string n, .slice A zs.length c] := by simpa [Value.cells] using e
    exact Array.toList_inj.1 this
  subst e2
  exact ⟨n, zs, ⟨A, c, rfl, h2, h3⟩, h1⟩
end
end Go.Proofs.YtgicbmibhnnflaaGreatDoor
