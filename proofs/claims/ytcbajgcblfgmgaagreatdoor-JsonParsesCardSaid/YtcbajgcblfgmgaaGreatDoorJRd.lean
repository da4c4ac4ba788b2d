
/-
  What has been read, as a value.
-/
import Derived.Test.YtcbajgcblfgmgaaGreatDoorJPush
namespace Go.Proofs.YtcbajgcblfgmgaaGreatDoor
open Go.RowKit
theorem VInv.read {w : World} {base vb : Nat} {kind : Int} {items : List VT} {keys : List ByteArray} {v v2 : Value} {xs : List Value} (h : VInv w base vb kind items keys v v2 xs) (hk : small kind) (hi : items.length ≤ 100000) (hkl : keys.length ≤ 100000) (hks : ∀ s ∈ keys, s.size ≤ 140737488351232) :
    RdS w (fun b => base ≤ b ∧ b < w.heap.size) (.agg #[.int .i64 kind, .int .i64 0, .string ⟨#[]⟩, v, v2]) (.mk kind 0 ⟨#[]⟩ items keys) := by
  obtain ⟨A, c, rfl⟩ := own_slice h.own
  obtain ⟨K, d, rfl⟩ := own_slice h.keys
  refine .mk (fun i => .agg #[xs.getD (i * 5) undef, xs.getD (i * 5 + 1) undef, xs.getD (i * 5 + 2) undef, xs.getD (i * 5 + 3) undef, xs.getD (i * 5 + 4) undef]) hk (by unfold small; omega) (by decide) hks rfl rfl (by omega) (by omega) (fun h0 => ?_) (fun i t hi => ?_) (fun h0 => ?_)
  · obtain ⟨g, cap, e, h1, h2⟩ := h.own.form h0
    injection e with e1 e2 e3
    subst e1
    refine ⟨_, rfl, ⟨h1, h2⟩, fun i hi => ?_⟩
    have hc : ∀ k, k < items.length * 5 → w.cell? ⟨g, k, none⟩ = some (xs.getD k undef) := fun k hk => by
      have := h.own.cells (g := g) rfl k (xs.getD k undef) (by
        have hl := h.own.1
        rw [List.getElem?_eq_getElem (by omega), List.getD_eq_getElem?_getD, List.getElem?_eq_getElem (by omega)]; rfl)
      rwa [Addr.add_mid, Nat.zero_add] at this
    rw [Addr.add_mid, Nat.zero_add]
    exact ⟨_, _, _, _, _, rfl, hc (i * 5) (by omega), hc (i * 5 + 1) (by omega), hc (i * 5 + 2) (by omega), hc (i * 5 + 3) (by omega), hc (i * 5 + 4) (by omega)⟩
  · obtain ⟨c0, c1, c2, c3, c4, e0, e1, e2, e3, e4, hr⟩ := h.elems i t hi
    simp only [List.getD_eq_getElem?_getD, e0, e1, e2, e3, e4, Option.getD_some]
    exact hr.kept (fun _ _ => rfl) (fun b hb => ⟨hb.1, hb.2.1⟩)
  · obtain ⟨g, cap, e, h1, h2⟩ := h.keys.form h0
    injection e with e1 e2 e3
    subst e1
    refine ⟨_, rfl, ⟨h1, h2⟩, fun i s hs => ?_⟩
    exact h.keys.cells (g := g) rfl i (.string s) (by rw [List.getElem?_map, hs]; rfl)
theorem alloc_cell (w : World) (o : Obj) (a : Addr) (h : a.block < w.heap.size) : (w.alloc o).cell? a = w.cell? a := ((Below.refl w.heap.size w).alloc (Nat.le_refl _) o).cell h
theorem alloc_new1 (w : World) (v : Value) (t : TypeId) : (w.alloc (.cells #[v] t (0, 0))).cell? ⟨w.heap.size, 0, none⟩ = some v := by
  rw [cell_of_row _ _ _ _ _ _ (heap_alloc_new _ _)]; rfl
end Go.Proofs.YtcbajgcblfgmgaaGreatDoor
