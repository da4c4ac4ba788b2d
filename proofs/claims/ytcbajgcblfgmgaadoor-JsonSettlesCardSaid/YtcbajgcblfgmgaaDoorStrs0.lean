
/-
  A variable that grows by keys and elements.
-/
import Derived.Test.YtcbajgcblfgmgaaDoorJRd
import Derived.Test.YtcbajgcblfgmgaaDoorJFact4
namespace Go.Proofs.YtcbajgcblfgmgaaDoor
open Go.RowKit
structure SInv (w : World) (base vb : Nat) (k n : Int) (s : ByteArray) (items : List VT) (keys : List ByteArray) (v v2 : Value) (xs : List Value) : Prop where
  box : Box w vb (.int .i64 k) (.int .i64 n) (.string s) v v2
  own : w.ownsRow base 25 5 v items.length xs
  elems : Elems w (fun b => base ≤ b ∧ b < w.heap.size ∧ v.ownBlock ≠ some b ∧ v2.ownBlock ≠ some b) xs items
  keys : w.ownsRow base 9 1 v2 keys.length (keys.map Value.string)
  apart : ∀ b, v.ownBlock = some b → v2.ownBlock ≠ some b
  vbb : vb < base
  bw : base ≤ w.heap.size
theorem SInv.below {w w' : World} {base vb : Nat} {k n : Int} {s : ByteArray} {items : List VT} {keys : List ByteArray} {v v2 : Value} {xs : List Value} (h : SInv w base vb k n s items keys v v2 xs) (hb : Below w.heap.size w w') : SInv w' base vb k n s items keys v v2 xs := by
  have hk : ∀ g, g < w.heap.size → w'.heap[g]? = w.heap[g]? := fun g h2 => hb.block g h2
  refine ⟨h.box.kept hb, own_kept h.own hk, ?_, own_kept h.keys hk, h.apart, h.vbb, Nat.le_trans h.bw hb.size⟩
  exact h.elems.kept (fun b hb2 => hk b hb2.2.1) (fun b hb2 => ⟨hb2.1, Nat.lt_of_lt_of_le hb2.2.1 hb.size, hb2.2.2⟩)
theorem SInv.pushKey {W w3 : World} {base vb : Nat} {k n : Int} {s : ByteArray} {items : List VT} {keys : List ByteArray} {v : Value} {K : Option Addr} {d : Nat} {xs : List Value} {g cap : Nat} {x : ByteArray}
    (hv : SInv W base vb k n s items keys v (.slice K keys.length d) xs)
    (h1 : w3.ownsRow base 9 1 (.slice (some ⟨g, 0, none⟩) (keys.length + 1) cap) (keys.length + 1) (keys.map Value.string ++ [.string x]))
    (h2 : W.grownBy w3 (Value.slice K keys.length d).ownBlock) (h3 : (Value.slice K keys.length d).ownBlock = some g ∨ g = W.heap.size) :
    SInv (w3.setCell ⟨vb, 4, none⟩ (.slice (some ⟨g, 0, none⟩) (keys.length + 1) cap)) base vb k n s items (keys ++ [x]) v (.slice (some ⟨g, 0, none⟩) (keys.length + 1) cap) xs ∧
    Below vb W (w3.setCell ⟨vb, 4, none⟩ (.slice (some ⟨g, 0, none⟩) (keys.length + 1) cap)) := by
  have hgb : base ≤ g := (own_lt h1 rfl).1
  have hvb := hv.vbb
  have hbw := hv.bw
  have s3 := h2.size
  have hsz : (w3.setCell ⟨vb, 4, none⟩ (.slice (some ⟨g, 0, none⟩) (keys.length + 1) cap)).heap.size = w3.heap.size := by simp [World.setCell]
  have hne : ∀ k, k < W.heap.size → (Value.slice K keys.length d).ownBlock ≠ some k → g ≠ k := by
    rintro k a c rfl
    rcases h3 with h | h
    · exact c h
    · omega
  have hold : ∀ k, k < W.heap.size → k ≠ vb → (Value.slice K keys.length d).ownBlock ≠ some k → (w3.setCell ⟨vb, 4, none⟩ (.slice (some ⟨g, 0, none⟩) (keys.length + 1) cap)).heap[k]? = W.heap[k]? := by
    intro k a b c
    rw [Below.heap_setCell _ _ _ _ b, h2.block k a (fun e => c e.symm)]
  have hbx3 : Box w3 vb (.int .i64 k) (.int .i64 n) (.string s) v (.slice K keys.length d) := Box.grown hv.box h2 (fun e => by have := own_lt hv.keys e; omega)
  have hos := setCell_os w3 ⟨vb, 4, none⟩ (.slice (some ⟨g, 0, none⟩) (keys.length + 1) cap)
  have hown := ownsRow_setCell_below h1 (a := ⟨vb, 4, none⟩) hvb (.slice (some ⟨g, 0, none⟩) (keys.length + 1) cap)
  have hbox := hbx3.s4 (.slice (some ⟨g, 0, none⟩) (keys.length + 1) cap)
  refine ⟨⟨hbox, ?_, ?_, ?_, ?_, hvb, by rw [hsz]; omega⟩, ⟨hos.1.trans h2.os, hos.2.1.trans h2.tape, hos.2.2.trans h2.output, by rw [hsz]; exact s3, fun k hk => hold k (by omega) (by omega) (fun e => by have := own_lt hv.keys e; omega)⟩⟩
  · refine ⟨hv.own.1, hv.own.2.imp id ?_⟩
    rintro ⟨b, cap', cur, e1, e2, e3, r⟩
    have hb1 : v.ownBlock = some b := by rw [e1]; rfl
    have hbl := (own_lt hv.own hb1).2
    exact ⟨b, cap', cur, e1, e2, (hold b hbl (by omega) (hv.apart b hb1)).trans e3, r⟩
  · refine hv.elems.kept (fun b hb => hold b hb.2.1 (by omega) hb.2.2.2) (fun b hb => ⟨hb.1, by rw [hsz]; omega, hb.2.2.1, fun e => ?_⟩)
    have e2 : g = b := by injection e
    exact hne b hb.2.1 hb.2.2.2 e2
  · rw [List.length_append, List.length_singleton, List.map_append]
    exact hown
  · intro b e e'
    have e2 : g = b := by injection e'
    exact hne b (own_lt hv.own e).2 (hv.apart b e) e2
theorem SInv.pushItem {W w3 : World} {base vb : Nat} {k n : Int} {s : ByteArray} {items : List VT} {keys : List ByteArray} {v2 : Value} {A : Option Addr} {d : Nat} {xs : List Value} {g cap : Nat} {t : VT} {c0 c1 c2 c3 c4 : Value}
    (hv : SInv W base vb k n s items keys (.slice A items.length d) v2 xs)
    (hu : RdS W (fun b => base ≤ b ∧ b < W.heap.size ∧ (Value.slice A items.length d).ownBlock ≠ some b ∧ v2.ownBlock ≠ some b) (.agg #[c0, c1, c2, c3, c4]) t)
    (h1 : w3.ownsRow base 25 5 (.slice (some ⟨g, 0, none⟩) (items.length + 1) cap) (items.length + 1) (xs ++ [c0, c1, c2, c3, c4]))
    (h2 : W.grownBy w3 (Value.slice A items.length d).ownBlock) (h3 : (Value.slice A items.length d).ownBlock = some g ∨ g = W.heap.size) :
    SInv (w3.setCell ⟨vb, 3, none⟩ (.slice (some ⟨g, 0, none⟩) (items.length + 1) cap)) base vb k n s (items ++ [t]) keys (.slice (some ⟨g, 0, none⟩) (items.length + 1) cap) v2 (xs ++ [c0, c1, c2, c3, c4]) ∧
    Below vb W (w3.setCell ⟨vb, 3, none⟩ (.slice (some ⟨g, 0, none⟩) (items.length + 1) cap)) := by
  have hgb : base ≤ g := (own_lt h1 rfl).1
  have hvb := hv.vbb
  have hbw := hv.bw
  have s3 := h2.size
  have hxl : xs.length = items.length * 5 := hv.own.1
  have hsz : (w3.setCell ⟨vb, 3, none⟩ (.slice (some ⟨g, 0, none⟩) (items.length + 1) cap)).heap.size = w3.heap.size := by simp [World.setCell]
  have hne : ∀ k, k < W.heap.size → (Value.slice A items.length d).ownBlock ≠ some k → g ≠ k := by
    rintro k a c rfl
    rcases h3 with h | h
    · exact c h
    · omega
  have hold : ∀ k, k < W.heap.size → k ≠ vb → (Value.slice A items.length d).ownBlock ≠ some k → (w3.setCell ⟨vb, 3, none⟩ (.slice (some ⟨g, 0, none⟩) (items.length + 1) cap)).heap[k]? = W.heap[k]? := by
    intro k a b c
    rw [Below.heap_setCell _ _ _ _ b, h2.block k a (fun e => c e.symm)]
  have hgv2 : v2.ownBlock ≠ some g := by
    intro e
    have hl := own_lt hv.keys e
    rcases h3 with h | h
    · exact hv.apart g h e
    · omega
  have hbx3 : Box w3 vb (.int .i64 k) (.int .i64 n) (.string s) (.slice A items.length d) v2 := Box.grown hv.box h2 (fun e => by have := own_lt hv.own e; omega)
  have hos := setCell_os w3 ⟨vb, 3, none⟩ (.slice (some ⟨g, 0, none⟩) (items.length + 1) cap)
  have hown := ownsRow_setCell_below h1 (a := ⟨vb, 3, none⟩) hvb (.slice (some ⟨g, 0, none⟩) (items.length + 1) cap)
  have hbox := hbx3.s3 (.slice (some ⟨g, 0, none⟩) (items.length + 1) cap)
  have hset : ∀ b, base ≤ b → b < W.heap.size → (Value.slice A items.length d).ownBlock ≠ some b → (Value.slice (some ⟨g, 0, none⟩) (items.length + 1) cap).ownBlock ≠ some b := by
    intro b _ h5 h6 e
    have e2 : g = b := by injection e
    exact hne b h5 h6 e2
  refine ⟨⟨hbox, ?_, ?_, ?_, ?_, hvb, by rw [hsz]; omega⟩, ⟨hos.1.trans h2.os, hos.2.1.trans h2.tape, hos.2.2.trans h2.output, by rw [hsz]; exact s3, fun k hk => hold k (by omega) (by omega) (fun e => by have := own_lt hv.own e; omega)⟩⟩
  · rw [List.length_append, List.length_singleton]
    exact hown
  · refine Elems.snoc (hv.elems.kept ?_ ?_) hxl (hu.kept ?_ ?_)
    · intro b hb
      exact hold b hb.2.1 (by omega) hb.2.2.1
    · intro b hb
      exact ⟨hb.1, by rw [hsz]; omega, hset b hb.1 hb.2.1 hb.2.2.1, hb.2.2.2⟩
    · intro b hb
      exact hold b hb.2.1 (by omega) hb.2.2.1
    · intro b hb
      exact ⟨hb.1, by rw [hsz]; omega, hset b hb.1 hb.2.1 hb.2.2.1, hb.2.2.2⟩
  · refine ⟨hv.keys.1, hv.keys.2.imp id ?_⟩
    rintro ⟨b, cap', cur, e1, e2, e3, r⟩
    have hb1 : v2.ownBlock = some b := by rw [e1]; rfl
    have hbl := (own_lt hv.keys hb1).2
    exact ⟨b, cap', cur, e1, e2, (hold b hbl (by omega) (fun e => hv.apart b e hb1)).trans e3, r⟩
  · intro b e e'
    have e2 : g = b := by injection e
    subst e2
    exact hgv2 e'
theorem SInv.read {w : World} {base vb : Nat} {k n : Int} {s : ByteArray} {items : List VT} {keys : List ByteArray} {v v2 : Value} {xs : List Value} (h : SInv w base vb k n s items keys v v2 xs) (hk : small k) (hn : small n) (hz : s.size ≤ 140737488351232) (hi : items.length * 80 ≤ 140737488351232) (hkl : keys.length * 16 ≤ 140737488351232) (hks : ∀ s ∈ keys, s.size ≤ 140737488351232) :
    RdS w (fun b => base ≤ b ∧ b < w.heap.size) (.agg #[.int .i64 k, .int .i64 n, .string s, v, v2]) (.mk k n s items keys) := by
  obtain ⟨A, c, rfl⟩ := own_slice h.own
  obtain ⟨K, d, rfl⟩ := own_slice h.keys
  refine .mk (fun i => .agg #[xs.getD (i * 5) undef, xs.getD (i * 5 + 1) undef, xs.getD (i * 5 + 2) undef, xs.getD (i * 5 + 3) undef, xs.getD (i * 5 + 4) undef]) hk hn hz hks rfl rfl hi hkl (fun h0 => ?_) (fun i t hi => ?_) (fun h0 => ?_)
  · obtain ⟨g, cap, e, h1, h2⟩ := h.own.form h0
    injection e with e1 e2 e3
    subst e1
    refine ⟨_, rfl, ⟨h1, h2⟩, fun i hi => ?_⟩
    have hc : ∀ k, k < items.length * 5 → w.cell? ⟨g, k, none⟩ = some (xs.getD k undef) := fun k hk => by
      have := h.own.cells (g := g) rfl k (xs.getD k undef) (by
        have hl := h.own.1
        rw [List.getElem?_eq_getElem (by omega), List.getD_eq_getElem?_getD, List.getElem?_eq_getElem (by omega)]; rfl)
      rwa [Addr.add_mid, Nat.zero_add] at this
    rw [Addr.add_mid, Nat.zero_add]
    exact ⟨_, _, _, _, _, rfl, hc (i * 5) (by omega), hc (i * 5 + 1) (by omega), hc (i * 5 + 2) (by omega), hc (i * 5 + 3) (by omega), hc (i * 5 + 4) (by omega)⟩
  · obtain ⟨c0, c1, c2, c3, c4, e0, e1, e2, e3, e4, hr⟩ := h.elems i t hi
    simp only [List.getD_eq_getElem?_getD, e0, e1, e2, e3, e4, Option.getD_some]
    exact hr.kept (fun _ _ => rfl) (fun b hb => ⟨hb.1, hb.2.1⟩)
  · obtain ⟨g, cap, e, h1, h2⟩ := h.keys.form h0
    injection e with e1 e2 e3
    subst e1
    refine ⟨_, rfl, ⟨h1, h2⟩, fun i s hs => ?_⟩
    exact h.keys.cells (g := g) rfl i (.string s) (by rw [List.getElem?_map, hs]; rfl)
end Go.Proofs.YtcbajgcblfgmgaaDoor
