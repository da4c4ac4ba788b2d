
/-
  Objects: the state, a key appended.
-/
import Derived.Test.YtcbajgcblfgmgaaGreatDoorJList2
namespace Go.Proofs.YtcbajgcblfgmgaaGreatDoor
open Go.RowKit
theorem VInv.same {w w' : World} {base vb : Nat} {kind : Int} {items : List VT} {keys : List ByteArray} {v v2 : Value} {xs : List Value} (h : VInv w base vb kind items keys v v2 xs) (hs : w.heap.size ≤ w'.heap.size) (hvb : w'.heap[vb]? = w.heap[vb]?) (hk : ∀ g, base ≤ g → g < w.heap.size → w'.heap[g]? = w.heap[g]?) : VInv w' base vb kind items keys v v2 xs := by
  have own : ∀ {e : TypeId} {size : Nat} {v : Value} {n : Nat} {xs : List Value}, w.ownsRow base e size v n xs → w'.ownsRow base e size v n xs := by
    intro e size v n xs h
    refine ⟨h.1, h.2.imp id ?_⟩
    rintro ⟨g, cap, cur, e1, e2, e3, r⟩
    have hg : g < w.heap.size := by
      rcases Nat.lt_or_ge g w.heap.size with h' | h'
      · exact h'
      · rw [Array.getElem?_eq_none h'] at e3; cases e3
    exact ⟨g, cap, cur, e1, e2, (hk g e2 hg).trans e3, r⟩
  refine ⟨hvb.trans h.box, own h.own, ?_, own h.keys, h.apart, h.vbb, Nat.le_trans h.bw hs⟩
  exact h.elems.kept (fun b hb2 => hk b hb2.1 hb2.2.1) (fun b hb2 => ⟨hb2.1, Nat.lt_of_lt_of_le hb2.2.1 hs, hb2.2.2⟩)
theorem VInv.pushKey {W w3 : World} {base vb : Nat} {kind : Int} {items : List VT} {keys : List ByteArray} {v : Value} {K : Option Addr} {d : Nat} {xs : List Value} {g cap : Nat} {x : ByteArray}
    (hv : VInv W base vb kind items keys v (.slice K keys.length d) xs)
    (h1 : w3.ownsRow base 9 1 (.slice (some ⟨g, 0, none⟩) (keys.length + 1) cap) (keys.length + 1) (keys.map Value.string ++ [.string x]))
    (h2 : W.grownBy w3 (Value.slice K keys.length d).ownBlock) (h3 : (Value.slice K keys.length d).ownBlock = some g ∨ g = W.heap.size) :
    VInv (w3.setCell ⟨vb, 4, none⟩ (.slice (some ⟨g, 0, none⟩) (keys.length + 1) cap)) base vb kind items (keys ++ [x]) v (.slice (some ⟨g, 0, none⟩) (keys.length + 1) cap) xs ∧
    Below vb W (w3.setCell ⟨vb, 4, none⟩ (.slice (some ⟨g, 0, none⟩) (keys.length + 1) cap)) ∧
    (∀ k, k < W.heap.size → k ≠ vb → (Value.slice K keys.length d).ownBlock ≠ some k → (w3.setCell ⟨vb, 4, none⟩ (.slice (some ⟨g, 0, none⟩) (keys.length + 1) cap)).heap[k]? = W.heap[k]?) ∧
    (∀ k, k < W.heap.size → (Value.slice K keys.length d).ownBlock ≠ some k → g ≠ k) := by
  have hgb : base ≤ g := (own_lt h1 rfl).1
  have hvb := hv.vbb
  have hbw := hv.bw
  have s3 := h2.size
  have hsz : (w3.setCell ⟨vb, 4, none⟩ (.slice (some ⟨g, 0, none⟩) (keys.length + 1) cap)).heap.size = w3.heap.size := by simp [World.setCell]
  have hne : ∀ k, k < W.heap.size → (Value.slice K keys.length d).ownBlock ≠ some k → g ≠ k := by
    rintro k a c rfl
    rcases h3 with h | h
    · exact c h
    · omega
  have hold : ∀ k, k < W.heap.size → k ≠ vb → (Value.slice K keys.length d).ownBlock ≠ some k → (w3.setCell ⟨vb, 4, none⟩ (.slice (some ⟨g, 0, none⟩) (keys.length + 1) cap)).heap[k]? = W.heap[k]? := by
    intro k a b c
    rw [Below.heap_setCell _ _ _ _ b, h2.block k a (fun e => c e.symm)]
  have hbx3 : Box w3 vb (.int .i64 kind) (.int .i64 0) (.string ⟨#[]⟩) v (.slice K keys.length d) := Box.grown hv.box h2 (fun e => by have := own_lt hv.keys e; omega)
  have hos := setCell_os w3 ⟨vb, 4, none⟩ (.slice (some ⟨g, 0, none⟩) (keys.length + 1) cap)
  have hown := ownsRow_setCell_below h1 (a := ⟨vb, 4, none⟩) hvb (.slice (some ⟨g, 0, none⟩) (keys.length + 1) cap)
  have hbox := hbx3.s4 (.slice (some ⟨g, 0, none⟩) (keys.length + 1) cap)
  refine ⟨⟨hbox, ?_, ?_, ?_, ?_, hvb, by rw [hsz]; omega⟩, ⟨hos.1.trans h2.os, hos.2.1.trans h2.tape, hos.2.2.trans h2.output, by rw [hsz]; exact s3, fun k hk => hold k (by omega) (by omega) (fun e => by have := own_lt hv.keys e; omega)⟩, hold, hne⟩
  · refine ⟨hv.own.1, hv.own.2.imp id ?_⟩
    rintro ⟨b, cap', cur, e1, e2, e3, r⟩
    have hb1 : v.ownBlock = some b := by rw [e1]; rfl
    have hbl := (own_lt hv.own hb1).2
    exact ⟨b, cap', cur, e1, e2, (hold b hbl (by omega) (hv.apart b hb1)).trans e3, r⟩
  · refine hv.elems.kept (fun b hb => hold b hb.2.1 (by omega) hb.2.2.2) (fun b hb => ⟨hb.1, by rw [hsz]; omega, hb.2.2.1, fun e => ?_⟩)
    have e2 : g = b := by injection e
    exact hne b hb.2.1 hb.2.2.2 e2
  · rw [List.length_append, List.length_singleton, List.map_append]
    exact hown
  · intro b e e'
    have e2 : g = b := by injection e'
    exact hne b (own_lt hv.own e).2 (hv.apart b e) e2
structure OInv (w0 : World) (N p level n0 : Nat) (s : ByteArray) (a : List ByteArray × List VT) (i n : Nat) (w : World) : Prop where
  ps : PS w p s i n 0 0
  c0 : w.cell? ⟨N, 0, none⟩ = some (pp p)
  c1 : w.cell? ⟨N + 1, 0, none⟩ = some (.int .i64 level)
  cm : w.cell? ⟨N + 5, 0, none⟩ = some (.map (some (N + 4)))
  rv : Box w (N + 2) (.int .i64 0) (.int .i64 0) (.string ⟨#[]⟩) (.slice none 0 0) (.slice none 0 0)
  bes : Bes p N w0 w
  sn : SeenAt w (N + 4) a.1
  vv : ∃ v v2 xs, VInv w (N + 6) (N + 3) 6 a.2 a.1 v v2 xs
  ks : ∀ x ∈ a.1, x.size ≤ 1073741824
  le : a.1.length = a.2.length
  hn : a.2.length ≤ n
  hm : n ≤ 4096
  h0 : n0 ≤ n
/- What stays when the blocks below N + 6 stay, but for p. -/
theorem OInv.keep {w0 w w' : World} {N p level n0 : Nat} {s : ByteArray} {a : List ByteArray × List VT} {i n : Nat} (h : OInv w0 N p level n0 s a i n w) (hk : ∀ k, k < N + 6 → k ≠ p → k ≠ N + 3 → k ≠ N + 4 → w'.heap[k]? = w.heap[k]?) (hos : w'.os = w.os ∧ w'.tape = w.tape ∧ w'.output = w.output) (hs : w.heap.size ≤ w'.heap.size) (hpN : p < N) :
    w'.cell? ⟨N, 0, none⟩ = some (pp p) ∧ w'.cell? ⟨N + 1, 0, none⟩ = some (.int .i64 level) ∧ w'.cell? ⟨N + 5, 0, none⟩ = some (.map (some (N + 4))) ∧ Box w' (N + 2) (.int .i64 0) (.int .i64 0) (.string ⟨#[]⟩) (.slice none 0 0) (.slice none 0 0) ∧ Bes p N w0 w' := by
  refine ⟨?_, ?_, ?_, ?_, ?_⟩
  · rw [cell_of_block (a := ⟨N, 0, none⟩) (hk N (by omega) (by omega) (by omega) (by omega))]; exact h.c0
  · rw [cell_of_block (a := ⟨N + 1, 0, none⟩) (hk (N + 1) (by omega) (by omega) (by omega) (by omega))]; exact h.c1
  · rw [cell_of_block (a := ⟨N + 5, 0, none⟩) (hk (N + 5) (by omega) (by omega) (by omega) (by omega))]; exact h.cm
  · exact (hk (N + 2) (by omega) (by omega) (by omega) (by omega)).trans h.rv
  · exact h.bes.trans ⟨hos.1, hos.2.1, hos.2.2, hs, fun k h1 h2 => hk k (by omega) h2 (by omega) (by omega)⟩
end Go.Proofs.YtcbajgcblfgmgaaGreatDoor
