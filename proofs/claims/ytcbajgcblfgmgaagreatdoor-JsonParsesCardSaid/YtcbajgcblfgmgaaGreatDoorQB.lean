
/-
  A variable that grows by keys and elements. A value that the reference's reader builds: its variable, its rows, and the place of the result. The reference's has: a list contains a string. Lists of the reference's reader. Objects of the reference's reader.
-/
import Derived.Test.YtcbajgcblfgmgaaGreatDoorJRd
import Derived.Test.YtcbajgcblfgmgaaGreatDoorJObj0
import Derived.Test.YtcbajgcblfgmgaaGreatDoorQA
namespace Go.Proofs.YtcbajgcblfgmgaaGreatDoor
open Go.RowKit
structure SInv (w : World) (base vb : Nat) (k n : Int) (s : ByteArray) (items : List VT) (keys : List ByteArray) (v v2 : Value) (xs : List Value) : Prop where
  box : Box w vb (.int .i64 k) (.int .i64 n) (.string s) v v2
  own : w.ownsRow base 26 5 v items.length xs
  elems : Elems w (fun b => base ≤ b ∧ b < w.heap.size ∧ v.ownBlock ≠ some b ∧ v2.ownBlock ≠ some b) xs items
  keys : w.ownsRow base 9 1 v2 keys.length (keys.map Value.string)
  apart : ∀ b, v.ownBlock = some b → v2.ownBlock ≠ some b
  vbb : vb < base
  bw : base ≤ w.heap.size
theorem SInv.below {w w' : World} {base vb : Nat} {k n : Int} {s : ByteArray} {items : List VT} {keys : List ByteArray} {v v2 : Value} {xs : List Value} (h : SInv w base vb k n s items keys v v2 xs) (hb : Below w.heap.size w w') : SInv w' base vb k n s items keys v v2 xs := by
  have hk : ∀ g, g < w.heap.size → w'.heap[g]? = w.heap[g]? := fun g h2 => hb.block g h2
  refine ⟨h.box.kept hb, own_kept h.own hk, ?_, own_kept h.keys hk, h.apart, h.vbb, Nat.le_trans h.bw hb.size⟩
  exact h.elems.kept (fun b hb2 => hk b hb2.2.1) (fun b hb2 => ⟨hb2.1, Nat.lt_of_lt_of_le hb2.2.1 hb.size, hb2.2.2⟩)
theorem SInv.pushKey {W w3 : World} {base vb : Nat} {k n : Int} {s : ByteArray} {items : List VT} {keys : List ByteArray} {v : Value} {K : Option Addr} {d : Nat} {xs : List Value} {g cap : Nat} {x : ByteArray}
    (hv : SInv W base vb k n s items keys v (.slice K keys.length d) xs)
    (h1 : w3.ownsRow base 9 1 (.slice (some ⟨g, 0, none⟩) (keys.length + 1) cap) (keys.length + 1) (keys.map Value.string ++ [.string x]))
    (h2 : W.grownBy w3 (Value.slice K keys.length d).ownBlock) (h3 : (Value.slice K keys.length d).ownBlock = some g ∨ g = W.heap.size) :
    SInv (w3.setCell ⟨vb, 4, none⟩ (.slice (some ⟨g, 0, none⟩) (keys.length + 1) cap)) base vb k n s items (keys ++ [x]) v (.slice (some ⟨g, 0, none⟩) (keys.length + 1) cap) xs ∧
    Below vb W (w3.setCell ⟨vb, 4, none⟩ (.slice (some ⟨g, 0, none⟩) (keys.length + 1) cap)) := by
  have hgb : base ≤ g := (own_lt h1 rfl).1
  have hvb := hv.vbb
  have hbw := hv.bw
  have s3 := h2.size
  have hsz : (w3.setCell ⟨vb, 4, none⟩ (.slice (some ⟨g, 0, none⟩) (keys.length + 1) cap)).heap.size = w3.heap.size := by simp [World.setCell]
  have hne : ∀ k, k < W.heap.size → (Value.slice K keys.length d).ownBlock ≠ some k → g ≠ k := by
    rintro k a c rfl
    rcases h3 with h | h
    · exact c h
    · omega
  have hold : ∀ k, k < W.heap.size → k ≠ vb → (Value.slice K keys.length d).ownBlock ≠ some k → (w3.setCell ⟨vb, 4, none⟩ (.slice (some ⟨g, 0, none⟩) (keys.length + 1) cap)).heap[k]? = W.heap[k]? := by
    intro k a b c
    rw [Below.heap_setCell _ _ _ _ b, h2.block k a (fun e => c e.symm)]
  have hbx3 : Box w3 vb (.int .i64 k) (.int .i64 n) (.string s) v (.slice K keys.length d) := Box.grown hv.box h2 (fun e => by have := own_lt hv.keys e; omega)
  have hos := setCell_os w3 ⟨vb, 4, none⟩ (.slice (some ⟨g, 0, none⟩) (keys.length + 1) cap)
  have hown := ownsRow_setCell_below h1 (a := ⟨vb, 4, none⟩) hvb (.slice (some ⟨g, 0, none⟩) (keys.length + 1) cap)
  have hbox := hbx3.s4 (.slice (some ⟨g, 0, none⟩) (keys.length + 1) cap)
  refine ⟨⟨hbox, ?_, ?_, ?_, ?_, hvb, by rw [hsz]; omega⟩, ⟨hos.1.trans h2.os, hos.2.1.trans h2.tape, hos.2.2.trans h2.output, by rw [hsz]; exact s3, fun k hk => hold k (by omega) (by omega) (fun e => by have := own_lt hv.keys e; omega)⟩⟩
  · refine ⟨hv.own.1, hv.own.2.imp id ?_⟩
    rintro ⟨b, cap', cur, e1, e2, e3, r⟩
    have hb1 : v.ownBlock = some b := by rw [e1]; rfl
    have hbl := (own_lt hv.own hb1).2
    exact ⟨b, cap', cur, e1, e2, (hold b hbl (by omega) (hv.apart b hb1)).trans e3, r⟩
  · refine hv.elems.kept (fun b hb => hold b hb.2.1 (by omega) hb.2.2.2) (fun b hb => ⟨hb.1, by rw [hsz]; omega, hb.2.2.1, fun e => ?_⟩)
    have e2 : g = b := by injection e
    exact hne b hb.2.1 hb.2.2.2 e2
  · rw [List.length_append, List.length_singleton, List.map_append]
    exact hown
  · intro b e e'
    have e2 : g = b := by injection e'
    exact hne b (own_lt hv.own e).2 (hv.apart b e) e2
theorem SInv.pushItem {W w3 : World} {base vb : Nat} {k n : Int} {s : ByteArray} {items : List VT} {keys : List ByteArray} {v2 : Value} {A : Option Addr} {d : Nat} {xs : List Value} {g cap : Nat} {t : VT} {c0 c1 c2 c3 c4 : Value}
    (hv : SInv W base vb k n s items keys (.slice A items.length d) v2 xs)
    (hu : RdS W (fun b => base ≤ b ∧ b < W.heap.size ∧ (Value.slice A items.length d).ownBlock ≠ some b ∧ v2.ownBlock ≠ some b) (.agg #[c0, c1, c2, c3, c4]) t)
    (h1 : w3.ownsRow base 26 5 (.slice (some ⟨g, 0, none⟩) (items.length + 1) cap) (items.length + 1) (xs ++ [c0, c1, c2, c3, c4]))
    (h2 : W.grownBy w3 (Value.slice A items.length d).ownBlock) (h3 : (Value.slice A items.length d).ownBlock = some g ∨ g = W.heap.size) :
    SInv (w3.setCell ⟨vb, 3, none⟩ (.slice (some ⟨g, 0, none⟩) (items.length + 1) cap)) base vb k n s (items ++ [t]) keys (.slice (some ⟨g, 0, none⟩) (items.length + 1) cap) v2 (xs ++ [c0, c1, c2, c3, c4]) ∧
    Below vb W (w3.setCell ⟨vb, 3, none⟩ (.slice (some ⟨g, 0, none⟩) (items.length + 1) cap)) := by
  have hgb : base ≤ g := (own_lt h1 rfl).1
  have hvb := hv.vbb
  have hbw := hv.bw
  have s3 := h2.size
  have hxl : xs.length = items.length * 5 := hv.own.1
  have hsz : (w3.setCell ⟨vb, 3, none⟩ (.slice (some ⟨g, 0, none⟩) (items.length + 1) cap)).heap.size = w3.heap.size := by simp [World.setCell]
  have hne : ∀ k, k < W.heap.size → (Value.slice A items.length d).ownBlock ≠ some k → g ≠ k := by
    rintro k a c rfl
    rcases h3 with h | h
    · exact c h
    · omega
  have hold : ∀ k, k < W.heap.size → k ≠ vb → (Value.slice A items.length d).ownBlock ≠ some k → (w3.setCell ⟨vb, 3, none⟩ (.slice (some ⟨g, 0, none⟩) (items.length + 1) cap)).heap[k]? = W.heap[k]? := by
    intro k a b c
    rw [Below.heap_setCell _ _ _ _ b, h2.block k a (fun e => c e.symm)]
  have hgv2 : v2.ownBlock ≠ some g := by
    intro e
    have hl := own_lt hv.keys e
    rcases h3 with h | h
    · exact hv.apart g h e
    · omega
  have hbx3 : Box w3 vb (.int .i64 k) (.int .i64 n) (.string s) (.slice A items.length d) v2 := Box.grown hv.box h2 (fun e => by have := own_lt hv.own e; omega)
  have hos := setCell_os w3 ⟨vb, 3, none⟩ (.slice (some ⟨g, 0, none⟩) (items.length + 1) cap)
  have hown := ownsRow_setCell_below h1 (a := ⟨vb, 3, none⟩) hvb (.slice (some ⟨g, 0, none⟩) (items.length + 1) cap)
  have hbox := hbx3.s3 (.slice (some ⟨g, 0, none⟩) (items.length + 1) cap)
  have hset : ∀ b, base ≤ b → b < W.heap.size → (Value.slice A items.length d).ownBlock ≠ some b → (Value.slice (some ⟨g, 0, none⟩) (items.length + 1) cap).ownBlock ≠ some b := by
    intro b _ h5 h6 e
    have e2 : g = b := by injection e
    exact hne b h5 h6 e2
  refine ⟨⟨hbox, ?_, ?_, ?_, ?_, hvb, by rw [hsz]; omega⟩, ⟨hos.1.trans h2.os, hos.2.1.trans h2.tape, hos.2.2.trans h2.output, by rw [hsz]; exact s3, fun k hk => hold k (by omega) (by omega) (fun e => by have := own_lt hv.own e; omega)⟩⟩
  · rw [List.length_append, List.length_singleton]
    exact hown
  · refine Elems.snoc (hv.elems.kept ?_ ?_) hxl (hu.kept ?_ ?_)
    · intro b hb
      exact hold b hb.2.1 (by omega) hb.2.2.1
    · intro b hb
      exact ⟨hb.1, by rw [hsz]; omega, hset b hb.1 hb.2.1 hb.2.2.1, hb.2.2.2⟩
    · intro b hb
      exact hold b hb.2.1 (by omega) hb.2.2.1
    · intro b hb
      exact ⟨hb.1, by rw [hsz]; omega, hset b hb.1 hb.2.1 hb.2.2.1, hb.2.2.2⟩
  · refine ⟨hv.keys.1, hv.keys.2.imp id ?_⟩
    rintro ⟨b, cap', cur, e1, e2, e3, r⟩
    have hb1 : v2.ownBlock = some b := by rw [e1]; rfl
    have hbl := (own_lt hv.keys hb1).2
    exact ⟨b, cap', cur, e1, e2, (hold b hbl (by omega) (fun e => hv.apart b e hb1)).trans e3, r⟩
  · intro b e e'
    have e2 : g = b := by injection e
    subst e2
    exact hgv2 e'
theorem SInv.read {w : World} {base vb : Nat} {k n : Int} {s : ByteArray} {items : List VT} {keys : List ByteArray} {v v2 : Value} {xs : List Value} (h : SInv w base vb k n s items keys v v2 xs) (hk : small k) (hn : small n) (hz : s.size ≤ 140737488351232) (hi : items.length * 80 ≤ 140737488351232) (hkl : keys.length * 16 ≤ 140737488351232) (hks : ∀ s ∈ keys, s.size ≤ 140737488351232) :
    RdS w (fun b => base ≤ b ∧ b < w.heap.size) (.agg #[.int .i64 k, .int .i64 n, .string s, v, v2]) (.mk k n s items keys) := by
  obtain ⟨A, c, rfl⟩ := own_slice h.own
  obtain ⟨K, d, rfl⟩ := own_slice h.keys
  refine .mk (fun i => .agg #[xs.getD (i * 5) undef, xs.getD (i * 5 + 1) undef, xs.getD (i * 5 + 2) undef, xs.getD (i * 5 + 3) undef, xs.getD (i * 5 + 4) undef]) hk hn hz hks rfl rfl hi hkl (fun h0 => ?_) (fun i t hi => ?_) (fun h0 => ?_)
  · obtain ⟨g, cap, e, h1, h2⟩ := h.own.form h0
    injection e with e1 e2 e3
    subst e1
    refine ⟨_, rfl, ⟨h1, h2⟩, fun i hi => ?_⟩
    have hc : ∀ k, k < items.length * 5 → w.cell? ⟨g, k, none⟩ = some (xs.getD k undef) := fun k hk => by
      have := h.own.cells (g := g) rfl k (xs.getD k undef) (by
        have hl := h.own.1
        rw [List.getElem?_eq_getElem (by omega), List.getD_eq_getElem?_getD, List.getElem?_eq_getElem (by omega)]; rfl)
      rwa [Addr.add_mid, Nat.zero_add] at this
    rw [Addr.add_mid, Nat.zero_add]
    exact ⟨_, _, _, _, _, rfl, hc (i * 5) (by omega), hc (i * 5 + 1) (by omega), hc (i * 5 + 2) (by omega), hc (i * 5 + 3) (by omega), hc (i * 5 + 4) (by omega)⟩
  · obtain ⟨c0, c1, c2, c3, c4, e0, e1, e2, e3, e4, hr⟩ := h.elems i t hi
    simp only [List.getD_eq_getElem?_getD, e0, e1, e2, e3, e4, Option.getD_some]
    exact hr.kept (fun _ _ => rfl) (fun b hb => ⟨hb.1, hb.2.1⟩)
  · obtain ⟨g, cap, e, h1, h2⟩ := h.keys.form h0
    injection e with e1 e2 e3
    subst e1
    refine ⟨_, rfl, ⟨h1, h2⟩, fun i s hs => ?_⟩
    exact h.keys.cells (g := g) rfl i (.string s) (by rw [List.getElem?_map, hs]; rfl)
end Go.Proofs.YtcbajgcblfgmgaaGreatDoor
namespace Go.Proofs.YtcbajgcblfgmgaaGreatDoor
open Go.RowKit
theorem SInv.bes {w w' : World} {p base vb : Nat} {k n : Int} {s : ByteArray} {items : List VT} {keys : List ByteArray} {v v2 : Value} {xs : List Value} (h : SInv w base vb k n s items keys v v2 xs) (hb : Bes p w.heap.size w w') (hp : p < vb) : SInv w' base vb k n s items keys v v2 xs := by
  have hk : ∀ g, base ≤ g → g < w.heap.size → w'.heap[g]? = w.heap[g]? := fun g h1 h2 => hb.block g h2 (by have := h.vbb; omega)
  have own : ∀ {e : TypeId} {size : Nat} {v : Value} {n : Nat} {xs : List Value}, w.ownsRow base e size v n xs → w'.ownsRow base e size v n xs := by
    intro e size v n xs h
    refine ⟨h.1, h.2.imp id ?_⟩
    rintro ⟨g, cap, cur, e1, e2, e3, r⟩
    have hg : g < w.heap.size := by
      rcases Nat.lt_or_ge g w.heap.size with h' | h'
      · exact h'
      · rw [Array.getElem?_eq_none h'] at e3; cases e3
    exact ⟨g, cap, cur, e1, e2, (hk g e2 hg).trans e3, r⟩
  refine ⟨h.box.bes hb (Nat.lt_of_lt_of_le h.vbb h.bw) hp, own h.own, ?_, own h.keys, h.apart, h.vbb, Nat.le_trans h.bw hb.size⟩
  exact h.elems.kept (fun b hb2 => hk b hb2.1 hb2.2.1) (fun b hb2 => ⟨hb2.1, Nat.lt_of_lt_of_le hb2.2.1 hb.size, hb2.2.2⟩)
theorem SInv.push0 {W w3 : World} {base vb : Nat} {k n : Int} {s : ByteArray} {items : List VT} {keys : List ByteArray} {v2 : Value} {A : Option Addr} {d : Nat} {xs : List Value} (u : Value)
    (hv : SInv W base vb k n s items keys (.slice A items.length d) v2 xs) (h2 : W.grownBy w3 (Value.slice A items.length d).ownBlock) : Below vb W (w3.setCell ⟨vb, 3, none⟩ u) := by
  have hvb := hv.vbb
  have hbw := hv.bw
  have s3 := h2.size
  have hos := setCell_os w3 ⟨vb, 3, none⟩ u
  exact ⟨hos.1.trans h2.os, hos.2.1.trans h2.tape, hos.2.2.trans h2.output, by simpa [World.setCell] using s3, fun k hk => by
    rw [Below.heap_setCell _ _ _ _ (show k ≠ vb by omega), h2.block k (by omega) (fun e => by have := own_lt hv.own e.symm; omega)]⟩
/- What the reader keeps while it builds: base .. its own blocks. -/
structure QK (w : World) (p : Nat) (kind : Int) (a : List VT) (ks : List ByteArray) (w' : World) : Prop where
  sv : ∃ v v2 xs, SInv w' (w.heap.size + 2) (w.heap.size + 1) kind 0 ⟨#[]⟩ a ks v v2 xs
  bx : Box w' w.heap.size (.int .i64 0) (.int .i64 0) (.string ⟨#[]⟩) (.slice none 0 0) (.slice none 0 0)
  bes : Bes p w.heap.size w w'
  hp : p < w.heap.size
theorem QK.size {w w' : World} {p : Nat} {kind : Int} {a : List VT} {ks : List ByteArray} (h : QK w p kind a ks w') : w.heap.size + 2 ≤ w'.heap.size := by
  obtain ⟨v, v2, xs, hs⟩ := h.sv
  exact hs.bw
theorem QK.step {w w' w'' : World} {p : Nat} {kind : Int} {a : List VT} {ks : List ByteArray} (h : QK w p kind a ks w') (hb : Bes p w'.heap.size w' w'') : QK w p kind a ks w'' := by
  have hsz := h.size
  obtain ⟨v, v2, xs, hs⟩ := h.sv
  have hp := h.hp
  exact ⟨⟨v, v2, xs, hs.bes hb (by omega)⟩, h.bx.bes hb (by omega) (by omega), h.bes.trans (hb.mono (by omega)), hp⟩
def startW (w : World) (kind : Int) : World := (w.alloc (.cells #[.int .i64 0, .int .i64 0, .string ⟨#[]⟩, .slice none 0 0, .slice none 0 0] 26 (0, 0))).alloc (.cells #[.int .i64 kind, .int .i64 0, .string ⟨#[]⟩, .slice none 0 0, .slice none 0 0] 26 (0, 0))
theorem QK.start (w : World) (p : Nat) (kind : Int) (hp : p < w.heap.size) : QK w p kind [] [] (startW w kind) ∧ Below w.heap.size w (startW w kind) := by
  obtain ⟨f1, f2, f3⟩ := Box.two w (.int .i64 0) (.int .i64 0) (.string ⟨#[]⟩) (.slice none 0 0) (.slice none 0 0) (.int .i64 kind) (.int .i64 0) (.string ⟨#[]⟩) (.slice none 0 0) (.slice none 0 0)
  have f3 : Below w.heap.size w (startW w kind) := f3
  refine ⟨⟨⟨_, _, _, ⟨f2, World.ownsRow_nil _ _ _ _, Elems.nil _ _, World.ownsRow_nil _ _ _ _, fun b e => (by cases e), by omega, by unfold startW; simp⟩⟩, f1, Bes.of f3, hp⟩, f3⟩
theorem QS.set {w : World} {p : Nat} {s : ByteArray} {i n : Nat} {c x : Int} (h : QS w p s i n c x) {a : Addr} (ha : p < a.block) (u : Value) : QS (w.setCell a u) p s i n c x :=
  h.same ((Below.refl _ _).setCell ha u)
theorem QS.five {w : World} {p b : Nat} {s : ByteArray} {i n : Nat} {c x : Int} (h : QS w p s i n c x) (hb : p < b) (u0 u1 u2 u3 u4 : Value) : QS (((((w.setCell ⟨b, 0, none⟩ u0).setCell ⟨b, 1, none⟩ u1).setCell ⟨b, 2, none⟩ u2).setCell ⟨b, 3, none⟩ u3).setCell ⟨b, 4, none⟩ u4) p s i n c x :=
  ((((h.set (a := ⟨b, 0, none⟩) hb u0).set (a := ⟨b, 1, none⟩) hb u1).set (a := ⟨b, 2, none⟩) hb u2).set (a := ⟨b, 3, none⟩) hb u3).set (a := ⟨b, 4, none⟩) hb u4
/- What reading a value (a list, an object) gives. -/
def QVal (w : World) (p : Nat) (s : ByteArray) (i n : Nat) (r : Except Er (VT × Nat × Nat)) (e : Ending) (w' : World) : Prop :=
  (∃ t j m u c, r = .ok (t, j, m) ∧ e = .returned u ∧ RdS w' (Fresh w.heap.size w') u t ∧ QS w' p s j m 0 c ∧ Bes p w.heap.size w w' ∧ i ≤ j ∧ n ≤ m ∧ m ≤ 4096) ∨
  (∃ y j m u, r = .error y ∧ e = .returned u ∧ FiveV u ∧ QS w' p s j m y.2 y.1 ∧ y.2 ≠ 0 ∧ Bes p w.heap.size w w')
def QValAt (p : Nat) (s : ByteArray) (f level : Nat) : Prop := ∀ (i n : Nat) (c : Int) (w : World), QS w p s i n 0 c → n ≤ 4096 → s.size + 1 ≤ f + i →
  Calls Tryz.prog 11 #[pp p, .int .i64 level] w (QVal w p s i n (pv s f level i n))
def listR (s : ByteArray) (f level i n : Nat) : Except Er (VT × Nat × Nat) := match els s 93 (stepL (pv s f (level + 1))) [] i n with | .error e => .error e | .ok (a, j, n2) => .ok (VT.mk 5 0 ⟨#[]⟩ a [], j, n2)
theorem listR_ok {s : ByteArray} {f level i n : Nat} {a : List VT} {j m : Nat} (h : els s 93 (stepL (pv s f (level + 1))) [] i n = .ok (a, j, m)) : listR s f level i n = .ok (VT.mk 5 0 ⟨#[]⟩ a [], j, m) := by unfold listR; rw [h]
theorem listR_bad {s : ByteArray} {f level i n : Nat} {y : Er} (h : els s 93 (stepL (pv s f (level + 1))) [] i n = .error y) : listR s f level i n = .error y := by unfold listR; rw [h]
def objR (s : ByteArray) (f level i n : Nat) : Except Er (VT × Nat × Nat) := match els s 125 (stepO s (pv s f (level + 1))) ([], []) i n with | .error e => .error e | .ok (a, j, n2) => .ok (VT.mk 6 0 ⟨#[]⟩ a.2 a.1, j, n2)
theorem objR_ok {s : ByteArray} {f level i n : Nat} {a : List ByteArray × List VT} {j m : Nat} (h : els s 125 (stepO s (pv s f (level + 1))) ([], []) i n = .ok (a, j, m)) : objR s f level i n = .ok (VT.mk 6 0 ⟨#[]⟩ a.2 a.1, j, m) := by unfold objR; rw [h]
theorem objR_bad {s : ByteArray} {f level i n : Nat} {y : Er} (h : els s 125 (stepO s (pv s f (level + 1))) ([], []) i n = .error y) : objR s f level i n = .error y := by unfold objR; rw [h]
/- The result is written to its place. -/
theorem QK.fin {w W : World} {p : Nat} {kind : Int} {a : List VT} {ks : List ByteArray} (h : QK w p kind a ks W) (hk : small kind) (ha : a.length ≤ 1073741825) (hl : ks.length ≤ 1073741825) (hks : ∀ x ∈ ks, x.size ≤ 140737488351232) :
    ∃ (A : Option Addr) (c : Nat) (K : Option Addr) (d lv lq : Nat), Box W (w.heap.size + 1) (.int .i64 kind) (.int .i64 0) (.string ⟨#[]⟩) (.slice A lv c) (.slice K lq d) ∧
      RdS (((((W.setCell ⟨w.heap.size, 0, none⟩ (.int .i64 kind)).setCell ⟨w.heap.size, 1, none⟩ (.int .i64 0)).setCell ⟨w.heap.size, 2, none⟩ (.string ⟨#[]⟩)).setCell ⟨w.heap.size, 3, none⟩ (.slice A lv c)).setCell ⟨w.heap.size, 4, none⟩ (.slice K lq d)) (Fresh w.heap.size (((((W.setCell ⟨w.heap.size, 0, none⟩ (.int .i64 kind)).setCell ⟨w.heap.size, 1, none⟩ (.int .i64 0)).setCell ⟨w.heap.size, 2, none⟩ (.string ⟨#[]⟩)).setCell ⟨w.heap.size, 3, none⟩ (.slice A lv c)).setCell ⟨w.heap.size, 4, none⟩ (.slice K lq d))) (.agg #[.int .i64 kind, .int .i64 0, .string ⟨#[]⟩, .slice A lv c, .slice K lq d]) (.mk kind 0 ⟨#[]⟩ a ks) := by
  obtain ⟨v, v2, xs, hs⟩ := h.sv
  have hr := hs.read hk (by unfold small; omega) (by decide) (by omega) (by omega) hks
  obtain ⟨A, c, rfl⟩ := own_slice hs.own
  obtain ⟨K, d, rfl⟩ := own_slice hs.keys
  refine ⟨A, c, K, d, _, _, hs.box, hr.kept (fun b hb => ?_) (fun b hb => ?_)⟩
  · have hk : b ≠ w.heap.size := by have := hb.1; omega
    rw [Below.heap_setCell _ _ _ _ hk, Below.heap_setCell _ _ _ _ hk, Below.heap_setCell _ _ _ _ hk, Below.heap_setCell _ _ _ _ hk, Below.heap_setCell _ _ _ _ hk]
  · exact ⟨by have := hb.1; omega, by have := hb.2; simpa [World.setCell] using this⟩
end Go.Proofs.YtcbajgcblfgmgaaGreatDoor
namespace Go.Proofs.YtcbajgcblfgmgaaGreatDoor
open Go.RowKit
theorem memK_take {ks : List ByteArray} {j : Nat} {k x : ByteArray} (h : ks[j]? = some k) : memK (ks.take (j + 1)) x = (memK (ks.take j) x || decide (k = x)) := by
  obtain ⟨hj, e⟩ := List.getElem?_eq_some_iff.1 h
  rw [List.take_succ_eq_append_getElem hj, e]
  unfold memK
  rw [List.any_append, Bool.eq_iff_iff]
  simp only [Bool.or_eq_true, List.any_eq_true, decide_eq_true_eq, List.mem_singleton, exists_eq_left]
set_option maxRecDepth 100000 in
set_option maxHeartbeats 2000000 in
theorem qhas_any (ks : List ByteArray) (K : Option Addr) (d : Nat) (x : ByteArray) (w : World) (hK : ∀ j k, ks[j]? = some k → ∃ a, K = some a ∧ w.cell? (a.add j) = some (.string k)) (hl : ks.length ≤ 1073741825) :
    Calls Tryz.prog 50 #[.slice K ks.length d, .string x] w fun e w' => e = .returned (.bool (memK ks x)) ∧ w = w' := by
  have HK := Lib.hid hK
  clear hK
  go_enter Tryz.func50, Tryz.ntmps50
  go_wp2_with fail
  go_loopw [5] (fun i wr => ∃ j : Nat, j ≤ ks.length ∧ i = .int .i64 j ∧ memK (ks.take j) x = false ∧ wr = w) (fun i _ => ks.length - (intOf i).toNat)
  case atStart => exact ⟨0, Nat.zero_le _, rfl, rfl, rfl⟩
  case round =>
    obtain ⟨j, hj, rfl, hm, rfl⟩ := hrel
    have HM := Lib.hid hm
    clear hm
    by_cases hlt : j < ks.length
    · obtain ⟨k, hk⟩ : ∃ k, ks[j]? = some k := ⟨_, List.getElem?_eq_getElem hlt⟩
      obtain ⟨a, rfl, hc⟩ := HK.out j k hk
      have hlt' : (j : Int) < (ks.length : Int) := by omega
      have hmt : Hid (memK (ks.take (j + 1)) x = (memK (ks.take j) x || decide (k = x))) := Lib.hid (memK_take hk)
      have hin := Lib.hid (List.mem_of_getElem? hk)
      clear hk
      generalize hlen : ks.length = len at *
      by_cases hkx : k = x
      · subst hkx
        go_wp2_with fail
        refine bodyPost_ret (v := .bool true) (by simp [results, Tryz.results50, go_sem]) rfl ⟨?_, rfl⟩
        rw [(memK_iff ks k).2 hin.out]
      · have hne : (k.toList == x.toList) = false := by
          rw [beq_eq_false_iff_ne, Lib.toList_data, Lib.toList_data]
          exact fun e => hkx (ByteArray.ext (Array.toList_inj.1 e))
        have E : Hid (memK (ks.take (j + 1)) x = false) := Lib.hid (by rw [hmt.out, HM.out]; simp [hkx])
        clear hkx
        go_wp2_with fail
        go_roundw
        case rel => exact ⟨j + 1, by omega, by go_num, E.out, trivial⟩
        case measure => simp [intOf]; omega
    · have hlt' : ¬ (j : Int) < (ks.length : Int) := by omega
      have e : Hid (memK ks x = false) := Lib.hid (by have := HM.out; rwa [List.take_of_length_le (by omega)] at this)
      go_wp2_with fail
      refine bodyPost_ret (v := .bool false) (by simp [results, Tryz.results50, go_sem]) rfl ⟨?_, rfl⟩
      rw [e.out]
end Go.Proofs.YtcbajgcblfgmgaaGreatDoor
namespace Go.Proofs.YtcbajgcblfgmgaaGreatDoor
open Go.RowKit
abbrev aggW (k n : Int) (s : ByteArray) (v v2 : Value) : Obj := .cells #[.int .i64 k, .int .i64 n, .string s, v, v2] 26 (0, 0)
theorem QK.pushed0 {w w1 w2 w3 w4 : World} {p : Nat} {kind : Int} {a : List VT} {ks : List ByteArray} (h : QK w p kind a ks w1) (hb : Bes p w1.heap.size w1 w2) (h1 : Below (w.heap.size + 1) w2 w3) (h2 : Below (w.heap.size + 1) w3 w4) : Box w4 w.heap.size (.int .i64 0) (.int .i64 0) (.string ⟨#[]⟩) (.slice none 0 0) (.slice none 0 0) ∧ Bes p w.heap.size w w4 := by
  have hk := h.step hb
  have h3 := h1.trans h2
  exact ⟨(h3.block _ (by omega)).trans hk.bx, hk.bes.trans ((Bes.of h3).mono (by omega))⟩
theorem QK.pushed {w w1 w2 w3 w4 : World} {p : Nat} {kind : Int} {a a' : List VT} {ks ks' : List ByteArray} (h : QK w p kind a ks w1) (hb : Bes p w1.heap.size w1 w2) (h1 : Below (w.heap.size + 1) w2 w3) (h2 : Below (w.heap.size + 1) w3 w4) (hs : ∃ v v2 xs, SInv w4 (w.heap.size + 2) (w.heap.size + 1) kind 0 ⟨#[]⟩ a' ks' v v2 xs) : QK w p kind a' ks' w4 :=
  ⟨hs, (h.pushed0 hb h1 h2).1, (h.pushed0 hb h1 h2).2, h.hp⟩
def QLL (w : World) (p : Nat) (s : ByteArray) (f level i n : Nat) (wr : World) : Prop :=
  (∃ (a : List VT) (j m f2 : Nat) (c : Int), QK w p 5 a [] wr ∧ QS wr p s j m 0 c ∧ els s 93 (stepL (pv s f (level + 1))) [] i n = elsF s 93 (stepL (pv s f (level + 1))) f2 a j m ∧ s.size + 1 ≤ f2 + j ∧ i < j ∧ a.length ≤ j ∧ n ≤ m ∧ m ≤ 4096) ∨
  (∃ (y : Er) (j m : Nat), Box wr w.heap.size (.int .i64 0) (.int .i64 0) (.string ⟨#[]⟩) (.slice none 0 0) (.slice none 0 0) ∧ Bes p w.heap.size w wr ∧ QS wr p s j m y.2 y.1 ∧ y.2 ≠ 0 ∧ els s 93 (stepL (pv s f (level + 1))) [] i n = .error y)
set_option maxRecDepth 100000 in
set_option maxHeartbeats 8000000 in
theorem qlist_any {p : Nat} {s : ByteArray} {f level : Nat} (hv : QValAt p s f (level + 1)) (hl : level ≤ 24) (w : World) (i n : Nat) (c0 : Int) (h : QS w p s i n 0 c0) (hi : i < s.size) (hn : n ≤ 4096) (hf : s.size ≤ f + i) :
    Calls Tryz.prog 27 #[pp p, .int .i64 level] w (QVal w p s i n (listR s f level i n)) := by
  have hs := h.hs
  have HPN := Lib.hid h.lt
  have HV := Lib.hid hv
  obtain ⟨hk1, hb1⟩ := QK.start w p 5 h.lt
  have HQ1 := Lib.hid (h.kept hb1)
  have HK1 := Lib.hid hk1
  have HB1 := Lib.hid hb1
  have HSZ1 : Hid ((startW w 5).heap.size = w.heap.size + 2) := Lib.hid (by unfold startW; simp)
  obtain ⟨q0, q1, q2, q3, q4⟩ := HQ1.out.box.cells
  have f1 := HQ1.out.box.frz 1
  have HQ2 : Hid (QS ((startW w 5).setCell ⟨p, 1, none⟩ (.int .i64 ((i : Int) + 1))) p s (i + 1) n 0 c0) := Lib.hid (by have := HQ1.out.at1 (j := i + 1) hi; simpa using this)
  have HK2 : Hid (QK w p 5 [] [] ((startW w 5).setCell ⟨p, 1, none⟩ (.int .i64 ((i : Int) + 1)))) := Lib.hid (HK1.out.step ((Bes.refl _ _ _).set 1 _))
  unfold startW at q0 q1 q2 q3 q4 f1 HQ2 HK2
  clear h hv hk1 hb1 HQ1 HK1 HB1 HSZ1
  go_enter Tryz.func27, Tryz.ntmps27
  go_wp2_with fail
  refine (qskip_any HQ2.out).mono ?_
  rintro e w2 ⟨rfl, hp, hb⟩
  have HQ3 := Lib.hid hp
  have HK3 := Lib.hid (HK2.out.step hb)
  have hq1 := sk_le spL s (i + 1)
  obtain ⟨q, hq⟩ : ∃ q, q = sk spL s (i + 1) := ⟨_, rfl⟩
  rw [← hq] at HQ3 hq1
  have E0 : Hid (els s 93 (stepL (pv s f (level + 1))) [] i n = if bt s q = 93 then .ok ([], q + 1, n) else elsF s 93 (stepL (pv s f (level + 1))) (s.size + 1) [] q n) := Lib.hid (by unfold els; rw [hq])
  clear hp hb q0 q1 q2 q3 q4 f1 HQ2 HK2 hq
  go_wp2_with fail
  refine (qnext_any HQ3.out).mono ?_
  rintro e w3 ⟨rfl, hb⟩
  have HQ4 := Lib.hid (HQ3.out.kept hb)
  have HK4 := Lib.hid (HK3.out.step (Bes.of hb))
  clear hb HQ3 HK3
  by_cases hc : bt s q = 93
  · have hcc : (((bt s q).toNat : Int) == 93) = true := u8_beq' 93 hc
    have hqs : q < s.size := lt_of_bt (by rw [hc]; decide)
    have E1 : Hid ((listR s f level i n) = .ok (VT.mk 5 0 ⟨#[]⟩ [] [], q + 1, n)) := Lib.hid (listR_ok (by rw [E0.out, if_pos hc]))
    obtain ⟨q0, q1, q2, q3, q4⟩ := HQ4.out.box.cells
    have f1 := HQ4.out.box.frz 1
    have HQ5 : Hid (QS ((w3).setCell ⟨p, 1, none⟩ (.int .i64 ((q : Int) + 1))) p s (q + 1) n 0 c0) := Lib.hid (by have := HQ4.out.at1 (j := q + 1) hqs; simpa using this)
    have HK5 : Hid (QK w p 5 [] [] ((w3).setCell ⟨p, 1, none⟩ (.int .i64 ((q : Int) + 1)))) := Lib.hid (HK4.out.step ((Bes.refl _ _ _).set 1 _))
    clear hc
    have hhi : i ≤ q + 1 := by omega
    obtain ⟨Av, cv, Kv, dv, lv, lq, hbo, hrd⟩ := HK5.out.fin (by unfold small; omega) (by simp) (by simp) (by simp)
    have HRD := Lib.hid hrd
    have BXN := Lib.hid HK5.out.bx
    obtain ⟨o0, o1, o2, o3, o4⟩ := hbo.cells
    obtain ⟨y0, y1, y2, y3, y4⟩ := BXN.out.cells
    have g0 := BXN.out.frz 0
    have g1 := BXN.out.frz 1
    have g2 := BXN.out.frz 2
    have g3 := BXN.out.frz 3
    have g4 := BXN.out.frz 4
    clear hrd hbo
    have ZZ := Lib.hid (Box.five BXN.out (.int .i64 5) (.int .i64 0) (.string ⟨#[]⟩) (.slice Av lv cv) (.slice Kv lq dv)).cells
    go_wp2_with fail
    obtain ⟨z0, z1, z2, z3, z4⟩ := ZZ.out
    refine bodyPost_ret (v := .agg #[.int .i64 5, .int .i64 0, .string ⟨#[]⟩, .slice Av lv cv, .slice Kv lq dv]) (by simp [results, Tryz.results27, go_sem, z0, z1, z2, z3, z4]) rfl (.inl ⟨_, _, _, _, _, E1.out, rfl, HRD.out, HQ5.out.five HK5.out.hp _ _ _ _ _, Bes.five HK5.out.bes (Nat.le_refl _) _ _ _ _ _, hhi, Nat.le_refl _, hn⟩)
  · have hcc : (((bt s q).toNat : Int) == 93) = false := u8_beq 93 hc
    have E1 : Hid (els s 93 (stepL (pv s f (level + 1))) [] i n = elsF s 93 (stepL (pv s f (level + 1))) (s.size + 1) [] q n) := Lib.hid (by rw [E0.out, if_neg hc])
    clear hc E0
    go_wp2_with fail
    go_loopw [6] (fun v wr => QLL w p s f level i n wr) (fun v wr => qm s p wr)
    case atStart => exact .inl ⟨[], q, n, s.size + 1, c0, HK4.out, HQ4.out, E1.out, by omega, by omega, Nat.zero_le _, Nat.le_refl _, hn⟩
    case round =>
      clear HQ4 HK4 E1
      rcases hrel with ⟨a, j, m, f2, c, hk, hp, he, hff, hij, ham, hnm, hm4⟩ | ⟨y, j, m, hbx, hbe, hp, hy, he⟩
      · have hj := hp.hi
        have hm := Lib.hid (qm_on hp)
        obtain ⟨f2, rfl⟩ : ∃ g, f2 = g + 1 := ⟨f2 - 1, by omega⟩
        have HQJ := Lib.hid hp
        have HKJ := Lib.hid hk
        have HE := Lib.hid he
        have HC := Lib.hid (HV.out j m c _ hp hm4 (by omega))
        obtain ⟨q0, q1, q2, q3, q4⟩ := HQJ.out.box.cells
        clear hk hp he
        have hlv : (level : Int) + 1 = ((level + 1 : Nat) : Int) := by omega
        rw [← hlv] at HC
        clear hlv
        go_wp2_with fail
        refine HC.out.mono ?_
        intro e w4 hh
        clear HC
        rcases hh with ⟨t, j1, m1, u, c1, hr, rfl, hu, hp1, hb1, hij1, hnm1, hm41⟩ | ⟨y, j1, m1, u, hr, rfl, hu5, hp1, hy, hb1⟩
        · have hst : stepL (pv s f (level + 1)) a j m = .ok (a ++ [t], j1, m1) := by unfold stepL; rw [hr]
          obtain ⟨qq, hqq⟩ : ∃ qq, qq = sk spL s j1 := ⟨_, rfl⟩
          have HE2 : Hid (els s 93 (stepL (pv s f (level + 1))) [] i n = if bt s qq = 93 then .ok (a ++ [t], qq + 1, m1) else if bt s qq = 44 then elsF s 93 (stepL (pv s f (level + 1))) f2 (a ++ [t]) (qq + 1) m1 else .error (qq, 3)) := Lib.hid (by rw [HE.out, elsF, hst, hqq])
          have hjq := sk_le spL s j1
          have hqs := sk_hi spL s j1 hp1.hi
          rw [← hqq] at hjq hqs
          have HSK : Hid (sk spL s j1 = qq) := Lib.hid hqq.symm
          clear hst hr HE hqq
          obtain ⟨k6, n6, s6, A6, li6, ci6, K6, lk6, ck6, rfl⟩ := hu.fiveV
          obtain ⟨v, v2, xs, hS⟩ := HKJ.out.sv
          have HS := Lib.hid hS
          have HS4 := Lib.hid (hS.bes hb1 (by have := HPN.out; omega))
          obtain ⟨Av, cv, rfl⟩ := own_slice hS.own
          clear hS
          have b1 : Below w4.heap.size w4 ((w4.alloc (aggW k6 n6 s6 (.slice A6 li6 ci6) (.slice K6 lk6 ck6))).alloc (aggW k6 n6 s6 (.slice A6 li6 ci6) (.slice K6 lk6 ck6))) := ((Below.refl _ _).alloc (Nat.le_refl _) _).alloc (by simp) _
          have HSW := Lib.hid (HS4.out.below b1)
          have HS3 := Lib.hid (HS4.out.below ((Below.refl _ _).alloc (Nat.le_refl _) (aggW k6 n6 s6 (.slice A6 li6 ci6) (.slice K6 lk6 ck6))))
          have HX := Lib.hid (Box.new w4 (.int .i64 k6) (.int .i64 n6) (.string s6) (.slice A6 li6 ci6) (.slice K6 lk6 ck6))
          have HNK : Hid (∀ (q : Nat) (x : Value), [Value.int .i64 k6, .int .i64 n6, .string s6, .slice A6 li6 ci6, .slice K6 lk6 ck6][q]? = some x → ((w4.alloc (aggW k6 n6 s6 (.slice A6 li6 ci6) (.slice K6 lk6 ck6))).alloc (aggW k6 n6 s6 (.slice A6 li6 ci6) (.slice K6 lk6 ck6))).cell? ((⟨w4.heap.size + 1, 0, none⟩ : Addr).add q) = some x) := Lib.hid (by
            have h := cells_Z (w4.alloc (aggW k6 n6 s6 (.slice A6 li6 ci6) (.slice K6 lk6 ck6))) [Value.int .i64 k6, .int .i64 n6, .string s6, .slice A6 li6 ci6, .slice K6 lk6 ck6] 26
            rw [World.size_alloc] at h
            exact h)
          have HNE : Hid ((Value.slice Av a.length cv).ownBlock ≠ some (w.heap.size + 1)) := Lib.hid (fun e => by have := own_lt HS.out.own e; omega)
          have HP4 := Lib.hid hp1
          have HBB := Lib.hid hb1
          have B4 := Lib.hid b1
          have hbs := HS4.out.bw
          have hszW : w.heap.size + 2 ≤ ((w4.alloc (aggW k6 n6 s6 (.slice A6 li6 ci6) (.slice K6 lk6 ck6))).alloc (aggW k6 n6 s6 (.slice A6 li6 ci6) (.slice K6 lk6 ck6))).heap.size := by simp; omega
          have hal : a.length ≤ 1073741824 := by omega
          obtain ⟨i0, hi0, hz0, hz1, hz2⟩ := info_parts5 infoVal
          obtain ⟨k0, k1, k2, k3, k4⟩ := HS3.out.box.cells
          obtain ⟨x0, x1, x2, x3, x4⟩ := HX.out.cells
          clear q0 q1 q2 q3 q4
          have HU := Lib.hid (hu.kept (fun b hb => b1.block b hb.2) (fun b hb => (⟨by have := hb.1; have := HS.out.bw; omega, Nat.lt_of_lt_of_le hb.2 b1.size, fun e => by have := own_lt HS.out.own e; have := hb.1; omega, fun e => by have := own_lt HS.out.keys e; have := hb.1; omega⟩ : w.heap.size + 2 ≤ b ∧ b < ((w4.alloc (aggW k6 n6 s6 (.slice A6 li6 ci6) (.slice K6 lk6 ck6))).alloc (aggW k6 n6 s6 (.slice A6 li6 ci6) (.slice K6 lk6 ck6))).heap.size ∧ (Value.slice Av a.length cv).ownBlock ≠ some b ∧ v2.ownBlock ≠ some b)))
          clear hu hb1 hp1 b1
          go_wp2_with (at_builtin; refine wpList_append_lies _ rfl _ _ 23 rfl (w.heap.size + 2) 26 i0 (.agg #[.int .i64 0, .int .i64 0, .string ⟨#[]⟩, .slice none 0 0, .slice none 0 0]) 5 80 Tryz.underlying23 hi0 hz0 hz1 hz2 rfl (by decide) (.slice Av a.length cv) a.length xs rfl HSW.out.own ⟨w4.heap.size + 1, 0, none⟩ 1 1 [.int .i64 k6, .int .i64 n6, .string s6, .slice A6 li6 ci6, .slice K6 lk6 ck6] rfl rfl HNK.out (by intro u hu; simp at hu; rcases hu with rfl | rfl | rfl | rfl | rfl <;> rfl) (by decide) (by unfold maxLen; omega) (by omega) hszW _ rfl ?_; intro gg cap2 w5 e1 e2 e3 e4; have HBX4 := Box.grown HSW.out.box e2 HNE.out; have r3 := HBX4.cells.2.2.2.1; have f3 := HBX4.frz 3)
          clear k0 k1 k2 k3 k4 x0 x1 x2 x3 x4
          have hpk := SInv.pushItem HSW.out HU.out e1 e2 (by simpa using e3)
          have HK5 : Hid (QK w p 5 (a ++ [t]) [] (w5.setCell ⟨w.heap.size + 1, 3, none⟩ (.slice (some ⟨gg, 0, none⟩) (a.length + 1) cap2))) := Lib.hid (QK.pushed HKJ.out HBB.out (B4.out.mono (by omega)) hpk.2 ⟨_, _, _, hpk.1⟩)
          have HQ5 := Lib.hid (HP4.out.same (((B4.out.mono (show p + 1 ≤ w4.heap.size by have := HPN.out; omega))).trans (hpk.2.mono (show p + 1 ≤ w.heap.size + 1 by have := HPN.out; omega))))
          clear hpk HU HSW HS3 HX HS HS4 HKJ HQJ HNK HNE HBX4 r3 f3
          refine (qskip_any HQ5.out).mono ?_
          rintro e w6 ⟨rfl, hp6, hb6⟩
          have HQ6 := Lib.hid hp6
          have HK6 := Lib.hid (HK5.out.step hb6)
          clear hp6 hb6 HK5 HQ5
          rw [HSK.out] at HQ6
          obtain ⟨q0, q1, q2, q3, q4⟩ := HQ6.out.box.cells
          go_wp2_with fail
          refine (qnext_any HQ6.out).mono ?_
          rintro e w7 ⟨rfl, hb⟩
          have HQ7 := Lib.hid (HQ6.out.kept hb)
          have HK7 := Lib.hid (HK6.out.step (Bes.of hb))
          clear hb HQ6 HK6 q0 q1 q2 q3 q4
          by_cases h93 : bt s qq = 93
          · have hcc : (((bt s qq).toNat : Int) == 93) = true := u8_beq' 93 h93
            have hq2s : qq < s.size := lt_of_bt (by rw [h93]; decide)
            have E2 : Hid (listR s f level i n = .ok (VT.mk 5 0 ⟨#[]⟩ (a ++ [t]) [], qq + 1, m1)) := Lib.hid (listR_ok (by rw [HE2.out, if_pos h93]))
            obtain ⟨q0, q1, q2, q3, q4⟩ := HQ7.out.box.cells
            have f1 := HQ7.out.box.frz 1
            have HQ8 : Hid (QS ((w7).setCell ⟨p, 1, none⟩ (.int .i64 ((qq : Int) + 1))) p s (qq + 1) m1 0 c1) := Lib.hid (by have := HQ7.out.at1 (j := qq + 1) hq2s; simpa using this)
            have HK8 : Hid (QK w p 5 (a ++ [t]) [] ((w7).setCell ⟨p, 1, none⟩ (.int .i64 ((qq : Int) + 1)))) := Lib.hid (HK7.out.step ((Bes.refl _ _ _).set 1 _))
            have hhi : i ≤ qq + 1 := by omega
            have hhn : n ≤ m1 := by omega
            have hlen : (a ++ [t]).length ≤ 1073741825 := by simp; omega
            clear h93
            obtain ⟨Av, cv, Kv, dv, lv, lq, hbo, hrd⟩ := HK8.out.fin (by unfold small; omega) hlen (by simp) (by simp)
            have HRD := Lib.hid hrd
            have BXN := Lib.hid HK8.out.bx
            obtain ⟨o0, o1, o2, o3, o4⟩ := hbo.cells
            obtain ⟨y0, y1, y2, y3, y4⟩ := BXN.out.cells
            have g0 := BXN.out.frz 0
            have g1 := BXN.out.frz 1
            have g2 := BXN.out.frz 2
            have g3 := BXN.out.frz 3
            have g4 := BXN.out.frz 4
            clear hrd hbo
            have ZZ := Lib.hid (Box.five BXN.out (.int .i64 5) (.int .i64 0) (.string ⟨#[]⟩) (.slice Av lv cv) (.slice Kv lq dv)).cells
            go_wp2_with fail
            obtain ⟨z0, z1, z2, z3, z4⟩ := ZZ.out
            refine bodyPost_ret (v := .agg #[.int .i64 5, .int .i64 0, .string ⟨#[]⟩, .slice Av lv cv, .slice Kv lq dv]) (by simp [results, Tryz.results27, go_sem, z0, z1, z2, z3, z4]) rfl (.inl ⟨_, _, _, _, _, E2.out, rfl, HRD.out, HQ8.out.five HK8.out.hp _ _ _ _ _, Bes.five HK8.out.bes (Nat.le_refl _) _ _ _ _ _, hhi, hhn, hm41⟩)
          · have hcc : (((bt s qq).toNat : Int) == 93) = false := u8_beq 93 h93
            have HWD := Lib.hid (qword_any HQ7.out ⟨#[44]⟩ (by decide) (by decide))
            by_cases h44 : bt s qq = 44
            · have hq2s : qq < s.size := lt_of_bt (by rw [h44]; decide)
              have EW : wordR s [44] qq = .ok (qq + 1) := by unfold wordR takeR; rw [h44, if_pos (by decide)]; rfl
              have E2 : Hid (els s 93 (stepL (pv s f (level + 1))) [] i n = elsF s 93 (stepL (pv s f (level + 1))) f2 (a ++ [t]) (qq + 1) m1) := Lib.hid (by rw [HE2.out, if_neg h93, if_pos h44])
              clear h93 h44
              go_wp2_with fail
              refine HWD.out.mono ?_
              rintro e w8 ⟨rfl, hr8, hb8⟩
              rw [EW] at hr8
              obtain ⟨c8, hp8⟩ := hr8
              have HQ8 := Lib.hid hp8
              have HK8 := Lib.hid (HK7.out.step hb8)
              have hm8 := Lib.hid (qm_on hp8)
              clear hp8 hb8 EW
              go_wp2_with fail
              go_roundw
              case rel => exact .inl ⟨a ++ [t], qq + 1, m1, f2, c8, HK8.out, HQ8.out, E2.out, by omega, by omega, by simp; omega, by omega, hm41⟩
              case measure => rw [hm.out, hm8.out]; omega
            · have EW : wordR s [44] qq = .error (qq, 3) := by unfold wordR takeR; rw [isIn_eq, if_neg (by simp [h44])]
              have E2 : Hid (els s 93 (stepL (pv s f (level + 1))) [] i n = .error (qq, 3)) := Lib.hid (by rw [HE2.out, if_neg h93, if_neg h44])
              clear h93 h44
              go_wp2_with fail
              refine HWD.out.mono ?_
              rintro e w8 ⟨rfl, hr8, hb8⟩
              rw [EW] at hr8
              obtain ⟨j8, hp8, hy8⟩ := hr8
              have HQ8 := Lib.hid hp8
              have HK8 := Lib.hid (HK7.out.step hb8)
              have hm8 := Lib.hid (qm_off hp8 hy8)
              have HY8 := Lib.hid hy8
              clear hp8 hb8 EW hy8
              go_wp2_with fail
              go_roundw
              case rel => exact .inr ⟨(qq, 3), j8, m1, HK8.out.bx, HK8.out.bes, HQ8.out, HY8.out, E2.out⟩
              case measure => rw [hm.out, hm8.out]; omega
        · have hst : stepL (pv s f (level + 1)) a j m = .error y := by unfold stepL; rw [hr]
          have E2 : Hid (els s 93 (stepL (pv s f (level + 1))) [] i n = .error y) := Lib.hid (by rw [HE.out, elsF, hst])
          clear hst hr HE
          obtain ⟨k6, n6, s6, A6, li6, ci6, K6, lk6, ck6, rfl⟩ := hu5
          obtain ⟨v, v2, xs, hS⟩ := HKJ.out.sv
          have HS := Lib.hid hS
          have HS4 := Lib.hid (hS.bes hb1 (by have := HPN.out; omega))
          obtain ⟨Av, cv, rfl⟩ := own_slice hS.own
          clear hS
          have HY := Lib.hid hy
          have b1 : Below w4.heap.size w4 ((w4.alloc (aggW k6 n6 s6 (.slice A6 li6 ci6) (.slice K6 lk6 ck6))).alloc (aggW k6 n6 s6 (.slice A6 li6 ci6) (.slice K6 lk6 ck6))) := ((Below.refl _ _).alloc (Nat.le_refl _) _).alloc (by simp) _
          have HSW := Lib.hid (HS4.out.below b1)
          have HS3 := Lib.hid (HS4.out.below ((Below.refl _ _).alloc (Nat.le_refl _) (aggW k6 n6 s6 (.slice A6 li6 ci6) (.slice K6 lk6 ck6))))
          have HX := Lib.hid (Box.new w4 (.int .i64 k6) (.int .i64 n6) (.string s6) (.slice A6 li6 ci6) (.slice K6 lk6 ck6))
          have HNK : Hid (∀ (q : Nat) (x : Value), [Value.int .i64 k6, .int .i64 n6, .string s6, .slice A6 li6 ci6, .slice K6 lk6 ck6][q]? = some x → ((w4.alloc (aggW k6 n6 s6 (.slice A6 li6 ci6) (.slice K6 lk6 ck6))).alloc (aggW k6 n6 s6 (.slice A6 li6 ci6) (.slice K6 lk6 ck6))).cell? ((⟨w4.heap.size + 1, 0, none⟩ : Addr).add q) = some x) := Lib.hid (by
            have h := cells_Z (w4.alloc (aggW k6 n6 s6 (.slice A6 li6 ci6) (.slice K6 lk6 ck6))) [Value.int .i64 k6, .int .i64 n6, .string s6, .slice A6 li6 ci6, .slice K6 lk6 ck6] 26
            rw [World.size_alloc] at h
            exact h)
          have HNE : Hid ((Value.slice Av a.length cv).ownBlock ≠ some (w.heap.size + 1)) := Lib.hid (fun e => by have := own_lt HS.out.own e; omega)
          have HP4 := Lib.hid hp1
          have HBB := Lib.hid hb1
          have B4 := Lib.hid b1
          have hbs := HS4.out.bw
          have hszW : w.heap.size + 2 ≤ ((w4.alloc (aggW k6 n6 s6 (.slice A6 li6 ci6) (.slice K6 lk6 ck6))).alloc (aggW k6 n6 s6 (.slice A6 li6 ci6) (.slice K6 lk6 ck6))).heap.size := by simp; omega
          have hal : a.length ≤ 1073741824 := by omega
          obtain ⟨i0, hi0, hz0, hz1, hz2⟩ := info_parts5 infoVal
          obtain ⟨k0, k1, k2, k3, k4⟩ := HS3.out.box.cells
          obtain ⟨x0, x1, x2, x3, x4⟩ := HX.out.cells
          clear q0 q1 q2 q3 q4
          clear hb1 hp1 b1 hy
          go_wp2_with (at_builtin; refine wpList_append_lies _ rfl _ _ 23 rfl (w.heap.size + 2) 26 i0 (.agg #[.int .i64 0, .int .i64 0, .string ⟨#[]⟩, .slice none 0 0, .slice none 0 0]) 5 80 Tryz.underlying23 hi0 hz0 hz1 hz2 rfl (by decide) (.slice Av a.length cv) a.length xs rfl HSW.out.own ⟨w4.heap.size + 1, 0, none⟩ 1 1 [.int .i64 k6, .int .i64 n6, .string s6, .slice A6 li6 ci6, .slice K6 lk6 ck6] rfl rfl HNK.out (by intro u hu; simp at hu; rcases hu with rfl | rfl | rfl | rfl | rfl <;> rfl) (by decide) (by unfold maxLen; omega) (by omega) hszW _ rfl ?_; intro gg cap2 w5 e1 e2 e3 e4; have HBX4 := Box.grown HSW.out.box e2 HNE.out; have r3 := HBX4.cells.2.2.2.1; have f3 := HBX4.frz 3)
          clear k0 k1 k2 k3 k4 x0 x1 x2 x3 x4
          have hpk := SInv.push0 (.slice (some ⟨gg, 0, none⟩) (a.length + 1) cap2) HSW.out e2
          have HKB : Hid (Box (w5.setCell ⟨w.heap.size + 1, 3, none⟩ (.slice (some ⟨gg, 0, none⟩) (a.length + 1) cap2)) w.heap.size (.int .i64 0) (.int .i64 0) (.string ⟨#[]⟩) (.slice none 0 0) (.slice none 0 0) ∧ Bes p w.heap.size w (w5.setCell ⟨w.heap.size + 1, 3, none⟩ (.slice (some ⟨gg, 0, none⟩) (a.length + 1) cap2))) := Lib.hid (QK.pushed0 HKJ.out HBB.out (B4.out.mono (by omega)) hpk)
          have HQ5 := Lib.hid (HP4.out.same (((B4.out.mono (show p + 1 ≤ w4.heap.size by have := HPN.out; omega))).trans (hpk.mono (show p + 1 ≤ w.heap.size + 1 by have := HPN.out; omega))))
          have HSZ : Hid (w.heap.size + 1 ≤ (w5.setCell ⟨w.heap.size + 1, 3, none⟩ (.slice (some ⟨gg, 0, none⟩) (a.length + 1) cap2)).heap.size) := Lib.hid (by have := hpk.size; have := B4.out.size; omega)
          clear hpk HSW HS3 HX HS HS4 HKJ HQJ HNK HNE HBX4 r3 f3
          refine (qskip_any HQ5.out).mono ?_
          rintro e w6 ⟨rfl, hp6, hb6⟩
          have HQ6 := Lib.hid hp6
          have HBX6 := Lib.hid (HKB.out.1.bes hb6 (by have := HSZ.out; omega) HPN.out)
          have HBE6 := Lib.hid (HKB.out.2.trans (hb6.mono (by have := HSZ.out; omega)))
          have HSZ6 : Hid (w.heap.size + 1 ≤ w6.heap.size) := Lib.hid (by have := hb6.size; have := HSZ.out; omega)
          clear hp6 hb6 HKB HQ5 HSZ
          obtain ⟨q0, q1, q2, q3, q4⟩ := HQ6.out.box.cells
          have hy1 : (y.2 == 0) = false := by have := HY.out; simpa using this
          go_wp2_with fail
          refine (qword_no HQ6.out HY.out ⟨#[44]⟩).mono ?_
          rintro e w8 ⟨rfl, hb8⟩
          have HQ8 := Lib.hid (HQ6.out.kept hb8)
          have HBX8 := Lib.hid (HBX6.out.kept hb8)
          have HBE8 := Lib.hid (HBE6.out.trans ((Bes.of hb8).mono (by have := HSZ6.out; omega)))
          have hm8 := Lib.hid (qm_off HQ8.out HY.out)
          clear hb8 hy1 q0 q1 q2 q3 q4
          go_wp2_with fail
          go_roundw
          case rel => exact .inr ⟨y, _, m1, HBX8.out, HBE8.out, HQ8.out, HY.out, E2.out⟩
          case measure => rw [hm.out, hm8.out]; omega
      · have HQJ := Lib.hid hp
        have HY := Lib.hid hy
        have E2 : Hid ((listR s f level i n) = .error y) := Lib.hid (listR_bad he)
        have HKB := And.intro hbx hbe
        obtain ⟨q0, q1, q2, q3, q4⟩ := HQJ.out.box.cells
        have hy1 : (y.2 == 0) = false := by simpa using hy
        clear hp hy he hbx hbe
        have BXN := Lib.hid HKB.1
        obtain ⟨y0, y1, y2, y3, y4⟩ := BXN.out.cells
        have g0 := BXN.out.frz 0
        have g1 := BXN.out.frz 1
        have g2 := BXN.out.frz 2
        have g3 := BXN.out.frz 3
        have g4 := BXN.out.frz 4
        have ZZ := Lib.hid (Box.five BXN.out (.int .i64 0) (.int .i64 0) (.string ⟨#[]⟩) (.slice none 0 0) (.slice none 0 0)).cells
        go_wp2_with fail
        obtain ⟨z0, z1, z2, z3, z4⟩ := ZZ.out
        refine bodyPost_ret (v := .agg #[.int .i64 0, .int .i64 0, .string ⟨#[]⟩, .slice none 0 0, .slice none 0 0]) (by simp [results, Tryz.results27, go_sem, z0, z1, z2, z3, z4]) rfl (.inr ⟨_, _, _, _, E2.out, rfl, ⟨_, _, _, _, _, _, _, _, _, rfl⟩, HQJ.out.five HPN.out _ _ _ _ _, HY.out, Bes.five HKB.2 (Nat.le_refl _) _ _ _ _ _⟩)
end Go.Proofs.YtcbajgcblfgmgaaGreatDoor
namespace Go.Proofs.YtcbajgcblfgmgaaGreatDoor
open Go.RowKit
theorem cells_news (w : World) (n : Nat) (hn : w.heap.size = n) (xs : List Value) (ty : TypeId) : ∀ (q : Nat) (x : Value), xs[q]? = some x → (w.alloc (.cells xs.toArray ty (0, 0))).cell? ((⟨n, 0, none⟩ : Addr).add q) = some x := by
  subst hn
  exact cells_Z w xs ty
def QLO (w : World) (p : Nat) (s : ByteArray) (f level i n : Nat) (wr : World) : Prop :=
  (∃ (a : List ByteArray × List VT) (j m f2 : Nat) (c : Int), QK w p 6 a.2 a.1 wr ∧ QS wr p s j m 0 c ∧ els s 125 (stepO s (pv s f (level + 1))) ([], []) i n = elsF s 125 (stepO s (pv s f (level + 1))) f2 a j m ∧ s.size + 1 ≤ f2 + j ∧ i < j ∧ (a.2.length ≤ j ∧ a.1.length ≤ j ∧ ∀ x ∈ a.1, x.size ≤ 140737488351232) ∧ n ≤ m ∧ m ≤ 4096) ∨
  (∃ (y : Er) (j m : Nat), Box wr w.heap.size (.int .i64 0) (.int .i64 0) (.string ⟨#[]⟩) (.slice none 0 0) (.slice none 0 0) ∧ Bes p w.heap.size w wr ∧ QS wr p s j m y.2 y.1 ∧ y.2 ≠ 0 ∧ els s 125 (stepO s (pv s f (level + 1))) ([], []) i n = .error y)
set_option maxRecDepth 100000 in
set_option maxHeartbeats 8000000 in
theorem qobject_any {p : Nat} {s : ByteArray} {f level : Nat} (hv : QValAt p s f (level + 1)) (hl : level ≤ 24) (w : World) (i n : Nat) (c0 : Int) (h : QS w p s i n 0 c0) (hi : i < s.size) (hn : n ≤ 4096) (hf : s.size ≤ f + i) :
    Calls Tryz.prog 28 #[pp p, .int .i64 level] w (QVal w p s i n (objR s f level i n)) := by
  have hs := h.hs
  have HPN := Lib.hid h.lt
  have HV := Lib.hid hv
  obtain ⟨hk1, hb1⟩ := QK.start w p 6 h.lt
  have HQ1 := Lib.hid (h.kept hb1)
  have HK1 := Lib.hid hk1
  have HB1 := Lib.hid hb1
  have HSZ1 : Hid ((startW w 6).heap.size = w.heap.size + 2) := Lib.hid (by unfold startW; simp)
  obtain ⟨q0, q1, q2, q3, q4⟩ := HQ1.out.box.cells
  have f1 := HQ1.out.box.frz 1
  have HQ2 : Hid (QS ((startW w 6).setCell ⟨p, 1, none⟩ (.int .i64 ((i : Int) + 1))) p s (i + 1) n 0 c0) := Lib.hid (by have := HQ1.out.at1 (j := i + 1) hi; simpa using this)
  have HK2 : Hid (QK w p 6 [] [] ((startW w 6).setCell ⟨p, 1, none⟩ (.int .i64 ((i : Int) + 1)))) := Lib.hid (HK1.out.step ((Bes.refl _ _ _).set 1 _))
  unfold startW at q0 q1 q2 q3 q4 f1 HQ2 HK2
  clear h hv hk1 hb1 HQ1 HK1 HB1 HSZ1
  go_enter Tryz.func28, Tryz.ntmps28
  go_wp2_with fail
  refine (qskip_any HQ2.out).mono ?_
  rintro e w2 ⟨rfl, hp, hb⟩
  have HQ3 := Lib.hid hp
  have HK3 := Lib.hid (HK2.out.step hb)
  have hq1 := sk_le spL s (i + 1)
  obtain ⟨q, hq⟩ : ∃ q, q = sk spL s (i + 1) := ⟨_, rfl⟩
  rw [← hq] at HQ3 hq1
  have E0 : Hid (els s 125 (stepO s (pv s f (level + 1))) ([], []) i n = if bt s q = 125 then .ok (([], []), q + 1, n) else elsF s 125 (stepO s (pv s f (level + 1))) (s.size + 1) ([], []) q n) := Lib.hid (by unfold els; rw [hq])
  clear hp hb q0 q1 q2 q3 q4 f1 HQ2 HK2 hq
  go_wp2_with fail
  refine (qnext_any HQ3.out).mono ?_
  rintro e w3 ⟨rfl, hb⟩
  have HQ4 := Lib.hid (HQ3.out.kept hb)
  have HK4 := Lib.hid (HK3.out.step (Bes.of hb))
  clear hb HQ3 HK3
  by_cases hc : bt s q = 125
  · have hcc : (((bt s q).toNat : Int) == 125) = true := u8_beq' 125 hc
    have hqs : q < s.size := lt_of_bt (by rw [hc]; decide)
    have E1 : Hid ((objR s f level i n) = .ok (VT.mk 6 0 ⟨#[]⟩ [] [], q + 1, n)) := Lib.hid (objR_ok (by rw [E0.out, if_pos hc]))
    obtain ⟨q0, q1, q2, q3, q4⟩ := HQ4.out.box.cells
    have f1 := HQ4.out.box.frz 1
    have HQ5 : Hid (QS ((w3).setCell ⟨p, 1, none⟩ (.int .i64 ((q : Int) + 1))) p s (q + 1) n 0 c0) := Lib.hid (by have := HQ4.out.at1 (j := q + 1) hqs; simpa using this)
    have HK5 : Hid (QK w p 6 [] [] ((w3).setCell ⟨p, 1, none⟩ (.int .i64 ((q : Int) + 1)))) := Lib.hid (HK4.out.step ((Bes.refl _ _ _).set 1 _))
    clear hc
    have hhi : i ≤ q + 1 := by omega
    obtain ⟨Av, cv, Kv, dv, lv, lq, hbo, hrd⟩ := HK5.out.fin (by unfold small; omega) (by simp) (by simp) (by simp)
    have HRD := Lib.hid hrd
    have BXN := Lib.hid HK5.out.bx
    obtain ⟨o0, o1, o2, o3, o4⟩ := hbo.cells
    obtain ⟨y0, y1, y2, y3, y4⟩ := BXN.out.cells
    have g0 := BXN.out.frz 0
    have g1 := BXN.out.frz 1
    have g2 := BXN.out.frz 2
    have g3 := BXN.out.frz 3
    have g4 := BXN.out.frz 4
    clear hrd hbo
    have ZZ := Lib.hid (Box.five BXN.out (.int .i64 6) (.int .i64 0) (.string ⟨#[]⟩) (.slice Av lv cv) (.slice Kv lq dv)).cells
    go_wp2_with fail
    obtain ⟨z0, z1, z2, z3, z4⟩ := ZZ.out
    refine bodyPost_ret (v := .agg #[.int .i64 6, .int .i64 0, .string ⟨#[]⟩, .slice Av lv cv, .slice Kv lq dv]) (by simp [results, Tryz.results28, go_sem, z0, z1, z2, z3, z4]) rfl (.inl ⟨_, _, _, _, _, E1.out, rfl, HRD.out, HQ5.out.five HK5.out.hp _ _ _ _ _, Bes.five HK5.out.bes (Nat.le_refl _) _ _ _ _ _, hhi, Nat.le_refl _, hn⟩)
  · have hcc : (((bt s q).toNat : Int) == 125) = false := u8_beq 125 hc
    have E1 : Hid (els s 125 (stepO s (pv s f (level + 1))) ([], []) i n = elsF s 125 (stepO s (pv s f (level + 1))) (s.size + 1) ([], []) q n) := Lib.hid (by rw [E0.out, if_neg hc])
    clear hc E0
    go_wp2_with fail
    go_loopw [6, 7, 8] (fun v6 v7 v8 wr => QLO w p s f level i n wr) (fun v6 v7 v8 wr => qm s p wr)
    case atStart => exact .inl ⟨([], []), q, n, s.size + 1, c0, HK4.out, HQ4.out, E1.out, by omega, by omega, ⟨Nat.zero_le _, Nat.zero_le _, fun x hx => by simp at hx⟩, Nat.le_refl _, hn⟩
    case round =>
      clear HQ4 HK4 E1
      rcases hrel with ⟨a, j, m, f2, c, hk, hp, he, hff, hij, ⟨ham, hbm, hkz⟩, hnm, hm4⟩ | ⟨y, j, m, hbx, hbe, hp, hy, he⟩
      · have hj := hp.hi
        have hm := Lib.hid (qm_on hp)
        obtain ⟨f2, rfl⟩ : ∃ g, f2 = g + 1 := ⟨f2 - 1, by omega⟩
        have HQJ := Lib.hid hp
        have HKJ := Lib.hid hk
        have HE := Lib.hid he
        obtain ⟨q0, q1, q2, q3, q4⟩ := HQJ.out.box.cells
        clear hk hp he
        have HKZ := Lib.hid hkz
        clear hkz
        go_wp2_with fail
        refine (qskip_any HQJ.out).mono ?_
        rintro e w4 ⟨rfl, hp4, hb4⟩
        obtain ⟨j0, hj0⟩ : ∃ k, k = sk spL s j := ⟨_, rfl⟩
        rw [← hj0] at hp4
        have hj0l := sk_le spL s j
        have hj0h := sk_hi spL s j hj
        rw [← hj0] at hj0l hj0h
        have HQ4 := Lib.hid hp4
        have HK4 := Lib.hid (HKJ.out.step hb4)
        have KR : Hid (keyR s a.1 j = match litR s j0 with | .error e => .error e | .ok (k, j) => if memK a.1 k then .error (j0, 7) else if bt s (sk spL s j) = 58 then .ok (k, sk spL s j + 1) else .error (sk spL s j, 3)) := Lib.hid (by unfold keyR; rw [hj0]; rfl)
        clear hp4 hb4 hj0 HQJ HKJ q0 q1 q2 q3 q4
        obtain ⟨q0, q1, q2, q3, q4⟩ := HQ4.out.box.cells
        go_wp2_with fail
        refine (qtext_any HQ4.out).mono ?_
        intro e w5 hh
        obtain ⟨hh, hb5⟩ := hh
        have HK5 := Lib.hid (HK4.out.step hb5)
        clear q0 q1 q2 q3 q4
        cases hlit : litR s j0 with
        | error y =>
          rw [hlit] at hh
          obtain ⟨rfl, j5, hp5, hy⟩ := hh
          have HQ5 := Lib.hid hp5
          have HY := Lib.hid hy
          have hst : stepO s (pv s f (level + 1)) a j m = .error y := by unfold stepO; rw [KR.out, hlit]
          have E2 : Hid (objR s f level i n = .error y) := Lib.hid (objR_bad (by rw [HE.out, elsF, hst]))
          have hy1 : (y.2 == 0) = false := by simpa using hy
          have hy2 : (y.2 != 0) = true := by simpa using hy
          clear hlit hp5 hb5 hy hst HQ4 HK4 KR HE
          obtain ⟨q0, q1, q2, q3, q4⟩ := HQ5.out.box.cells
          go_wp2_with fail
          clear q0 q1 q2 q3 q4
          refine (qskip_any HQ5.out).mono ?_
          rintro e w6 ⟨rfl, hp6, hb6⟩
          have HQ6 := Lib.hid hp6
          have HK6 := Lib.hid (HK5.out.step hb6)
          clear hp6 hb6
          go_wp2_with fail
          refine (qword_no HQ6.out HY.out ⟨#[58]⟩).mono ?_
          rintro e w7 ⟨rfl, hb7⟩
          have HQ7 := Lib.hid (HQ6.out.kept hb7)
          have HK7 := Lib.hid (HK6.out.step (Bes.of hb7))
          have HKB := And.intro HK7.out.bx HK7.out.bes
          clear hb7 HQ6 HK6 HK5 HQ5
          obtain ⟨q0, q1, q2, q3, q4⟩ := HQ7.out.box.cells
          have BXN := Lib.hid HKB.1
          obtain ⟨y0, y1, y2, y3, y4⟩ := BXN.out.cells
          have g0 := BXN.out.frz 0
          have g1 := BXN.out.frz 1
          have g2 := BXN.out.frz 2
          have g3 := BXN.out.frz 3
          have g4 := BXN.out.frz 4
          have ZZ := Lib.hid (Box.five BXN.out (.int .i64 0) (.int .i64 0) (.string ⟨#[]⟩) (.slice none 0 0) (.slice none 0 0)).cells
          go_wp2_with fail
          obtain ⟨z0, z1, z2, z3, z4⟩ := ZZ.out
          refine bodyPost_ret (v := .agg #[.int .i64 0, .int .i64 0, .string ⟨#[]⟩, .slice none 0 0, .slice none 0 0]) (by simp [results, Tryz.results28, go_sem, z0, z1, z2, z3, z4]) rfl (.inr ⟨_, _, _, _, E2.out, rfl, ⟨_, _, _, _, _, _, _, _, _, rfl⟩, HQ7.out.five HPN.out _ _ _ _ _, HY.out, Bes.five HKB.2 (Nat.le_refl _) _ _ _ _ _⟩)
        | ok r =>
          obtain ⟨key, j5⟩ := r
          rw [hlit] at hh
          obtain ⟨rfl, c5, hp5⟩ := hh
          have hp5 : QS w5 p s j5 m 0 c5 := hp5
          have HQ5 := Lib.hid hp5
          obtain ⟨hsz5, hl5, hl5s⟩ := litR_size hlit
          have hks5 : key.size ≤ 140737488351232 := by omega
          have KR2 : Hid (keyR s a.1 j = if memK a.1 key then .error (j0, 7) else if bt s (sk spL s j5) = 58 then .ok (key, sk spL s j5 + 1) else .error (sk spL s j5, 3)) := Lib.hid (by rw [KR.out, hlit])
          clear hp5 hlit hb5 HQ4 HK4 KR
          obtain ⟨v, v2, xs, hS⟩ := HK5.out.sv
          obtain ⟨Kv, dv, rfl⟩ := own_slice hS.keys
          obtain ⟨k0, k1, k2, k3, k4⟩ := hS.box.cells
          have HHAS := Lib.hid (qhas_any a.1 Kv dv key w5 (fun j k hk => by
            obtain ⟨g, cap, e, h1, h2⟩ := hS.keys.form (by have := (List.getElem?_eq_some_iff.1 hk).1; omega)
            injection e with e1 e2 e3
            subst e1
            exact ⟨_, rfl, hS.keys.cells (g := g) rfl j (.string k) (by rw [List.getElem?_map, hk]; rfl)⟩) (by omega))
          clear hS
          obtain ⟨q0, q1, q2, q3, q4⟩ := HQ5.out.box.cells
          go_wp2_with fail
          refine HHAS.out.mono ?_
          rintro e w5' ⟨rfl, rfl⟩
          clear HHAS
          cases hmk : memK a.1 key with
          | true =>
            have hst : stepO s (pv s f (level + 1)) a j m = .error (j0, 7) := by unfold stepO; rw [KR2.out, if_pos hmk]
            have E2 : Hid (objR s f level i n = .error (j0, 7)) := Lib.hid (objR_bad (by rw [HE.out, elsF, hst]))
            have HY : Hid ((7 : Int) ≠ 0) := Lib.hid (by decide)
            clear hmk hst KR2 HE
            go_wp2_with fail
            refine (qfail_any HQ5.out _ _).mono ?_
            rintro e w6 ⟨rfl, hp6, hb6⟩
            have HQ6 := Lib.hid hp6
            have HK6 := Lib.hid (HK5.out.step hb6)
            clear hp6 hb6 q0 q1 q2 q3 q4 k0 k1 k2 k3 k4 HQ5 HK5
            go_wp2_with fail
            refine (qskip_any HQ6.out).mono ?_
            rintro e w6b ⟨rfl, hp6, hb6⟩
            have HQ6b := Lib.hid hp6
            have HK6b := Lib.hid (HK6.out.step hb6)
            clear hp6 hb6 HQ6 HK6
            go_wp2_with fail
            refine (qword_no HQ6b.out HY.out ⟨#[58]⟩).mono ?_
            rintro e w7 ⟨rfl, hb7⟩
            have HQ7 := Lib.hid (HQ6b.out.kept hb7)
            have HK7 := Lib.hid (HK6b.out.step (Bes.of hb7))
            have HKB := And.intro HK7.out.bx HK7.out.bes
            clear hb7 HQ6b HK6b
            obtain ⟨q0, q1, q2, q3, q4⟩ := HQ7.out.box.cells
            have BXN := Lib.hid HKB.1
            obtain ⟨y0, y1, y2, y3, y4⟩ := BXN.out.cells
            have g0 := BXN.out.frz 0
            have g1 := BXN.out.frz 1
            have g2 := BXN.out.frz 2
            have g3 := BXN.out.frz 3
            have g4 := BXN.out.frz 4
            have ZZ := Lib.hid (Box.five BXN.out (.int .i64 0) (.int .i64 0) (.string ⟨#[]⟩) (.slice none 0 0) (.slice none 0 0)).cells
            go_wp2_with fail
            obtain ⟨z0, z1, z2, z3, z4⟩ := ZZ.out
            refine bodyPost_ret (v := .agg #[.int .i64 0, .int .i64 0, .string ⟨#[]⟩, .slice none 0 0, .slice none 0 0]) (by simp [results, Tryz.results28, go_sem, z0, z1, z2, z3, z4]) rfl (.inr ⟨_, _, _, _, E2.out, rfl, ⟨_, _, _, _, _, _, _, _, _, rfl⟩, HQ7.out.five HPN.out _ _ _ _ _, HY.out, Bes.five HKB.2 (Nat.le_refl _) _ _ _ _ _⟩)
          | false =>
            obtain ⟨j6, hj6⟩ : ∃ k, k = sk spL s j5 := ⟨_, rfl⟩
            have KR3 : Hid (keyR s a.1 j = if bt s j6 = 58 then .ok (key, j6 + 1) else .error (j6, 3)) := Lib.hid (by rw [KR2.out, if_neg (by rw [hmk]; decide), hj6])
            have hj6l := sk_le spL s j5
            have hj6h := sk_hi spL s j5 hl5s
            rw [← hj6] at hj6l hj6h
            have HJ6 : Hid (sk spL s j5 = j6) := Lib.hid hj6.symm
            clear hmk KR2 hj6
            go_wp2_with fail
            refine (qskip_any HQ5.out).mono ?_
            rintro e w6 ⟨rfl, hp6, hb6⟩
            rw [HJ6.out] at hp6
            have HQ6 := Lib.hid hp6
            have HK6 := Lib.hid (HK5.out.step hb6)
            clear hp6 hb6 q0 q1 q2 q3 q4 k0 k1 k2 k3 k4 HQ5 HK5
            have HWD := Lib.hid (qword_any HQ6.out ⟨#[58]⟩ (by decide) (by decide))
            by_cases h58 : bt s j6 = 58
            · have hj6s : j6 < s.size := lt_of_bt (by rw [h58]; decide)
              have EW : wordR s [58] j6 = .ok (j6 + 1) := by unfold wordR takeR; rw [h58, if_pos (by decide)]; rfl
              have KR4 : Hid (keyR s a.1 j = .ok (key, j6 + 1)) := Lib.hid (by rw [KR3.out, if_pos h58])
              clear h58 KR3
              go_wp2_with fail
              refine HWD.out.mono ?_
              rintro e w7 ⟨rfl, hr7, hb7⟩
              rw [EW] at hr7
              obtain ⟨c7, hp7⟩ := hr7
              have HQ7 := Lib.hid hp7
              have HK7 := Lib.hid (HK6.out.step hb7)
              have HC := Lib.hid (HV.out (j6 + 1) m c7 _ hp7 hm4 (by omega))
              have hlv : (level : Int) + 1 = ((level + 1 : Nat) : Int) := by omega
              rw [← hlv] at HC
              clear hlv hp7 hb7 EW HWD HQ6 HK6
              obtain ⟨q0, q1, q2, q3, q4⟩ := HQ7.out.box.cells
              go_wp2_with fail
              refine HC.out.mono ?_
              intro e w4 hh
              clear HC q0 q1 q2 q3 q4
              rcases hh with ⟨t, j1, m1, u, c1, hr, rfl, hu, hp1, hb1, hij1, hnm1, hm41⟩ | ⟨y, j1, m1, u, hr, rfl, hu5, hp1, hy, hb1⟩
              · have hst : stepO s (pv s f (level + 1)) a j m = .ok ((a.1 ++ [key], a.2 ++ [t]), j1, m1) := by unfold stepO; rw [KR4.out]; simp only [hr]
                obtain ⟨qq, hqq⟩ : ∃ qq, qq = sk spL s j1 := ⟨_, rfl⟩
                have HE2 : Hid (els s 125 (stepO s (pv s f (level + 1))) ([], []) i n = if bt s qq = 125 then .ok ((a.1 ++ [key], a.2 ++ [t]), qq + 1, m1) else if bt s qq = 44 then elsF s 125 (stepO s (pv s f (level + 1))) f2 (a.1 ++ [key], a.2 ++ [t]) (qq + 1) m1 else .error (qq, 3)) := Lib.hid (by rw [HE.out, elsF, hst, hqq])
                have hjq := sk_le spL s j1
                have hqs := sk_hi spL s j1 hp1.hi
                rw [← hqq] at hjq hqs
                have HSK : Hid (sk spL s j1 = qq) := Lib.hid hqq.symm
                clear hst hr HE hqq KR4
                obtain ⟨k6, n6, s6, A6, li6, ci6, K6, lk6, ck6, rfl⟩ := hu.fiveV
                obtain ⟨v, v2, xs, hS⟩ := HK7.out.sv
                have HS := Lib.hid hS
                have HS4 := Lib.hid (hS.bes hb1 (by have := HPN.out; omega))
                obtain ⟨Av, cv, rfl⟩ := own_slice hS.own
                obtain ⟨Kv, dv, rfl⟩ := own_slice hS.keys
                clear hS
                have b1 : Below w4.heap.size w4 ((w4.alloc (aggW k6 n6 s6 (.slice A6 li6 ci6) (.slice K6 lk6 ck6))).alloc (.cells #[.string key] 9 (0, 0))) := ((Below.refl _ _).alloc (Nat.le_refl _) _).alloc (by simp) _
                have HSW2 := Lib.hid (HS4.out.below b1)
                have HS3 := Lib.hid (HS4.out.below ((Below.refl _ _).alloc (Nat.le_refl _) (aggW k6 n6 s6 (.slice A6 li6 ci6) (.slice K6 lk6 ck6))))
                have HX := Lib.hid (Box.new w4 (.int .i64 k6) (.int .i64 n6) (.string s6) (.slice A6 li6 ci6) (.slice K6 lk6 ck6))
                have HNKS : Hid (∀ (q : Nat) (x : Value), [Value.string key][q]? = some x → ((w4.alloc (aggW k6 n6 s6 (.slice A6 li6 ci6) (.slice K6 lk6 ck6))).alloc (.cells #[.string key] 9 (0, 0))).cell? ((⟨w4.heap.size + 1, 0, none⟩ : Addr).add q) = some x) := Lib.hid (by
                  have h := cells_Z (w4.alloc (aggW k6 n6 s6 (.slice A6 li6 ci6) (.slice K6 lk6 ck6))) [Value.string key] 9
                  rw [World.size_alloc] at h
                  exact h)
                have HNEK : Hid ((Value.slice Kv a.1.length dv).ownBlock ≠ some (w.heap.size + 1)) := Lib.hid (fun e => by have := own_lt HS.out.keys e; omega)
                have HNEI : Hid ((Value.slice Av a.2.length cv).ownBlock ≠ some (w.heap.size + 1)) := Lib.hid (fun e => by have := own_lt HS.out.own e; omega)
                have HNEX : Hid ((Value.slice Kv a.1.length dv).ownBlock ≠ some w4.heap.size) := Lib.hid (fun e => by have := own_lt HS4.out.keys e; omega)
                have HP4 := Lib.hid hp1
                have HBB := Lib.hid hb1
                have B4 := Lib.hid b1
                have hbs := HS4.out.bw
                have hszW : w.heap.size + 2 ≤ ((w4.alloc (aggW k6 n6 s6 (.slice A6 li6 ci6) (.slice K6 lk6 ck6))).alloc (.cells #[.string key] 9 (0, 0))).heap.size := by simp; omega
                have hal : a.2.length ≤ 1073741824 := by omega
                have hbl : a.1.length ≤ 1073741824 := by omega
                obtain ⟨i0, hi0, hz0, hz1, hz2⟩ := info_parts5 infoVal
                obtain ⟨iS, hiS, hzS0, hzS1, hzS2⟩ := info_parts5 infoS
                obtain ⟨k0, k1, k2, k3, k4⟩ := HS3.out.box.cells
                obtain ⟨x0, x1, x2, x3, x4⟩ := HX.out.cells
                have HU0 := Lib.hid hu
                clear hu hb1 hp1 b1
                go_wp2_with (at_builtin; first | (refine wpList_append_lies _ rfl _ _ 24 rfl (w.heap.size + 2) 9 iS (.string ⟨#[]⟩) 1 16 Tryz.underlying24 hiS hzS0 hzS1 hzS2 rfl (by decide) (.slice Kv a.1.length dv) a.1.length (a.1.map Value.string) rfl HSW2.out.keys ⟨w4.heap.size + 1, 0, none⟩ 1 1 [.string key] rfl rfl HNKS.out (by intro u hu; simp at hu; subst hu; rfl) (by decide) (by unfold maxLen; omega) (by omega) hszW _ rfl ?_; intro gk capk w5 d1 d2 d3 d4; have HBX5 := Box.grown HSW2.out.box d2 HNEK.out; have r4 := HBX5.cells.2.2.2.2; have f4 := HBX5.frz 4; have HPK := Lib.hid (SInv.pushKey HSW2.out d1 d2 (by simpa using d3)); obtain ⟨l0, l1, l2, l3, l4⟩ := HPK.out.1.box.cells; have HXW := Lib.hid ((Box.grown (HX.out.alloc (.cells #[.string key] 9 (0, 0))) d2 HNEX.out).set (p := ⟨w.heap.size + 1, 4, none⟩) (show w4.heap.size ≠ w.heap.size + 1 by omega) (.slice (some ⟨gk, 0, none⟩) (a.1.length + 1) capk)); obtain ⟨t0, t1, t2, t3, t4⟩ := HXW.out.cells; have HSW := Lib.hid (HPK.out.1.below ((Below.refl _ _).alloc (Nat.le_refl _) (aggW k6 n6 s6 (.slice A6 li6 ci6) (.slice K6 lk6 ck6)))); have HNK : Hid (∀ (q : Nat) (x : Value), [Value.int .i64 k6, .int .i64 n6, .string s6, .slice A6 li6 ci6, .slice K6 lk6 ck6][q]? = some x → ((w5.setCell ⟨w.heap.size + 1, 4, none⟩ (.slice (some ⟨gk, 0, none⟩) (a.1.length + 1) capk)).alloc (aggW k6 n6 s6 (.slice A6 li6 ci6) (.slice K6 lk6 ck6))).cell? ((⟨w5.heap.size, 0, none⟩ : Addr).add q) = some x) := Lib.hid (cells_news (w5.setCell ⟨w.heap.size + 1, 4, none⟩ (.slice (some ⟨gk, 0, none⟩) (a.1.length + 1) capk)) w5.heap.size (by simp [World.setCell]) [Value.int .i64 k6, .int .i64 n6, .string s6, .slice A6 li6 ci6, .slice K6 lk6 ck6] 26); have hszW4 : w.heap.size + 2 ≤ ((w5.setCell ⟨w.heap.size + 1, 4, none⟩ (.slice (some ⟨gk, 0, none⟩) (a.1.length + 1) capk)).alloc (aggW k6 n6 s6 (.slice A6 li6 ci6) (.slice K6 lk6 ck6))).heap.size := HSW.out.bw; clear k0 k1 k2 k3 k4 x0 x1 x2 x3 x4) | (refine wpList_append_lies _ rfl _ _ 23 rfl (w.heap.size + 2) 26 i0 (.agg #[.int .i64 0, .int .i64 0, .string ⟨#[]⟩, .slice none 0 0, .slice none 0 0]) 5 80 Tryz.underlying23 hi0 hz0 hz1 hz2 rfl (by decide) (.slice Av a.2.length cv) a.2.length xs rfl HSW.out.own ⟨w5.heap.size, 0, none⟩ 1 1 [.int .i64 k6, .int .i64 n6, .string s6, .slice A6 li6 ci6, .slice K6 lk6 ck6] rfl rfl HNK.out (by intro u hu; simp at hu; rcases hu with rfl | rfl | rfl | rfl | rfl <;> rfl) (by decide) (by unfold maxLen; omega) (by omega) hszW4 _ rfl ?_; intro gg cap2 w6 e1 e2 e3 e4; have HBX6 := Box.grown HSW.out.box e2 HNEI.out; have r3 := HBX6.cells.2.2.2.1; have f3 := HBX6.frz 3; clear l0 l1 l2 l3 l4 t0 t1 t2 t3 t4 r4 f4))
                have hsz3 : (w5.setCell ⟨w.heap.size + 1, 4, none⟩ (.slice (some ⟨gk, 0, none⟩) (a.1.length + 1) capk)).heap.size = w5.heap.size := by simp [World.setCell]
                have ba : Below (w5.setCell ⟨w.heap.size + 1, 4, none⟩ (.slice (some ⟨gk, 0, none⟩) (a.1.length + 1) capk)).heap.size (w5.setCell ⟨w.heap.size + 1, 4, none⟩ (.slice (some ⟨gk, 0, none⟩) (a.1.length + 1) capk)) ((w5.setCell ⟨w.heap.size + 1, 4, none⟩ (.slice (some ⟨gk, 0, none⟩) (a.1.length + 1) capk)).alloc (aggW k6 n6 s6 (.slice A6 li6 ci6) (.slice K6 lk6 ck6))) := (Below.refl _ _).alloc (Nat.le_refl _) _
                have BB3 : Hid (Below (w.heap.size + 1) w4 ((w5.setCell ⟨w.heap.size + 1, 4, none⟩ (.slice (some ⟨gk, 0, none⟩) (a.1.length + 1) capk)).alloc (aggW k6 n6 s6 (.slice A6 li6 ci6) (.slice K6 lk6 ck6)))) := Lib.hid ((B4.out.mono (by omega)).trans (HPK.out.2.trans (ba.mono (by have := HPK.out.1.bw; omega))))
                have HU : Hid (RdS ((w5.setCell ⟨w.heap.size + 1, 4, none⟩ (.slice (some ⟨gk, 0, none⟩) (a.1.length + 1) capk)).alloc (aggW k6 n6 s6 (.slice A6 li6 ci6) (.slice K6 lk6 ck6))) (fun b => w.heap.size + 2 ≤ b ∧ b < ((w5.setCell ⟨w.heap.size + 1, 4, none⟩ (.slice (some ⟨gk, 0, none⟩) (a.1.length + 1) capk)).alloc (aggW k6 n6 s6 (.slice A6 li6 ci6) (.slice K6 lk6 ck6))).heap.size ∧ (Value.slice Av a.2.length cv).ownBlock ≠ some b ∧ (Value.slice (some ⟨gk, 0, none⟩) (a.1.length + 1) capk).ownBlock ≠ some b) (.agg #[.int .i64 k6, .int .i64 n6, .string s6, .slice A6 li6 ci6, .slice K6 lk6 ck6]) t) := Lib.hid (by
                  have hs5 : ((w4.alloc (aggW k6 n6 s6 (.slice A6 li6 ci6) (.slice K6 lk6 ck6))).alloc (.cells #[.string key] 9 (0, 0))).heap.size ≤ w5.heap.size := d2.size
                  have hW2 : ((w4.alloc (aggW k6 n6 s6 (.slice A6 li6 ci6) (.slice K6 lk6 ck6))).alloc (.cells #[.string key] 9 (0, 0))).heap.size = w4.heap.size + 1 + 1 := by simp
                  refine HU0.out.kept (fun b hb => ?_) (fun b hb => ?_)
                  · have h1 := hb.1
                    have h2 := hb.2
                    have hbw := HS.out.bw
                    have n1 : b ≠ w.heap.size + 1 := by omega
                    rw [ba.block b (by rw [hsz3]; omega), Below.heap_setCell _ _ _ _ n1, d2.block b (show b < ((w4.alloc (aggW k6 n6 s6 (.slice A6 li6 ci6) (.slice K6 lk6 ck6))).alloc (.cells #[.string key] 9 (0, 0))).heap.size by omega) (fun e => by have := own_lt HS.out.keys e.symm; omega)]
                    exact B4.out.block b h2
                  · have h1 := hb.1
                    have h2 := hb.2
                    have hbw := HS.out.bw
                    refine ⟨by omega, by have := ba.size; rw [hsz3] at this; omega, fun e => by have := own_lt HS.out.own e; omega, fun e => ?_⟩
                    have e2 : gk = b := by injection e
                    subst e2
                    rcases (show (Value.slice Kv a.1.length dv).ownBlock = some gk ∨ gk = ((w4.alloc (aggW k6 n6 s6 (.slice A6 li6 ci6) (.slice K6 lk6 ck6))).alloc (.cells #[.string key] 9 (0, 0))).heap.size by simpa using d3) with h | h
                    · have := own_lt HS.out.keys h; omega
                    · rw [hW2] at h; omega)
                clear HU0 ba hszW hsz3
                have hpk := SInv.pushItem HSW.out HU.out e1 e2 (by simpa using e3)
                have HK5 : Hid (QK w p 6 (a.2 ++ [t]) (a.1 ++ [key]) (w6.setCell ⟨w.heap.size + 1, 3, none⟩ (.slice (some ⟨gg, 0, none⟩) (a.2.length + 1) cap2))) := Lib.hid (QK.pushed HK7.out HBB.out BB3.out hpk.2 ⟨_, _, _, hpk.1⟩)
                have HQ5 := Lib.hid (HP4.out.same ((BB3.out.trans hpk.2).mono (show p + 1 ≤ w.heap.size + 1 by have := HPN.out; omega)))
                clear hpk HU HSW HS3 HX HS HS4 HK7 HQ7 HNK HNKS HNEK HNEI HNEX HBX5 HBX6 HXW HSW2 HPK r3 f3 d1 d2 d3 d4 e1 e2 e3 e4
                refine (qskip_any HQ5.out).mono ?_
                rintro e w6 ⟨rfl, hp6, hb6⟩
                have HQ6 := Lib.hid hp6
                have HK6 := Lib.hid (HK5.out.step hb6)
                clear hp6 hb6 HK5 HQ5
                rw [HSK.out] at HQ6
                obtain ⟨q0, q1, q2, q3, q4⟩ := HQ6.out.box.cells
                go_wp2_with fail
                refine (qnext_any HQ6.out).mono ?_
                rintro e w7 ⟨rfl, hb⟩
                have HQ7 := Lib.hid (HQ6.out.kept hb)
                have HK7 := Lib.hid (HK6.out.step (Bes.of hb))
                clear hb HQ6 HK6 q0 q1 q2 q3 q4
                have HKZ2 : Hid (∀ x ∈ a.1 ++ [key], x.size ≤ 140737488351232) := Lib.hid (fun x hx => by
                  rcases List.mem_append.1 hx with h | h
                  · exact HKZ.out x h
                  · simp at h; subst h; exact hks5)
                have hleni : (a.2 ++ [t]).length = a.2.length + 1 := by simp
                have hlenk : (a.1 ++ [key]).length = a.1.length + 1 := by simp
                by_cases h93 : bt s qq = 125
                · have hcc : (((bt s qq).toNat : Int) == 125) = true := u8_beq' 125 h93
                  have hq2s : qq < s.size := lt_of_bt (by rw [h93]; decide)
                  have E2 : Hid (objR s f level i n = .ok (VT.mk 6 0 ⟨#[]⟩ (a.2 ++ [t]) (a.1 ++ [key]), qq + 1, m1)) := Lib.hid (objR_ok (a := (a.1 ++ [key], a.2 ++ [t])) (by rw [HE2.out, if_pos h93]))
                  obtain ⟨q0, q1, q2, q3, q4⟩ := HQ7.out.box.cells
                  have f1 := HQ7.out.box.frz 1
                  have HQ8 : Hid (QS ((w7).setCell ⟨p, 1, none⟩ (.int .i64 ((qq : Int) + 1))) p s (qq + 1) m1 0 c1) := Lib.hid (by have := HQ7.out.at1 (j := qq + 1) hq2s; simpa using this)
                  have HK8 : Hid (QK w p 6 (a.2 ++ [t]) (a.1 ++ [key]) ((w7).setCell ⟨p, 1, none⟩ (.int .i64 ((qq : Int) + 1)))) := Lib.hid (HK7.out.step ((Bes.refl _ _ _).set 1 _))
                  have hhi : i ≤ qq + 1 := by omega
                  have hhn : n ≤ m1 := by omega
                  have hlen : (a.2 ++ [t]).length ≤ 1073741825 := by omega
                  have hlen2 : (a.1 ++ [key]).length ≤ 1073741825 := by omega
                  clear h93
                  obtain ⟨Av, cv, Kv, dv, lv, lq, hbo, hrd⟩ := HK8.out.fin (by unfold small; omega) hlen hlen2 HKZ2.out
                  have HRD := Lib.hid hrd
                  have BXN := Lib.hid HK8.out.bx
                  obtain ⟨o0, o1, o2, o3, o4⟩ := hbo.cells
                  obtain ⟨y0, y1, y2, y3, y4⟩ := BXN.out.cells
                  have g0 := BXN.out.frz 0
                  have g1 := BXN.out.frz 1
                  have g2 := BXN.out.frz 2
                  have g3 := BXN.out.frz 3
                  have g4 := BXN.out.frz 4
                  clear hrd hbo
                  have ZZ := Lib.hid (Box.five BXN.out (.int .i64 6) (.int .i64 0) (.string ⟨#[]⟩) (.slice Av lv cv) (.slice Kv lq dv)).cells
                  go_wp2_with fail
                  obtain ⟨z0, z1, z2, z3, z4⟩ := ZZ.out
                  refine bodyPost_ret (v := .agg #[.int .i64 6, .int .i64 0, .string ⟨#[]⟩, .slice Av lv cv, .slice Kv lq dv]) (by simp [results, Tryz.results28, go_sem, z0, z1, z2, z3, z4]) rfl (.inl ⟨_, _, _, _, _, E2.out, rfl, HRD.out, HQ8.out.five HK8.out.hp _ _ _ _ _, Bes.five HK8.out.bes (Nat.le_refl _) _ _ _ _ _, hhi, hhn, hm41⟩)
                · have hcc : (((bt s qq).toNat : Int) == 125) = false := u8_beq 125 h93
                  have HWD := Lib.hid (qword_any HQ7.out ⟨#[44]⟩ (by decide) (by decide))
                  by_cases h44 : bt s qq = 44
                  · have hq2s : qq < s.size := lt_of_bt (by rw [h44]; decide)
                    have EW : wordR s [44] qq = .ok (qq + 1) := by unfold wordR takeR; rw [h44, if_pos (by decide)]; rfl
                    have E2 : Hid (els s 125 (stepO s (pv s f (level + 1))) ([], []) i n = elsF s 125 (stepO s (pv s f (level + 1))) f2 (a.1 ++ [key], a.2 ++ [t]) (qq + 1) m1) := Lib.hid (by rw [HE2.out, if_neg h93, if_pos h44])
                    clear h93 h44
                    go_wp2_with fail
                    refine HWD.out.mono ?_
                    rintro e w8 ⟨rfl, hr8, hb8⟩
                    rw [EW] at hr8
                    obtain ⟨c8, hp8⟩ := hr8
                    have HQ8 := Lib.hid hp8
                    have HK8 := Lib.hid (HK7.out.step hb8)
                    have hm8 := Lib.hid (qm_on hp8)
                    clear hp8 hb8 EW
                    go_wp2_with fail
                    go_roundw
                    case rel => exact .inl ⟨(a.1 ++ [key], a.2 ++ [t]), qq + 1, m1, f2, c8, HK8.out, HQ8.out, E2.out, by omega, by omega, ⟨by show (a.2 ++ [t]).length ≤ _; omega, by show (a.1 ++ [key]).length ≤ _; omega, HKZ2.out⟩, by omega, hm41⟩
                    case measure => rw [hm.out, hm8.out]; omega
                  · have EW : wordR s [44] qq = .error (qq, 3) := by unfold wordR takeR; rw [isIn_eq, if_neg (by simp [h44])]
                    have E2 : Hid (els s 125 (stepO s (pv s f (level + 1))) ([], []) i n = .error (qq, 3)) := Lib.hid (by rw [HE2.out, if_neg h93, if_neg h44])
                    clear h93 h44
                    go_wp2_with fail
                    refine HWD.out.mono ?_
                    rintro e w8 ⟨rfl, hr8, hb8⟩
                    rw [EW] at hr8
                    obtain ⟨j8, hp8, hy8⟩ := hr8
                    have HQ8 := Lib.hid hp8
                    have HK8 := Lib.hid (HK7.out.step hb8)
                    have hm8 := Lib.hid (qm_off hp8 hy8)
                    have HY8 := Lib.hid hy8
                    clear hp8 hb8 EW hy8
                    go_wp2_with fail
                    go_roundw
                    case rel => exact .inr ⟨(qq, 3), j8, m1, HK8.out.bx, HK8.out.bes, HQ8.out, HY8.out, E2.out⟩
                    case measure => rw [hm.out, hm8.out]; omega
              · have hst : stepO s (pv s f (level + 1)) a j m = .error y := by unfold stepO; rw [KR4.out]; simp only [hr]
                have E2 : Hid (els s 125 (stepO s (pv s f (level + 1))) ([], []) i n = .error y) := Lib.hid (by rw [HE.out, elsF, hst])
                clear hst hr HE KR4
                obtain ⟨k6, n6, s6, A6, li6, ci6, K6, lk6, ck6, rfl⟩ := hu5
                have HY := Lib.hid hy
                obtain ⟨v, v2, xs, hS⟩ := HK7.out.sv
                have HS := Lib.hid hS
                have HS4 := Lib.hid (hS.bes hb1 (by have := HPN.out; omega))
                obtain ⟨Av, cv, rfl⟩ := own_slice hS.own
                obtain ⟨Kv, dv, rfl⟩ := own_slice hS.keys
                clear hS
                have b1 : Below w4.heap.size w4 ((w4.alloc (aggW k6 n6 s6 (.slice A6 li6 ci6) (.slice K6 lk6 ck6))).alloc (.cells #[.string key] 9 (0, 0))) := ((Below.refl _ _).alloc (Nat.le_refl _) _).alloc (by simp) _
                have HSW2 := Lib.hid (HS4.out.below b1)
                have HS3 := Lib.hid (HS4.out.below ((Below.refl _ _).alloc (Nat.le_refl _) (aggW k6 n6 s6 (.slice A6 li6 ci6) (.slice K6 lk6 ck6))))
                have HX := Lib.hid (Box.new w4 (.int .i64 k6) (.int .i64 n6) (.string s6) (.slice A6 li6 ci6) (.slice K6 lk6 ck6))
                have HNKS : Hid (∀ (q : Nat) (x : Value), [Value.string key][q]? = some x → ((w4.alloc (aggW k6 n6 s6 (.slice A6 li6 ci6) (.slice K6 lk6 ck6))).alloc (.cells #[.string key] 9 (0, 0))).cell? ((⟨w4.heap.size + 1, 0, none⟩ : Addr).add q) = some x) := Lib.hid (by
                  have h := cells_Z (w4.alloc (aggW k6 n6 s6 (.slice A6 li6 ci6) (.slice K6 lk6 ck6))) [Value.string key] 9
                  rw [World.size_alloc] at h
                  exact h)
                have HNEK : Hid ((Value.slice Kv a.1.length dv).ownBlock ≠ some (w.heap.size + 1)) := Lib.hid (fun e => by have := own_lt HS.out.keys e; omega)
                have HNEI : Hid ((Value.slice Av a.2.length cv).ownBlock ≠ some (w.heap.size + 1)) := Lib.hid (fun e => by have := own_lt HS.out.own e; omega)
                have HNEX : Hid ((Value.slice Kv a.1.length dv).ownBlock ≠ some w4.heap.size) := Lib.hid (fun e => by have := own_lt HS4.out.keys e; omega)
                have HP4 := Lib.hid hp1
                have HBB := Lib.hid hb1
                have B4 := Lib.hid b1
                have hbs := HS4.out.bw
                have hszW : w.heap.size + 2 ≤ ((w4.alloc (aggW k6 n6 s6 (.slice A6 li6 ci6) (.slice K6 lk6 ck6))).alloc (.cells #[.string key] 9 (0, 0))).heap.size := by simp; omega
                have hal : a.2.length ≤ 1073741824 := by omega
                have hbl : a.1.length ≤ 1073741824 := by omega
                obtain ⟨i0, hi0, hz0, hz1, hz2⟩ := info_parts5 infoVal
                obtain ⟨iS, hiS, hzS0, hzS1, hzS2⟩ := info_parts5 infoS
                obtain ⟨k0, k1, k2, k3, k4⟩ := HS3.out.box.cells
                obtain ⟨x0, x1, x2, x3, x4⟩ := HX.out.cells
                clear hb1 hp1 b1 hy
                go_wp2_with (at_builtin; first | (refine wpList_append_lies _ rfl _ _ 24 rfl (w.heap.size + 2) 9 iS (.string ⟨#[]⟩) 1 16 Tryz.underlying24 hiS hzS0 hzS1 hzS2 rfl (by decide) (.slice Kv a.1.length dv) a.1.length (a.1.map Value.string) rfl HSW2.out.keys ⟨w4.heap.size + 1, 0, none⟩ 1 1 [.string key] rfl rfl HNKS.out (by intro u hu; simp at hu; subst hu; rfl) (by decide) (by unfold maxLen; omega) (by omega) hszW _ rfl ?_; intro gk capk w5 d1 d2 d3 d4; have HBX5 := Box.grown HSW2.out.box d2 HNEK.out; have r4 := HBX5.cells.2.2.2.2; have f4 := HBX5.frz 4; have HPK := Lib.hid (SInv.pushKey HSW2.out d1 d2 (by simpa using d3)); obtain ⟨l0, l1, l2, l3, l4⟩ := HPK.out.1.box.cells; have HXW := Lib.hid ((Box.grown (HX.out.alloc (.cells #[.string key] 9 (0, 0))) d2 HNEX.out).set (p := ⟨w.heap.size + 1, 4, none⟩) (show w4.heap.size ≠ w.heap.size + 1 by omega) (.slice (some ⟨gk, 0, none⟩) (a.1.length + 1) capk)); obtain ⟨t0, t1, t2, t3, t4⟩ := HXW.out.cells; have HSW := Lib.hid (HPK.out.1.below ((Below.refl _ _).alloc (Nat.le_refl _) (aggW k6 n6 s6 (.slice A6 li6 ci6) (.slice K6 lk6 ck6)))); have HNK : Hid (∀ (q : Nat) (x : Value), [Value.int .i64 k6, .int .i64 n6, .string s6, .slice A6 li6 ci6, .slice K6 lk6 ck6][q]? = some x → ((w5.setCell ⟨w.heap.size + 1, 4, none⟩ (.slice (some ⟨gk, 0, none⟩) (a.1.length + 1) capk)).alloc (aggW k6 n6 s6 (.slice A6 li6 ci6) (.slice K6 lk6 ck6))).cell? ((⟨w5.heap.size, 0, none⟩ : Addr).add q) = some x) := Lib.hid (cells_news (w5.setCell ⟨w.heap.size + 1, 4, none⟩ (.slice (some ⟨gk, 0, none⟩) (a.1.length + 1) capk)) w5.heap.size (by simp [World.setCell]) [Value.int .i64 k6, .int .i64 n6, .string s6, .slice A6 li6 ci6, .slice K6 lk6 ck6] 26); have hszW4 : w.heap.size + 2 ≤ ((w5.setCell ⟨w.heap.size + 1, 4, none⟩ (.slice (some ⟨gk, 0, none⟩) (a.1.length + 1) capk)).alloc (aggW k6 n6 s6 (.slice A6 li6 ci6) (.slice K6 lk6 ck6))).heap.size := HSW.out.bw; clear k0 k1 k2 k3 k4 x0 x1 x2 x3 x4) | (refine wpList_append_lies _ rfl _ _ 23 rfl (w.heap.size + 2) 26 i0 (.agg #[.int .i64 0, .int .i64 0, .string ⟨#[]⟩, .slice none 0 0, .slice none 0 0]) 5 80 Tryz.underlying23 hi0 hz0 hz1 hz2 rfl (by decide) (.slice Av a.2.length cv) a.2.length xs rfl HSW.out.own ⟨w5.heap.size, 0, none⟩ 1 1 [.int .i64 k6, .int .i64 n6, .string s6, .slice A6 li6 ci6, .slice K6 lk6 ck6] rfl rfl HNK.out (by intro u hu; simp at hu; rcases hu with rfl | rfl | rfl | rfl | rfl <;> rfl) (by decide) (by unfold maxLen; omega) (by omega) hszW4 _ rfl ?_; intro gg cap2 w6 e1 e2 e3 e4; have HBX6 := Box.grown HSW.out.box e2 HNEI.out; have r3 := HBX6.cells.2.2.2.1; have f3 := HBX6.frz 3; clear l0 l1 l2 l3 l4 t0 t1 t2 t3 t4 r4 f4))
                have hsz3 : (w5.setCell ⟨w.heap.size + 1, 4, none⟩ (.slice (some ⟨gk, 0, none⟩) (a.1.length + 1) capk)).heap.size = w5.heap.size := by simp [World.setCell]
                have ba : Below (w5.setCell ⟨w.heap.size + 1, 4, none⟩ (.slice (some ⟨gk, 0, none⟩) (a.1.length + 1) capk)).heap.size (w5.setCell ⟨w.heap.size + 1, 4, none⟩ (.slice (some ⟨gk, 0, none⟩) (a.1.length + 1) capk)) ((w5.setCell ⟨w.heap.size + 1, 4, none⟩ (.slice (some ⟨gk, 0, none⟩) (a.1.length + 1) capk)).alloc (aggW k6 n6 s6 (.slice A6 li6 ci6) (.slice K6 lk6 ck6))) := (Below.refl _ _).alloc (Nat.le_refl _) _
                have BB3 : Hid (Below (w.heap.size + 1) w4 ((w5.setCell ⟨w.heap.size + 1, 4, none⟩ (.slice (some ⟨gk, 0, none⟩) (a.1.length + 1) capk)).alloc (aggW k6 n6 s6 (.slice A6 li6 ci6) (.slice K6 lk6 ck6)))) := Lib.hid ((B4.out.mono (by omega)).trans (HPK.out.2.trans (ba.mono (by have := HPK.out.1.bw; omega))))
                clear ba hszW hsz3
                have hpk := SInv.push0 (.slice (some ⟨gg, 0, none⟩) (a.2.length + 1) cap2) HSW.out e2
                have HKB : Hid (Box (w6.setCell ⟨w.heap.size + 1, 3, none⟩ (.slice (some ⟨gg, 0, none⟩) (a.2.length + 1) cap2)) w.heap.size (.int .i64 0) (.int .i64 0) (.string ⟨#[]⟩) (.slice none 0 0) (.slice none 0 0) ∧ Bes p w.heap.size w (w6.setCell ⟨w.heap.size + 1, 3, none⟩ (.slice (some ⟨gg, 0, none⟩) (a.2.length + 1) cap2))) := Lib.hid (QK.pushed0 HK7.out HBB.out BB3.out hpk)
                have HQ5 := Lib.hid (HP4.out.same ((BB3.out.trans hpk).mono (show p + 1 ≤ w.heap.size + 1 by have := HPN.out; omega)))
                have HSZ : Hid (w.heap.size + 1 ≤ (w6.setCell ⟨w.heap.size + 1, 3, none⟩ (.slice (some ⟨gg, 0, none⟩) (a.2.length + 1) cap2)).heap.size) := Lib.hid (by have := hpk.size; have := BB3.out.size; omega)
                clear hpk HSW HS3 HX HS HS4 HK7 HQ7 HNK HNKS HNEK HNEI HNEX HBX5 HBX6 HXW HSW2 HPK r3 f3 d1 d2 d3 d4 e1 e2 e3 e4
                refine (qskip_any HQ5.out).mono ?_
                rintro e w6 ⟨rfl, hp6, hb6⟩
                have HQ6 := Lib.hid hp6
                have HBX6 := Lib.hid (HKB.out.1.bes hb6 (by have := HSZ.out; omega) HPN.out)
                have HBE6 := Lib.hid (HKB.out.2.trans (hb6.mono (by have := HSZ.out; omega)))
                have HSZ6 : Hid (w.heap.size + 1 ≤ w6.heap.size) := Lib.hid (by have := hb6.size; have := HSZ.out; omega)
                clear hp6 hb6 HKB HQ5 HSZ
                obtain ⟨q0, q1, q2, q3, q4⟩ := HQ6.out.box.cells
                have hy1 : (y.2 == 0) = false := by have := HY.out; simpa using this
                go_wp2_with fail
                refine (qword_no HQ6.out HY.out ⟨#[44]⟩).mono ?_
                rintro e w8 ⟨rfl, hb8⟩
                have HQ8 := Lib.hid (HQ6.out.kept hb8)
                have HBX8 := Lib.hid (HBX6.out.kept hb8)
                have HBE8 := Lib.hid (HBE6.out.trans ((Bes.of hb8).mono (by have := HSZ6.out; omega)))
                have hm8 := Lib.hid (qm_off HQ8.out HY.out)
                clear hb8 hy1 q0 q1 q2 q3 q4
                go_wp2_with fail
                go_roundw
                case rel => exact .inr ⟨y, _, m1, HBX8.out, HBE8.out, HQ8.out, HY.out, E2.out⟩
                case measure => rw [hm.out, hm8.out]; omega
            · have EW : wordR s [58] j6 = .error (j6, 3) := by unfold wordR takeR; rw [isIn_eq, if_neg (by simp [h58])]
              have hst : stepO s (pv s f (level + 1)) a j m = .error (j6, 3) := by unfold stepO; rw [KR3.out, if_neg h58]
              have E2 : Hid (objR s f level i n = .error (j6, 3)) := Lib.hid (objR_bad (by rw [HE.out, elsF, hst]))
              clear h58 KR3 hst
              go_wp2_with fail
              refine HWD.out.mono ?_
              rintro e w7 ⟨rfl, hr7, hb7⟩
              rw [EW] at hr7
              obtain ⟨j7, hp7, hy7⟩ := hr7
              have HQ7 := Lib.hid hp7
              have HY := Lib.hid hy7
              have HK7 := Lib.hid (HK6.out.step hb7)
              have HKB := And.intro HK7.out.bx HK7.out.bes
              clear hp7 hb7 EW hy7 HWD HQ6 HK6
              obtain ⟨q0, q1, q2, q3, q4⟩ := HQ7.out.box.cells
              have BXN := Lib.hid HKB.1
              obtain ⟨y0, y1, y2, y3, y4⟩ := BXN.out.cells
              have g0 := BXN.out.frz 0
              have g1 := BXN.out.frz 1
              have g2 := BXN.out.frz 2
              have g3 := BXN.out.frz 3
              have g4 := BXN.out.frz 4
              have ZZ := Lib.hid (Box.five BXN.out (.int .i64 0) (.int .i64 0) (.string ⟨#[]⟩) (.slice none 0 0) (.slice none 0 0)).cells
              go_wp2_with fail
              obtain ⟨z0, z1, z2, z3, z4⟩ := ZZ.out
              refine bodyPost_ret (v := .agg #[.int .i64 0, .int .i64 0, .string ⟨#[]⟩, .slice none 0 0, .slice none 0 0]) (by simp [results, Tryz.results28, go_sem, z0, z1, z2, z3, z4]) rfl (.inr ⟨_, _, _, _, E2.out, rfl, ⟨_, _, _, _, _, _, _, _, _, rfl⟩, HQ7.out.five HPN.out _ _ _ _ _, HY.out, Bes.five HKB.2 (Nat.le_refl _) _ _ _ _ _⟩)
      · have HQJ := Lib.hid hp
        have HY := Lib.hid hy
        have E2 : Hid ((objR s f level i n) = .error y) := Lib.hid (objR_bad he)
        have HKB := And.intro hbx hbe
        obtain ⟨q0, q1, q2, q3, q4⟩ := HQJ.out.box.cells
        have hy1 : (y.2 == 0) = false := by simpa using hy
        clear hp hy he hbx hbe
        have BXN := Lib.hid HKB.1
        obtain ⟨y0, y1, y2, y3, y4⟩ := BXN.out.cells
        have g0 := BXN.out.frz 0
        have g1 := BXN.out.frz 1
        have g2 := BXN.out.frz 2
        have g3 := BXN.out.frz 3
        have g4 := BXN.out.frz 4
        have ZZ := Lib.hid (Box.five BXN.out (.int .i64 0) (.int .i64 0) (.string ⟨#[]⟩) (.slice none 0 0) (.slice none 0 0)).cells
        go_wp2_with fail
        obtain ⟨z0, z1, z2, z3, z4⟩ := ZZ.out
        refine bodyPost_ret (v := .agg #[.int .i64 0, .int .i64 0, .string ⟨#[]⟩, .slice none 0 0, .slice none 0 0]) (by simp [results, Tryz.results28, go_sem, z0, z1, z2, z3, z4]) rfl (.inr ⟨_, _, _, _, E2.out, rfl, ⟨_, _, _, _, _, _, _, _, _, rfl⟩, HQJ.out.five HPN.out _ _ _ _ _, HY.out, Bes.five HKB.2 (Nat.le_refl _) _ _ _ _ _⟩)
end Go.Proofs.YtcbajgcblfgmgaaGreatDoor
