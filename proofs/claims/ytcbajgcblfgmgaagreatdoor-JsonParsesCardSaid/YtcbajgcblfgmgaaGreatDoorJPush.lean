
/-
  An element is appended to the row of a variable and stored there: whichever of the two stores comes first.
-/
import Derived.Test.YtcbajgcblfgmgaaGreatDoorJVal0
namespace Go.Proofs.YtcbajgcblfgmgaaGreatDoor
open Go.RowKit
theorem setCell_comm (w : World) (a b : Addr) (u v : Value) (h : a.block ≠ b.block) : (w.setCell a u).setCell b v = (w.setCell b v).setCell a u := by
  unfold World.setCell
  congr 1
  apply Array.ext_getElem?
  intro k
  simp only [Array.getElem?_modify]
  by_cases h1 : a.block = k
  · have h2 : ¬ b.block = k := by omega
    simp [h1, h2]
  · simp [h1]
theorem own_set {w : World} {base : Nat} {e : TypeId} {size n : Nat} {xs : List Value} {g cap : Nat} (h : w.ownsRow base e size (.slice (some ⟨g, 0, none⟩) n cap) n xs) (k : Nat) (u : Value) : (w.setCell ⟨g, k, none⟩ u).ownsRow base e size (.slice (some ⟨g, 0, none⟩) n cap) n (xs.set k u) := by
  refine ⟨by rw [List.length_set]; exact h.1, ?_⟩
  rcases h.2 with ⟨e, _⟩ | ⟨g', cap', cur, e, hb, hg, h1, h2, h3, h4⟩
  · cases e
  · cases e
    refine .inr ⟨g, cap, cur.setIfInBounds k u, rfl, hb, ?_, h1, h2, by simpa using h3, ?_⟩
    · simp [World.setCell, Array.getElem?_modify, hg]
    · rw [Array.toList_setIfInBounds, ← h4, List.take_set]
theorem set5 {xs : List Value} {m : Nat} (hm : xs.length = m * 5) (c0 c1 c2 c3 c4 : Value) : ((((((xs ++ zz5).set (m * 5) c0).set (m * 5 + 1) c1).set (m * 5 + 2) c2).set (m * 5 + 3) c3).set (m * 5 + 4) c4) = xs ++ [c0, c1, c2, c3, c4] := by
  rw [← hm]
  simp [zz5]
def put5 (w : World) (g m : Nat) (c0 c1 c2 c3 c4 : Value) : World :=
  ((((w.setCell ⟨g, m, none⟩ c0).setCell ⟨g, m + 1, none⟩ c1).setCell ⟨g, m + 2, none⟩ c2).setCell ⟨g, m + 3, none⟩ c3).setCell ⟨g, m + 4, none⟩ c4
def putA (w : World) (vb g m : Nat) (u c0 c1 c2 c3 c4 : Value) : World := (put5 w g m c0 c1 c2 c3 c4).setCell ⟨vb, 3, none⟩ u
theorem putA_eq (w : World) (vb g m : Nat) (u c0 c1 c2 c3 c4 : Value) (h : vb ≠ g) : put5 (w.setCell ⟨vb, 3, none⟩ u) g m c0 c1 c2 c3 c4 = putA w vb g m u c0 c1 c2 c3 c4 := by
  unfold putA put5
  rw [setCell_comm w ⟨vb, 3, none⟩ ⟨g, m, none⟩ _ _ h, setCell_comm _ ⟨vb, 3, none⟩ ⟨g, m + 1, none⟩ _ _ h, setCell_comm _ ⟨vb, 3, none⟩ ⟨g, m + 2, none⟩ _ _ h, setCell_comm _ ⟨vb, 3, none⟩ ⟨g, m + 3, none⟩ _ _ h, setCell_comm _ ⟨vb, 3, none⟩ ⟨g, m + 4, none⟩ _ _ h]
theorem put5_size (w : World) (g m : Nat) (c0 c1 c2 c3 c4 : Value) : (put5 w g m c0 c1 c2 c3 c4).heap.size = w.heap.size := by simp [put5, World.setCell]
theorem put5_heap (w : World) (g m : Nat) (c0 c1 c2 c3 c4 : Value) (k : Nat) (h : k ≠ g) : (put5 w g m c0 c1 c2 c3 c4).heap[k]? = w.heap[k]? := by
  unfold put5
  rw [Below.heap_setCell _ _ _ _ h, Below.heap_setCell _ _ _ _ h, Below.heap_setCell _ _ _ _ h, Below.heap_setCell _ _ _ _ h, Below.heap_setCell _ _ _ _ h]
theorem setCell_os (w : World) (a : Addr) (u : Value) : (w.setCell a u).os = w.os ∧ (w.setCell a u).tape = w.tape ∧ (w.setCell a u).output = w.output := ⟨rfl, rfl, rfl⟩
theorem put5_os (w : World) (g m : Nat) (c0 c1 c2 c3 c4 : Value) : (put5 w g m c0 c1 c2 c3 c4).os = w.os ∧ (put5 w g m c0 c1 c2 c3 c4).tape = w.tape ∧ (put5 w g m c0 c1 c2 c3 c4).output = w.output := by
  unfold put5
  simp only [setCell_os, and_self]
theorem put5_own {w : World} {base : Nat} {e : TypeId} {n m g cap : Nat} {xs : List Value} (h : w.ownsRow base e 5 (.slice (some ⟨g, 0, none⟩) n cap) n (xs ++ zz5)) (hm : xs.length = m * 5) (c0 c1 c2 c3 c4 : Value) :
    (put5 w g (m * 5) c0 c1 c2 c3 c4).ownsRow base e 5 (.slice (some ⟨g, 0, none⟩) n cap) n (xs ++ [c0, c1, c2, c3, c4]) := by
  have h5 := own_set (own_set (own_set (own_set (own_set h (m * 5) c0) (m * 5 + 1) c1) (m * 5 + 2) c2) (m * 5 + 3) c3) (m * 5 + 4) c4
  rw [set5 hm] at h5
  exact h5
theorem putA_size (w : World) (vb g m : Nat) (u c0 c1 c2 c3 c4 : Value) : (putA w vb g m u c0 c1 c2 c3 c4).heap.size = w.heap.size := by
  unfold putA; rw [← put5_size w g m c0 c1 c2 c3 c4]; simp [World.setCell]
theorem putA_os (w : World) (vb g m : Nat) (u c0 c1 c2 c3 c4 : Value) : (putA w vb g m u c0 c1 c2 c3 c4).os = w.os ∧ (putA w vb g m u c0 c1 c2 c3 c4).tape = w.tape ∧ (putA w vb g m u c0 c1 c2 c3 c4).output = w.output := by
  unfold putA
  simp only [setCell_os, put5_os, and_self]
theorem putA_heap (w : World) (vb g m : Nat) (u c0 c1 c2 c3 c4 : Value) (k : Nat) (h : k ≠ g) (h' : k ≠ vb) : (putA w vb g m u c0 c1 c2 c3 c4).heap[k]? = w.heap[k]? := by
  unfold putA
  rw [Below.heap_setCell _ _ _ _ h', put5_heap _ _ _ _ _ _ _ _ _ h]
theorem putA_box {w : World} {vb g m : Nat} {u b0 b1 b2 b3 b4 : Value} (c0 c1 c2 c3 c4 : Value) (h : Box w vb b0 b1 b2 b3 b4) (hne : vb ≠ g) : Box (putA w vb g m u c0 c1 c2 c3 c4) vb b0 b1 b2 u b4 := by
  have h5 : Box (put5 w g m c0 c1 c2 c3 c4) vb b0 b1 b2 b3 b4 := (put5_heap w g m c0 c1 c2 c3 c4 vb hne).trans h
  exact h5.s3 u
theorem VInv.push0 {W w3 : World} {base vb : Nat} {kind : Int} {items : List VT} {keys : List ByteArray} {Av : Option Addr} {cv : Nat} {v2 : Value} {xs : List Value} {g cap : Nat} (c0 c1 c2 c3 c4 : Value)
    (hv : VInv W base vb kind items keys (.slice Av items.length cv) v2 xs)
    (h1 : w3.ownsRow base 26 5 (.slice (some ⟨g, 0, none⟩) (items.length + 1) cap) (items.length + 1) (xs ++ zz5))
    (h2 : W.grownBy w3 (Value.slice Av items.length cv).ownBlock) :
    Box (putA w3 vb g (items.length * 5) (.slice (some ⟨g, 0, none⟩) (items.length + 1) cap) c0 c1 c2 c3 c4) vb (.int .i64 kind) (.int .i64 0) (.string ⟨#[]⟩) (.slice (some ⟨g, 0, none⟩) (items.length + 1) cap) v2 ∧
    Below vb W (putA w3 vb g (items.length * 5) (.slice (some ⟨g, 0, none⟩) (items.length + 1) cap) c0 c1 c2 c3 c4) := by
  have hgb : base ≤ g := (own_lt h1 rfl).1
  have hvb := hv.vbb
  have hbw := hv.bw
  have s3 := h2.size
  have hbx3 : Box w3 vb (.int .i64 kind) (.int .i64 0) (.string ⟨#[]⟩) (.slice Av items.length cv) v2 := Box.grown hv.box h2 (fun e => by have := own_lt hv.own e; omega)
  have ho := putA_os w3 vb g (items.length * 5) (.slice (some ⟨g, 0, none⟩) (items.length + 1) cap) c0 c1 c2 c3 c4
  refine ⟨putA_box c0 c1 c2 c3 c4 hbx3 (by omega), ho.1.trans h2.os, ho.2.1.trans h2.tape, ho.2.2.trans h2.output, by rw [putA_size]; exact s3, fun k hk => ?_⟩
  rw [putA_heap _ _ _ _ _ _ _ _ _ _ _ (by omega) (by omega), h2.block k (by omega) (fun e => by have := own_lt hv.own e.symm; omega)]
theorem VInv.push {W w3 : World} {base vb : Nat} {kind : Int} {items : List VT} {keys : List ByteArray} {Av : Option Addr} {cv : Nat} {v2 : Value} {xs : List Value} {g cap : Nat} {t : VT} {c0 c1 c2 c3 c4 : Value}
    (hv : VInv W base vb kind items keys (.slice Av items.length cv) v2 xs)
    (hu : RdS W (fun b => base ≤ b ∧ b < W.heap.size ∧ (Value.slice Av items.length cv).ownBlock ≠ some b ∧ v2.ownBlock ≠ some b) (.agg #[c0, c1, c2, c3, c4]) t)
    (h1 : w3.ownsRow base 26 5 (.slice (some ⟨g, 0, none⟩) (items.length + 1) cap) (items.length + 1) (xs ++ zz5))
    (h2 : W.grownBy w3 (Value.slice Av items.length cv).ownBlock) (h3 : (Value.slice Av items.length cv).ownBlock = some g ∨ g = W.heap.size) :
    VInv (putA w3 vb g (items.length * 5) (.slice (some ⟨g, 0, none⟩) (items.length + 1) cap) c0 c1 c2 c3 c4) base vb kind (items ++ [t]) keys (.slice (some ⟨g, 0, none⟩) (items.length + 1) cap) v2 (xs ++ [c0, c1, c2, c3, c4]) ∧
    Below vb W (putA w3 vb g (items.length * 5) (.slice (some ⟨g, 0, none⟩) (items.length + 1) cap) c0 c1 c2 c3 c4) := by
  obtain ⟨hbox, hbel⟩ := VInv.push0 c0 c1 c2 c3 c4 hv h1 h2
  have hgb : base ≤ g := (own_lt h1 rfl).1
  have hg3 : g < w3.heap.size := (own_lt h1 rfl).2
  have hvb := hv.vbb
  have hbw := hv.bw
  have hxl : xs.length = items.length * 5 := hv.own.1
  have s3 := h2.size
  have hgv2 : v2.ownBlock ≠ some g := by
    intro e
    have hl := own_lt hv.keys e
    rcases h3 with h | h
    · exact hv.apart g h e
    · omega
  have hold : ∀ k, k < W.heap.size → k ≠ vb → (Value.slice Av items.length cv).ownBlock ≠ some k → (putA w3 vb g (items.length * 5) (.slice (some ⟨g, 0, none⟩) (items.length + 1) cap) c0 c1 c2 c3 c4).heap[k]? = W.heap[k]? := by
    intro k a b c
    have hkg : k ≠ g := by
      rintro rfl
      rcases h3 with h | h
      · exact c h
      · omega
    rw [putA_heap _ _ _ _ _ _ _ _ _ _ _ hkg b, h2.block k a (fun e => c e.symm)]
  have hsz := putA_size w3 vb g (items.length * 5) (.slice (some ⟨g, 0, none⟩) (items.length + 1) cap) c0 c1 c2 c3 c4
  have hset : ∀ b, base ≤ b → b < W.heap.size → (Value.slice Av items.length cv).ownBlock ≠ some b → (Value.slice (some ⟨g, 0, none⟩) (items.length + 1) cap).ownBlock ≠ some b := by
    intro b _ h5 h6 e
    have e2 : g = b := by injection e
    subst e2
    rcases h3 with h | h
    · exact h6 h
    · omega
  have hown := ownsRow_setCell_below (put5_own h1 hxl c0 c1 c2 c3 c4) (a := ⟨vb, 3, none⟩) hvb (.slice (some ⟨g, 0, none⟩) (items.length + 1) cap)
  generalize hA : putA w3 vb g (items.length * 5) (.slice (some ⟨g, 0, none⟩) (items.length + 1) cap) c0 c1 c2 c3 c4 = A at *
  have hown2 : A.ownsRow base 26 5 (.slice (some ⟨g, 0, none⟩) (items.length + 1) cap) (items.length + 1) (xs ++ [c0, c1, c2, c3, c4]) := by rw [← hA]; exact hown
  refine ⟨⟨hbox, ?_, ?_, ?_, ?_, hvb, by rw [hsz]; omega⟩, hbel⟩
  · rw [List.length_append, List.length_singleton]
    exact hown2
  · refine Elems.snoc (hv.elems.kept ?_ ?_) hxl (hu.kept ?_ ?_)
    · intro b hb
      exact hold b hb.2.1 (by omega) hb.2.2.1
    · intro b hb
      exact ⟨hb.1, by rw [hsz]; omega, hset b hb.1 hb.2.1 hb.2.2.1, hb.2.2.2⟩
    · intro b hb
      exact hold b hb.2.1 (by omega) hb.2.2.1
    · intro b hb
      exact ⟨hb.1, by rw [hsz]; omega, hset b hb.1 hb.2.1 hb.2.2.1, hb.2.2.2⟩
  · refine ⟨hv.keys.1, hv.keys.2.imp id ?_⟩
    rintro ⟨b, cap', cur, e1, e2, e3, r⟩
    have hb2 : v2.ownBlock = some b := by rw [e1]; rfl
    have hbl := (own_lt hv.keys hb2).2
    exact ⟨b, cap', cur, e1, e2, (hold b hbl (by omega) (fun e => hv.apart b e hb2)).trans e3, r⟩
  · intro b e
    have e2 : g = b := by injection e
    subst e2
    exact hgv2
end Go.Proofs.YtcbajgcblfgmgaaGreatDoor
