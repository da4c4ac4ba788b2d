
/-
  A value that the reader builds: its variable, its rows.
-/
import Derived.Test.YtcbajgcblfgmgaaGreatDoorJKey
namespace Go.Proofs.YtcbajgcblfgmgaaGreatDoor
open Go.RowKit
def FiveV (u : Value) : Prop := ∃ (k n : Int) (s : ByteArray) (A : Option Addr) (li ci : Nat) (K : Option Addr) (lk ck : Nat), u = .agg #[.int .i64 k, .int .i64 n, .string s, .slice A li ci, .slice K lk ck]
theorem RdS.fiveV {w : World} {S : Nat → Prop} {u : Value} {t : VT} (h : RdS w S u t) : FiveV u := by
  cases h with
  | mk V => exact ⟨_, _, _, _, _, _, _, _, _, rfl⟩
def ValPost (w : World) (p : Nat) (s : ByteArray) (i n : Nat) (r : Except Er (VT × Nat × Nat)) (e : Ending) (w' : World) : Prop :=
  (∃ t j m u, r = .ok (t, j, m) ∧ e = .returned (.tuple #[u, .bool true]) ∧ RdS w' (Fresh w.heap.size w') u t ∧ PS w' p s j m 0 0 ∧ Bes p w.heap.size w w' ∧ i ≤ j ∧ n < m ∧ m ≤ 4096) ∨
  (∃ x j m u, r = .error x ∧ e = .returned (.tuple #[u, .bool false]) ∧ FiveV u ∧ PS w' p s j m x.1 x.2 ∧ Bes p w.heap.size w w')
def ValAt (p : Nat) (s : ByteArray) (f level : Nat) : Prop := ∀ (i n : Nat) (w : World), PS w p s i n 0 0 → n ≤ 4096 → s.size + 1 ≤ f + i →
  Calls Tryz.prog 9 #[pp p, .int .i64 level] w (ValPost w p s i n (pv s f level i n))
/- The variable of a list or an object that is being read, with its rows. -/
structure VInv (w : World) (base vb : Nat) (kind : Int) (items : List VT) (keys : List ByteArray) (v v2 : Value) (xs : List Value) : Prop where
  box : Box w vb (.int .i64 kind) (.int .i64 0) (.string ⟨#[]⟩) v v2
  own : w.ownsRow base 26 5 v items.length xs
  elems : Elems w (fun b => base ≤ b ∧ b < w.heap.size ∧ v.ownBlock ≠ some b ∧ v2.ownBlock ≠ some b) xs items
  keys : w.ownsRow base 9 1 v2 keys.length (keys.map Value.string)
  apart : ∀ b, v.ownBlock = some b → v2.ownBlock ≠ some b
  vbb : vb < base
  bw : base ≤ w.heap.size
theorem VInv.bes {w w' : World} {p base vb : Nat} {kind : Int} {items : List VT} {keys : List ByteArray} {v v2 : Value} {xs : List Value} (h : VInv w base vb kind items keys v v2 xs) (hb : Bes p w.heap.size w w') (hp : p < vb) : VInv w' base vb kind items keys v v2 xs := by
  have hk : ∀ g, base ≤ g → g < w.heap.size → w'.heap[g]? = w.heap[g]? := fun g h1 h2 => hb.block g h2 (by have := h.vbb; omega)
  have own : ∀ {e : TypeId} {size : Nat} {v : Value} {n : Nat} {xs : List Value}, w.ownsRow base e size v n xs → w'.ownsRow base e size v n xs := by
    intro e size v n xs h
    refine ⟨h.1, h.2.imp id ?_⟩
    rintro ⟨g, cap, cur, e1, e2, e3, r⟩
    have hg : g < w.heap.size := by
      rcases Nat.lt_or_ge g w.heap.size with h' | h'
      · exact h'
      · rw [Array.getElem?_eq_none h'] at e3; cases e3
    exact ⟨g, cap, cur, e1, e2, (hk g e2 hg).trans e3, r⟩
  refine ⟨h.box.bes hb (Nat.lt_of_lt_of_le h.vbb h.bw) hp, own h.own, ?_, own h.keys, h.apart, h.vbb, Nat.le_trans h.bw hb.size⟩
  exact h.elems.kept (fun b hb2 => hk b hb2.1 hb2.2.1) (fun b hb2 => ⟨hb2.1, Nat.lt_of_lt_of_le hb2.2.1 hb.size, hb2.2.2⟩)
theorem own_slice {w : World} {base : Nat} {e : TypeId} {size : Nat} {v : Value} {n : Nat} {xs : List Value} (h : w.ownsRow base e size v n xs) : ∃ A c, v = .slice A n c := by
  rcases h.2 with ⟨rfl, rfl⟩ | ⟨g, cap, cur, rfl, _⟩
  · exact ⟨none, 0, rfl⟩
  · exact ⟨_, _, rfl⟩
theorem cells_Z (w : World) (xs : List Value) (ty : TypeId) : ∀ (j : Nat) (u : Value), xs[j]? = some u → (w.alloc (.cells xs.toArray ty (0, 0))).drew.cell? ((⟨w.heap.size, 0, none⟩ : Addr).add j) = some u := fun j u h => by
  rw [Addr.add_mid, Nat.zero_add]
  show (w.alloc (.cells xs.toArray ty (0, 0))).cell? _ = _
  rw [cell_of_row _ _ _ _ _ _ (heap_alloc_new _ _)]
  simpa using h
def zz5 : List Value := [.int .i64 0, .int .i64 0, .string ⟨#[]⟩, .slice none 0 0, .slice none 0 0]
theorem zz_one : ∀ u ∈ zz5, u.oneCell' = true := by decide
theorem own_frz {w : World} {base : Nat} {e : TypeId} {size : Nat} {n : Nat} {xs : List Value} {g cap : Nat} (h : w.ownsRow base e size (.slice (some ⟨g, 0, none⟩) n cap) n xs) (i : Nat) : w.frozen? ⟨g, i, none⟩ = false := by
  rcases h.2 with ⟨e, _⟩ | ⟨g', cap', cur, e, _, hg, _⟩
  · cases e
  · cases e
    simp [World.frozen?, hg]
theorem own_zero {w : World} {base : Nat} {e : TypeId} {n m : Nat} {xs : List Value} {g cap : Nat} (h : w.ownsRow base e 5 (.slice (some ⟨g, 0, none⟩) n cap) n (xs ++ zz5)) (hm : xs.length = m * 5) :
    w.cell? ⟨g, m * 5, none⟩ = some (.int .i64 0) ∧ w.cell? ⟨g, m * 5 + 1, none⟩ = some (.int .i64 0) ∧ w.cell? ⟨g, m * 5 + 2, none⟩ = some (.string ⟨#[]⟩) ∧ w.cell? ⟨g, m * 5 + 3, none⟩ = some (.slice none 0 0) ∧ w.cell? ⟨g, m * 5 + 4, none⟩ = some (.slice none 0 0) := by
  have hc : ∀ k u, zz5[k]? = some u → w.cell? ⟨g, m * 5 + k, none⟩ = some u := fun k u hu => by
    have := h.cells (g := g) rfl (m * 5 + k) u (by rw [List.getElem?_append_right (by omega)]; rw [show m * 5 + k - xs.length = k by omega]; exact hu)
    rwa [Addr.add_mid, Nat.zero_add] at this
  exact ⟨hc 0 _ rfl, hc 1 _ rfl, hc 2 _ rfl, hc 3 _ rfl, hc 4 _ rfl⟩
theorem Box.grown {w w' : World} {b : Nat} {c0 c1 c2 c3 c4 : Value} {row : Option Nat} (h : Box w b c0 c1 c2 c3 c4) (hg : w.grownBy w' row) (hne : row ≠ some b) : Box w' b c0 c1 c2 c3 c4 := (hg.block b h.lt (fun e => hne e.symm)).trans h
structure LInv (w0 : World) (N p level n0 : Nat) (s : ByteArray) (items : List VT) (i n : Nat) (w : World) : Prop where
  ps : PS w p s i n 0 0
  c0 : w.cell? ⟨N, 0, none⟩ = some (pp p)
  c1 : w.cell? ⟨N + 1, 0, none⟩ = some (.int .i64 level)
  rv : Box w (N + 2) (.int .i64 0) (.int .i64 0) (.string ⟨#[]⟩) (.slice none 0 0) (.slice none 0 0)
  bes : Bes p N w0 w
  vv : ∃ v xs, VInv w (N + 4) (N + 3) 5 items [] v (.slice none 0 0) xs
  hn : items.length ≤ n
  hm : n ≤ 4096
  h0 : n0 ≤ n
/- After an error: the variable can still be read and the result written. -/
def LBad (w0 : World) (N p : Nat) (s : ByteArray) (x : Er) (w' : World) : Prop :=
  ∃ (j m : Nat) (k n : Int) (z : ByteArray) (A : Option Addr) (li ci : Nat) (K : Option Addr) (lk ck : Nat), PS w' p s j m x.1 x.2 ∧ Bes p N w0 w' ∧ Box w' (N + 2) (.int .i64 0) (.int .i64 0) (.string ⟨#[]⟩) (.slice none 0 0) (.slice none 0 0) ∧ Box w' (N + 3) (.int .i64 k) (.int .i64 n) (.string z) (.slice A li ci) (.slice K lk ck)
end Go.Proofs.YtcbajgcblfgmgaaGreatDoor
