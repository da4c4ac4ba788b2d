
/-
  A value read through a set of blocks.
-/
import Derived.Test.YtcbajgcblfgmgaaGreatDoorPast
namespace Go.Proofs.YtcbajgcblfgmgaaGreatDoor
open Go.RowKit
def KeysS (w : World) (S : Nat → Prop) (K : Option Addr) (keys : List ByteArray) : Prop :=
  0 < keys.length → ∃ a, K = some a ∧ S a.block ∧ ∀ i s, keys[i]? = some s → w.cell? (a.add i) = some (.string s)
inductive RdS (w : World) (S : Nat → Prop) : Value → VT → Prop
  | mk {k n : Int} {s : ByteArray} {A : Option Addr} {li ci : Nat} {K : Option Addr} {lk ck : Nat} {items : List VT} {keys : List ByteArray} (V : Nat → Value)
      (hk : small k) (hn : small n) (hs : s.size ≤ 140737488351232) (hks : ∀ s ∈ keys, s.size ≤ 140737488351232)
      (hli : items.length = li) (hlk : keys.length = lk) (hbi : li * 80 ≤ 140737488351232) (hbk : lk * 16 ≤ 140737488351232)
      (hA : 0 < li → ∃ a, A = some a ∧ S a.block ∧ ∀ i, i < li → C5 w (a.add (i * 5)) (V i))
      (hr : ∀ (i : Nat) (t : VT), items[i]? = some t → RdS w S (V i) t)
      (hK : KeysS w S K keys) :
      RdS w S (.agg #[.int .i64 k, .int .i64 n, .string s, .slice A li ci, .slice K lk ck]) (.mk k n s items keys)
theorem cell_of_block {w w' : World} {a : Addr} (h : w'.heap[a.block]? = w.heap[a.block]?) : w'.cell? a = w.cell? a := World.cell?_of_block (w := w) h
theorem C5.same {w w' : World} {a : Addr} {v : Value} (h : C5 w a v) (hb : w'.heap[a.block]? = w.heap[a.block]?) : C5 w' a v := by
  obtain ⟨c0, c1, c2, c3, c4, e, h0, h1, h2, h3, h4⟩ := h
  exact ⟨c0, c1, c2, c3, c4, e, (cell_of_block hb).trans h0, (cell_of_block (a := ⟨a.block, a.off + 1, none⟩) hb).trans h1, (cell_of_block (a := ⟨a.block, a.off + 2, none⟩) hb).trans h2, (cell_of_block (a := ⟨a.block, a.off + 3, none⟩) hb).trans h3, (cell_of_block (a := ⟨a.block, a.off + 4, none⟩) hb).trans h4⟩
theorem KeysS.kept {w w' : World} {S S' : Nat → Prop} {K : Option Addr} {keys : List ByteArray} (h : KeysS w S K keys) (hb : ∀ b, S b → w'.heap[b]? = w.heap[b]?) (hs : ∀ b, S b → S' b) : KeysS w' S' K keys := by
  intro hl
  obtain ⟨a, e, ha, hc⟩ := h hl
  exact ⟨a, e, hs _ ha, fun i s hi => (cell_of_block (by rw [add_block]; exact hb _ ha)).trans (hc i s hi)⟩
theorem RdS.kept {w w' : World} {S S' : Nat → Prop} {v : Value} {t : VT} (h : RdS w S v t) (hb : ∀ b, S b → w'.heap[b]? = w.heap[b]?) (hs : ∀ b, S b → S' b) : RdS w' S' v t := by
  induction h with
  | mk V hk hn hz hks hli hlk hbi hbk hA hr hK ih =>
    refine .mk V hk hn hz hks hli hlk hbi hbk (fun h0 => ?_) ih (hK.kept hb hs)
    obtain ⟨a, e, ha, hc⟩ := hA h0
    exact ⟨a, e, hs _ ha, fun i hi => (hc i hi).same (by rw [add_block]; exact hb _ ha)⟩
theorem RdS.toRd {w : World} {S : Nat → Prop} {B : Nat} {v : Value} {t : VT} (h : RdS w S v t) (hs : ∀ b, S b → b < B) : Rd w B v t := by
  induction h with
  | mk V hk hn hz hks hli hlk hbi hbk hA hr hK ih =>
    refine .mk V hk hn hz hks hli hlk hbi hbk (fun h0 => ?_) ih (fun h0 => ?_)
    · obtain ⟨a, e, ha, hc⟩ := hA h0
      exact ⟨a, e, hs _ ha, hc⟩
    · obtain ⟨a, e, ha, hc⟩ := hK h0
      exact ⟨a, e, hs _ ha, hc⟩
theorem RdS.five {w : World} {S : Nat → Prop} {v : Value} {t : VT} (h : RdS w S v t) : ∃ c0 c1 c2 c3 c4, v = .agg #[c0, c1, c2, c3, c4] ∧ c0.oneCell' = true ∧ c1.oneCell' = true ∧ c2.oneCell' = true ∧ c3.oneCell' = true ∧ c4.oneCell' = true := by
  cases h with
  | mk V => exact ⟨_, _, _, _, _, rfl, rfl, rfl, rfl, rfl, rfl⟩
/- The cells of a row hold these values. -/
def Elems (w : World) (S : Nat → Prop) (xs : List Value) (ts : List VT) : Prop :=
  ∀ i t, ts[i]? = some t → ∃ c0 c1 c2 c3 c4, xs[i * 5]? = some c0 ∧ xs[i * 5 + 1]? = some c1 ∧ xs[i * 5 + 2]? = some c2 ∧ xs[i * 5 + 3]? = some c3 ∧ xs[i * 5 + 4]? = some c4 ∧ RdS w S (.agg #[c0, c1, c2, c3, c4]) t
theorem Elems.nil (w : World) (S : Nat → Prop) : Elems w S [] [] := fun i t h => by simp at h
theorem Elems.kept {w w' : World} {S S' : Nat → Prop} {xs : List Value} {ts : List VT} (h : Elems w S xs ts) (hb : ∀ b, S b → w'.heap[b]? = w.heap[b]?) (hs : ∀ b, S b → S' b) : Elems w' S' xs ts := fun i t hi => by
  obtain ⟨c0, c1, c2, c3, c4, e0, e1, e2, e3, e4, hr⟩ := h i t hi
  exact ⟨c0, c1, c2, c3, c4, e0, e1, e2, e3, e4, hr.kept hb hs⟩
theorem Elems.snoc {w : World} {S : Nat → Prop} {xs : List Value} {ts : List VT} {c0 c1 c2 c3 c4 : Value} {t : VT} (h : Elems w S xs ts) (hl : xs.length = ts.length * 5) (hr : RdS w S (.agg #[c0, c1, c2, c3, c4]) t) : Elems w S (xs ++ [c0, c1, c2, c3, c4]) (ts ++ [t]) := fun i u hi => by
  rcases Nat.lt_or_ge i ts.length with hlt | hge
  · rw [List.getElem?_append_left hlt] at hi
    obtain ⟨d0, d1, d2, d3, d4, e0, e1, e2, e3, e4, hr⟩ := h i u hi
    exact ⟨d0, d1, d2, d3, d4, by rw [List.getElem?_append_left (by omega)]; exact e0, by rw [List.getElem?_append_left (by omega)]; exact e1, by rw [List.getElem?_append_left (by omega)]; exact e2, by rw [List.getElem?_append_left (by omega)]; exact e3, by rw [List.getElem?_append_left (by omega)]; exact e4, hr⟩
  · rw [List.getElem?_append_right hge] at hi
    have h0 : i = ts.length := by
      have := (List.getElem?_eq_some_iff.1 hi).1
      simp at this; omega
    subst h0
    simp at hi
    subst hi
    refine ⟨c0, c1, c2, c3, c4, ?_, ?_, ?_, ?_, ?_, hr⟩ <;> rw [List.getElem?_append_right (by omega)] <;> simp [hl]
/- A made list of values. -/
def ListS (w : World) (S : Nat → Prop) (v : Value) (ts : List VT) : Prop :=
  ∃ A ci, v = .slice A ts.length ci ∧ ∃ V : Nat → Value, (0 < ts.length → ∃ a, A = some a ∧ S a.block ∧ ∀ i, i < ts.length → C5 w (a.add (i * 5)) (V i)) ∧ ∀ i t, ts[i]? = some t → RdS w S (V i) t
/- The blocks that were made since. -/
def Fresh (n : Nat) (w' : World) (b : Nat) : Prop := n ≤ b ∧ b < w'.heap.size
end Go.Proofs.YtcbajgcblfgmgaaGreatDoor
