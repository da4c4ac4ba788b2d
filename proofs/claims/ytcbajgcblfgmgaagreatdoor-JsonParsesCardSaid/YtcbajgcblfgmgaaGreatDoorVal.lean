
/-
  Value trees in memory.
-/
import Derived.Test.YtcbajgcblfgmgaaGreatDoorBase
import Derived.Deep.MidRow
namespace Go.Proofs.YtcbajgcblfgmgaaGreatDoor
open Go.RowKit
inductive VT where
  | mk (k n : Int) (s : ByteArray) (items : List VT) (keys : List ByteArray)
mutual
def VT.size : VT → Nat
  | .mk _ _ _ is _ => 1 + VT.sizes is
def VT.sizes : List VT → Nat
  | [] => 0
  | t :: r => t.size + VT.sizes r
end
mutual
def VT.depth : VT → Nat
  | .mk _ _ _ is _ => 1 + VT.depths is
def VT.depths : List VT → Nat
  | [] => 0
  | t :: r => max t.depth (VT.depths r)
end
mutual
/- The weight: nodes and keys. -/
def VT.wt : VT → Nat
  | .mk _ _ _ is ks => 1 + ks.length + VT.wts is
def VT.wts : List VT → Nat
  | [] => 0
  | t :: r => t.wt + VT.wts r
end
mutual
/- What count returns. -/
def VT.cnt (most : Nat) : VT → Nat → Nat
  | .mk _ _ _ is ks, n => VT.cnts most is (n + 1 + ks.length)
def VT.cnts (most : Nat) : List VT → Nat → Nat
  | [], n => n
  | t :: r, n => if n ≤ most then VT.cnts most r (t.cnt most n) else n
end
theorem VT.ind {P : VT → Prop} (h : ∀ k n s is ks, (∀ (i : Nat) (t : VT), is[i]? = some t → P t) → P (.mk k n s is ks)) (t : VT) : P t :=
  VT.rec (motive_1 := P) (motive_2 := fun l => ∀ (i : Nat) (t : VT), l[i]? = some t → P t) (fun k n s is ks ih => h k n s is ks ih)
    (fun i t hi => by simp at hi) (fun x r hx hr i t hi => by
      cases i with
      | zero => simp at hi; subst hi; exact hx
      | succ j => exact hr j t (by simpa using hi)) t
/- The five cells of a value at an address. -/
def C5 (w : World) (a : Addr) (v : Value) : Prop := ∃ c0 c1 c2 c3 c4, v = .agg #[c0, c1, c2, c3, c4] ∧ w.cell? a = some c0 ∧ w.cell? ⟨a.block, a.off + 1, none⟩ = some c1 ∧ w.cell? ⟨a.block, a.off + 2, none⟩ = some c2 ∧ w.cell? ⟨a.block, a.off + 3, none⟩ = some c3 ∧ w.cell? ⟨a.block, a.off + 4, none⟩ = some c4
def KeysAt (w : World) (B : Nat) (K : Option Addr) (keys : List ByteArray) : Prop :=
  0 < keys.length → ∃ a, K = some a ∧ a.block < B ∧ ∀ i s, keys[i]? = some s → w.cell? (a.add i) = some (.string s)
def small (k : Int) : Prop := -9223372036854775808 ≤ k ∧ k ≤ 9223372036854775807
inductive Rd (w : World) (B : Nat) : Value → VT → Prop
  | mk {k n : Int} {s : ByteArray} {A : Option Addr} {li ci : Nat} {K : Option Addr} {lk ck : Nat} {items : List VT} {keys : List ByteArray} (V : Nat → Value)
      (hk : small k) (hn : small n) (hs : s.size ≤ 140737488351232) (hks : ∀ s ∈ keys, s.size ≤ 140737488351232)
      (hli : items.length = li) (hlk : keys.length = lk) (hbi : li * 80 ≤ 140737488351232) (hbk : lk * 16 ≤ 140737488351232)
      (hA : 0 < li → ∃ a, A = some a ∧ a.block < B ∧ ∀ i, i < li → C5 w (a.add (i * 5)) (V i))
      (hr : ∀ (i : Nat) (t : VT), items[i]? = some t → Rd w B (V i) t)
      (hK : KeysAt w B K keys) :
      Rd w B (.agg #[.int .i64 k, .int .i64 n, .string s, .slice A li ci, .slice K lk ck]) (.mk k n s items keys)
theorem add_block (a : Addr) (n : Nat) : (a.add n).block = a.block := by unfold Addr.add; split <;> rfl
theorem C5.kept {w w' : World} {B : Nat} {a : Addr} {v : Value} (h : C5 w a v) (ha : a.block < B) (hb : Below B w w') : C5 w' a v := by
  obtain ⟨c0, c1, c2, c3, c4, e, h0, h1, h2, h3, h4⟩ := h
  exact ⟨c0, c1, c2, c3, c4, e, (hb.cell ha).trans h0, (hb.cell (p := ⟨a.block, a.off + 1, none⟩) ha).trans h1, (hb.cell (p := ⟨a.block, a.off + 2, none⟩) ha).trans h2, (hb.cell (p := ⟨a.block, a.off + 3, none⟩) ha).trans h3, (hb.cell (p := ⟨a.block, a.off + 4, none⟩) ha).trans h4⟩
theorem KeysAt.kept {w w' : World} {B : Nat} {K : Option Addr} {keys : List ByteArray} (h : KeysAt w B K keys) (hb : Below B w w') : KeysAt w' B K keys := by
  intro hl
  obtain ⟨a, e, ha, hc⟩ := h hl
  exact ⟨a, e, ha, fun i s hi => (hb.cell (by rw [add_block]; exact ha)).trans (hc i s hi)⟩
theorem Rd.kept {w w' : World} {B : Nat} {v : Value} {t : VT} (h : Rd w B v t) (hb : Below B w w') : Rd w' B v t := by
  induction h with
  | mk V hk hn hs hks hli hlk hbi hbk hA hr hK ih =>
    refine .mk V hk hn hs hks hli hlk hbi hbk (fun h0 => ?_) ih (hK.kept hb)
    obtain ⟨a, e, ha, hc⟩ := hA h0
    exact ⟨a, e, ha, fun i hi => (hc i hi).kept (by rw [add_block]; exact ha) hb⟩
theorem Rd.mono {w : World} {B B' : Nat} {v : Value} {t : VT} (h : Rd w B v t) (hb : B ≤ B') : Rd w B' v t := by
  induction h with
  | mk V hk hn hs hks hli hlk hbi hbk hA hr hK ih =>
    refine .mk V hk hn hs hks hli hlk hbi hbk (fun h0 => ?_) ih (fun h0 => ?_)
    · obtain ⟨a, e, ha, hc⟩ := hA h0
      exact ⟨a, e, by omega, hc⟩
    · obtain ⟨a, e, ha, hc⟩ := hK h0
      exact ⟨a, e, by omega, hc⟩
/- The five cells of a value that reads as a tree, at an address. -/
theorem Rd.cells {w w' : World} {B : Nat} {v : Value} {t : VT} {a : Addr} (h : Rd w B v t) (hc : C5 w' a v) :
    ∃ (k n : Int) (s : ByteArray) (A : Option Addr) (li ci : Nat) (K : Option Addr) (lk ck : Nat), v = .agg #[.int .i64 k, .int .i64 n, .string s, .slice A li ci, .slice K lk ck] ∧
      w'.cell? a = some (.int .i64 k) ∧ w'.cell? ⟨a.block, a.off + 1, none⟩ = some (.int .i64 n) ∧ w'.cell? ⟨a.block, a.off + 2, none⟩ = some (.string s) ∧
      w'.cell? ⟨a.block, a.off + 3, none⟩ = some (.slice A li ci) ∧ w'.cell? ⟨a.block, a.off + 4, none⟩ = some (.slice K lk ck) := by
  cases h with
  | mk V hk hn hs hks hli hlk hbi hbk hA hr hK =>
    obtain ⟨c0, c1, c2, c3, c4, e, h0, h1, h2, h3, h4⟩ := hc
    simp only [Value.agg.injEq, Array.mk.injEq, List.cons.injEq, and_true] at e
    obtain ⟨rfl, rfl, rfl, rfl, rfl⟩ := e
    exact ⟨_, _, _, _, _, _, _, _, _, rfl, h0, h1, h2, h3, h4⟩
/- What is needed of item j in a round: its tree, its cells. -/
theorem items_at {items : List VT} {li j : Nat} (hli : items.length = li) (hj : j < li) : ∃ t, items[j]? = some t := ⟨items[j]'(by omega), List.getElem?_eq_getElem (by omega)⟩
theorem sizes_take (l : List VT) (k : Nat) (t : VT) (h : l[k]? = some t) : VT.sizes (l.take (k+1)) = VT.sizes (l.take k) + t.size := by
  induction l generalizing k with
  | nil => simp at h
  | cons x r ih =>
    cases k with
    | zero => simp at h; subst h; simp [VT.sizes]
    | succ j => simp only [List.take_succ_cons, VT.sizes]; rw [ih j (by simpa using h)]; omega
theorem sizes_take_le (l : List VT) (k : Nat) : VT.sizes (l.take k) ≤ VT.sizes l := by
  induction l generalizing k with
  | nil => simp
  | cons x r ih =>
    cases k with
    | zero => simp [VT.sizes]
    | succ j => simp only [List.take_succ_cons, VT.sizes]; have := ih j; omega
/- All that a round needs of item j. -/
theorem round_at {w wr : World} {B li j : Nat} {A : Option Addr} {V : Nat → Value} {items : List VT} (hA : 0 < li → ∃ a, A = some a ∧ a.block < B ∧ ∀ i, i < li → C5 w (a.add (i * 5)) (V i))
    (hR : ∀ (i : Nat) (t : VT), items[i]? = some t → Rd w B (V i) t) (hli : items.length = li) (hb : Below B w wr) (hj : j < li) :
    ∃ (a : Addr) (t : VT) (k n : Int) (s : ByteArray) (A1 : Option Addr) (l1 c1 : Nat) (K : Option Addr) (lk ck : Nat), A = some a ∧ items[j]? = some t ∧ V j = .agg #[.int .i64 k, .int .i64 n, .string s, .slice A1 l1 c1, .slice K lk ck] ∧ Rd wr B (V j) t ∧
      wr.cell? (a.add (j * 5)) = some (.int .i64 k) ∧ wr.cell? ⟨(a.add (j * 5)).block, (a.add (j * 5)).off + 1, none⟩ = some (.int .i64 n) ∧ wr.cell? ⟨(a.add (j * 5)).block, (a.add (j * 5)).off + 2, none⟩ = some (.string s) ∧
      wr.cell? ⟨(a.add (j * 5)).block, (a.add (j * 5)).off + 3, none⟩ = some (.slice A1 l1 c1) ∧ wr.cell? ⟨(a.add (j * 5)).block, (a.add (j * 5)).off + 4, none⟩ = some (.slice K lk ck) := by
  obtain ⟨a, e, ha, hc⟩ := hA (by omega)
  obtain ⟨t, ht⟩ := items_at hli hj
  have hrd := (hR j t ht).kept hb
  obtain ⟨k, n, s, A1, l1, c1, K, lk, ck, e1, h⟩ := hrd.cells ((hc j hj).kept (by rw [add_block]; exact ha) hb)
  exact ⟨a, t, k, n, s, A1, l1, c1, K, lk, ck, e, ht, e1, hrd, h⟩
theorem depths_take (l : List VT) (k : Nat) (t : VT) (h : l[k]? = some t) : VT.depths (l.take (k+1)) = max (VT.depths (l.take k)) t.depth := by
  induction l generalizing k with
  | nil => simp at h
  | cons x r ih =>
    cases k with
    | zero => simp at h; subst h; simp [VT.depths]
    | succ j => simp only [List.take_succ_cons, VT.depths]; rw [ih j (by simpa using h)]; omega
theorem depths_take_le (l : List VT) (k : Nat) : VT.depths (l.take k) ≤ VT.depths l := by
  induction l generalizing k with
  | nil => simp
  | cons x r ih =>
    cases k with
    | zero => simp [VT.depths]
    | succ j => simp only [List.take_succ_cons, VT.depths]; have := ih j; omega
mutual
theorem VT.depth_le (t : VT) : t.depth ≤ t.size := by
  cases t with
  | mk k n s is ks => simp only [VT.depth, VT.size]; have := VT.depths_le is; omega
theorem VT.depths_le (l : List VT) : VT.depths l ≤ VT.sizes l := by
  cases l with
  | nil => simp [VT.depths]
  | cons t r => simp only [VT.depths, VT.sizes]; have := VT.depth_le t; have := VT.depths_le r; omega
end
mutual
theorem VT.size_le (t : VT) : t.size ≤ t.wt := by
  cases t with
  | mk k n s is ks => simp only [VT.wt, VT.size]; have := VT.sizes_le is; omega
theorem VT.sizes_le (l : List VT) : VT.sizes l ≤ VT.wts l := by
  cases l with
  | nil => simp [VT.sizes]
  | cons t r => simp only [VT.wts, VT.sizes]; have := VT.size_le t; have := VT.sizes_le r; omega
end
mutual
theorem VT.cnt_ge (most : Nat) (t : VT) (n : Nat) : n ≤ t.cnt most n := by
  cases t with
  | mk k m s is ks => simp only [VT.cnt]; have := VT.cnts_ge most is (n + 1 + ks.length); omega
theorem VT.cnts_ge (most : Nat) (l : List VT) (n : Nat) : n ≤ VT.cnts most l n := by
  cases l with
  | nil => simp [VT.cnts]
  | cons t r =>
    simp only [VT.cnts]
    split
    · have := VT.cnt_ge most t n; have := VT.cnts_ge most r (t.cnt most n); omega
    · omega
end
mutual
theorem VT.cnt_eq (most : Nat) (t : VT) (n : Nat) (h : t.cnt most n ≤ most) : t.cnt most n = n + t.wt := by
  cases t with
  | mk k m s is ks => simp only [VT.cnt, VT.wt] at *; have := VT.cnts_eq most is _ h; omega
theorem VT.cnts_eq (most : Nat) (l : List VT) (n : Nat) (h : VT.cnts most l n ≤ most) : VT.cnts most l n = n + VT.wts l := by
  cases l with
  | nil => simp [VT.cnts, VT.wts]
  | cons t r =>
    simp only [VT.cnts, VT.wts] at *
    split at h
    · rename_i h0
      rw [if_pos h0]
      have h1 := VT.cnts_eq most r _ h
      have h2 := VT.cnts_ge most r (t.cnt most n)
      have h3 := VT.cnt_eq most t n (by omega)
      omega
    · omega
end
theorem VT.wt_le {most : Nat} {t : VT} (h : t.cnt most 0 ≤ most) : t.wt ≤ most := by
  have := VT.cnt_eq most t 0 h; omega
/- One round of count. -/
theorem cnts_drop (most : Nat) (l : List VT) (k n : Nat) (t : VT) (h : l[k]? = some t) (hn : n ≤ most) : VT.cnts most (l.drop k) n = VT.cnts most (l.drop (k+1)) (t.cnt most n) := by
  obtain ⟨h1, rfl⟩ := List.getElem?_eq_some_iff.1 h
  rw [List.drop_eq_getElem_cons h1, VT.cnts, if_pos hn]
theorem cnts_over (most : Nat) (l : List VT) (n : Nat) (hn : ¬ n ≤ most) : VT.cnts most l n = n := by
  cases l with
  | nil => rfl
  | cons t r => rw [VT.cnts, if_neg hn]
end Go.Proofs.YtcbajgcblfgmgaaGreatDoor
