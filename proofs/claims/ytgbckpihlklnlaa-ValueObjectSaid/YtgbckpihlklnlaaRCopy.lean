
/-
  Contract of the reference's copies.
-/
import Derived.Test.YtgbckpihlklnlaaRAppend
namespace Go.Proofs.Ytgbckpihlklnlaa
open Go.RowKit
/- The blocks that were made since. -/
def Fresh (n : Nat) (w' : World) (b : Nat) : Prop := n ≤ b ∧ b < w'.heap.size
def CopyAt (t : VT) : Prop := ∀ (w : World) (B : Nat) (v : Value), Rd w B v t → B ≤ w.heap.size →
    Calls Try.prog 30 #[v] w fun e w' => (∃ u, e = .returned u ∧ RdS w' (Fresh w.heap.size w') u t) ∧ Below w.heap.size w w'
def CopyInv (w wr : World) (vv : Value) (j : Nat) (items : List VT) : Prop :=
  ∃ xs, wr.ownsRow w.heap.size 26 5 vv j xs ∧ Elems wr (fun b => Fresh w.heap.size wr b ∧ vv.ownBlock ≠ some b) xs (items.take j) ∧ Below w.heap.size w wr
theorem copyInv_step {w wr w2 w' : World} {vv v' : Value} {j : Nat} {items : List VT} {t : VT} {c0 c1 c2 c3 c4 : Value} {xs : List Value} (o : Obj) (ht : items[j]? = some t)
    (hown : wr.ownsRow w.heap.size 26 5 vv j xs) (hel : Elems wr (fun b => Fresh w.heap.size wr b ∧ vv.ownBlock ≠ some b) xs (items.take j)) (hb : Below w.heap.size w wr)
    (hb2 : Below wr.heap.size wr w2) (hu : RdS w2 (Fresh wr.heap.size w2) (.agg #[c0, c1, c2, c3, c4]) t)
    (hown' : w'.ownsRow w.heap.size 26 5 v' (j + 1) (xs ++ [c0, c1, c2, c3, c4])) (hg : (w2.alloc o).grownBy w' vv.ownBlock) (hf : v'.ownBlock = vv.ownBlock ∨ ∃ g, v'.ownBlock = some g ∧ (w2.alloc o).heap.size ≤ g) :
    CopyInv w w' v' (j + 1) items := by
  have hlt : j < items.length := (List.getElem?_eq_some_iff.1 ht).1
  have s1 := hb.size
  have s2 := hb2.size
  have hz := World.size_alloc w2 o
  have s3 := hg.size
  have b3 : Below w2.heap.size w2 (w2.alloc o) := (Below.refl _ _).alloc (Nat.le_refl _) _
  have hlow : ∀ b, vv.ownBlock = some b → b < wr.heap.size := fun b h => (own_lt hown h).2
  have hin : ∀ b, b < (w2.alloc o).heap.size → vv.ownBlock ≠ some b → w'.heap[b]? = (w2.alloc o).heap[b]? := fun b h1 h2 => hg.block b h1 (fun e => h2 e.symm)
  have hS : ∀ b, b < (w2.alloc o).heap.size → vv.ownBlock ≠ some b → v'.ownBlock ≠ some b := fun b h1 h2 => by
    rcases hf with e | ⟨g, e, hge⟩
    · rw [e]; exact h2
    · rw [e]; intro h; cases h; omega
  refine ⟨_, hown', ?_, ?_⟩
  · rw [List.take_succ_eq_append_getElem hlt, (List.getElem?_eq_some_iff.1 ht).2]
    refine Elems.snoc (hel.kept ?_ ?_) ?_ (hu.kept ?_ ?_)
    · rintro b ⟨⟨h1, h2⟩, h3⟩
      rw [hin b (by omega) h3, b3.block b (by omega), hb2.block b h2]
    · rintro b ⟨⟨h1, h2⟩, h3⟩
      exact ⟨⟨h1, by omega⟩, hS b (by omega) h3⟩
    · have := hown.1
      rw [this, List.length_take]
      congr 1; omega
    · rintro b ⟨h1, h2⟩
      have hne : vv.ownBlock ≠ some b := fun h => by have := hlow b h; omega
      rw [hin b (by omega) hne, b3.block b h2]
    · rintro b ⟨h1, h2⟩
      have hne : vv.ownBlock ≠ some b := fun h => by have := hlow b h; omega
      exact ⟨⟨by omega, by omega⟩, hS b (by omega) hne⟩
  · refine Below.grown ((hb.trans (hb2.mono s1)).trans (b3.mono (by omega))) hg (by omega) ?_
    intro k hk
    exact (own_lt hown hk).1
theorem copyInv_end {w wr : World} {vv : Value} {items : List VT} (h : CopyInv w wr vv items.length items) : ListS wr (Fresh w.heap.size wr) vv items ∧ Below w.heap.size w wr := by
  obtain ⟨xs, hown, hel, hb⟩ := h
  refine ⟨?_, hb⟩
  rw [List.take_length] at hel
  rcases hown.2 with ⟨rfl, h0⟩ | ⟨g, cap, cur, rfl, h1, h2, h3, h4, h5, h6⟩
  · have : items = [] := List.eq_nil_of_length_eq_zero h0
    subst this
    exact ⟨none, 0, rfl, fun _ => undef, fun h => absurd h (by simp), fun i t h => by simp at h⟩
  · have hg := (own_lt (g := g) hown rfl).2
    refine ⟨_, cap, rfl, fun i => .agg #[xs.getD (i * 5) undef, xs.getD (i * 5 + 1) undef, xs.getD (i * 5 + 2) undef, xs.getD (i * 5 + 3) undef, xs.getD (i * 5 + 4) undef], fun _ => ⟨_, rfl, ⟨h1, hg⟩, fun i hi => ?_⟩, fun i t hi => ?_⟩
    · have hc : ∀ k, k < items.length * 5 → wr.cell? ⟨g, k, none⟩ = some (xs.getD k undef) := fun k hk => by
        have := hown.cells (g := g) rfl k (xs.getD k undef) (by
          have hl := hown.1
          rw [List.getElem?_eq_getElem (by omega), List.getD_eq_getElem?_getD, List.getElem?_eq_getElem (by omega)]; rfl)
        rwa [Addr.add_mid, Nat.zero_add] at this
      rw [Addr.add_mid, Nat.zero_add]
      exact ⟨_, _, _, _, _, rfl, hc (i * 5) (by omega), hc (i * 5 + 1) (by omega), hc (i * 5 + 2) (by omega), hc (i * 5 + 3) (by omega), hc (i * 5 + 4) (by omega)⟩
    · obtain ⟨c0, c1, c2, c3, c4, e0, e1, e2, e3, e4, hr⟩ := hel i t hi
      simp only [List.getD_eq_getElem?_getD, e0, e1, e2, e3, e4, Option.getD_some]
      exact hr.kept (fun _ _ => rfl) (fun b hb => hb.1)
set_option maxHeartbeats 1000000 in
theorem rcopies_any (items : List VT) (ih : ∀ (i : Nat) (t : VT), items[i]? = some t → CopyAt t) (A : Option Addr) (li ci : Nat) (V : Nat → Value) (w : World) (B : Nat)
    (hli : items.length = li) (hbi : li * 80 ≤ 140737488351232) (hA : 0 < li → ∃ a, A = some a ∧ a.block < B ∧ ∀ i, i < li → C5 w (a.add (i * 5)) (V i)) (hr : ∀ (i : Nat) (t : VT), items[i]? = some t → Rd w B (V i) t) (hB : B ≤ w.heap.size) :
    Calls Try.prog 27 #[.slice A li ci] w fun e w' => (∃ v, e = .returned v ∧ ListS w' (Fresh w.heap.size w') v items) ∧ Below w.heap.size w w' := by
  have HA := Lib.hid hA
  have HR := Lib.hid hr
  have HL := Lib.hid hli
  have IH := Lib.hid ih
  have hlm : (li : Int) ≤ 140737488351232 := by omega
  have HBI := Lib.hid hbi
  clear hA hr hli ih hbi
  go_enter Try.func27, Try.ntmps27
  go_wp2_with fail
  go_loopw [3, 4] (fun vv i wr => ∃ j : Nat, j ≤ li ∧ i = .int .i64 j ∧ CopyInv w wr vv j items) (fun _ i _ => li - (intOf i).toNat)
  case atStart => exact ⟨0, Nat.zero_le _, rfl, [], World.ownsRow_nil _ _ _ _, Elems.nil _ _, Below.refl _ _⟩
  case round =>
    obtain ⟨j, hj, rfl, hinv⟩ := hrel
    have HINV := Lib.hid hinv
    by_cases hlt : j < li
    · obtain ⟨xs, hown, hel, hb⟩ := hinv
      obtain ⟨a, t, k1, n1, s1, A1, li1, ci1, K1, lk1, ck1, rfl, ht, e, hrd, h0, h1, h2, h3, h4⟩ := round_at HA.out HR.out HL.out (hb.mono hB) hlt
      have HT := Lib.hid ht
      have HRD := Lib.hid hrd
      have E := Lib.hid e
      have HOWN := Lib.hid hown
      have HEL := Lib.hid hel
      have HB := Lib.hid hb
      clear e hrd ht hb hel hown
      go_wp2_with fail
      rw [← E.out]
      refine (IH.out j t HT.out _ B _ HRD.out (by have := HB.out.size; omega)).mono ?_
      rintro e w2 ⟨⟨u, rfl, hu⟩, hb2⟩
      obtain ⟨c0, c1, c2, c3, c4, rfl, o0, o1, o2, o3, o4⟩ := hu.five
      have HU := Lib.hid hu
      have HB2 := Lib.hid hb2
      clear hu hb2
      have bz := Below.alloc (Below.refl w2.heap.size w2) (Nat.le_refl _) (.cells #[c0, c1, c2, c3, c4] 26 (0, 0))
      have HN : Hid (∀ k x, [c0, c1, c2, c3, c4][k]? = some x → (w2.alloc (.cells #[c0, c1, c2, c3, c4] 26 (0, 0))).cell? ((⟨w2.heap.size, 0, none⟩ : Addr).add k) = some x) := Lib.hid (fun k x hx => by
        rw [Addr.add_mid, Nat.zero_add, cell_of_row _ _ _ _ _ _ (heap_alloc_new _ _)]
        simpa using hx)
      have HO : Hid (∀ x ∈ [c0, c1, c2, c3, c4], x.oneCell' = true) := Lib.hid (by simp [o0, o1, o2, o3, o4])
      have HOWN3 : Hid ((w2.alloc (.cells #[c0, c1, c2, c3, c4] 26 (0, 0))).ownsRow w.heap.size 26 5 u3 j xs) := Lib.hid (own_kept HOWN.out (fun g hg => by
        have := HB2.out.size
        rw [bz.block g (by omega), HB2.out.block g hg]))
      have HSZ : Hid (w.heap.size ≤ (w2.alloc (.cells #[c0, c1, c2, c3, c4] 26 (0, 0))).heap.size) := Lib.hid (by
        have := HB.out.size; have := HB2.out.size; simp; omega)
      clear bz o0 o1 o2 o3 o4
      have hbi := HBI.out
      go_wp2_with (at_builtin; refine wpList_append_fresh _ rfl _ _ 23 rfl w.heap.size 26 _ 5 80 Try.underlying23 infoVal rfl (by decide) _ j xs rfl HOWN3.out ⟨w2.heap.size, 0, none⟩ 1 1 (by decide) [c0, c1, c2, c3, c4] rfl rfl HN.out HO.out (by unfold maxLen; omega) (by omega) HSZ.out ?_; intro v' w' hown' hg' hf')
      go_roundw
      case rel => exact ⟨j + 1, by omega, by go_num, copyInv_step _ HT.out HOWN.out HEL.out HB.out HB2.out HU.out hown' hg' hf'⟩
      case measure => simp [intOf]; omega
    · have hji : j = li := by omega
      subst hji
      have HE := Lib.hid (copyInv_end (by rw [HL.out]; exact HINV.out))
      go_wp2_with fail
      go_ret
      exact ⟨⟨_, rfl, HE.out.1⟩, HE.out.2⟩
end Go.Proofs.Ytgbckpihlklnlaa
