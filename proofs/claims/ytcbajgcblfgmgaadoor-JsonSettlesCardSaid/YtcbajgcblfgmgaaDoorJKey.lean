
/-
  A key of an object. A value that the reader builds: its variable, its rows.
-/
import Derived.Test.YtcbajgcblfgmgaaDoorJEls
import Derived.Test.YtcbajgcblfgmgaaDoorPast
namespace Go.Proofs.YtcbajgcblfgmgaaDoor
open Go.RowKit Go.Maps
def SeenAt (w : World) (b : Nat) (keys : List ByteArray) : Prop := w.ownsMap Tryd.prog 9 (plainElem Tryd.prog 4) b keys.length (setD keys)
theorem SeenAt.same {w w' : World} {b : Nat} {keys : List ByteArray} (h : SeenAt w b keys) (hb : w'.heap[b]? = w.heap[b]?) : SeenAt w' b keys := by
  obtain ⟨es, clock, h1, h2⟩ := h
  exact ⟨es, clock, hb.trans h1, h2⟩
theorem SeenAt.lt {w : World} {b : Nat} {keys : List ByteArray} (h : SeenAt w b keys) : b < w.heap.size := World.ownsMap.lt h
def KeyPost (w : World) (p mb : Nat) (s : ByteArray) (n : Nat) (seen : List ByteArray) (r : Except Er (ByteArray × Nat)) (e : Ending) (w' : World) : Prop :=
  (∃ x j, r = .ok (x, j) ∧ e = .returned (.tuple #[.string x, .bool true]) ∧ PS w' p s j n 0 0 ∧ SeenAt w' mb (seen ++ [x]) ∧ x.size ≤ 1073741824 ∧ x ∉ seen ∧ w.heap.size ≤ w'.heap.size ∧ Below p w w' ∧ ∀ k, k < w.heap.size → k ≠ p → k ≠ mb → w'.heap[k]? = w.heap[k]?) ∨
  (∃ x j z, r = .error x ∧ e = .returned (.tuple #[.string z, .bool false]) ∧ PS w' p s j n x.1 x.2 ∧ w.heap.size ≤ w'.heap.size ∧ Below p w w' ∧ ∀ k, k < w.heap.size → k ≠ p → k ≠ mb → w'.heap[k]? = w.heap[k]?)
theorem litR_size {s : ByteArray} {i j : Nat} {x : ByteArray} (h : litR s i = .ok (x, j)) : x.size ≤ s.size ∧ i < j ∧ j ≤ s.size := by
  unfold litR at h
  split at h
  · next h34 =>
    have hlt : i < s.size := lt_of_bt (by rw [h34]; decide)
    split at h
    · cases h
    · next k hk =>
      cases h
      obtain ⟨h1, h2, _⟩ := charsF_gt _ _ _ (by omega) hk
      have := litS_size s i (k + 1)
      exact ⟨by omega, by omega, by omega⟩
  · cases h
set_option maxRecDepth 100000 in
set_option maxHeartbeats 4000000 in
theorem key_any {w : World} {p mb : Nat} {s : ByteArray} {i n : Nat} (seen : List ByteArray) (h : PS w p s i n 0 0) (hm : SeenAt w mb seen) (hpm : p < mb) (hsl : seen.length ≤ 5000) :
    Calls Tryd.prog 51 #[pp p, .map (some mb)] w (KeyPost w p mb s n seen (keyR s seen i)) := by
  have HP := Lib.hid h
  have HM := Lib.hid hm
  have hmb := hm.lt
  have hpw := h.lt
  clear h hm
  go_enter Tryd.func51, Tryd.ntmps51
  go_wp2_with fail
  refine (skip_any HP.out ⟨#[32, 9, 10, 13]⟩ (by decide)).mono ?_
  rintro e w1 ⟨rfl, hp1, hb1⟩
  have hp1 : PS w1 p s (sk spL s i) n 0 0 := hp1
  have hKR : keyR s seen i = match litR s (sk spL s i) with
    | .error e => .error e
    | .ok (k, j) => if memK seen k then .error (sk spL s i, 7) else if bt s (sk spL s j) = 58 then .ok (k, sk spL s j + 1) else .error (sk spL s j, 3) := rfl
  have HKR := Lib.hid hKR
  clear hKR
  generalize sk spL s i = i1 at *
  have HP1 := Lib.hid hp1
  have HB1 := Lib.hid hb1
  clear hp1 hb1
  obtain ⟨q0, q1, q2, q3, q4⟩ := HP1.out.box.cells
  go_wp2_with fail
  refine (literal_any HP1.out).mono ?_
  clear q0 q1 q2 q3 q4
  rintro e w2 (⟨x, j, hr, rfl, hp2, hb2⟩ | ⟨x, j, hr, rfl, hp2, hb2⟩)
  rotate_left
  · have E1 : Hid (keyR s seen i = .error x) := Lib.hid (by rw [HKR.out, hr])
    have HP2 := Lib.hid hp2
    have HB2 := Lib.hid (HB1.out.trans (hb2.mono HB1.out.size))
    clear hr hp2 hb2
    go_wp2_with fail
    go_ret2
    exact .inr ⟨x, j, _, E1.out, rfl, HP2.out, HB2.out.size, HB2.out.below (Nat.le_of_lt hpw), fun k h1 h2 _ => HB2.out.block k h1 h2⟩
  have hx := litR_size hr
  have hs := HP1.out.hs
  have E2 : Hid (keyR s seen i = if memK seen x then .error (i1, 7) else if bt s (sk spL s j) = 58 then .ok (x, sk spL s j + 1) else .error (sk spL s j, 3)) := Lib.hid (by rw [HKR.out, hr])
  have HP2 := Lib.hid hp2
  have HB2 := Lib.hid (HB1.out.trans (hb2.mono HB1.out.size))
  have HM2 := Lib.hid (HM.out.same (HB2.out.block mb hmb (by omega)))
  have hat := setD_at seen x
  have HAT := Lib.hid hat
  clear hr hp2 hb2 hat HKR
  by_cases hin : x ∈ seen
  · have hy : decide (x ∈ seen) = true := by simpa using hin
    rw [hy] at HAT
    have E3 := Lib.hid (E2.out.trans (if_pos ((memK_iff seen x).2 hin)))
    clear hin hy
    go_wp2_with (at_lookup; refine wpList_lookup_own_bool _ rfl _ _ 74 rfl 9 4 keyLaw Tryd.underlying74 Tryd.underlying4 (zeroB _) mb seen.length _ rfl HM2.out _ _ rfl (WideMaps.keyOf_string_mk Tryd.underlying9 (by unfold maxLen; omega)) _ HAT.out ?_)
    refine (fail_any HP2.out _ _).mono ?_
    rintro e w5 ⟨rfl, hp5, hb5⟩
    have HP5 := Lib.hid hp5
    have HB5 := Lib.hid (HB2.out.trans (hb5.mono HB2.out.size))
    clear hp5 hb5
    go_wp2_with fail
    go_ret2
    exact .inr ⟨(i1, 7), j, _, E3.out, rfl, HP5.out, HB5.out.size, HB5.out.below (Nat.le_of_lt hpw), fun k h1 h2 _ => HB5.out.block k h1 h2⟩
  · have hy : decide (x ∈ seen) = false := by simpa using hin
    rw [hy] at HAT
    have E3 := Lib.hid (E2.out.trans (if_neg (fun h => hin ((memK_iff seen x).1 h))))
    have HIN := Lib.hid hin
    clear hin hy
    go_wp2_with (first
      | (at_lookup; refine wpList_lookup_own_bool _ rfl _ _ 74 rfl 9 4 keyLaw Tryd.underlying74 Tryd.underlying4 (zeroB _) mb seen.length _ rfl HM2.out _ _ rfl (WideMaps.keyOf_string_mk Tryd.underlying9 (by unfold maxLen; omega)) _ HAT.out ?_)
      | (at_mapUpdate; refine wpList_mapUpdate_own _ rfl _ _ _ 74 rfl 9 4 keyLaw Tryd.underlying74 _ mb seen.length _ rfl HM2.out (by unfold maxLen; omega) _ _ _ rfl rfl (WideMaps.keyOf_string_mk Tryd.underlying9 (by unfold maxLen; omega)) _ [] (plainElem_bool Tryd.underlying4 true) ?_; intro w3 hown3 hgrow3))
    have hm3 : SeenAt w3 mb (seen ++ [x]) := by
      unfold SeenAt
      rw [setD_snoc, List.length_append]
      exact hown3
    have hs3 := hgrow3.size
    have hb3 : ∀ k, k < w2.heap.size → k ≠ mb → w3.heap[k]? = w2.heap[k]? := fun k h1 h2 => hgrow3.block k h1 (by intro e; cases e; exact h2 rfl)
    have hbl3 : Below mb w2 w3 := ⟨hgrow3.os, hgrow3.tape, hgrow3.output, hgrow3.size, fun k hk => hb3 k (by have := HM2.out.lt; omega) (by omega)⟩
    have HP3 := Lib.hid (HP2.out.same (hbl3.mono (by omega)))
    have HM3 := Lib.hid hm3
    have HBL3 : Hid (Below p w w3) := Lib.hid ((HB2.out.below (Nat.le_of_lt hpw)).trans (hbl3.mono (Nat.le_of_lt hpm)))
    have HK3 : Hid (w.heap.size ≤ w3.heap.size ∧ ∀ k, k < w.heap.size → k ≠ p → k ≠ mb → w3.heap[k]? = w.heap[k]?) := Lib.hid ⟨Nat.le_trans HB2.out.size hs3, fun k h1 h2 h3 => (hb3 k (Nat.lt_of_lt_of_le h1 HB2.out.size) h3).trans (HB2.out.block k h1 h2)⟩
    clear hown3 hgrow3 hm3 hb3 hbl3 hs3
    refine (skip_any HP3.out ⟨#[32, 9, 10, 13]⟩ (by decide)).mono ?_
    rintro e w4 ⟨rfl, hp4, hb4⟩
    have hp4 : PS w4 p s (sk spL s j) n 0 0 := hp4
    generalize sk spL s j = i2 at *
    have HP4 := Lib.hid hp4
    have HB4 := Lib.hid hb4
    clear hp4 hb4
    go_wp2_with fail
    refine (take_any HP4.out ⟨#[58]⟩ (by decide)).mono ?_
    intro e w5 hh
    obtain ⟨j1, hr, rfl, hp, hb⟩ | ⟨y, j1, hr, rfl, hp, hb⟩ := hh.parts
    · have hr : takeR s [58] i2 = .ok j1 := hr
      have h58 : bt s i2 = 58 ∧ j1 = i2 + 1 := by
        unfold takeR at hr
        rw [isIn_one] at hr
        split at hr
        · next h1 => cases hr; exact ⟨of_decide_eq_true h1, rfl⟩
        · cases hr
      obtain ⟨h58, rfl⟩ := h58
      have E4 := Lib.hid (E3.out.trans (if_pos h58))
      have HP5 := Lib.hid hp
      have HB5 := Lib.hid (HB4.out.trans (hb.mono HB4.out.size))
      have HM5 := Lib.hid (HM3.out.same (HB5.out.block mb HM3.out.lt (by omega)))
      clear hp hb hr hh h58
      go_wp2_with fail
      go_ret2
      exact .inl ⟨x, i2 + 1, E4.out, rfl, HP5.out, HM5.out, by omega, HIN.out, Nat.le_trans HK3.out.1 HB5.out.size, HBL3.out.trans (HB5.out.below (by have := HK3.out.1; omega)), fun k h1 h2 h3 => (HB5.out.block k (Nat.lt_of_lt_of_le h1 HK3.out.1) h2).trans (HK3.out.2 k h1 h2 h3)⟩
    · have hr : takeR s [58] i2 = .error y := hr
      have h58 : bt s i2 ≠ 58 ∧ y = (i2, 3) := by
        unfold takeR at hr
        rw [isIn_one] at hr
        split at hr
        · cases hr
        · next h1 => cases hr; exact ⟨fun h => h1 (decide_eq_true h), rfl⟩
      obtain ⟨h58, rfl⟩ := h58
      have E4 := Lib.hid (E3.out.trans (if_neg h58))
      have HP5 := Lib.hid hp
      have HB5 := Lib.hid (HB4.out.trans (hb.mono HB4.out.size))
      clear hp hb hr hh h58
      go_wp2_with fail
      go_ret2
      exact .inr ⟨(i2, 3), j1, _, E4.out, rfl, HP5.out, Nat.le_trans HK3.out.1 HB5.out.size, HBL3.out.trans (HB5.out.below (by have := HK3.out.1; omega)), fun k h1 h2 h3 => (HB5.out.block k (Nat.lt_of_lt_of_le h1 HK3.out.1) h2).trans (HK3.out.2 k h1 h2 h3)⟩
end Go.Proofs.YtcbajgcblfgmgaaDoor
namespace Go.Proofs.YtcbajgcblfgmgaaDoor
open Go.RowKit
def FiveV (u : Value) : Prop := ∃ (k n : Int) (s : ByteArray) (A : Option Addr) (li ci : Nat) (K : Option Addr) (lk ck : Nat), u = .agg #[.int .i64 k, .int .i64 n, .string s, .slice A li ci, .slice K lk ck]
theorem RdS.fiveV {w : World} {S : Nat → Prop} {u : Value} {t : VT} (h : RdS w S u t) : FiveV u := by
  cases h with
  | mk V => exact ⟨_, _, _, _, _, _, _, _, _, rfl⟩
def ValPost (w : World) (p : Nat) (s : ByteArray) (i n : Nat) (r : Except Er (VT × Nat × Nat)) (e : Ending) (w' : World) : Prop :=
  (∃ t j m u, r = .ok (t, j, m) ∧ e = .returned (.tuple #[u, .bool true]) ∧ RdS w' (Fresh w.heap.size w') u t ∧ PS w' p s j m 0 0 ∧ Bes p w.heap.size w w' ∧ i ≤ j ∧ n < m ∧ m ≤ 4096) ∨
  (∃ x j m u, r = .error x ∧ e = .returned (.tuple #[u, .bool false]) ∧ FiveV u ∧ PS w' p s j m x.1 x.2 ∧ Bes p w.heap.size w w')
def ValAt (p : Nat) (s : ByteArray) (f level : Nat) : Prop := ∀ (i n : Nat) (w : World), PS w p s i n 0 0 → n ≤ 4096 → s.size + 1 ≤ f + i →
  Calls Tryd.prog 17 #[pp p, .int .i64 level] w (ValPost w p s i n (pv s f level i n))
/- The variable of a list or an object that is being read, with its rows. -/
structure VInv (w : World) (base vb : Nat) (kind : Int) (items : List VT) (keys : List ByteArray) (v v2 : Value) (xs : List Value) : Prop where
  box : Box w vb (.int .i64 kind) (.int .i64 0) (.string ⟨#[]⟩) v v2
  own : w.ownsRow base 25 5 v items.length xs
  elems : Elems w (fun b => base ≤ b ∧ b < w.heap.size ∧ v.ownBlock ≠ some b ∧ v2.ownBlock ≠ some b) xs items
  keys : w.ownsRow base 9 1 v2 keys.length (keys.map Value.string)
  apart : ∀ b, v.ownBlock = some b → v2.ownBlock ≠ some b
  vbb : vb < base
  bw : base ≤ w.heap.size
theorem VInv.bes {w w' : World} {p base vb : Nat} {kind : Int} {items : List VT} {keys : List ByteArray} {v v2 : Value} {xs : List Value} (h : VInv w base vb kind items keys v v2 xs) (hb : Bes p w.heap.size w w') (hp : p < vb) : VInv w' base vb kind items keys v v2 xs := by
  have hk : ∀ g, base ≤ g → g < w.heap.size → w'.heap[g]? = w.heap[g]? := fun g h1 h2 => hb.block g h2 (by have := h.vbb; omega)
  have own : ∀ {e : TypeId} {size : Nat} {v : Value} {n : Nat} {xs : List Value}, w.ownsRow base e size v n xs → w'.ownsRow base e size v n xs := by
    intro e size v n xs h
    refine ⟨h.1, h.2.imp id ?_⟩
    rintro ⟨g, cap, cur, e1, e2, e3, r⟩
    have hg : g < w.heap.size := by
      rcases Nat.lt_or_ge g w.heap.size with h' | h'
      · exact h'
      · rw [Array.getElem?_eq_none h'] at e3; cases e3
    exact ⟨g, cap, cur, e1, e2, (hk g e2 hg).trans e3, r⟩
  refine ⟨h.box.bes hb (Nat.lt_of_lt_of_le h.vbb h.bw) hp, own h.own, ?_, own h.keys, h.apart, h.vbb, Nat.le_trans h.bw hb.size⟩
  exact h.elems.kept (fun b hb2 => hk b hb2.1 hb2.2.1) (fun b hb2 => ⟨hb2.1, Nat.lt_of_lt_of_le hb2.2.1 hb.size, hb2.2.2⟩)
theorem own_slice {w : World} {base : Nat} {e : TypeId} {size : Nat} {v : Value} {n : Nat} {xs : List Value} (h : w.ownsRow base e size v n xs) : ∃ A c, v = .slice A n c := by
  rcases h.2 with ⟨rfl, rfl⟩ | ⟨g, cap, cur, rfl, _⟩
  · exact ⟨none, 0, rfl⟩
  · exact ⟨_, _, rfl⟩
theorem cells_Z (w : World) (xs : List Value) (ty : TypeId) : ∀ (j : Nat) (u : Value), xs[j]? = some u → (w.alloc (.cells xs.toArray ty (0, 0))).drew.cell? ((⟨w.heap.size, 0, none⟩ : Addr).add j) = some u := fun j u h => by
  rw [Addr.add_mid, Nat.zero_add]
  show (w.alloc (.cells xs.toArray ty (0, 0))).cell? _ = _
  rw [cell_of_row _ _ _ _ _ _ (heap_alloc_new _ _)]
  simpa using h
def zz5 : List Value := [.int .i64 0, .int .i64 0, .string ⟨#[]⟩, .slice none 0 0, .slice none 0 0]
theorem zz_one : ∀ u ∈ zz5, u.oneCell' = true := by decide
theorem own_frz {w : World} {base : Nat} {e : TypeId} {size : Nat} {n : Nat} {xs : List Value} {g cap : Nat} (h : w.ownsRow base e size (.slice (some ⟨g, 0, none⟩) n cap) n xs) (i : Nat) : w.frozen? ⟨g, i, none⟩ = false := by
  rcases h.2 with ⟨e, _⟩ | ⟨g', cap', cur, e, _, hg, _⟩
  · cases e
  · cases e
    simp [World.frozen?, hg]
theorem own_zero {w : World} {base : Nat} {e : TypeId} {n m : Nat} {xs : List Value} {g cap : Nat} (h : w.ownsRow base e 5 (.slice (some ⟨g, 0, none⟩) n cap) n (xs ++ zz5)) (hm : xs.length = m * 5) :
    w.cell? ⟨g, m * 5, none⟩ = some (.int .i64 0) ∧ w.cell? ⟨g, m * 5 + 1, none⟩ = some (.int .i64 0) ∧ w.cell? ⟨g, m * 5 + 2, none⟩ = some (.string ⟨#[]⟩) ∧ w.cell? ⟨g, m * 5 + 3, none⟩ = some (.slice none 0 0) ∧ w.cell? ⟨g, m * 5 + 4, none⟩ = some (.slice none 0 0) := by
  have hc : ∀ k u, zz5[k]? = some u → w.cell? ⟨g, m * 5 + k, none⟩ = some u := fun k u hu => by
    have := h.cells (g := g) rfl (m * 5 + k) u (by rw [List.getElem?_append_right (by omega)]; rw [show m * 5 + k - xs.length = k by omega]; exact hu)
    rwa [Addr.add_mid, Nat.zero_add] at this
  exact ⟨hc 0 _ rfl, hc 1 _ rfl, hc 2 _ rfl, hc 3 _ rfl, hc 4 _ rfl⟩
theorem Box.grown {w w' : World} {b : Nat} {c0 c1 c2 c3 c4 : Value} {row : Option Nat} (h : Box w b c0 c1 c2 c3 c4) (hg : w.grownBy w' row) (hne : row ≠ some b) : Box w' b c0 c1 c2 c3 c4 := (hg.block b h.lt (fun e => hne e.symm)).trans h
structure LInv (w0 : World) (N p level n0 : Nat) (s : ByteArray) (items : List VT) (i n : Nat) (w : World) : Prop where
  ps : PS w p s i n 0 0
  c0 : w.cell? ⟨N, 0, none⟩ = some (pp p)
  c1 : w.cell? ⟨N + 1, 0, none⟩ = some (.int .i64 level)
  rv : Box w (N + 2) (.int .i64 0) (.int .i64 0) (.string ⟨#[]⟩) (.slice none 0 0) (.slice none 0 0)
  bes : Bes p N w0 w
  vv : ∃ v xs, VInv w (N + 4) (N + 3) 5 items [] v (.slice none 0 0) xs
  hn : items.length ≤ n
  hm : n ≤ 4096
  h0 : n0 ≤ n
/- After an error: the variable can still be read and the result written. -/
def LBad (w0 : World) (N p : Nat) (s : ByteArray) (x : Er) (w' : World) : Prop :=
  ∃ (j m : Nat) (k n : Int) (z : ByteArray) (A : Option Addr) (li ci : Nat) (K : Option Addr) (lk ck : Nat), PS w' p s j m x.1 x.2 ∧ Bes p N w0 w' ∧ Box w' (N + 2) (.int .i64 0) (.int .i64 0) (.string ⟨#[]⟩) (.slice none 0 0) (.slice none 0 0) ∧ Box w' (N + 3) (.int .i64 k) (.int .i64 n) (.string z) (.slice A li ci) (.slice K lk ck)
end Go.Proofs.YtcbajgcblfgmgaaDoor
