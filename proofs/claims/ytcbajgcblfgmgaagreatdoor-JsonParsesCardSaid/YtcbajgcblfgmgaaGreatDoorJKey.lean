
/-
  A key of an object.
-/
import Derived.Test.YtcbajgcblfgmgaaGreatDoorJEls
import Derived.Test.YtcbajgcblfgmgaaGreatDoorDistinct
namespace Go.Proofs.YtcbajgcblfgmgaaGreatDoor
open Go.RowKit Go.Maps
def SeenAt (w : World) (b : Nat) (keys : List ByteArray) : Prop := w.ownsMap Tryz.prog 9 (plainElem Tryz.prog 4) b keys.length (setD keys)
theorem SeenAt.same {w w' : World} {b : Nat} {keys : List ByteArray} (h : SeenAt w b keys) (hb : w'.heap[b]? = w.heap[b]?) : SeenAt w' b keys := by
  obtain ⟨es, clock, h1, h2⟩ := h
  exact ⟨es, clock, hb.trans h1, h2⟩
theorem SeenAt.lt {w : World} {b : Nat} {keys : List ByteArray} (h : SeenAt w b keys) : b < w.heap.size := World.ownsMap.lt h
def KeyPost (w : World) (p mb : Nat) (s : ByteArray) (n : Nat) (seen : List ByteArray) (r : Except Er (ByteArray × Nat)) (e : Ending) (w' : World) : Prop :=
  (∃ x j, r = .ok (x, j) ∧ e = .returned (.tuple #[.string x, .bool true]) ∧ PS w' p s j n 0 0 ∧ SeenAt w' mb (seen ++ [x]) ∧ x.size ≤ 1073741824 ∧ x ∉ seen ∧ w.heap.size ≤ w'.heap.size ∧ Below p w w' ∧ ∀ k, k < w.heap.size → k ≠ p → k ≠ mb → w'.heap[k]? = w.heap[k]?) ∨
  (∃ x j z, r = .error x ∧ e = .returned (.tuple #[.string z, .bool false]) ∧ PS w' p s j n x.1 x.2 ∧ w.heap.size ≤ w'.heap.size ∧ Below p w w' ∧ ∀ k, k < w.heap.size → k ≠ p → k ≠ mb → w'.heap[k]? = w.heap[k]?)
theorem litR_size {s : ByteArray} {i j : Nat} {x : ByteArray} (h : litR s i = .ok (x, j)) : x.size ≤ s.size ∧ i < j ∧ j ≤ s.size := by
  unfold litR at h
  split at h
  · next h34 =>
    have hlt : i < s.size := lt_of_bt (by rw [h34]; decide)
    split at h
    · cases h
    · next k hk =>
      cases h
      obtain ⟨h1, h2, _⟩ := charsF_gt _ _ _ (by omega) hk
      have := litS_size s i (k + 1)
      exact ⟨by omega, by omega, by omega⟩
  · cases h
set_option maxRecDepth 100000 in
set_option maxHeartbeats 4000000 in
theorem key_any {w : World} {p mb : Nat} {s : ByteArray} {i n : Nat} (seen : List ByteArray) (h : PS w p s i n 0 0) (hm : SeenAt w mb seen) (hpm : p < mb) (hsl : seen.length ≤ 5000) :
    Calls Tryz.prog 44 #[pp p, .map (some mb)] w (KeyPost w p mb s n seen (keyR s seen i)) := by
  have HP := Lib.hid h
  have HM := Lib.hid hm
  have hmb := hm.lt
  have hpw := h.lt
  clear h hm
  go_enter Tryz.func44, Tryz.ntmps44
  go_wp2_with fail
  refine (skip_any HP.out ⟨#[32, 9, 10, 13]⟩ (by decide)).mono ?_
  rintro e w1 ⟨rfl, hp1, hb1⟩
  have hp1 : PS w1 p s (sk spL s i) n 0 0 := hp1
  have hKR : keyR s seen i = match litR s (sk spL s i) with
    | .error e => .error e
    | .ok (k, j) => if memK seen k then .error (sk spL s i, 7) else if bt s (sk spL s j) = 58 then .ok (k, sk spL s j + 1) else .error (sk spL s j, 3) := rfl
  have HKR := Lib.hid hKR
  clear hKR
  generalize sk spL s i = i1 at *
  have HP1 := Lib.hid hp1
  have HB1 := Lib.hid hb1
  clear hp1 hb1
  obtain ⟨q0, q1, q2, q3, q4⟩ := HP1.out.box.cells
  go_wp2_with fail
  refine (literal_any HP1.out).mono ?_
  clear q0 q1 q2 q3 q4
  rintro e w2 (⟨x, j, hr, rfl, hp2, hb2⟩ | ⟨x, j, hr, rfl, hp2, hb2⟩)
  rotate_left
  · have E1 : Hid (keyR s seen i = .error x) := Lib.hid (by rw [HKR.out, hr])
    have HP2 := Lib.hid hp2
    have HB2 := Lib.hid (HB1.out.trans (hb2.mono HB1.out.size))
    clear hr hp2 hb2
    go_wp2_with fail
    go_ret2
    exact .inr ⟨x, j, _, E1.out, rfl, HP2.out, HB2.out.size, HB2.out.below (Nat.le_of_lt hpw), fun k h1 h2 _ => HB2.out.block k h1 h2⟩
  have hx := litR_size hr
  have hs := HP1.out.hs
  have E2 : Hid (keyR s seen i = if memK seen x then .error (i1, 7) else if bt s (sk spL s j) = 58 then .ok (x, sk spL s j + 1) else .error (sk spL s j, 3)) := Lib.hid (by rw [HKR.out, hr])
  have HP2 := Lib.hid hp2
  have HB2 := Lib.hid (HB1.out.trans (hb2.mono HB1.out.size))
  have HM2 := Lib.hid (HM.out.same (HB2.out.block mb hmb (by omega)))
  have hat := setD_at seen x
  have HAT := Lib.hid hat
  clear hr hp2 hb2 hat HKR
  by_cases hin : x ∈ seen
  · have hy : decide (x ∈ seen) = true := by simpa using hin
    rw [hy] at HAT
    have E3 := Lib.hid (E2.out.trans (if_pos ((memK_iff seen x).2 hin)))
    clear hin hy
    go_wp2_with (at_lookup; refine wpList_lookup_own_bool _ rfl _ _ 71 rfl 9 4 keyLaw Tryz.underlying71 Tryz.underlying4 (zeroB _) mb seen.length _ rfl HM2.out _ _ rfl (WideMaps.keyOf_string_mk Tryz.underlying9 (by unfold maxLen; omega)) _ HAT.out ?_)
    refine (fail_any HP2.out _ _).mono ?_
    rintro e w5 ⟨rfl, hp5, hb5⟩
    have HP5 := Lib.hid hp5
    have HB5 := Lib.hid (HB2.out.trans (hb5.mono HB2.out.size))
    clear hp5 hb5
    go_wp2_with fail
    go_ret2
    exact .inr ⟨(i1, 7), j, _, E3.out, rfl, HP5.out, HB5.out.size, HB5.out.below (Nat.le_of_lt hpw), fun k h1 h2 _ => HB5.out.block k h1 h2⟩
  · have hy : decide (x ∈ seen) = false := by simpa using hin
    rw [hy] at HAT
    have E3 := Lib.hid (E2.out.trans (if_neg (fun h => hin ((memK_iff seen x).1 h))))
    have HIN := Lib.hid hin
    clear hin hy
    go_wp2_with (first
      | (at_lookup; refine wpList_lookup_own_bool _ rfl _ _ 71 rfl 9 4 keyLaw Tryz.underlying71 Tryz.underlying4 (zeroB _) mb seen.length _ rfl HM2.out _ _ rfl (WideMaps.keyOf_string_mk Tryz.underlying9 (by unfold maxLen; omega)) _ HAT.out ?_)
      | (at_mapUpdate; refine wpList_mapUpdate_own _ rfl _ _ _ 71 rfl 9 4 keyLaw Tryz.underlying71 _ mb seen.length _ rfl HM2.out (by unfold maxLen; omega) _ _ _ rfl rfl (WideMaps.keyOf_string_mk Tryz.underlying9 (by unfold maxLen; omega)) _ [] (plainElem_bool Tryz.underlying4 true) ?_; intro w3 hown3 hgrow3))
    have hm3 : SeenAt w3 mb (seen ++ [x]) := by
      unfold SeenAt
      rw [setD_snoc, List.length_append]
      exact hown3
    have hs3 := hgrow3.size
    have hb3 : ∀ k, k < w2.heap.size → k ≠ mb → w3.heap[k]? = w2.heap[k]? := fun k h1 h2 => hgrow3.block k h1 (by intro e; cases e; exact h2 rfl)
    have hbl3 : Below mb w2 w3 := ⟨hgrow3.os, hgrow3.tape, hgrow3.output, hgrow3.size, fun k hk => hb3 k (by have := HM2.out.lt; omega) (by omega)⟩
    have HP3 := Lib.hid (HP2.out.same (hbl3.mono (by omega)))
    have HM3 := Lib.hid hm3
    have HBL3 : Hid (Below p w w3) := Lib.hid ((HB2.out.below (Nat.le_of_lt hpw)).trans (hbl3.mono (Nat.le_of_lt hpm)))
    have HK3 : Hid (w.heap.size ≤ w3.heap.size ∧ ∀ k, k < w.heap.size → k ≠ p → k ≠ mb → w3.heap[k]? = w.heap[k]?) := Lib.hid ⟨Nat.le_trans HB2.out.size hs3, fun k h1 h2 h3 => (hb3 k (Nat.lt_of_lt_of_le h1 HB2.out.size) h3).trans (HB2.out.block k h1 h2)⟩
    clear hown3 hgrow3 hm3 hb3 hbl3 hs3
    refine (skip_any HP3.out ⟨#[32, 9, 10, 13]⟩ (by decide)).mono ?_
    rintro e w4 ⟨rfl, hp4, hb4⟩
    have hp4 : PS w4 p s (sk spL s j) n 0 0 := hp4
    generalize sk spL s j = i2 at *
    have HP4 := Lib.hid hp4
    have HB4 := Lib.hid hb4
    clear hp4 hb4
    go_wp2_with fail
    refine (take_any HP4.out ⟨#[58]⟩ (by decide)).mono ?_
    intro e w5 hh
    obtain ⟨j1, hr, rfl, hp, hb⟩ | ⟨y, j1, hr, rfl, hp, hb⟩ := hh.parts
    · have hr : takeR s [58] i2 = .ok j1 := hr
      have h58 : bt s i2 = 58 ∧ j1 = i2 + 1 := by
        unfold takeR at hr
        rw [isIn_one] at hr
        split at hr
        · next h1 => cases hr; exact ⟨of_decide_eq_true h1, rfl⟩
        · cases hr
      obtain ⟨h58, rfl⟩ := h58
      have E4 := Lib.hid (E3.out.trans (if_pos h58))
      have HP5 := Lib.hid hp
      have HB5 := Lib.hid (HB4.out.trans (hb.mono HB4.out.size))
      have HM5 := Lib.hid (HM3.out.same (HB5.out.block mb HM3.out.lt (by omega)))
      clear hp hb hr hh h58
      go_wp2_with fail
      go_ret2
      exact .inl ⟨x, i2 + 1, E4.out, rfl, HP5.out, HM5.out, by omega, HIN.out, Nat.le_trans HK3.out.1 HB5.out.size, HBL3.out.trans (HB5.out.below (by have := HK3.out.1; omega)), fun k h1 h2 h3 => (HB5.out.block k (Nat.lt_of_lt_of_le h1 HK3.out.1) h2).trans (HK3.out.2 k h1 h2 h3)⟩
    · have hr : takeR s [58] i2 = .error y := hr
      have h58 : bt s i2 ≠ 58 ∧ y = (i2, 3) := by
        unfold takeR at hr
        rw [isIn_one] at hr
        split at hr
        · cases hr
        · next h1 => cases hr; exact ⟨fun h => h1 (decide_eq_true h), rfl⟩
      obtain ⟨h58, rfl⟩ := h58
      have E4 := Lib.hid (E3.out.trans (if_neg h58))
      have HP5 := Lib.hid hp
      have HB5 := Lib.hid (HB4.out.trans (hb.mono HB4.out.size))
      clear hp hb hr hh h58
      go_wp2_with fail
      go_ret2
      exact .inr ⟨(i2, 3), j1, _, E4.out, rfl, HP5.out, Nat.le_trans HK3.out.1 HB5.out.size, HBL3.out.trans (HB5.out.below (by have := HK3.out.1; omega)), fun k h1 h2 h3 => (HB5.out.block k (Nat.lt_of_lt_of_le h1 HK3.out.1) h2).trans (HK3.out.2 k h1 h2 h3)⟩
end Go.Proofs.YtcbajgcblfgmgaaGreatDoor
