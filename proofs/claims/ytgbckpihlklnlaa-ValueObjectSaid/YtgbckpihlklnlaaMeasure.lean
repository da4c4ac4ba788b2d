
/-
  Contracts of Size, Depth (both packages), count and few.
-/
import Derived.Test.YtgbckpihlklnlaaVal
namespace Go.Proofs.Ytgbckpihlklnlaa
open Go.RowKit
set_option maxHeartbeats 400000 in
theorem size_any (t : VT) : ∀ (w : World) (B : Nat) (v : Value), Rd w B v t → B ≤ w.heap.size → t.size ≤ 1000000 →
    Calls Try.prog 15 #[v] w fun e w' => e = .returned (.int .i64 t.size) ∧ Below w.heap.size w w' := by
  induction t using VT.ind with
  | h k n s items keys ih =>
  intro w B v h hB hz
  cases h with
  | @mk _ _ _ A li ci K lk ck _ _ V hk hn hs hks hli hlk hbi hbk hA hr hK =>
  have HA := Lib.hid hA
  have HR := Lib.hid hr
  have IH := Lib.hid ih
  have HL := Lib.hid hli
  have hz1 : 1 + VT.sizes items ≤ 1000000 := hz
  clear hA hr ih hK hks hk hn hs hbk hli hlk hz
  go_enter Try.func15, Try.ntmps15
  go_wp2_with fail
  go_loopw [3, 9] (fun nn i wr => ∃ j : Nat, j ≤ li ∧ i = .int .i64 j ∧ nn = .int .i64 (1 + (VT.sizes (items.take j) : Int)) ∧ Below w.heap.size w wr ∧ w.heap.size < wr.heap.size) (fun _ i _ => li - (intOf i).toNat)
  case atStart => exact ⟨0, Nat.zero_le _, rfl, by simp [VT.sizes], (Below.refl _ _).alloc (Nat.le_refl _) _, by simp⟩
  case round =>
    obtain ⟨j, hj, rfl, rfl, hb, hsz⟩ := hrel
    have hlm : (li : Int) ≤ 140737488351232 := by omega
    have HB := Lib.hid hb
    have hz2 := sizes_take_le items (j + 1)
    by_cases hlt : j < li
    · obtain ⟨a, t, k1, n1, s1, A1, li1, ci1, K1, lk1, ck1, rfl, ht, e, hrd, h0, h1, h2, h3, h4⟩ := round_at HA.out HR.out HL.out (hb.mono hB) hlt
      have HST := Lib.hid (sizes_take items j t ht)
      have hzt : VT.sizes (items.take j) + t.size ≤ 999999 := by have := HST.out; omega
      have HT := Lib.hid ht
      have HRD := Lib.hid hrd
      have E := Lib.hid e
      clear e hrd ht hb
      go_wp2_with fail
      rw [← E.out]
      refine (IH.out j t HT.out _ B _ (HRD.out.kept ((Below.refl _ _).alloc (by omega) _)) (by simp; omega) (by omega)).mono ?_
      rintro e w1 ⟨rfl, hb1⟩
      have hs1 := hb1.size
      simp only [World.size_alloc] at hs1
      have HB1 := Lib.hid (((HB.out.alloc (by omega) _).trans (hb1.mono (by simp; omega))) : Below w.heap.size w w1)
      clear hb1
      go_wp2_with fail
      go_roundw
      case rel => exact ⟨j + 1, by omega, by go_num, by rw [HST.out]; go_num, HB1.out, by omega⟩
      case measure => simp [intOf]; omega
    · have hji : j = li := by omega
      have HJ : Hid (VT.sizes (items.take j) = VT.sizes items) := Lib.hid (by rw [hji, List.take_of_length_le (by have := HL.out; omega)])
      clear hji hb
      go_wp2_with fail
      go_ret
      exact ⟨by rw [HJ.out]; simp [VT.size], HB.out⟩
set_option maxHeartbeats 400000 in
theorem depth_any (t : VT) : ∀ (w : World) (B : Nat) (v : Value), Rd w B v t → B ≤ w.heap.size → t.depth ≤ 1000000 →
    Calls Try.prog 16 #[v] w fun e w' => e = .returned (.int .i64 t.depth) ∧ Below w.heap.size w w' := by
  induction t using VT.ind with
  | h k n s items keys ih =>
  intro w B v h hB hz
  cases h with
  | @mk _ _ _ A li ci K lk ck _ _ V hk hn hs hks hli hlk hbi hbk hA hr hK =>
  have HA := Lib.hid hA
  have HR := Lib.hid hr
  have IH := Lib.hid ih
  have HL := Lib.hid hli
  have hz1 : 1 + VT.depths items ≤ 1000000 := hz
  clear hA hr ih hK hks hk hn hs hbk hli hlk hz
  go_enter Try.func16, Try.ntmps16
  go_wp2_with fail
  go_loopw [3, 9] (fun nn i wr => ∃ j : Nat, j ≤ li ∧ i = .int .i64 j ∧ nn = .int .i64 (VT.depths (items.take j) : Int) ∧ Below w.heap.size w wr ∧ w.heap.size < wr.heap.size) (fun _ i _ => li - (intOf i).toNat)
  case atStart => exact ⟨0, Nat.zero_le _, rfl, by simp [VT.depths], (Below.refl _ _).alloc (Nat.le_refl _) _, by simp⟩
  case round =>
    obtain ⟨j, hj, rfl, rfl, hb, hsz⟩ := hrel
    have hlm : (li : Int) ≤ 140737488351232 := by omega
    have HB := Lib.hid hb
    have hz2 := depths_take_le items (j + 1)
    by_cases hlt : j < li
    · obtain ⟨a, t, k1, n1, s1, A1, li1, ci1, K1, lk1, ck1, rfl, ht, e, hrd, h0, h1, h2, h3, h4⟩ := round_at HA.out HR.out HL.out (hb.mono hB) hlt
      have HST := Lib.hid (depths_take items j t ht)
      have hzt : max (VT.depths (items.take j)) t.depth ≤ 999999 := by have := HST.out; omega
      have HT := Lib.hid ht
      have HRD := Lib.hid hrd
      have E := Lib.hid e
      clear e hrd ht hb
      go_wp2_with fail
      rw [← E.out]
      refine (IH.out j t HT.out _ B _ (HRD.out.kept ((Below.refl _ _).alloc (by omega) _)) (by simp; omega) (by omega)).mono ?_
      rintro e w1 ⟨rfl, hb1⟩
      have hs1 := hb1.size
      simp only [World.size_alloc] at hs1
      have HB1 := Lib.hid (((HB.out.alloc (by omega) _).trans (hb1.mono (by simp; omega))) : Below w.heap.size w w1)
      clear hb1
      go_wp2_with fail
      go_roundw
      case rel => exact ⟨j + 1, by omega, by go_num, by rw [HST.out]; go_num, HB1.out, by omega⟩
      case measure => simp [intOf]; omega
    · have hji : j = li := by omega
      have hz3 := depths_take_le items j
      have HJ : Hid (VT.depths (items.take j) = VT.depths items) := Lib.hid (by rw [hji, List.take_of_length_le (by have := HL.out; omega)])
      clear hji hb
      go_wp2_with fail
      go_ret
      exact ⟨by rw [HJ.out]; simp [VT.depth]; try (try simp only [Int.add_comm]), HB.out⟩
set_option maxHeartbeats 400000 in
theorem count_any (t : VT) : ∀ (w : World) (B : Nat) (v : Value) (n most : Nat), Rd w B v t → B ≤ w.heap.size → n ≤ most → most ≤ 100000 →
    Calls Try.prog 18 #[v, .int .i64 n, .int .i64 most] w fun e w' => e = .returned (.int .i64 (t.cnt most n)) ∧ Below w.heap.size w w' := by
  induction t using VT.ind with
  | h k0 n0 s items keys ih =>
  intro w B v n most h hB hn hmost
  cases h with
  | @mk _ _ _ A li ci K lk ck _ _ V hk hn0 hs hks hli hlk hbi hbk hA hr hK =>
  have HA := Lib.hid hA
  have HR := Lib.hid hr
  have IH := Lib.hid ih
  have HL := Lib.hid hli
  have HLK := Lib.hid hlk
  clear hA hr ih hK hks hk hn0 hs hli hlk
  go_enter Try.func18, Try.ntmps18
  go_wp2_with fail
  go_loopw [1, 7] (fun nn i wr => ∃ (j m : Nat), j ≤ li ∧ i = .int .i64 j ∧ nn = .int .i64 m ∧ VT.cnts most (items.drop j) m = VT.cnts most items (n + 1 + keys.length) ∧ Below w.heap.size w wr ∧ w.heap.size < wr.heap.size ∧ wr.cell? ⟨w.heap.size, 3, none⟩ = some (.slice A li ci)) (fun _ i _ => li - (intOf i).toNat)
  case atStart => exact ⟨0, n + 1 + lk, Nat.zero_le _, rfl, by go_num, by rw [HLK.out]; rfl, (Below.refl _ _).alloc (Nat.le_refl _) _, by simp, by simp [World.cell?_alloc_at]⟩
  case round =>
    obtain ⟨j, m, hj, rfl, rfl, hc, hb, hsz, hbox⟩ := hrel
    have hlm : (li : Int) ≤ 140737488351232 := by omega
    have HB := Lib.hid hb
    have HC := Lib.hid hc
    clear hc
    by_cases hlt : j < li
    · by_cases hm : m ≤ most
      · obtain ⟨a, t, k1, n1, s1, A1, li1, ci1, K1, lk1, ck1, rfl, ht, e, hrd, h0, h1, h2, h3, h4⟩ := round_at HA.out HR.out HL.out (hb.mono hB) hlt
        have HST := Lib.hid (cnts_drop most items j m t ht hm)
        have HT := Lib.hid ht
        have HRD := Lib.hid hrd
        have E := Lib.hid e
        clear e hrd ht hb
        go_wp2_with fail
        rw [← E.out]
        refine (IH.out j t HT.out _ B _ m most HRD.out (by omega) hm hmost).mono ?_
        rintro e w1 ⟨rfl, hb1⟩
        have hs1 := hb1.size
        have HB1 := Lib.hid ((HB.out.trans (hb1.mono (by omega))) : Below w.heap.size w w1)
        have hbox1 := (hb1.cell (p := ⟨w.heap.size, 3, none⟩) hsz).trans hbox
        clear hb1
        go_wp2_with fail
        go_roundw
        case rel => exact ⟨j + 1, t.cnt most m, by omega, by go_num, rfl, by rw [← HST.out]; exact HC.out, HB1.out, by omega, hbox1⟩
        case measure => simp [intOf]; omega
      · have HJ : Hid (VT.cnts most items (n + 1 + keys.length) = m) := Lib.hid (by rw [← HC.out, cnts_over _ _ _ hm])
        clear hb
        go_wp2_with fail
        go_ret
        exact ⟨by simp only [VT.cnt]; rw [HJ.out]; rfl, HB.out⟩
    · have hji : j = li := by omega
      have HJ : Hid (VT.cnts most items (n + 1 + keys.length) = m) := Lib.hid (by rw [← HC.out, hji, List.drop_of_length_le (by have := HL.out; omega)]; rfl)
      clear hji hb
      go_wp2_with fail
      go_ret
      exact ⟨by simp only [VT.cnt]; rw [HJ.out]; rfl, HB.out⟩
theorem few_any (t : VT) (w : World) (B : Nat) (v : Value) (h : Rd w B v t) (hB : B ≤ w.heap.size) :
    Calls Try.prog 5 #[v] w fun e w' => e = .returned (.bool (decide (t.cnt 400 0 ≤ 400))) ∧ Below w.heap.size w w' := by
  have HRD := Lib.hid h
  cases h with
  | @mk k n s A li ci K lk ck items keys V hk hn hs hks hli hlk hbi hbk hA hr hK =>
  clear hA hr hK hks hk hn hs hli hlk hbi hbk
  go_enter Try.func5, Try.ntmps5
  go_wp2_with fail
  refine (count_any _ _ B _ 0 400 (HRD.out.kept ((Below.refl _ _).alloc hB _)) (by simp; omega) (by omega) (by omega)).mono ?_
  rintro e w1 ⟨rfl, hb1⟩
  have HB1 := Lib.hid ((((Below.refl _ _).alloc (Nat.le_refl _) _).trans (hb1.mono (by simp))) : Below w.heap.size w w1)
  clear hb1
  by_cases hc : VT.cnt 400 (VT.mk k n s items keys) 0 ≤ 400
  · go_wp2_with fail
    go_ret
    exact ⟨by simp; omega, HB1.out⟩
  · go_wp2_with fail
    go_ret
    exact ⟨by simp; omega, HB1.out⟩
end Go.Proofs.Ytgbckpihlklnlaa
