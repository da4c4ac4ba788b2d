
/-
  The reference's printable.
-/
import Derived.Test.YtgbckpihlklnlaaDoorJWeight
namespace Go.Proofs.YtgbckpihlklnlaaDoor
open Go.RowKit
theorem txtL_some : ∀ (items : List VT) (b : Bool), (VT.txtL items b).isSome = items.all (fun t => t.txt.isSome)
  | [], b => by simp [VT.txtL]
  | t :: r, b => by
    rw [VT.txtL, List.all_cons, ← txtL_some r false]
    cases h : t.txt <;> simp
theorem txtO_some : ∀ (items : List VT) (keys : List ByteArray) (b : Bool), (VT.txtO items keys b).isSome = items.all (fun t => t.txt.isSome)
  | [], keys, b => by simp [VT.txtO]
  | t :: r, keys, b => by
    rw [VT.txtO, List.all_cons, ← txtO_some r (keys.drop 1) false]
    cases h : t.txt <;> simp
set_option maxRecDepth 100000 in
set_option maxHeartbeats 8000000 in
theorem printable_any (t : VT) : ∀ (w : World) (B : Nat) (v : Value), Rd w B v t → B ≤ w.heap.size → Calls Tryd.prog 18 #[v] w fun e w' => e = .returned (.bool t.txt.isSome) ∧ Below w.heap.size w w' := by
  induction t using VT.ind with
  | h k n s items keys ih =>
  intro w B v h hB
  cases h with
  | @mk _ _ _ A li ci K lk ck _ _ V hk hn hs hks hli hlk hbi hbk hA hr hK =>
  have bz : Below w.heap.size w (w.alloc (.cells #[.int .i64 k, .int .i64 n, .string s, .slice A li ci, .slice K lk ck] 25 (0, 0))) := (Below.refl _ _).alloc (Nat.le_refl _) _
  have HB1 := Lib.hid bz
  have Y1 := Lib.hid (Box.new w (.int .i64 k) (.int .i64 n) (.string s) (.slice A li ci) (.slice K lk ck))
  have HA := Lib.hid hA
  have HR := Lib.hid hr
  have HLI := Lib.hid hli
  have HLK := Lib.hid hlk
  have IH := Lib.hid ih
  have hlm : (li : Int) ≤ 140737488351232 := by omega
  have hlm' : (lk : Int) ≤ 140737488351232 := by omega
  generalize hRR : VT.txt (.mk k n s items keys) = RR
  have HRR := Lib.hid hRR
  clear bz hA hr hK hli hlk ih hks hbi hbk hn hs hRR
  by_cases hk5 : k = 5
  · subst hk5
    have HTX : Hid (RR.isSome = items.all (fun t => t.txt.isSome)) := Lib.hid (by
      rw [← HRR.out, VT.txt, ← txtL_some items true]
      simp)
    obtain ⟨x0, x1, x2, x3, x4⟩ := Y1.out.cells
    go_enter Tryd.func18, Tryd.ntmps18
    go_wp2_with fail
    clear x0 x1 x2 x3 x4
    go_loopw [3] (fun i wr => ∃ j : Nat, j ≤ li ∧ i = .int .i64 j ∧ (items.take j).all (fun t => t.txt.isSome) = true ∧ Below w.heap.size w wr ∧ Box wr w.heap.size (.int .i64 5) (.int .i64 n) (.string s) (.slice A li ci) (.slice K lk ck)) (fun i _ => li - (intOf i).toNat)
    case atStart => exact ⟨0, Nat.zero_le _, rfl, by simp, HB1.out, Y1.out⟩
    case round =>
      obtain ⟨j, hj, rfl, hall, hb, hy⟩ := hrel
      have HALL := Lib.hid hall
      have HB := Lib.hid hb
      have HY := Lib.hid hy
      obtain ⟨x0, x1, x2, x3, x4⟩ := hy.cells
      clear hb hy HB1 Y1 hall
      by_cases hlt : j < li
      · have hlt' : (j : Int) < li := by omega
        obtain ⟨a, t, k1, n1, s1, A1, li1, ci1, K1, lk1, ck1, rfl, ht, e, hrd, h0, h1, h2, h3, h4⟩ := round_at HA.out HR.out HLI.out (HB.out.mono hB) hlt
        have CALL := Lib.hid (IH.out j t ht _ B (.agg #[.int .i64 k1, .int .i64 n1, .string s1, .slice A1 li1 ci1, .slice K1 lk1 ck1]) (by rw [← e]; exact hrd) (Nat.le_trans hB HB.out.size))
        have HT := Lib.hid ht
        clear ht e hrd
        go_wp2_with fail
        refine CALL.out.mono ?_
        rintro e w5 ⟨rfl, hb5⟩
        have HB5 := Lib.hid (HB.out.trans (hb5.mono HB.out.size))
        have HY5 := Lib.hid (HY.out.kept hb5)
        clear hb5 x0 x1 x2 x3 x4 h0 h1 h2 h3 h4 CALL
        cases hx : t.txt.isSome with
        | true =>
          have HN : Hid ((items.take (j + 1)).all (fun t => t.txt.isSome) = true) := Lib.hid (by
            obtain ⟨hjl, e⟩ := List.getElem?_eq_some_iff.1 HT.out
            rw [List.take_succ_eq_append_getElem hjl, e, List.all_append, HALL.out]; simp [hx])
          go_wp2_with fail
          go_roundw
          case rel => exact ⟨j + 1, by omega, by go_num, HN.out, HB5.out, HY5.out⟩
          case measure => simp [intOf]; omega
        | false =>
          have HN : Hid (RR.isSome = false) := Lib.hid (by
            rw [HTX.out]
            rw [List.all_eq_false]
            exact ⟨t, List.mem_of_getElem? HT.out, by simp [hx]⟩)
          go_wp2_with fail
          go_ret
          exact ⟨by rw [HN.out]; rfl, HB5.out⟩
      · have hji : j = li := by omega
        have HN : Hid (RR.isSome = true) := Lib.hid (by
          rw [HTX.out]
          have h := HALL.out
          rwa [List.take_of_length_le (by have := HLI.out; omega)] at h)
        have hlt' : ¬ (j : Int) < li := by omega
        clear hji
        go_wp2_with fail
        go_ret
        exact ⟨by rw [HN.out]; rfl, HB.out⟩
  · by_cases hk6 : k = 6
    · subst hk6
      by_cases hll : lk = li
      · have hll' : ((lk : Int) != (li : Int)) = false := by rw [hll]; simp
        have HTX : Hid (RR.isSome = items.all (fun t => t.txt.isSome)) := Lib.hid (by
          have hle : keys.length = items.length := by rw [HLI.out, HLK.out, hll]
          rw [← HRR.out, VT.txt, ← txtO_some items keys true]
          simp [hle])
        clear hll
        obtain ⟨x0, x1, x2, x3, x4⟩ := Y1.out.cells
        go_enter Tryd.func18, Tryd.ntmps18
        go_wp2_with fail
        clear x0 x1 x2 x3 x4
        go_loopw [3] (fun i wr => ∃ j : Nat, j ≤ li ∧ i = .int .i64 j ∧ (items.take j).all (fun t => t.txt.isSome) = true ∧ Below w.heap.size w wr ∧ Box wr w.heap.size (.int .i64 6) (.int .i64 n) (.string s) (.slice A li ci) (.slice K lk ck)) (fun i _ => li - (intOf i).toNat)
        case atStart => exact ⟨0, Nat.zero_le _, rfl, by simp, HB1.out, Y1.out⟩
        case round =>
          obtain ⟨j, hj, rfl, hall, hb, hy⟩ := hrel
          have HALL := Lib.hid hall
          have HB := Lib.hid hb
          have HY := Lib.hid hy
          obtain ⟨x0, x1, x2, x3, x4⟩ := hy.cells
          clear hb hy HB1 Y1 hall
          by_cases hlt : j < li
          · have hlt' : (j : Int) < li := by omega
            obtain ⟨a, t, k1, n1, s1, A1, li1, ci1, K1, lk1, ck1, rfl, ht, e, hrd, h0, h1, h2, h3, h4⟩ := round_at HA.out HR.out HLI.out (HB.out.mono hB) hlt
            have CALL := Lib.hid (IH.out j t ht _ B (.agg #[.int .i64 k1, .int .i64 n1, .string s1, .slice A1 li1 ci1, .slice K1 lk1 ck1]) (by rw [← e]; exact hrd) (Nat.le_trans hB HB.out.size))
            have HT := Lib.hid ht
            clear ht e hrd
            go_wp2_with fail
            refine CALL.out.mono ?_
            rintro e w5 ⟨rfl, hb5⟩
            have HB5 := Lib.hid (HB.out.trans (hb5.mono HB.out.size))
            have HY5 := Lib.hid (HY.out.kept hb5)
            clear hb5 x0 x1 x2 x3 x4 h0 h1 h2 h3 h4 CALL
            cases hx : t.txt.isSome with
            | true =>
              have HN : Hid ((items.take (j + 1)).all (fun t => t.txt.isSome) = true) := Lib.hid (by
                obtain ⟨hjl, e⟩ := List.getElem?_eq_some_iff.1 HT.out
                rw [List.take_succ_eq_append_getElem hjl, e, List.all_append, HALL.out]; simp [hx])
              go_wp2_with fail
              go_roundw
              case rel => exact ⟨j + 1, by omega, by go_num, HN.out, HB5.out, HY5.out⟩
              case measure => simp [intOf]; omega
            | false =>
              have HN : Hid (RR.isSome = false) := Lib.hid (by
                rw [HTX.out]
                rw [List.all_eq_false]
                exact ⟨t, List.mem_of_getElem? HT.out, by simp [hx]⟩)
              go_wp2_with fail
              go_ret
              exact ⟨by rw [HN.out]; rfl, HB5.out⟩
          · have hji : j = li := by omega
            have HN : Hid (RR.isSome = true) := Lib.hid (by
              rw [HTX.out]
              have h := HALL.out
              rwa [List.take_of_length_le (by have := HLI.out; omega)] at h)
            have hlt' : ¬ (j : Int) < li := by omega
            clear hji
            go_wp2_with fail
            go_ret
            exact ⟨by rw [HN.out]; rfl, HB.out⟩
      · have hll' : ((lk : Int) != (li : Int)) = true := by rw [bne_iff_ne]; omega
        have HN : Hid (RR.isSome = false) := Lib.hid (by
          have hle : keys.length ≠ items.length := by rw [HLI.out, HLK.out]; exact hll
          rw [← HRR.out, VT.txt]
          simp [hle])
        clear hll
        obtain ⟨x0, x1, x2, x3, x4⟩ := Y1.out.cells
        go_enter Tryd.func18, Tryd.ntmps18
        go_wp2_with fail
        go_ret
        exact ⟨by rw [HN.out]; rfl, HB1.out⟩
    · have b5 := k_ne hk5
      have b6 := k_ne hk6
      obtain ⟨x0, x1, x2, x3, x4⟩ := Y1.out.cells
      by_cases hk0 : k < 0
      · have HN : Hid (RR.isSome = false) := Lib.hid (by
          rw [← HRR.out, VT.txt]
          simp [hk5, hk6, show k ≠ 0 by omega, show k ≠ 1 by omega, show k ≠ 2 by omega, show k ≠ 3 by omega, show k ≠ 4 by omega])
        clear hk5 hk6
        go_enter Tryd.func18, Tryd.ntmps18
        go_wp2_with fail
        go_ret
        exact ⟨by rw [HN.out]; rfl, HB1.out⟩
      · by_cases hk7 : k > 6
        · have HN : Hid (RR.isSome = false) := Lib.hid (by
            rw [← HRR.out, VT.txt]
            simp [hk5, hk6, show k ≠ 0 by omega, show k ≠ 1 by omega, show k ≠ 2 by omega, show k ≠ 3 by omega, show k ≠ 4 by omega])
          clear hk5 hk6
          go_enter Tryd.func18, Tryd.ntmps18
          go_wp2_with fail
          go_ret
          exact ⟨by rw [HN.out]; rfl, HB1.out⟩
        · have HN : Hid (RR.isSome = true) := Lib.hid (by
            rw [← HRR.out, VT.txt]
            have hc : k = 0 ∨ k = 1 ∨ k = 2 ∨ k = 3 ∨ k = 4 := by omega
            rcases hc with rfl | rfl | rfl | rfl | rfl <;> rfl)
          clear hk5 hk6
          go_enter Tryd.func18, Tryd.ntmps18
          go_wp2_with fail
          go_ret
          exact ⟨by rw [HN.out]; rfl, HB1.out⟩
end Go.Proofs.YtgbckpihlklnlaaDoor
