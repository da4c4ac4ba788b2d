
/-
  The reference's measure of a value.
-/
import Derived.Test.YtcbajgcblfgmgaaDoorJPrintV
namespace Go.Proofs.YtcbajgcblfgmgaaDoor
open Go.RowKit
def WtPost (m : Nat) (w : World) (e : Ending) (w' : World) : Prop := (∃ x : Nat, e = .returned (.int .i64 x) ∧ x ≤ m ∧ (x ≤ 3000 → x = m)) ∧ Below w.heap.size w w'
set_option maxRecDepth 100000 in
set_option maxHeartbeats 4000000 in
theorem weight_any (t : VT) : ∀ (w : World) (B : Nat) (v : Value), Rd w B v t → B ≤ w.heap.size → t.bw ≤ 1099511627776 → Calls Tryd.prog 13 #[v, .int .i64 3000] w (WtPost t.bw w) := by
  induction t using VT.ind with
  | h k n s items keys ih =>
  intro w B v h hB hbw
  cases h with
  | @mk _ _ _ A li ci K lk ck _ _ V hk hn hs hks hli hlk hbi hbk hA hr hK =>
  rw [bw_eq] at hbw ⊢
  have bz : Below w.heap.size w (w.alloc (.cells #[.int .i64 k, .int .i64 n, .string s, .slice A li ci, .slice K lk ck] 25 (0, 0))) := (Below.refl _ _).alloc (Nat.le_refl _) _
  have HB1 := Lib.hid bz
  have Y1 := Lib.hid (Box.new w (.int .i64 k) (.int .i64 n) (.string s) (.slice A li ci) (.slice K lk ck))
  have HA := Lib.hid hA
  have HR := Lib.hid hr
  have HK := Lib.hid hK
  have HLI := Lib.hid hli
  have HLK := Lib.hid hlk
  have IH := Lib.hid ih
  have HKS := Lib.hid hks
  have hlm : (li : Int) ≤ 140737488351232 := by omega
  have hlm' : (lk : Int) ≤ 140737488351232 := by omega
  have hss : (s.size : Int) ≤ 140737488351232 := by omega
  have hky : s.size ≤ 1099511627776 := by omega
  clear bz hA hr hK hli hlk ih hks hbi hbk hk hn hs
  obtain ⟨x0, x1, x2, x3, x4⟩ := Y1.out.cells
  go_enter Tryd.func13, Tryd.ntmps13
  go_wp2_with fail
  clear x0 x1 x2 x3 x4
  go_loopw [5, 6] (fun nn i wr => ∃ j : Nat, j ≤ lk ∧ i = .int .i64 j ∧ nn = .int .i64 ((1 + s.size + ksum (keys.take j) : Nat) : Int) ∧ Below w.heap.size w wr ∧ Box wr w.heap.size (.int .i64 k) (.int .i64 n) (.string s) (.slice A li ci) (.slice K lk ck)) (fun _ i _ => lk - (intOf i).toNat)
  case atStart => exact ⟨0, Nat.zero_le _, rfl, by simp [ksum], HB1.out, Y1.out⟩
  case round =>
    obtain ⟨j, hj, rfl, rfl, hb, hy⟩ := hrel
    have HB := Lib.hid hb
    have HY := Lib.hid hy
    have hkl := ksum_le keys j
    obtain ⟨x0, x1, x2, x3, x4⟩ := hy.cells
    clear hb hy HB1 Y1
    by_cases hgo : j < lk ∧ 1 + s.size + ksum (keys.take j) ≤ 3000
    · obtain ⟨hlt, hle⟩ := hgo
      have hlt' : (j : Int) < lk := by omega
      have hle' : ((1 + s.size + ksum (keys.take j) : Nat) : Int) ≤ 3000 := by omega
      obtain ⟨ka, hka, hkab, hkc0⟩ := HK.out (by have := HLK.out; omega)
      obtain ⟨x, hx⟩ : ∃ x, keys[j]? = some x := ⟨_, List.getElem?_eq_getElem (by have := HLK.out; omega)⟩
      have hkt := ksum_take hx
      have hxs := HKS.out x (List.mem_of_getElem? hx)
      have hkc : wr.cell? (ka.add j) = some (.string x) := by rw [HB.out.cell (by rw [add_block]; omega)]; exact hkc0 j x hx
      subst hka
      clear hkc0 hx
      generalize ksum (keys.take j) = kk at *
      have hkt' := Lib.hid hkt
      clear hkt
      go_wp2_with fail
      go_roundw
      case rel => exact ⟨j + 1, by omega, by go_num, by rw [hkt'.out]; go_num, HB.out, HY.out⟩
      case measure => simp [intOf]; omega
    · have hX : ∃ X : Nat, X = 1 + s.size + ksum (keys.take j) := ⟨_, rfl⟩
      obtain ⟨X, hX⟩ := hX
      have hX2 : X ≤ 1 + s.size + ksum keys ∧ (X ≤ 3000 → X = 1 + s.size + ksum keys) := by
        refine ⟨by omega, fun hx3 => ?_⟩
        have hjl : j = lk := by
          rcases Nat.lt_or_ge j lk with h | h
          · exact absurd ⟨h, by omega⟩ hgo
          · omega
        have h4 : keys.take j = keys := List.take_of_length_le (by have := HLK.out; omega)
        rw [hX, h4]
      have hXb : (X : Int) ≤ 1099511627776 := by omega
      rw [← hX]
      have hcase : (∃ _ : (j : Int) < lk, ¬ (X : Int) ≤ 3000) ∨ ¬ (j : Int) < lk := by
        by_cases h : (j : Int) < lk
        · exact .inl ⟨h, fun h2 => hgo ⟨by omega, by omega⟩⟩
        · exact .inr h
      obtain ⟨hXa, hXc⟩ := hX2
      clear hX hgo hkl
      rcases hcase with ⟨hlt', hle'⟩ | hlt'
      all_goals
        go_wp2_with fail
        clear x0 x1 x2 x3 x4
        go_loopw [5, 7] (fun nn i wr2 => ∃ (j2 x : Nat), j2 ≤ li ∧ i = .int .i64 j2 ∧ nn = .int .i64 x ∧ x ≤ 1 + s.size + ksum keys + VT.bws (items.take j2) ∧ (x ≤ 3000 → x = 1 + s.size + ksum keys + VT.bws (items.take j2)) ∧ Below w.heap.size w wr2 ∧ Box wr2 w.heap.size (.int .i64 k) (.int .i64 n) (.string s) (.slice A li ci) (.slice K lk ck)) (fun _ i _ => li - (intOf i).toNat)
        case atStart => exact ⟨0, X, Nat.zero_le _, rfl, rfl, by simp [VT.bws]; omega, by simp [VT.bws]; omega, HB.out, HY.out⟩
        case round =>
          obtain ⟨j2, x, hj2, rfl, rfl, hx1, hx2, hb2, hy2⟩ := hrel
          have HB2 := Lib.hid hb2
          have HY2 := Lib.hid hy2
          obtain ⟨x0, x1, x2, x3, x4⟩ := hy2.cells
          clear hb2 hy2 HB HY
          by_cases hgo2 : j2 < li ∧ x ≤ 3000
          · obtain ⟨hlt2, hle2⟩ := hgo2
            have hlt2' : (j2 : Int) < li := by omega
            have hle2' : (x : Int) ≤ 3000 := by omega
            have hxe := hx2 hle2
            obtain ⟨a, t, k1, n1, s1, A1, li1, ci1, K1, lk1, ck1, rfl, ht, e, hrd, h0, h1, h2, h3, h4⟩ := round_at HA.out HR.out HLI.out (HB2.out.mono hB) hlt2
            have hwt := bws_take ht
            have hwl := bws_le items (j2 + 1)
            have CALL := Lib.hid (IH.out j2 t ht _ B (.agg #[.int .i64 k1, .int .i64 n1, .string s1, .slice A1 li1 ci1, .slice K1 lk1 ck1]) (by rw [← e]; exact hrd) (Nat.le_trans hB HB2.out.size) (by omega))
            have HWT := Lib.hid hwt
            have HXE := Lib.hid hxe
            have hb1 : x ≤ 3000 := hle2
            have htb : t.bw ≤ 1099511627776 := by omega
            clear ht e hrd hwt hxe hx1 hx2 hwl
            go_wp2_with fail
            refine CALL.out.mono ?_
            rintro e w5 ⟨⟨y, rfl, hy1, hy2⟩, hb5⟩
            have HB5 := Lib.hid (HB2.out.trans (hb5.mono HB2.out.size))
            have HY5 := Lib.hid (HY2.out.kept hb5)
            have hyb : (y : Int) ≤ 1099511627776 := by omega
            clear hb5 x0 x1 x2 x3 x4 h0 h1 h2 h3 h4 CALL
            go_wp2_with fail
            go_roundw
            case rel => exact ⟨j2 + 1, x + y, by omega, by go_num, by go_num, by have := HWT.out; have := HXE.out; omega, by have := HWT.out; have := HXE.out; omega, HB5.out, HY5.out⟩
            case measure => simp [intOf]; omega
          · have hwl := bws_le items j2
            have hfin : x ≤ 1 + s.size + ksum keys + VT.bws items ∧ (x ≤ 3000 → x = 1 + s.size + ksum keys + VT.bws items) := by
              refine ⟨by omega, fun hx3 => ?_⟩
              have hjl : j2 = li := by
                rcases Nat.lt_or_ge j2 li with h | h
                · exact absurd ⟨h, hx3⟩ hgo2
                · omega
              have h4 : items.take j2 = items := List.take_of_length_le (by have := HLI.out; omega)
              have h5 := hx2 hx3
              rw [h4] at h5
              exact h5
            have HF := Lib.hid hfin
            by_cases hlt2 : j2 < li
            · have hlt2' : (j2 : Int) < li := by omega
              have hle2' : ¬ (x : Int) ≤ 3000 := fun h => hgo2 ⟨hlt2, by omega⟩
              clear hfin hgo2 hx1 hx2 hwl
              go_wp2_with fail
              go_ret
              exact ⟨⟨x, rfl, HF.out.1, HF.out.2⟩, HB2.out⟩
            · have hlt2' : ¬ (j2 : Int) < li := by omega
              clear hfin hgo2 hx1 hx2 hwl
              go_wp2_with fail
              go_ret
              exact ⟨⟨x, rfl, HF.out.1, HF.out.2⟩, HB2.out⟩
end Go.Proofs.YtcbajgcblfgmgaaDoor
