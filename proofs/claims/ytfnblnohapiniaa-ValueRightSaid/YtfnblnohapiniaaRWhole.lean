/-
  Contract of the reference's whole.
-/
import Derived.Test.YtfnblnohapiniaaRWholeL
import Derived.Test.YtfnblnohapiniaaMeasure
namespace Go.Proofs.Ytfnblnohapiniaa
open Go.RowKit
def RNodeAt : Prop := ∀ (lit : Bool) (t : VT) (w : World) (B : Nat) (v : Value), Rd w B v t → B ≤ w.heap.size →
    Calls Try.prog 61 #[v, .bool lit] w fun e w' => e = .returned (.bool (rnodeB lit t)) ∧ Below w.heap.size w w'
set_option maxRecDepth 100000 in
set_option maxHeartbeats 2000000 in
theorem rwhole_any (hnode : RNodeAt) (lit : Bool) (t : VT) : ∀ (w : World) (B : Nat) (v : Value), Rd w B v t → B ≤ w.heap.size →
    Calls Try.prog 42 #[v, .bool lit] w fun e w' => e = .returned (.bool (wholeB lit t)) ∧ Below w.heap.size w w' := by
  induction t using VT.ind with
  | h k n s items keys ih =>
  intro w B v h hB
  have HRD := Lib.hid h
  cases h with
  | @mk _ _ _ A li ci K lk ck _ _ V hk hn hs hks hli hlk hbi hbk hA hr hK =>
  have HA := Lib.hid hA
  have HR := Lib.hid hr
  have IH := Lib.hid ih
  have HL := Lib.hid hli
  have HLK := Lib.hid hlk
  have HKS := Lib.hid hks
  have HK : Hid (0 < lk → ∃ a, K = some a ∧ ∀ W, Below w.heap.size w W → ∀ i s, keys[i]? = some s → W.cell? (a.add i) = some (.string s)) := Lib.hid (fun h0 => by
    obtain ⟨a, e, hab, hc⟩ := hK (by omega)
    exact ⟨a, e, fun W hb i s hi => (hb.cell (p := a.add i) (by rw [add_block]; omega)).trans (hc i s hi)⟩)
  have hlm : (li : Int) ≤ 140737488351232 := by omega
  have hlm' : (lk : Int) ≤ 140737488351232 := by omega
  have b1 : Below w.heap.size w (w.alloc (.cells #[.int .i64 k, .int .i64 n, .string s, .slice A li ci, .slice K lk ck] 25 (0, 0))) := (Below.refl _ _).alloc (Nat.le_refl _) _
  have HN := Lib.hid (hnode lit _ _ B _ (HRD.out.kept (b1.mono hB)) (by simp; omega))
  have HW : Hid (wholeB lit (.mk k n s items keys) = (rnodeB lit (.mk k n s items keys) && (!lit || keys.all nmA) && items.all (wholeB lit))) := Lib.hid (by rw [wholeB, wholes_all, rnode_eq])
  have X1 := Lib.hid (Box.new w (.int .i64 k) (.int .i64 n) (.string s) (.slice A li ci) (.slice K lk ck))
  have B1 := Lib.hid b1
  clear hA hr ih hK hks hk hn hs hbi hbk hli hlk b1
  go_enter Try.func42, Try.ntmps42
  go_wp2_with fail
  refine HN.out.mono ?_
  rintro e w1 ⟨rfl, hb1⟩
  have HB1 := Lib.hid (B1.out.trans (hb1.mono B1.out.size))
  have XB := Lib.hid (X1.out.kept hb1)
  have hz1 : w.heap.size < w1.heap.size := by have := hb1.size; simp at this; omega
  clear hb1 X1 B1 HN
  cases hnode2 : rnodeB lit (.mk k n s items keys)
  · rw [hnode2] at HW
    go_wp2_with fail
    go_ret
    exact ⟨by rw [HW.out]; rfl, HB1.out⟩
  · rw [hnode2] at HW
    go_wp2_with fail
    go_loopw [5] (fun i wr => ∃ j : Nat, j ≤ lk ∧ i = .int .i64 j ∧ (!lit || (keys.take j).all nmA) = true ∧ Below w.heap.size w wr ∧ w.heap.size < wr.heap.size ∧ Box wr w.heap.size (.int .i64 k) (.int .i64 n) (.string s) (.slice A li ci) (.slice K lk ck)) (fun i _ => lk - (intOf i).toNat)
    case atStart => exact ⟨0, Nat.zero_le _, rfl, by simp, HB1.out, hz1, XB.out⟩
    case round =>
      obtain ⟨j, hj, rfl, hall, hb, hz, hx⟩ := hrel
      have HALL := Lib.hid hall
      have HB := Lib.hid hb
      have HX := Lib.hid hx
      obtain ⟨p0, p1, p2, p3, p4⟩ := hx.cells
      clear hall hb hx
      by_cases hlt : j < lk
      · obtain ⟨a, rfl, hc⟩ := HK.out (by omega)
        have hjl : j < keys.length := by have := HLK.out; omega
        have hcell := hc _ HB.out j _ (List.getElem?_eq_getElem hjl)
        have hsz := HKS.out _ (List.getElem_mem hjl)
        have HAT : Hid (keys[j]? = some keys[j]) := Lib.hid (List.getElem?_eq_getElem hjl)
        generalize keys[j] = x at *
        have HNM := fun w => Lib.hid (rname_any x w (by unfold maxLen; omega))
        clear hc hsz
        cases lit
        · go_wp2_with fail
          go_roundw
          case rel => exact ⟨j + 1, by omega, by go_num, rfl, HB.out, hz, HX.out⟩
          case measure => simp [intOf]; omega
        · go_wp2_with fail
          refine (HNM _).out.mono ?_
          rintro e w' ⟨rfl, rfl⟩
          cases hnm : nameL x.data.toList
          · have HF : Hid (keys.all nmA = false) := Lib.hid (all_false_at HAT.out hnm)
            go_wp2_with fail
            go_ret
            exact ⟨by rw [HW.out, HF.out]; rfl, HB.out⟩
          · have HT : Hid ((keys.take (j + 1)).all nmA = true) := Lib.hid (all_take_step HAT.out (by simpa using HALL.out) hnm)
            go_wp2_with fail
            go_roundw
            case rel => exact ⟨j + 1, by omega, by go_num, by rw [HT.out]; rfl, HB.out, hz, HX.out⟩
            case measure => simp [intOf]; omega
      · have HA2 : Hid ((!lit || keys.all nmA) = true) := Lib.hid (by
          have := HALL.out
          rwa [List.take_of_length_le (by have := HLK.out; omega)] at this)
        clear HALL
        obtain rfl : lk = j := by omega
        go_wp2_with fail
        go_loopw [6] (fun i wr => ∃ j : Nat, j ≤ li ∧ i = .int .i64 j ∧ (items.take j).all (wholeB lit) = true ∧ Below w.heap.size w wr ∧ w.heap.size < wr.heap.size ∧ Box wr w.heap.size (.int .i64 k) (.int .i64 n) (.string s) (.slice A li ci) (.slice K lk ck)) (fun i _ => li - (intOf i).toNat)
        case atStart => exact ⟨0, Nat.zero_le _, rfl, by simp, HB.out, hz, HX.out⟩
        case round =>
          obtain ⟨m, hm, rfl, hall2, hb2, hz2, hx2⟩ := hrel
          have HALL2 := Lib.hid hall2
          have HB2 := Lib.hid hb2
          have HX2 := Lib.hid hx2
          obtain ⟨q0, q1, q2, q3, q4⟩ := hx2.cells
          clear hall2 hx2
          by_cases hlt2 : m < li
          · obtain ⟨a, t, k1, n1, s1, A1, li1, ci1, K1, lk1, ck1, rfl, ht, e, hrd, h0, h1, h2, h3, h4⟩ := round_at HA.out HR.out HL.out (hb2.mono hB) hlt2
            have HT := Lib.hid ht
            have HRD2 := Lib.hid hrd
            have E := Lib.hid e
            clear e hrd ht hb2
            go_wp2_with fail
            rw [← E.out]
            refine (IH.out m t HT.out _ B _ HRD2.out (by omega)).mono ?_
            rintro e w2 ⟨rfl, hb3⟩
            have hs3 := hb3.size
            have HB3 := Lib.hid ((HB2.out.trans (hb3.mono (by omega))) : Below w.heap.size w w2)
            have HX3 := Lib.hid (HX2.out.kept hb3)
            clear hb3
            cases hw : wholeB lit t
            · have HF : Hid (items.all (wholeB lit) = false) := Lib.hid (all_false_at HT.out hw)
              go_wp2_with fail
              go_ret
              exact ⟨by rw [HW.out, HF.out, Bool.and_false]; rfl, HB3.out⟩
            · have HT2 : Hid ((items.take (m + 1)).all (wholeB lit) = true) := Lib.hid (all_take_step HT.out HALL2.out hw)
              go_wp2_with fail
              go_roundw
              case rel => exact ⟨m + 1, by omega, by go_num, HT2.out, HB3.out, by omega, HX3.out⟩
              case measure => simp [intOf]; omega
          · have HT2 : Hid (items.all (wholeB lit) = true) := Lib.hid (by
              have := HALL2.out
              rwa [List.take_of_length_le (by have := HL.out; omega)] at this)
            clear hb2
            go_wp2_with fail
            go_ret
            exact ⟨by rw [HW.out, HT2.out, HA2.out]; rfl, HB2.out⟩
end Go.Proofs.Ytfnblnohapiniaa
