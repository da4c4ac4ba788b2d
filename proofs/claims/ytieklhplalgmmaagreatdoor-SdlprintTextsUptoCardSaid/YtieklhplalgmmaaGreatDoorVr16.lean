
/-
  Texts joined: RNodeE RWholeL Measure RWhole RRight RNodeAll NH YRight.
-/
import Derived.Test.YtieklhplalgmmaaGreatDoorVr15
import Derived.Test.YtieklhplalgmmaaGreatDoorVr2
import Derived.Test.YtieklhplalgmmaaGreatDoorVr1
import Derived.Test.YtieklhplalgmmaaGreatDoorVr8
import Derived.Test.YtieklhplalgmmaaGreatDoorVr3
namespace Go.Proofs.YtieklhplalgmmaaGreatDoor
open Go.RowKit
set_option maxRecDepth 100000 in
set_option maxHeartbeats 8000000 in
theorem rnode_4 (lit : Bool) (n : Int) (s : ByteArray) (items : List VT) (keys : List ByteArray) (w : World) (B : Nat) (v : Value) (h : Rd w B v (.mk 4 n s items keys)) (hB : B ≤ w.heap.size) :
    Calls Tryz.prog 97 #[v, .bool lit] w fun e w' => e = .returned (.bool (rnodeB lit (.mk 4 n s items keys))) ∧ Below w.heap.size w w' := by
  have HRD := Lib.hid h
  cases h with
  | @mk _ _ _ A li ci K lk ck _ _ V hk hn hs hks hli hlk hbi hbk hA hr hK =>
  have b1 : Below w.heap.size w (w.alloc (.cells #[.int .i64 4, .int .i64 n, .string s, .slice A li ci, .slice K lk ck] 45 (0, 0))) := (Below.refl _ _).alloc (Nat.le_refl _) _
  have B1 := Lib.hid b1
  have HTW : Hid (Calls Tryz.prog 121 #[.slice K lk ck] (w.alloc (.cells #[.int .i64 4, .int .i64 n, .string s, .slice A li ci, .slice K lk ck] 45 (0, 0))) fun e w' => e = .returned (.bool (!decide keys.Nodup)) ∧ Below _ _ w') := Lib.hid (rtwice_any K lk ck keys _ B hlk hbk.1 (hK.kept (b1.mono hB)) (by simp; omega))
  have HNAME : Hid (Calls Tryz.prog 23 #[.string s] (w.alloc (.cells #[.int .i64 4, .int .i64 n, .string s, .slice A li ci, .slice K lk ck] 45 (0, 0))) fun e w' => e = .returned (.bool (nmA s)) ∧ _ = w') := Lib.hid (rname_any s _ (by unfold maxLen; omega))
  have hlm : (li : Int) ≤ 140737488351232 := by omega
  have hlm' : (lk : Int) ≤ 140737488351232 := by omega
  have HL := Lib.hid hli
  have HLK := Lib.hid hlk
  clear hA hr hK hks hn hs hk hli hlk b1 hbi hbk
  by_cases n0 : n = 0
  · subst n0
    by_cases i0 : li = 0
    · have i1 : items.length = 0 := by have := HL.out; omega
      subst i0
      by_cases q0 : lk = 0
      · have q1 : keys.length = 0 := by have := HLK.out; omega
        subst q0
        cases hnm : nmA s
        · skip
          have HV : Hid (rnodeB lit (.mk 4 0 s items keys) = false) := Lib.hid (by simp [rnodeB, leafB, enumB, i1, q1, hnm])
          clear HRD HL HLK
          go_enter Tryz.func97, Tryz.ntmps97
          go_wp2_with fail
          refine HNAME.out.mono ?_
          rintro e w' ⟨rfl, rfl⟩
          rw [hnm]
          go_wp2_with fail
          go_ret
          exact ⟨by rw [HV.out]; rfl, B1.out⟩
        · skip
          by_cases x1 : s = ⟨#[116, 114, 117, 101]⟩
          · have y1 : (s.toList == [116, 114, 117, 101]) = true := by rw [list_eq]; simpa using x1
            have HV : Hid (rnodeB lit (.mk 4 0 s items keys) = false) := Lib.hid (by simp [rnodeB, leafB, enumB, i1, q1, x1])
            clear HRD HL HLK
            clear x1
            go_enter Tryz.func97, Tryz.ntmps97
            go_wp2_with fail
            refine HNAME.out.mono ?_
            rintro e w' ⟨rfl, rfl⟩
            rw [hnm]
            go_wp2_with fail
            go_ret
            exact ⟨by rw [HV.out]; rfl, B1.out⟩
          · have y1 : (s.toList == [116, 114, 117, 101]) = false := by rw [list_eq]; simpa using x1
            by_cases x2 : s = ⟨#[102, 97, 108, 115, 101]⟩
            · have y2 : (s.toList == [102, 97, 108, 115, 101]) = true := by rw [list_eq]; simpa using x2
              have HV : Hid (rnodeB lit (.mk 4 0 s items keys) = false) := Lib.hid (by simp [rnodeB, leafB, enumB, i1, q1, x2])
              clear HRD HL HLK
              clear x1 x2
              go_enter Tryz.func97, Tryz.ntmps97
              go_wp2_with fail
              refine HNAME.out.mono ?_
              rintro e w' ⟨rfl, rfl⟩
              rw [hnm]
              go_wp2_with fail
              go_ret
              exact ⟨by rw [HV.out]; rfl, B1.out⟩
            · have y2 : (s.toList == [102, 97, 108, 115, 101]) = false := by rw [list_eq]; simpa using x2
              by_cases x3 : s = ⟨#[110, 117, 108, 108]⟩
              · have y3 : (s.toList == [110, 117, 108, 108]) = true := by rw [list_eq]; simpa using x3
                have HV : Hid (rnodeB lit (.mk 4 0 s items keys) = false) := Lib.hid (by simp [rnodeB, leafB, enumB, i1, q1, x3])
                clear HRD HL HLK
                clear x1 x2 x3
                go_enter Tryz.func97, Tryz.ntmps97
                go_wp2_with fail
                refine HNAME.out.mono ?_
                rintro e w' ⟨rfl, rfl⟩
                rw [hnm]
                go_wp2_with fail
                go_ret
                exact ⟨by rw [HV.out]; rfl, B1.out⟩
              · have y3 : (s.toList == [110, 117, 108, 108]) = false := by rw [list_eq]; simpa using x3
                have HV : Hid (rnodeB lit (.mk 4 0 s items keys) = true) := Lib.hid (by simp [rnodeB, leafB, enumB, i1, q1, hnm, x1, x2, x3])
                clear HRD HL HLK
                clear x1 x2 x3
                go_enter Tryz.func97, Tryz.ntmps97
                go_wp2_with fail
                refine HNAME.out.mono ?_
                rintro e w' ⟨rfl, rfl⟩
                rw [hnm]
                go_wp2_with fail
                go_ret
                exact ⟨by rw [HV.out]; rfl, B1.out⟩
      · have q1 : ¬ keys.length = 0 := by have := HLK.out; omega
        have q2 : ((lk : Int) == 0) = false := beq_eq_false_iff_ne.2 (by omega)
        clear q0
        have HV : Hid (rnodeB lit (.mk 4 0 s items keys) = false) := Lib.hid (by simp [rnodeB, leafB, enumB, i1, q1])
        clear HRD HL HLK
        go_enter Tryz.func97, Tryz.ntmps97
        go_wp2_with fail
        go_ret
        exact ⟨by rw [HV.out]; rfl, B1.out⟩
    · have i1 : ¬ items.length = 0 := by have := HL.out; omega
      have i2 : ((li : Int) == 0) = false := beq_eq_false_iff_ne.2 (by omega)
      clear i0
      have HV : Hid (rnodeB lit (.mk 4 0 s items keys) = false) := Lib.hid (by simp [rnodeB, leafB, enumB, i1])
      clear HRD HL HLK
      go_enter Tryz.func97, Tryz.ntmps97
      go_wp2_with fail
      go_ret
      exact ⟨by rw [HV.out]; rfl, B1.out⟩
  · have n0' : (n == 0) = false := beq_eq_false_iff_ne.2 n0
    have HV : Hid (rnodeB lit (.mk 4 n s items keys) = false) := Lib.hid (by simp [rnodeB, leafB, enumB, n0])
    clear HRD HL HLK
    go_enter Tryz.func97, Tryz.ntmps97
    go_wp2_with fail
    go_ret
    exact ⟨by rw [HV.out]; rfl, B1.out⟩
end Go.Proofs.YtieklhplalgmmaaGreatDoor
namespace Go.Proofs.YtieklhplalgmmaaGreatDoor
open Go.RowKit
theorem all_false_at {α : Type} {l : List α} {p : α → Bool} {k : Nat} {x : α} (h : l[k]? = some x) (hp : p x = false) : l.all p = false := by
  rw [Bool.eq_false_iff]
  intro ha
  have := List.all_eq_true.1 ha x (List.mem_of_getElem? h)
  rw [hp] at this; cases this
theorem all_take_step {α : Type} {l : List α} {p : α → Bool} {k : Nat} {x : α} (h : l[k]? = some x) (ha : (l.take k).all p = true) (hp : p x = true) : (l.take (k + 1)).all p = true := by
  rw [List.take_add_one, h, List.all_append, ha]
  simp [hp]
theorem wholes_all (lit : Bool) : ∀ l : List VT, wholesB lit l = l.all (wholeB lit)
  | [] => rfl
  | t :: u => by rw [wholesB, wholes_all lit u, List.all_cons]
theorem rnode_eq (lit : Bool) (k n : Int) (s : ByteArray) (is : List VT) (ks : List ByteArray) :
    nodeB lit (.mk k n s is ks) = (rnodeB lit (.mk k n s is ks) && (!lit || ks.all nmA)) := by
  unfold nodeB rnodeB
  have e6 : ∀ a b c d e : Bool, (a && b && c && (d && e)) = (a && b && c && e && d) := by decide
  have e4 : ∀ a b c : Bool, (a && b && c) = (a && c && b) := by decide
  by_cases hk : ks = []
  · subst hk
    simp only [List.all_nil, Bool.or_true, Bool.and_true]
    repeat' split
    all_goals first
      | rfl
      | exact e4 _ _ _
      | (cases lit <;> simp [keysB])
      | skip
  · have hl : ks.length ≠ 0 := fun e => hk (List.eq_nil_of_length_eq_zero e)
    have hf : leafB is ks = false := by simp [leafB, hk]
    simp only [hf, Bool.and_false, hl, decide_false]
    repeat' split
    all_goals first
      | rfl
      | exact e6 _ _ _ _ _
      | skip
end Go.Proofs.YtieklhplalgmmaaGreatDoor
namespace Go.Proofs.YtieklhplalgmmaaGreatDoor
open Go.RowKit
set_option maxHeartbeats 400000 in
theorem rsize_any (t : VT) : ∀ (w : World) (B : Nat) (v : Value), Rd w B v t → B ≤ w.heap.size → t.size ≤ 2000000 →
    Calls Tryz.prog 78 #[v] w fun e w' => e = .returned (.int .i64 t.size) ∧ Below w.heap.size w w' := by
  induction t using VT.ind with
  | h k n s items keys ih =>
  intro w B v h hB hz
  cases h with
  | @mk _ _ _ A li ci K lk ck _ _ V hk hn hs hks hli hlk hbi hbk hA hr hK =>
  have HA := Lib.hid hA
  have HR := Lib.hid hr
  have IH := Lib.hid ih
  have HL := Lib.hid hli
  have hz1 : 1 + VT.sizes items ≤ 2000000 := hz
  clear hA hr ih hK hks hk hn hs hbk hli hlk hz
  go_enter Tryz.func78, Tryz.ntmps78
  go_wp2_with fail
  go_loopw [3, 4] (fun nn i wr => ∃ j : Nat, j ≤ li ∧ i = .int .i64 j ∧ nn = .int .i64 (1 + (VT.sizes (items.take j) : Int)) ∧ Below w.heap.size w wr ∧ w.heap.size < wr.heap.size ∧ wr.cell? ⟨w.heap.size, 3, none⟩ = some (.slice A li ci)) (fun _ i _ => li - (intOf i).toNat)
  case atStart => exact ⟨0, Nat.zero_le _, rfl, by simp [VT.sizes], (Below.refl _ _).alloc (Nat.le_refl _) _, by simp, by simp [World.cell?_alloc_at]⟩
  case round =>
    obtain ⟨j, hj, rfl, rfl, hb, hsz, hbox⟩ := hrel
    have hlm : (li : Int) ≤ 140737488351232 := by omega
    have HB := Lib.hid hb
    have hz2 := sizes_take_le items (j + 1)
    by_cases hlt : j < li
    · obtain ⟨a, t, k1, n1, s1, A1, li1, ci1, K1, lk1, ck1, rfl, ht, e, hrd, h0, h1, h2, h3, h4⟩ := round_at HA.out HR.out HL.out (hb.mono hB) hlt
      have HST := Lib.hid (sizes_take items j t ht)
      have hzt : VT.sizes (items.take j) + t.size ≤ 1999999 := by have := HST.out; omega
      have HT := Lib.hid ht
      have HRD := Lib.hid hrd
      have E := Lib.hid e
      clear e hrd ht hb
      go_wp2_with fail
      rw [← E.out]
      refine (IH.out j t HT.out _ B _ HRD.out (by omega) (by omega)).mono ?_
      rintro e w1 ⟨rfl, hb1⟩
      have hs1 := hb1.size
      have HB1 := Lib.hid ((HB.out.trans (hb1.mono (by omega))) : Below w.heap.size w w1)
      have hbox1 := (hb1.cell (p := ⟨w.heap.size, 3, none⟩) hsz).trans hbox
      clear hb1
      go_wp2_with fail
      go_roundw
      case rel => exact ⟨j + 1, by omega, by go_num, by rw [HST.out]; go_num, HB1.out, by omega, hbox1⟩
      case measure => simp [intOf]; omega
    · have hji : j = li := by omega
      have HJ : Hid (VT.sizes (items.take j) = VT.sizes items) := Lib.hid (by rw [hji, List.take_of_length_le (by have := HL.out; omega)])
      clear hji hb
      go_wp2_with fail
      go_ret
      exact ⟨by rw [HJ.out]; simp [VT.size], HB.out⟩
set_option maxHeartbeats 400000 in
theorem rdepth_any (t : VT) : ∀ (w : World) (B : Nat) (v : Value), Rd w B v t → B ≤ w.heap.size → t.depth ≤ 2000000 →
    Calls Tryz.prog 79 #[v] w fun e w' => e = .returned (.int .i64 t.depth) ∧ Below w.heap.size w w' := by
  induction t using VT.ind with
  | h k n s items keys ih =>
  intro w B v h hB hz
  cases h with
  | @mk _ _ _ A li ci K lk ck _ _ V hk hn hs hks hli hlk hbi hbk hA hr hK =>
  have HA := Lib.hid hA
  have HR := Lib.hid hr
  have IH := Lib.hid ih
  have HL := Lib.hid hli
  have hz1 : 1 + VT.depths items ≤ 2000000 := hz
  clear hA hr ih hK hks hk hn hs hbk hli hlk hz
  go_enter Tryz.func79, Tryz.ntmps79
  go_wp2_with fail
  go_loopw [3, 4] (fun nn i wr => ∃ j : Nat, j ≤ li ∧ i = .int .i64 j ∧ nn = .int .i64 (VT.depths (items.take j) : Int) ∧ Below w.heap.size w wr ∧ w.heap.size < wr.heap.size ∧ wr.cell? ⟨w.heap.size, 3, none⟩ = some (.slice A li ci)) (fun _ i _ => li - (intOf i).toNat)
  case atStart => exact ⟨0, Nat.zero_le _, rfl, by simp [VT.depths], (Below.refl _ _).alloc (Nat.le_refl _) _, by simp, by simp [World.cell?_alloc_at]⟩
  case round =>
    obtain ⟨j, hj, rfl, rfl, hb, hsz, hbox⟩ := hrel
    have hlm : (li : Int) ≤ 140737488351232 := by omega
    have HB := Lib.hid hb
    have hz2 := depths_take_le items (j + 1)
    by_cases hlt : j < li
    · obtain ⟨a, t, k1, n1, s1, A1, li1, ci1, K1, lk1, ck1, rfl, ht, e, hrd, h0, h1, h2, h3, h4⟩ := round_at HA.out HR.out HL.out (hb.mono hB) hlt
      have HST := Lib.hid (depths_take items j t ht)
      have hzt : max (VT.depths (items.take j)) t.depth ≤ 1999999 := by have := HST.out; omega
      have HT := Lib.hid ht
      have HRD := Lib.hid hrd
      have E := Lib.hid e
      clear e hrd ht hb
      go_wp2_with fail
      rw [← E.out]
      refine (IH.out j t HT.out _ B _ HRD.out (by omega) (by omega)).mono ?_
      rintro e w1 ⟨rfl, hb1⟩
      have hs1 := hb1.size
      have HB1 := Lib.hid ((HB.out.trans (hb1.mono (by omega))) : Below w.heap.size w w1)
      have hbox1 := (hb1.cell (p := ⟨w.heap.size, 3, none⟩) hsz).trans hbox
      clear hb1
      go_wp2_with fail
      go_roundw
      case rel => exact ⟨j + 1, by omega, by go_num, by rw [HST.out]; go_num, HB1.out, by omega, hbox1⟩
      case measure => simp [intOf]; omega
    · have hji : j = li := by omega
      have hz3 := depths_take_le items j
      have HJ : Hid (VT.depths (items.take j) = VT.depths items) := Lib.hid (by rw [hji, List.take_of_length_le (by have := HL.out; omega)])
      clear hji hb
      go_wp2_with fail
      go_ret
      exact ⟨by rw [HJ.out]; simp [VT.depth]; try (try simp only [Int.add_comm]), HB.out⟩
end Go.Proofs.YtieklhplalgmmaaGreatDoor
namespace Go.Proofs.YtieklhplalgmmaaGreatDoor
open Go.RowKit
def RNodeAt : Prop := ∀ (lit : Bool) (t : VT) (w : World) (B : Nat) (v : Value), Rd w B v t → B ≤ w.heap.size →
    Calls Tryz.prog 97 #[v, .bool lit] w fun e w' => e = .returned (.bool (rnodeB lit t)) ∧ Below w.heap.size w w'
set_option maxRecDepth 100000 in
set_option maxHeartbeats 2000000 in
theorem rwhole_any (hnode : RNodeAt) (lit : Bool) (t : VT) : ∀ (w : World) (B : Nat) (v : Value), Rd w B v t → B ≤ w.heap.size →
    Calls Tryz.prog 80 #[v, .bool lit] w fun e w' => e = .returned (.bool (wholeB lit t)) ∧ Below w.heap.size w w' := by
  induction t using VT.ind with
  | h k n s items keys ih =>
  intro w B v h hB
  have HRD := Lib.hid h
  cases h with
  | @mk _ _ _ A li ci K lk ck _ _ V hk hn hs hks hli hlk hbi hbk hA hr hK =>
  have HA := Lib.hid hA
  have HR := Lib.hid hr
  have IH := Lib.hid ih
  have HL := Lib.hid hli
  have HLK := Lib.hid hlk
  have HKS := Lib.hid hks
  have HK : Hid (0 < lk → ∃ a, K = some a ∧ ∀ W, Below w.heap.size w W → ∀ i s, keys[i]? = some s → W.cell? (a.add i) = some (.string s)) := Lib.hid (fun h0 => by
    obtain ⟨a, e, hab, hc⟩ := hK (by omega)
    exact ⟨a, e, fun W hb i s hi => (hb.cell (p := a.add i) (by rw [add_block]; omega)).trans (hc i s hi)⟩)
  have hlm : (li : Int) ≤ 140737488351232 := by omega
  have hlm' : (lk : Int) ≤ 140737488351232 := by omega
  have b1 : Below w.heap.size w (w.alloc (.cells #[.int .i64 k, .int .i64 n, .string s, .slice A li ci, .slice K lk ck] 45 (0, 0))) := (Below.refl _ _).alloc (Nat.le_refl _) _
  have HN := Lib.hid (hnode lit _ _ B _ (HRD.out.kept (b1.mono hB)) (by simp; omega))
  have HW : Hid (wholeB lit (.mk k n s items keys) = (rnodeB lit (.mk k n s items keys) && (!lit || keys.all nmA) && items.all (wholeB lit))) := Lib.hid (by rw [wholeB, wholes_all, rnode_eq])
  have X1 := Lib.hid (Box.new w (.int .i64 k) (.int .i64 n) (.string s) (.slice A li ci) (.slice K lk ck))
  have B1 := Lib.hid b1
  clear hA hr ih hK hks hk hn hs hbi hbk hli hlk b1
  go_enter Tryz.func80, Tryz.ntmps80
  go_wp2_with fail
  refine HN.out.mono ?_
  rintro e w1 ⟨rfl, hb1⟩
  have HB1 := Lib.hid (B1.out.trans (hb1.mono B1.out.size))
  have XB := Lib.hid (X1.out.kept hb1)
  have hz1 : w.heap.size < w1.heap.size := by have := hb1.size; simp at this; omega
  clear hb1 X1 B1 HN
  cases hnode2 : rnodeB lit (.mk k n s items keys)
  · rw [hnode2] at HW
    go_wp2_with fail
    go_ret
    exact ⟨by rw [HW.out]; rfl, HB1.out⟩
  · rw [hnode2] at HW
    go_wp2_with fail
    go_loopw [5] (fun i wr => ∃ j : Nat, j ≤ lk ∧ i = .int .i64 j ∧ (!lit || (keys.take j).all nmA) = true ∧ Below w.heap.size w wr ∧ w.heap.size < wr.heap.size ∧ Box wr w.heap.size (.int .i64 k) (.int .i64 n) (.string s) (.slice A li ci) (.slice K lk ck)) (fun i _ => lk - (intOf i).toNat)
    case atStart => exact ⟨0, Nat.zero_le _, rfl, by simp, HB1.out, hz1, XB.out⟩
    case round =>
      obtain ⟨j, hj, rfl, hall, hb, hz, hx⟩ := hrel
      have HALL := Lib.hid hall
      have HB := Lib.hid hb
      have HX := Lib.hid hx
      obtain ⟨p0, p1, p2, p3, p4⟩ := hx.cells
      clear hall hb hx
      by_cases hlt : j < lk
      · obtain ⟨a, rfl, hc⟩ := HK.out (by omega)
        have hjl : j < keys.length := by have := HLK.out; omega
        have hcell := hc _ HB.out j _ (List.getElem?_eq_getElem hjl)
        have hsz := HKS.out _ (List.getElem_mem hjl)
        have HAT : Hid (keys[j]? = some keys[j]) := Lib.hid (List.getElem?_eq_getElem hjl)
        generalize keys[j] = x at *
        have HNM := fun w => Lib.hid (rname_any x w (by unfold maxLen; omega))
        clear hc hsz
        cases lit
        · go_wp2_with fail
          go_roundw
          case rel => exact ⟨j + 1, by omega, by go_num, rfl, HB.out, hz, HX.out⟩
          case measure => simp [intOf]; omega
        · go_wp2_with fail
          refine (HNM _).out.mono ?_
          rintro e w' ⟨rfl, rfl⟩
          cases hnm : nameL x.data.toList
          · have HF : Hid (keys.all nmA = false) := Lib.hid (all_false_at HAT.out hnm)
            go_wp2_with fail
            go_ret
            exact ⟨by rw [HW.out, HF.out]; rfl, HB.out⟩
          · have HT : Hid ((keys.take (j + 1)).all nmA = true) := Lib.hid (all_take_step HAT.out (by simpa using HALL.out) hnm)
            go_wp2_with fail
            go_roundw
            case rel => exact ⟨j + 1, by omega, by go_num, by rw [HT.out]; rfl, HB.out, hz, HX.out⟩
            case measure => simp [intOf]; omega
      · have HA2 : Hid ((!lit || keys.all nmA) = true) := Lib.hid (by
          have := HALL.out
          rwa [List.take_of_length_le (by have := HLK.out; omega)] at this)
        clear HALL
        obtain rfl : lk = j := by omega
        go_wp2_with fail
        go_loopw [6] (fun i wr => ∃ j : Nat, j ≤ li ∧ i = .int .i64 j ∧ (items.take j).all (wholeB lit) = true ∧ Below w.heap.size w wr ∧ w.heap.size < wr.heap.size ∧ Box wr w.heap.size (.int .i64 k) (.int .i64 n) (.string s) (.slice A li ci) (.slice K lk ck)) (fun i _ => li - (intOf i).toNat)
        case atStart => exact ⟨0, Nat.zero_le _, rfl, by simp, HB.out, hz, HX.out⟩
        case round =>
          obtain ⟨m, hm, rfl, hall2, hb2, hz2, hx2⟩ := hrel
          have HALL2 := Lib.hid hall2
          have HB2 := Lib.hid hb2
          have HX2 := Lib.hid hx2
          obtain ⟨q0, q1, q2, q3, q4⟩ := hx2.cells
          clear hall2 hx2
          by_cases hlt2 : m < li
          · obtain ⟨a, t, k1, n1, s1, A1, li1, ci1, K1, lk1, ck1, rfl, ht, e, hrd, h0, h1, h2, h3, h4⟩ := round_at HA.out HR.out HL.out (hb2.mono hB) hlt2
            have HT := Lib.hid ht
            have HRD2 := Lib.hid hrd
            have E := Lib.hid e
            clear e hrd ht hb2
            go_wp2_with fail
            rw [← E.out]
            refine (IH.out m t HT.out _ B _ HRD2.out (by omega)).mono ?_
            rintro e w2 ⟨rfl, hb3⟩
            have hs3 := hb3.size
            have HB3 := Lib.hid ((HB2.out.trans (hb3.mono (by omega))) : Below w.heap.size w w2)
            have HX3 := Lib.hid (HX2.out.kept hb3)
            clear hb3
            cases hw : wholeB lit t
            · have HF : Hid (items.all (wholeB lit) = false) := Lib.hid (all_false_at HT.out hw)
              go_wp2_with fail
              go_ret
              exact ⟨by rw [HW.out, HF.out, Bool.and_false]; rfl, HB3.out⟩
            · have HT2 : Hid ((items.take (m + 1)).all (wholeB lit) = true) := Lib.hid (all_take_step HT.out HALL2.out hw)
              go_wp2_with fail
              go_roundw
              case rel => exact ⟨m + 1, by omega, by go_num, HT2.out, HB3.out, by omega, HX3.out⟩
              case measure => simp [intOf]; omega
          · have HT2 : Hid (items.all (wholeB lit) = true) := Lib.hid (by
              have := HALL2.out
              rwa [List.take_of_length_le (by have := HL.out; omega)] at this)
            clear hb2
            go_wp2_with fail
            go_ret
            exact ⟨by rw [HW.out, HT2.out, HA2.out]; rfl, HB2.out⟩
end Go.Proofs.YtieklhplalgmmaaGreatDoor
namespace Go.Proofs.YtieklhplalgmmaaGreatDoor
open Go.RowKit
set_option maxHeartbeats 2000000 in
theorem rliteral_any (hnode : RNodeAt) (t : VT) (w : World) (B : Nat) (v : Value) (h : Rd w B v t) (hB : B ≤ w.heap.size) (hz : t.size ≤ 2000000) :
    Calls Tryz.prog 54 #[v] w fun e w' => e = .returned (.bool (rightB true t)) ∧ Below w.heap.size w w' := by
  have hdz := Nat.le_trans (VT.depth_le t) hz
  have HS : Hid (∀ w2, Below w.heap.size w w2 → Calls Tryz.prog 78 #[v] w2 fun e w' => e = .returned (.int .i64 t.size) ∧ Below w2.heap.size w2 w') :=
    Lib.hid fun w2 hb => rsize_any t w2 B v (h.kept (hb.mono hB)) (Nat.le_trans hB hb.size) hz
  have HD : Hid (∀ w2, Below w.heap.size w w2 → Calls Tryz.prog 79 #[v] w2 fun e w' => e = .returned (.int .i64 t.depth) ∧ Below w2.heap.size w2 w') :=
    Lib.hid fun w2 hb => rdepth_any t w2 B v (h.kept (hb.mono hB)) (Nat.le_trans hB hb.size) hdz
  have HWH : Hid (∀ w2, Below w.heap.size w w2 → Calls Tryz.prog 80 #[v, .bool true] w2 fun e w' => e = .returned (.bool (wholeB true t)) ∧ Below w2.heap.size w2 w') :=
    Lib.hid fun w2 hb => rwhole_any hnode true t w2 B v (h.kept (hb.mono hB)) (Nat.le_trans hB hb.size)
  obtain ⟨k, n, s, A, li, ci, K, lk, ck, rfl⟩ := h.shape
  clear h
  have X0 := Lib.hid (Box.new w (.int .i64 k) (.int .i64 n) (.string s) (.slice A li ci) (.slice K lk ck))
  have B0 : Hid (Below w.heap.size w (w.alloc (.cells #[.int .i64 k, .int .i64 n, .string s, .slice A li ci, .slice K lk ck] 45 (0, 0)))) := Lib.hid ((Below.refl _ _).alloc (Nat.le_refl _) _)
  have HV : Hid (rightB true t = (decide (t.size ≤ 4096) && decide (t.depth ≤ 24) && wholeB true t)) := Lib.hid rfl
  generalize t.size = z at *
  generalize t.depth = d at *
  generalize wholeB true t = wb at *
  by_cases z1 : z ≤ 4096
  · have z2 : decide (z ≤ 4096) = true := by simpa using z1
    rw [z2] at HV
    have z3 : decide ((z : Int) ≤ 4096) = true := by simp; omega
    by_cases d1 : d ≤ 24
    · have d2 : decide (d ≤ 24) = true := by simpa using d1
      rw [d2] at HV
      have d3 : decide ((d : Int) ≤ 24) = true := by simp; omega
      clear z1 z2 d1 d2
      go_enter Tryz.func54, Tryz.ntmps54
      go_wp2_with fail
      refine (HS.out _ B0.out).mono ?_
      rintro e w1 ⟨rfl, b1⟩
      have B1 := Lib.hid (B0.out.trans (b1.mono B0.out.size))
      have X1 := Lib.hid (X0.out.kept b1)
      obtain ⟨p0, p1, p2, p3, p4⟩ := X1.out.cells
      clear b1
      go_wp2_with fail
      refine (HD.out _ B1.out).mono ?_
      rintro e w2 ⟨rfl, b2⟩
      have B2 := Lib.hid (B1.out.trans (b2.mono B1.out.size))
      have X2 := Lib.hid (X1.out.kept b2)
      clear p0 p1 p2 p3 p4
      obtain ⟨p0, p1, p2, p3, p4⟩ := X2.out.cells
      clear b2
      go_wp2_with fail
      refine (HWH.out _ B2.out).mono ?_
      rintro e w3 ⟨rfl, b3⟩
      have B3 := Lib.hid (B2.out.trans (b3.mono B2.out.size))
      clear b3
      go_wp2_with fail
      go_ret
      exact ⟨by rw [HV.out]; rfl, B3.out⟩
    · have d2 : decide (d ≤ 24) = false := by simpa using d1
      rw [d2] at HV
      have d3 : decide ((d : Int) ≤ 24) = false := by simp; omega
      clear z1 z2 d1 d2
      go_enter Tryz.func54, Tryz.ntmps54
      go_wp2_with fail
      refine (HS.out _ B0.out).mono ?_
      rintro e w1 ⟨rfl, b1⟩
      have B1 := Lib.hid (B0.out.trans (b1.mono B0.out.size))
      have X1 := Lib.hid (X0.out.kept b1)
      obtain ⟨p0, p1, p2, p3, p4⟩ := X1.out.cells
      clear b1
      go_wp2_with fail
      refine (HD.out _ B1.out).mono ?_
      rintro e w2 ⟨rfl, b2⟩
      have B2 := Lib.hid (B1.out.trans (b2.mono B1.out.size))
      clear b2
      go_wp2_with fail
      go_ret
      exact ⟨by rw [HV.out]; rfl, B2.out⟩
  · have z2 : decide (z ≤ 4096) = false := by simpa using z1
    rw [z2] at HV
    have z3 : decide ((z : Int) ≤ 4096) = false := by simp; omega
    clear z1 z2
    go_enter Tryz.func54, Tryz.ntmps54
    go_wp2_with fail
    refine (HS.out _ B0.out).mono ?_
    rintro e w1 ⟨rfl, b1⟩
    have B1 := Lib.hid (B0.out.trans (b1.mono B0.out.size))
    clear b1
    go_wp2_with fail
    go_ret
    exact ⟨by rw [HV.out]; rfl, B1.out⟩
end Go.Proofs.YtieklhplalgmmaaGreatDoor
namespace Go.Proofs.YtieklhplalgmmaaGreatDoor
open Go.RowKit
theorem rnode_any : RNodeAt := by
  intro lit t w B v h hB
  obtain ⟨k, n, s, items, keys⟩ := t
  by_cases k0 : k = 0
  · subst k0; exact rnode_0 lit n s items keys w B v h hB
  by_cases k1 : k = 1
  · subst k1; exact rnode_1 lit n s items keys w B v h hB
  by_cases k2 : k = 2
  · subst k2; exact rnode_2 lit n s items keys w B v h hB
  by_cases k3 : k = 3
  · subst k3; exact rnode_3 lit n s items keys w B v h hB
  by_cases k4 : k = 4
  · subst k4; exact rnode_4 lit n s items keys w B v h hB
  by_cases k5 : k = 5
  · subst k5; exact rnode_5 lit n s items keys w B v h hB
  by_cases k6 : k = 6
  · subst k6; exact rnode_6 lit n s items keys w B v h hB
  by_cases k7 : k = 7
  · subst k7; exact rnode_7 lit n s items keys w B v h hB
  exact rnode_else lit k n s items keys w B v h hB k0 k1 k2 k3 k4 k5 k6 k7
end Go.Proofs.YtieklhplalgmmaaGreatDoor
namespace Go.Proofs.YtieklhplalgmmaaGreatDoor
open Go.RowKit
theorem nm_pos {s : ByteArray} (h : nmA s = true) : 0 < s.size := by
  unfold nmA nameL at h
  simp only [Bool.and_eq_true, Bool.not_eq_true', List.isEmpty_eq_false_iff] at h
  have := h.1.1.1
  rw [← bL_len]
  exact List.length_pos_iff.2 this
theorem sbw_le (s : ByteArray) (k n : Int) (items : List VT) (keys : List ByteArray) : s.size ≤ (VT.mk k n s items keys).bw := by rw [bw_eq]; omega
theorem no {P : Prop} {a b : Int} (h : a ≠ b) : a = b → P := fun e => absurd e h
theorem fit_whole (t : VT) : wholeB true t = true → t.bw ≤ 1048576 → t.fit := by
  induction t using VT.ind with
  | h k n s is ks ih =>
  intro h hb
  rw [wholeB, wholes_all, Bool.and_eq_true] at h
  obtain ⟨h1, h2⟩ := h
  have hs := sbw_le s k n is ks
  have hi : VT.fits is := by
    refine fits_of fun t ht => ?_
    obtain ⟨i, hi⟩ := List.mem_iff_getElem?.1 ht
    have hbt := bws_at hi
    rw [bw_eq] at hb
    exact ih i t hi (List.all_eq_true.1 h2 t ht) (by omega)
  rw [VT.fit]
  rw [nodeB] at h1
  by_cases k0 : k = 0
  · subst k0; exact ⟨by decide, no (by decide), no (by decide), no (by decide), by omega, hi⟩
  rw [if_neg k0] at h1
  by_cases k1 : k = 1
  · subst k1
    rw [if_pos rfl] at h1
    simp only [Bool.and_eq_true, Bool.or_eq_true, decide_eq_true_eq] at h1
    exact ⟨by decide, fun _ => h1.1.1, no (by decide), no (by decide), by omega, hi⟩
  rw [if_neg k1] at h1
  by_cases k2 : k = 2
  · subst k2; exact ⟨by decide, no (by decide), no (by decide), no (by decide), by omega, hi⟩
  rw [if_neg k2] at h1
  by_cases k3 : k = 3
  · subst k3; exact ⟨by decide, no (by decide), no (by decide), no (by decide), by omega, hi⟩
  rw [if_neg k3] at h1
  by_cases k4 : k = 4
  · subst k4
    rw [if_pos rfl] at h1
    simp only [Bool.and_eq_true] at h1
    have := h1.1.2
    unfold enumB at this
    simp only [Bool.and_eq_true] at this
    exact ⟨by decide, no (by decide), no (by decide), fun _ => nm_pos this.2, by omega, hi⟩
  rw [if_neg k4] at h1
  by_cases k5 : k = 5
  · subst k5; exact ⟨by decide, no (by decide), no (by decide), no (by decide), by omega, hi⟩
  rw [if_neg k5] at h1
  by_cases k6 : k = 6
  · subst k6
    rw [if_pos rfl] at h1
    simp only [Bool.and_eq_true, decide_eq_true_eq] at h1
    exact ⟨by decide, no (by decide), fun _ => h1.1.2, no (by decide), by omega, hi⟩
  rw [if_neg k6] at h1
  by_cases k7 : k = 7
  · subst k7; exact ⟨by decide, no (by decide), no (by decide), no (by decide), by omega, hi⟩
  rw [if_neg k7] at h1
  cases h1
theorem jn_len (sep : List UInt8) : ∀ (xs : List (List UInt8)), (jn sep xs).length ≤ (xs.map (fun x => x.length + sep.length)).sum
  | [] => by simp [jn]
  | a :: r => by
    have h : ∀ l : List (List UInt8), (l.map (fun x => sep ++ x)).flatten.length = (l.map (fun x => x.length + sep.length)).sum := by
      intro l
      induction l with
      | nil => rfl
      | cons b q ih => simp [ih]; omega
    simp only [jn, List.length_append, List.map_cons, List.sum_cons, h]
    omega
theorem qL_len (s : ByteArray) : (T1.quoteL s.data.toList).length ≤ 6 * s.size + 2 := by
  have h := T1.flat_len s.data.toList
  rw [T1.size_eq] at h
  unfold T1.quoteL
  simp only [List.length_append, List.length_cons, List.length_nil, List.length_flatMap] at h ⊢
  omega
theorem src_len (t : VT) : ∀ (w : World) (B : Nat) (v : Value), Rd w B v t → t.src.length + 2 ≤ 30 * t.bw := by
  induction t using VT.ind with
  | h k n s items keys ih =>
  intro w B v h
  cases h with
  | @mk _ _ _ A li ci K lk ck _ _ V hk hn hs hks hli hlk hbi hbk hA hr hK =>
  have hl : ∀ l : List VT, (∀ t ∈ l, t.src.length + 2 ≤ 30 * t.bw) → ((l.map VT.src).map (fun x => x.length + 2)).sum ≤ 30 * VT.bws l := by
    intro l
    induction l with
    | nil => intro _; simp [VT.bws]
    | cons x r ihl =>
      intro hx
      have h1 := hx x (by simp)
      have h2 := ihl (fun t ht => hx t (by simp [ht]))
      simp only [List.map_cons, List.sum_cons, VT.bws]
      omega
  have hi : ∀ t ∈ items, t.src.length + 2 ≤ 30 * t.bw := fun t ht => by
    obtain ⟨i, hi⟩ := List.mem_iff_getElem?.1 ht
    exact ih i t hi w B _ (hr i t hi)
  have ho : ∀ (ks : List ByteArray) (l : List VT), (∀ t ∈ l, t.src.length + 2 ≤ 30 * t.bw) → ((objTxt ks l).map (fun x => x.length + 2)).sum ≤ 30 * (ksum ks + VT.bws l) := by
    intro ks
    induction ks with
    | nil => intro l _; simp [objTxt]
    | cons a r ihk =>
      intro l hx
      cases l with
      | nil => simp [objTxt]
      | cons x q =>
        have h1 := hx x (by simp)
        have h2 := ihk q (fun t ht => hx t (by simp [ht]))
        have h3 : ksum (a :: r) = 1 + a.size + ksum r := by simp [ksum]
        unfold objTxt at h2 ⊢
        simp only [List.map_cons, List.zipWith_cons_cons, List.sum_cons, VT.bws, List.length_append, List.length_cons, bL_len, h3] at h2 ⊢
        omega
  rw [src_eq, bw_eq]
  have hit := Lib.itoa_length_le n hn.1 hn.2
  have hq := qL_len s
  have h5 := jn_len [44, 32] (items.map VT.src)
  have h6 := jn_len [44, 32] (objTxt keys items)
  have h5' := hl items hi
  have h6' := ho keys items hi
  have e2 : ([44, 32] : List UInt8).length = 2 := rfl
  rw [e2] at h5 h6
  have hqq : (qL s).length ≤ 6 * s.size + 2 := hq
  have n1 : nullB.length = 4 := rfl
  have n2 : falseB.length = 5 := rfl
  have n3 : trueB.length = 4 := rfl
  repeat' split
  all_goals (try simp only [List.length_cons, List.length_append, List.length_nil, bL_len, n1, n2, n3])
  all_goals omega
end Go.Proofs.YtieklhplalgmmaaGreatDoor
namespace Go.Proofs.YtieklhplalgmmaaGreatDoor.K
open Go.RowKit
def okB (n : ByteArray) (xs : Ws) : Bool := T1.nameL n.data.toList && decide (xs.length ≤ 24) && rtF false xs
def pvB (xs : Ws) (k : Nat) : Bool := match k with | 0 => false | j + 1 => xs[j]? == some 1
theorem rt_cons (p : Bool) (x : Int) (r : Ws) : rtF p (x :: r) = ((x == 2 || (x == 1 && !p)) && rtF (x == 1) r) := rfl
theorem ok_len {n : ByteArray} {xs : Ws} (h : okB n xs = true) : T1.nameL n.data.toList = true ∧ xs.length ≤ 24 ∧ rtF false xs = true := by
  unfold okB at h; simp at h; exact ⟨h.1.1, h.1.2, h.2⟩
set_option maxRecDepth 100000 in
set_option maxHeartbeats 2000000 in
theorem rright_any (n : ByteArray) (xs : Ws) (v : Value) (w : World) (h : RefV w w.heap.size v n xs) (hn : n.size ≤ maxLen) : Calls Tryz.prog 56 #[v] w (BoolPost (okB n xs) w) := by
  obtain ⟨A, c, rfl, hc, hi⟩ := h
  have x3 := (Below.refl w.heap.size w).alloc (Nat.le_refl _) (.cells #[.string n, .slice A xs.length c] 38 (0, 0))
  have X0 := Lib.hid (BxR.new w (.string n) (.slice A xs.length c))
  have I0 := Lib.hid (hi.stay x3)
  have B0 := Lib.hid x3
  clear hc hi x3
  have CALL := Lib.hid (T1.rname_any n (w.alloc (.cells #[.string n, .slice A xs.length c] 38 (0, 0))) hn)
  by_cases hnm : T1.nameL n.data.toList = true
  · by_cases hle : xs.length ≤ 24
    · have HV : Hid (okB n xs = rtF false xs) := Lib.hid (by unfold okB; rw [hnm, decide_eq_true hle]; rfl)
      have HNM := Lib.hid hnm
      have HLE : Hid ((xs.length : Int) ≤ 24) := Lib.hid (by omega)
      have hgt : ¬ ((xs.length : Int) > 24) := by omega
      clear hnm hle
      go_enter Tryz.func56, Tryz.ntmps56
      go_wp2_with fail
      generalize (w.alloc (.cells #[.string n, .slice A xs.length c] 38 (0, 0))) = W0 at *
      have hcall := CALL.out
      rw [HNM.out] at hcall
      refine hcall.mono ?_
      rintro e w1 ⟨rfl, rfl⟩
      clear hcall CALL
      have q1 := X0.out.cells.2
      go_wp2_with fail
      go_loopw [3] (fun i wr => ∃ k : Nat, i = .int .i64 k ∧ k ≤ xs.length ∧ rtF (pvB xs k) (xs.drop k) = rtF false xs ∧ Below W0.heap.size W0 wr) (fun i _ => xs.length - (intOf i).toNat)
      case atStart => exact ⟨0, rfl, Nat.zero_le _, rfl, Below.refl _ _⟩
      case round =>
        obtain ⟨k, rfl, hk, hr, hb⟩ := hrel
        have HB := Lib.hid hb
        have hlm := HLE.out
        have q2 := (X0.out.stay hb).cells.2
        by_cases hlt : k < xs.length
        · obtain ⟨a, x, rfl, ha, hp, h0⟩ := ints_round I0.out hb hlt
          have hlt' : (k : Int) < xs.length := by omega
          rw [drop_one hp, rt_cons] at hr
          have hnx : rtF (x == 1) (xs.drop (k + 1)) = rtF (pvB xs (k + 1)) (xs.drop (k + 1)) := by
            show _ = rtF (xs[k]? == some 1) _; rw [hp]; rfl
          rw [hnx] at hr
          clear ha hp hnx
          by_cases h2 : x = 2
          · subst h2
            have HR := Lib.hid hr
            clear hr hb
            by_cases hkp : (k : Int) > 0
            · go_wp2_with fail
              go_roundw
              case rel => exact ⟨k + 1, by go_num, by omega, HR.out, HB.out⟩
              case measure => simp [intOf]; omega
            · go_wp2_with fail
              go_roundw
              case rel => exact ⟨k + 1, by go_num, by omega, HR.out, HB.out⟩
              case measure => simp [intOf]; omega
          · have hb2 : (x != 2) = true := by simp [h2]
            by_cases h1 : x = 1
            · subst h1
              by_cases hk0 : k = 0
              · have HR : Hid (rtF (pvB xs (k + 1)) (xs.drop (k + 1)) = rtF false xs) := Lib.hid (by rw [← hr]; subst hk0; rfl)
                have hkp : ¬ ((k : Int) > 0) := by omega
                clear hr hb hk0
                go_wp2_with fail
                go_roundw
                case rel => exact ⟨k + 1, by go_num, by omega, HR.out, HB.out⟩
                case measure => simp [intOf]; omega
              · obtain ⟨a', y, ea, _, hpy, h9⟩ := ints_round I0.out hb (k := k - 1) (by omega)
                obtain rfl : a = a' := Option.some.inj ea
                have hkp : ((k : Int) > 0) := by omega
                have hpv : pvB xs k = (y == 1) := by
                  obtain ⟨j, rfl⟩ : ∃ j, k = j + 1 := ⟨k - 1, by omega⟩
                  show (xs[j]? == some 1) = _
                  have e : xs[j]? = some y := hpy
                  rw [e]; rfl
                rw [hpv] at hr
                have hc9 : wr.cell? (a.add ((k : Int) - 1).toNat) = some (.int .i64 y) := by rw [show ((k : Int) - 1).toNat = k - 1 by omega]; exact h9
                have hi9 : (k : Int) - 1 < xs.length := by omega
                have hi8 : 0 ≤ (k : Int) - 1 := by omega
                by_cases hy : y = 1
                · subst hy
                  have HF : Hid (rtF false xs = false) := Lib.hid hr.symm
                  clear hr hb hpy ea hc9 hpv
                  go_wp2_with fail
                  go_ret
                  exact ⟨by rw [HV.out, HF.out]; rfl, B0.out.trans (HB.out.mono B0.out.size)⟩
                · have hyb : (y == 1) = false := by simp [hy]
                  rw [hyb] at hr
                  have HR := Lib.hid hr
                  clear hr hb hpy ea hy hc9 hpv
                  go_wp2_with fail
                  go_roundw
                  case rel => exact ⟨k + 1, by go_num, by omega, HR.out, HB.out⟩
                  case measure => simp [intOf]; omega
            · have hb1 : (x != 1) = true := by simp [h1]
              have e2 : (x == 2) = false := by simp [h2]
              have e1 : (x == 1) = false := by simp [h1]
              rw [e1, e2] at hr
              have HF : Hid (rtF false xs = false) := Lib.hid hr.symm
              clear hr e1 e2 hb
              go_wp2_with fail
              go_ret
              exact ⟨by rw [HV.out, HF.out]; rfl, B0.out.trans (HB.out.mono B0.out.size)⟩
        · have hlt' : ¬ (k : Int) < xs.length := by omega
          have HF : Hid (rtF false xs = true) := Lib.hid (by rw [← hr, List.drop_eq_nil_of_le (by omega)]; rfl)
          clear hr hb
          go_wp2_with fail
          go_ret
          exact ⟨by rw [HV.out, HF.out]; rfl, B0.out.trans (HB.out.mono B0.out.size)⟩
    · have HV : Hid (okB n xs = false) := Lib.hid (by unfold okB; rw [hnm, decide_eq_false hle]; rfl)
      have HNM := Lib.hid hnm
      have hgt : ((xs.length : Int) > 24) := by omega
      clear hnm hle
      go_enter Tryz.func56, Tryz.ntmps56
      go_wp2_with fail
      generalize (w.alloc (.cells #[.string n, .slice A xs.length c] 38 (0, 0))) = W0 at *
      have hcall := CALL.out
      rw [HNM.out] at hcall
      refine hcall.mono ?_
      rintro e w1 ⟨rfl, rfl⟩
      clear hcall CALL
      have q1 := X0.out.cells.2
      go_wp2_with fail
      all_goals exact bodyPost_ret (v := .bool false) (by simp [results, Tryz.results56, go_sem]) rfl ⟨by rw [HV.out], B0.out⟩
  · have HV : Hid (okB n xs = false) := Lib.hid (by unfold okB; simp [hnm])
    have hnm' : T1.nameL n.data.toList = false := by simpa using hnm
    have HNM := Lib.hid hnm'
    clear hnm hnm'
    go_enter Tryz.func56, Tryz.ntmps56
    go_wp2_with fail
    generalize (w.alloc (.cells #[.string n, .slice A xs.length c] 38 (0, 0))) = W0 at *
    have hcall := CALL.out
    rw [HNM.out] at hcall
    refine hcall.mono ?_
    rintro e w1 ⟨rfl, rfl⟩
    clear hcall CALL
    have q1 := X0.out.cells.2
    go_wp2_with fail
    all_goals exact bodyPost_ret (v := .bool false) (by simp [results, Tryz.results56, go_sem]) rfl ⟨by rw [HV.out], B0.out⟩
end Go.Proofs.YtieklhplalgmmaaGreatDoor.K
