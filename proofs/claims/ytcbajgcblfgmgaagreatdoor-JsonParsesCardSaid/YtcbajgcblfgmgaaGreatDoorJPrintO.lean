
/-
  Print: objects.
-/
import Derived.Test.YtcbajgcblfgmgaaGreatDoorJPrint
namespace Go.Proofs.YtcbajgcblfgmgaaGreatDoor
open Go.RowKit
def ksum (keys : List ByteArray) : Nat := (keys.map (fun k => 1 + k.size)).sum
theorem ksum_take {keys : List ByteArray} {j : Nat} {x : ByteArray} (h : keys[j]? = some x) : ksum (keys.take (j + 1)) = ksum (keys.take j) + (1 + x.size) := by
  obtain ⟨hj, e⟩ := List.getElem?_eq_some_iff.1 h
  unfold ksum
  rw [List.take_succ_eq_append_getElem hj, e, List.map_append, List.sum_append]; simp
theorem ksum_le (keys : List ByteArray) (j : Nat) : ksum (keys.take j) ≤ ksum keys := by
  have h : ksum keys = ksum (keys.take j) + ksum (keys.drop j) := by
    unfold ksum
    rw [← List.sum_append, ← List.map_append, List.take_append_drop]
  omega
theorem txtO_step {items : List VT} {keys : List ByteArray} {j : Nat} {t : VT} {x : ByteArray} {first : Bool} (h : items[j]? = some t) (hk : keys[j]? = some x) : VT.txtO (items.drop j) (keys.drop j) first = match VT.txt t with
    | none => none
    | some a => (VT.txtO (items.drop (j + 1)) (keys.drop (j + 1)) false).map (fun b => ((if first then [] else [44]) ++ qL x ++ [58] ++ a) ++ b) := by
  obtain ⟨hj, e⟩ := List.getElem?_eq_some_iff.1 h
  have e1 : (keys.drop j).getD 0 ByteArray.empty = x := by rw [List.getD_eq_getElem?_getD, List.getElem?_drop, Nat.add_zero, hk]; rfl
  rw [List.drop_eq_getElem_cons hj, e, VT.txtO, e1, List.drop_drop]
  rfl
set_option maxRecDepth 100000 in
set_option maxHeartbeats 8000000 in
theorem printObject_any (items : List VT) (keys : List ByteArray) (ih : ∀ (i : Nat) (t : VT), items[i]? = some t → PrAt t) (A : Option Addr) (li ci : Nat) (K : Option Addr) (lk ck : Nat) (V : Nat → Value) (B b : Nat) (l : List UInt8) (w : World)
    (hli : items.length = li) (hbi : li * 80 ≤ 140737488351232) (hlk : keys.length = lk) (hbk : lk * 16 ≤ 140737488351232) (hK : KeysAt w B K keys) (hA : 0 < li → ∃ a, A = some a ∧ a.block < B ∧ ∀ i, i < li → C5 w (a.add (i * 5)) (V i)) (hr : ∀ (i : Nat) (t : VT), items[i]? = some t → Rd w B (V i) t) (hB : B ≤ w.heap.size)
    (hd : BD B b l w) (hL : LaidB B w) (hl : l.length + 30 * (1 + ksum keys + VT.bws items) ≤ 1099511627776) :
    Calls Tryz.prog 36 #[pp b, .slice K lk ck, .slice A li ci] w (PrPost B b l (if keys.length = items.length then (VT.txtO items keys true).map (fun l => 123 :: l ++ [125]) else none) (30 * (1 + ksum keys + VT.bws items)) w) := by
  have HA := Lib.hid hA
  have HR := Lib.hid hr
  have HLI := Lib.hid hli
  have HLK := Lib.hid hlk
  have HK := Lib.hid hK
  have IH := Lib.hid ih
  have HD := Lib.hid hd
  have HL := Lib.hid hL
  have hlm : (li : Int) ≤ 140737488351232 := by omega
  have hlm' : (lk : Int) ≤ 140737488351232 := by omega
  clear hA hr hli ih hd hL hbi hlk hbk hK
  generalize hRR : (if keys.length = items.length then (VT.txtO items keys true).map (fun l => 123 :: l ++ [125]) else none) = RR
  have HRR := Lib.hid hRR
  clear hRR
  by_cases hll : lk = li
  · have hll' : ((lk : Int) != (li : Int)) = false := by rw [hll]; simp
    have HLEN : Hid (RR = (VT.txtO items keys true).map (fun l => 123 :: l ++ [125])) := Lib.hid (HRR.out.symm.trans (if_pos (by rw [HLI.out, HLK.out, hll])))
    have HLL := Lib.hid hll
    clear hll
    go_enter Tryz.func36, Tryz.ntmps36
    go_wp2_with fail
    refine (writeByte_any B b l 123 w HD.out (by omega) hB).mono ?_
    rintro e w1 ⟨rfl, hd1, hb1, _⟩
    have HD1 := Lib.hid hd1
    have HB1 := Lib.hid hb1
    clear hd1 hb1 hll'
    go_wp2_with fail
    go_loopw [18] (fun v wr => ∃ (j : Nat) (acc : List UInt8), j ≤ li ∧ v = .int .i64 j ∧ BD B b (l ++ [123] ++ acc) wr ∧ VT.txtO items keys true = (VT.txtO (items.drop j) (keys.drop j) (j == 0)).map (fun r => acc ++ r) ∧ acc.length ≤ 30 * ksum (keys.take j) + 30 * VT.bws (items.take j) ∧ Below B w wr) (fun v _ => li - (intOf v).toNat)
    case atStart => exact ⟨0, [], Nat.zero_le _, rfl, by rw [List.append_nil]; exact HD1.out, by simp, by simp, HB1.out⟩
    case round =>
      obtain ⟨j, acc, hj, rfl, hd, he, hal, hb⟩ := hrel
      have HDJ := Lib.hid hd
      have HE := Lib.hid he
      have HB := Lib.hid hb
      clear hd he hb HD1 HB1
      by_cases hlt : j < li
      · have hjk : j < lk := by have := HLL.out; omega
        have hjk' : (j : Int) < lk := by omega
        obtain ⟨ka, hka, hkab, hkc0⟩ := HK.out (by have := HLK.out; omega)
        obtain ⟨x, hx⟩ : ∃ x, keys[j]? = some x := ⟨_, List.getElem?_eq_getElem (by have := HLK.out; omega)⟩
        have HKC := Lib.hid (hkc0 j x hx)
        obtain ⟨a, t, k1, n1, s1, A1, li1, ci1, K1, lk1, ck1, rfl, ht, e, hrd, h0, h1, h2, h3, h4⟩ := round_at HA.out HR.out HLI.out HB.out hlt
        have HT := Lib.hid ht
        have E := Lib.hid e
        have HRD := Lib.hid hrd
        have HST := Lib.hid (txtO_step (first := j == 0) ht hx)
        have hwt := bws_take ht
        have hwl := bws_le items (j + 1)
        have hkt := ksum_take hx
        have hkl := ksum_le keys (j + 1)
        subst hka
        clear ht e hrd hkc0 hx
        have bz : Below wr.heap.size wr (wr.alloc (.cells #[.int .i64 k1, .int .i64 n1, .string s1, .slice A1 li1 ci1, .slice K1 lk1 ck1] 26 (0, 0))) := (Below.refl _ _).alloc (Nat.le_refl _) _
        have hszr := HB.out.size
        have HD2 := Lib.hid (HDJ.out.kept bz)
        have HB2 := Lib.hid (HB.out.trans (bz.mono (by omega)))
        have Y2 := Lib.hid (Box.new wr (.int .i64 k1) (.int .i64 n1) (.string s1) (.slice A1 li1 ci1) (.slice K1 lk1 ck1))
        have HRD2 := Lib.hid (HRD.out.kept (bz.mono (by omega)))
        clear bz
        by_cases hj0 : j = 0
        · have hj0' : ¬ (j : Int) > 0 := by omega
          have HJ0 := Lib.hid hj0
          clear hj0
          have hszq := HB2.out.size
          obtain ⟨y0, y1, y2, y3, y4⟩ := Y2.out.cells
          have hkc : Hid (((wr.alloc (.cells #[.int .i64 k1, .int .i64 n1, .string s1, .slice A1 li1 ci1, .slice K1 lk1 ck1] 26 (0, 0)))).cell? (ka.add j) = some (.string x)) := Lib.hid (by rw [HB2.out.cell (by rw [add_block]; exact hkab)]; exact HKC.out)
          have hkc' := hkc.out
          go_wp2_with fail
          refine (T1.quote_any x ((wr.alloc (.cells #[.int .i64 k1, .int .i64 n1, .string s1, .slice A1 li1 ci1, .slice K1 lk1 ck1] 26 (0, 0)))) (by omega)).mono ?_
          rintro e w6 ⟨rfl, hb6⟩
          have HD6 := Lib.hid (HD2.out.kept hb6)
          have HB6 := Lib.hid (HB2.out.trans (hb6.mono (by omega)))
          have HRD6 := Lib.hid (HRD2.out.kept (hb6.mono (by omega)))
          have Y6 := Lib.hid (Box.kept Y2.out hb6)
          obtain ⟨qq, hqq⟩ : ∃ qq : ByteArray, qq = ⟨(T1.quoteL x.data.toList).toArray⟩ := ⟨_, rfl⟩
          have hq1 : qq.data.toList = qL x := by rw [hqq]; simp [qL]
          have hq2 : qq.size = (qL x).length := by rw [← hq1, T1.size_eq]
          have hq3 := qL_len x
          have HQ1 := Lib.hid hq1
          rw [← hqq]
          clear hb6 y0 y1 y2 y3 y4 hkc' hq1 hqq hkc
          go_wp2_with fail
          refine (writeString_any B b _ qq w6 HD6.out (by simp; omega) (by have := HB6.out.size; omega)).mono ?_
          rintro e w7 ⟨rfl, hd7, hb7, ho7⟩
          rw [HQ1.out] at hd7
          have HD7 := Lib.hid hd7
          have HB7 := Lib.hid (HB6.out.trans hb7)
          have HRD7 := Lib.hid (HRD6.out.kept hb7)
          have Y7 := Lib.hid (Box.others Y6.out ho7 (by have := HDJ.out.lt; omega))
          clear hd7 hb7 ho7
          go_wp2_with fail
          refine (writeByte_any B b _ 58 w7 HD7.out (by simp; omega) (by have := HB7.out.size; omega)).mono ?_
          rintro e w8 ⟨rfl, hd8, hb8, ho8⟩
          have HD8 := Lib.hid hd8
          have HB8 := Lib.hid (HB7.out.trans hb8)
          have HRD8 := Lib.hid (HRD7.out.kept hb8)
          have Y8 := Lib.hid (Box.others Y7.out ho8 (by have := HDJ.out.lt; omega))
          clear hd8 hb8 ho8
          have CALL := Lib.hid (IH.out j t HT.out B b _ w8 (.agg #[.int .i64 k1, .int .i64 n1, .string s1, .slice A1 li1 ci1, .slice K1 lk1 ck1]) (by rw [← E.out]; exact HRD8.out) HD8.out (HL.out.kept HB8.out) (by simp; omega) (by have := HB8.out.size; omega))
          obtain ⟨x0, x1, x2, x3, x4⟩ := Y8.out.cells
          go_wp2_with fail
          refine CALL.out.mono ?_
          rintro e w5 ⟨rfl, hb5, hp5⟩
          have HB5 := Lib.hid (HB8.out.trans hb5)
          have HP5 := Lib.hid hp5
          clear hb5 hp5 x0 x1 x2 x3 x4 h0 h1 h2 h3 h4 CALL
          cases hx : VT.txt t with
          | none =>
            have HE2 : Hid (VT.txtO items keys true = none) := Lib.hid (by rw [HE.out, HST.out, hx]; rfl)
            go_wp2_with fail
            go_ret
            exact ⟨by rw [HLEN.out, HE2.out]; rfl, HB5.out, fun y hy => by rw [HLEN.out, HE2.out] at hy; cases hy⟩
          | some z =>
            obtain ⟨hd6, hz6⟩ := HP5.out z hx
            have HD9 := Lib.hid hd6
            have HE2 : Hid (VT.txtO items keys true = (VT.txtO (items.drop (j + 1)) (keys.drop (j + 1)) false).map (fun r => (acc ++ [] ++ qL x ++ [58] ++ z) ++ r)) := Lib.hid (by
              rw [HE.out, HST.out, hx]
              simp only [Option.map_map]
              congr 1
              funext r
              simp [HJ0.out])
            clear hd6 HP5
            go_wp2_with fail
            go_roundw
            case rel => exact ⟨j + 1, acc ++ [] ++ qL x ++ [58] ++ z, by omega, by go_num, by have := HD9.out; simpa using this, by simpa using HE2.out, by simp; omega, HB5.out⟩
            case measure => simp [intOf]; omega
        · have hj0' : (j : Int) > 0 := by omega
          have HJ0 := Lib.hid hj0
          clear hj0
          go_wp2_with fail
          refine (writeByte_any B b _ 44 _ HD2.out (by simp; omega) (by have := HB2.out.size; omega)).mono ?_
          rintro e w4 ⟨rfl, hd4, hb4, ho4⟩
          have HD4 := Lib.hid hd4
          have HB4 := Lib.hid (HB2.out.trans hb4)
          have HRD4 := Lib.hid (HRD2.out.kept hb4)
          have Y4 : Hid (Box w4 wr.heap.size (.int .i64 k1) (.int .i64 n1) (.string s1) (.slice A1 li1 ci1) (.slice K1 lk1 ck1)) := Lib.hid (Box.others Y2.out ho4 (by have := HDJ.out.lt; omega))
          clear hd4 hb4 ho4
          have hszq := HB4.out.size
          obtain ⟨y0, y1, y2, y3, y4⟩ := Y4.out.cells
          have hkc : Hid ((w4).cell? (ka.add j) = some (.string x)) := Lib.hid (by rw [HB4.out.cell (by rw [add_block]; exact hkab)]; exact HKC.out)
          have hkc' := hkc.out
          go_wp2_with fail
          refine (T1.quote_any x (w4) (by omega)).mono ?_
          rintro e w6 ⟨rfl, hb6⟩
          have HD6 := Lib.hid (HD4.out.kept hb6)
          have HB6 := Lib.hid (HB4.out.trans (hb6.mono (by omega)))
          have HRD6 := Lib.hid (HRD4.out.kept (hb6.mono (by omega)))
          have Y6 := Lib.hid (Box.kept Y4.out hb6)
          obtain ⟨qq, hqq⟩ : ∃ qq : ByteArray, qq = ⟨(T1.quoteL x.data.toList).toArray⟩ := ⟨_, rfl⟩
          have hq1 : qq.data.toList = qL x := by rw [hqq]; simp [qL]
          have hq2 : qq.size = (qL x).length := by rw [← hq1, T1.size_eq]
          have hq3 := qL_len x
          have HQ1 := Lib.hid hq1
          rw [← hqq]
          clear hb6 y0 y1 y2 y3 y4 hkc' hq1 hqq hkc
          go_wp2_with fail
          refine (writeString_any B b _ qq w6 HD6.out (by simp; omega) (by have := HB6.out.size; omega)).mono ?_
          rintro e w7 ⟨rfl, hd7, hb7, ho7⟩
          rw [HQ1.out] at hd7
          have HD7 := Lib.hid hd7
          have HB7 := Lib.hid (HB6.out.trans hb7)
          have HRD7 := Lib.hid (HRD6.out.kept hb7)
          have Y7 := Lib.hid (Box.others Y6.out ho7 (by have := HDJ.out.lt; omega))
          clear hd7 hb7 ho7
          go_wp2_with fail
          refine (writeByte_any B b _ 58 w7 HD7.out (by simp; omega) (by have := HB7.out.size; omega)).mono ?_
          rintro e w8 ⟨rfl, hd8, hb8, ho8⟩
          have HD8 := Lib.hid hd8
          have HB8 := Lib.hid (HB7.out.trans hb8)
          have HRD8 := Lib.hid (HRD7.out.kept hb8)
          have Y8 := Lib.hid (Box.others Y7.out ho8 (by have := HDJ.out.lt; omega))
          clear hd8 hb8 ho8
          have CALL := Lib.hid (IH.out j t HT.out B b _ w8 (.agg #[.int .i64 k1, .int .i64 n1, .string s1, .slice A1 li1 ci1, .slice K1 lk1 ck1]) (by rw [← E.out]; exact HRD8.out) HD8.out (HL.out.kept HB8.out) (by simp; omega) (by have := HB8.out.size; omega))
          obtain ⟨x0, x1, x2, x3, x4⟩ := Y8.out.cells
          go_wp2_with fail
          refine CALL.out.mono ?_
          rintro e w5 ⟨rfl, hb5, hp5⟩
          have HB5 := Lib.hid (HB8.out.trans hb5)
          have HP5 := Lib.hid hp5
          clear hb5 hp5 x0 x1 x2 x3 x4 h0 h1 h2 h3 h4 CALL
          cases hx : VT.txt t with
          | none =>
            have HE2 : Hid (VT.txtO items keys true = none) := Lib.hid (by rw [HE.out, HST.out, hx]; rfl)
            go_wp2_with fail
            go_ret
            exact ⟨by rw [HLEN.out, HE2.out]; rfl, HB5.out, fun y hy => by rw [HLEN.out, HE2.out] at hy; cases hy⟩
          | some z =>
            obtain ⟨hd6, hz6⟩ := HP5.out z hx
            have HD9 := Lib.hid hd6
            have HE2 : Hid (VT.txtO items keys true = (VT.txtO (items.drop (j + 1)) (keys.drop (j + 1)) false).map (fun r => (acc ++ [44] ++ qL x ++ [58] ++ z) ++ r)) := Lib.hid (by
              rw [HE.out, HST.out, hx]
              simp only [Option.map_map]
              congr 1
              funext r
              simp [HJ0.out])
            clear hd6 HP5
            go_wp2_with fail
            go_roundw
            case rel => exact ⟨j + 1, acc ++ [44] ++ qL x ++ [58] ++ z, by omega, by go_num, by have := HD9.out; simpa using this, by simpa using HE2.out, by simp; omega, HB5.out⟩
            case measure => simp [intOf]; omega
      · have hji : j = li := by omega
        subst hji
        have hdr : items.drop j = [] := List.drop_eq_nil_of_le (by have := HLI.out; omega)
        have hE2 : VT.txtO items keys true = some acc := by rw [HE.out, hdr]; simp [VT.txtO]
        have HE2 := Lib.hid hE2
        have hwl := bws_le items j
        have hkl := ksum_le keys j
        have hsz := HB.out.size
        clear hdr hE2
        go_wp2_with fail
        refine (writeByte_any B b _ 125 wr HDJ.out (by simp; omega) (by omega)).mono ?_
        rintro e w3 ⟨rfl, hd3, hb3, _⟩
        have HD3 := Lib.hid hd3
        have HB3 := Lib.hid (HB.out.trans hb3)
        clear hd3 hb3
        go_wp2_with fail
        go_ret
        refine ⟨by rw [HLEN.out, HE2.out]; rfl, HB3.out, fun x hx => ?_⟩
        rw [HLEN.out, HE2.out] at hx
        cases hx
        exact ⟨by simpa using HD3.out, by simp; omega⟩
  · have hll' : ((lk : Int) != (li : Int)) = true := by rw [bne_iff_ne]; omega
    have HLEN : Hid (RR = none) := Lib.hid (HRR.out.symm.trans (if_neg (by rw [HLI.out, HLK.out]; exact hll)))
    clear hll
    go_enter Tryz.func36, Tryz.ntmps36
    go_wp2_with fail
    go_ret
    exact ⟨by rw [HLEN.out]; rfl, Below.refl _ _, fun x hx => by rw [HLEN.out] at hx; cases hx⟩
end Go.Proofs.YtcbajgcblfgmgaaGreatDoor
