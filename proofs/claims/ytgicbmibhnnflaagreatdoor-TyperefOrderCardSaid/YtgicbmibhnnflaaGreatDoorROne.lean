
/-
  The reference's signs, and the token at an index.
-/
import Derived.Test.YtgicbmibhnnflaaGreatDoorRWords
import Derived.Test.YtgicbmibhnnflaaGreatDoorKTok
import Derived.Test.YtgicbmibhnnflaaGreatDoorRefNumber2
import Derived.Test.YtgicbmibhnnflaaGreatDoorRefUnquote2
namespace Go.Proofs.YtgicbmibhnnflaaGreatDoor
open Go.RowKit
theorem sg_drop (c : UInt8) : ∀ k, k < 13 → decide (c ∈ sgL.drop k) = (decide (c = sgL.getD k 0) || decide (c ∈ sgL.drop (k + 1))) := by
  intro k hk
  have h : k < sgL.length := hk
  have e : sgL.drop k = sgL.getD k 0 :: sgL.drop (k + 1) := by
    rw [drop_cons h, List.getD_eq_getElem?_getD, List.getElem?_eq_getElem h, Option.getD_some]
  rw [e, Bool.eq_iff_iff, Bool.or_eq_true, decide_eq_true_iff, decide_eq_true_iff, decide_eq_true_iff, List.mem_cons]
theorem sg_at (k : Nat) (h : k < (⟨#[33, 36, 38, 40, 41, 58, 61, 64, 91, 93, 123, 124, 125]⟩ : ByteArray).size) : (⟨#[33, 36, 38, 40, 41, 58, 61, 64, 91, 93, 123, 124, 125]⟩ : ByteArray)[k] = sgL.getD k 0 := by
  have : sgL.getD k 0 = (⟨#[33, 36, 38, 40, 41, 58, 61, 64, 91, 93, 123, 124, 125]⟩ : ByteArray).data.toList.getD k 0 := rfl
  rw [this, T1.getD_at _ k h]
set_option maxHeartbeats 2000000 in
theorem rsign_any (c : UInt8) (w : World) : Calls Tryz.prog 88 #[.int .u8 c.toNat] w fun e w' => e = .returned (.bool (decide (c ∈ sgL))) ∧ w = w' := by
  have ST : Hid (decide (c ∈ sgL) = decide (c ∈ sgL.drop 0)) := Lib.hid rfl
  generalize decide (c ∈ sgL) = b at *
  have hbc := T1.byte_lt c
  go_enter Tryz.func88, Tryz.ntmps88
  go_wp2_with fail
  go_loop [4] (fun v => ∃ k : Nat, v = .int .i64 k ∧ k ≤ 13 ∧ b = decide (c ∈ sgL.drop k)) (fun v => 13 - (intOf v).toNat)
  case atStart => exact ⟨0, rfl, by omega, ST.out⟩
  case round =>
    obtain ⟨k, rfl, hk, hat⟩ := hrel
    have HA := Lib.hid hat
    clear hat ST
    by_cases hlt : k < 13
    · have hsz : k < (⟨#[33, 36, 38, 40, 41, 58, 61, 64, 91, 93, 123, 124, 125]⟩ : ByteArray).size := hlt
      have e1 := sg_at k hsz
      have HD := Lib.hid (sg_drop c k hlt)
      by_cases hc : c = sgL.getD k 0
      · have g : (((⟨#[33, 36, 38, 40, 41, 58, 61, 64, 91, 93, 123, 124, 125]⟩ : ByteArray)[k].toNat : Int) == (c.toNat : Int)) = true := by rw [e1, hc]; simp
        have HB : Hid (b = true) := Lib.hid (by rw [HA.out, HD.out, decide_eq_true hc]; rfl)
        clear e1 hc
        go_wp2_with fail
        go_ret
        exact ⟨by rw [HB.out]; rfl, rfl⟩
      · have g : (((⟨#[33, 36, 38, 40, 41, 58, 61, 64, 91, 93, 123, 124, 125]⟩ : ByteArray)[k].toNat : Int) == (c.toNat : Int)) = false := T1.u8_ne (by rw [e1]; exact fun e => hc e.symm)
        have HB : Hid (b = decide (c ∈ sgL.drop (k + 1))) := Lib.hid (by rw [HA.out, HD.out, decide_eq_false hc]; rfl)
        clear e1 hc
        go_wp2_with fail
        go_round
        case rel => exact ⟨k + 1, by go_num, by omega, HB.out⟩
        case measure => simp [intOf]; omega
    · obtain rfl : k = 13 := by omega
      have HB : Hid (b = false) := Lib.hid (by rw [HA.out]; rfl)
      go_wp2_with fail
      go_ret
      exact ⟨by rw [HB.out]; rfl, rfl⟩
def RT (W : World) (b : Nat) (c0 c1 c2 : Value) : Prop := W.heap[b]? = some (.cells #[c0, c1, c2] 83 (0, 0))
theorem RT.cells {W : World} {b : Nat} {c0 c1 c2 : Value} (h : RT W b c0 c1 c2) : W.cell? ⟨b, 0, none⟩ = some c0 ∧ W.cell? ⟨b, 1, none⟩ = some c1 ∧ W.cell? ⟨b, 2, none⟩ = some c2 := by
  refine ⟨?_, ?_, ?_⟩ <;> rw [cell_of_row _ _ _ _ _ _ h] <;> rfl
theorem RT.frz {W : World} {b : Nat} {c0 c1 c2 : Value} (h : RT W b c0 c1 c2) (i : Nat) : W.frozen? ⟨b, i, none⟩ = false := by
  unfold RT at h; simp [World.frozen?, h]
theorem RT.three {W : World} {b : Nat} {c0 c1 c2 : Value} (h : RT W b c0 c1 c2) (u0 u1 u2 : Value) : RT (((W.setCell ⟨b, 0, none⟩ u0).setCell ⟨b, 1, none⟩ u1).setCell ⟨b, 2, none⟩ u2) b u0 u1 u2 := by
  unfold RT at h ⊢; simp [World.setCell, Array.getElem?_modify, h]
theorem RT.lt {W : World} {b : Nat} {c0 c1 c2 : Value} (h : RT W b c0 c1 c2) : b < W.heap.size := by
  unfold RT at h
  rcases Nat.lt_or_ge b W.heap.size with h' | h'
  · exact h'
  · rw [Array.getElem?_eq_none h'] at h; cases h
theorem RT.stay {W W' : World} {b : Nat} {c0 c1 c2 : Value} (h : RT W b c0 c1 c2) (hb : Below W.heap.size W W') : RT W' b c0 c1 c2 := (hb.block b h.lt).trans h
def OneAns (o : Except Int (Int × List UInt8 × Nat)) (i : Nat) (e : Ending) : Prop :=
  match o with
  | .ok (k, t, n) => e = .returned (.tuple #[tkV k ⟨t.toArray⟩ i, .int .i64 (i + n : Nat), .int .i64 0])
  | .error c => c ≠ 0 ∧ ∃ (k : Int) (t : ByteArray) (a n : Int), e = .returned (.tuple #[tkV k t a, .int .i64 n, .int .i64 c])
def OnePost (o : Except Int (Int × List UInt8 × Nat)) (i : Nat) (w : World) (e : Ending) (w' : World) : Prop := OneAns o i e ∧ Below w.heap.size w w'
theorem ext_at (s : ByteArray) (i j : Nat) : s.extract i j = ⟨((s.data.toList.drop i).take (j - i)).toArray⟩ := by
  have : (s.extract i j).data.toList = (s.data.toList.drop i).take (j - i) := by
    rw [ByteArray.data_extract, Array.toList_extract]
  rw [← this]
theorem ext_at' (s : ByteArray) (i j : Nat) : (s.extract i j).data.toList = (s.data.toList.drop i).take (j - i) := by
  rw [ByteArray.data_extract, Array.toList_extract]
theorem tok_at (s : ByteArray) (i : Nat) (h : i < s.size) : tokR (s.data.toList.drop i) = if s[i] ∈ sgL then .ok (1, (s.data.toList.drop i).take 1, 1) else if (s.data.toList.drop i).take 3 = elL then .ok (1, elL, 3)
    else if T1.letU ((s[i]).toNat : Int) = true then nameR (s.data.toList.drop i) else if dmB s[i] = true then intR (s.data.toList.drop i) else if s[i] = 34 then textR (s.data.toList.drop i) else .error 3 := by
  have e : (s.data.toList.drop i).getD 0 0 = s[i] := by
    rw [List.getD_eq_getElem?_getD, List.getElem?_drop, Nat.add_zero, ← List.getD_eq_getElem?_getD]; exact T1.getD_at s i h
  rw [← e]; rfl
theorem drop_ne (s : ByteArray) (i : Nat) (h : i < s.size) : s.data.toList.drop i ≠ [] := by
  intro e; have := congrArg List.length e; rw [List.length_drop, T1.size_eq] at this; simp at this; omega
/- The first calls. -/
abbrev W0 (w : World) : World := w.alloc (.cells #[.int .i64 0, .string ⟨#[]⟩, .int .i64 0] 83 (0, 0))
theorem W0.rt (w : World) : RT (W0 w) w.heap.size (.int .i64 0) (.string ⟨#[]⟩) (.int .i64 0) := heap_alloc_new w _
theorem W0.below (w : World) : Below w.heap.size w (W0 w) := (Below.refl _ _).alloc (Nat.le_refl _) _
set_option maxRecDepth 100000 in
set_option maxHeartbeats 4000000 in
theorem one_sign (s : ByteArray) (i : Nat) (hi : i < s.size) (hs : s.size ≤ 100000) (w : World) (c1 : s[i] ∈ sgL) : Calls Tryz.prog 70 #[.string s, .int .i64 i] w (OnePost (tokR (s.data.toList.drop i)) i w) := by
  have E1 : Hid (tokR (s.data.toList.drop i) = .ok (1, (s.data.toList.drop i).take 1, 1)) := Lib.hid (by rw [tok_at s i hi, if_pos c1])
  have HE := Lib.hid (ext_at s i (i + 1))
  have CALL := Lib.hid (rsign_any s[i] (W0 w))
  rw [decide_eq_true c1] at CALL
  have n1 : ((i : Int) + 1).toNat = i + 1 := by omega
  have n2 : (i : Int) + 1 ≤ s.size := by omega
  have hbk := T1.byte_lt s[i]
  clear c1
  generalize tokR (s.data.toList.drop i) = R at *
  go_enter Tryz.func70, Tryz.ntmps70
  go_wp2_with fail
  refine CALL.out.mono ?_
  rintro e w1 ⟨rfl, rfl⟩
  go_wp2_with fail
  refine bodyPost_ret (v := .tuple #[tkV 1 (s.extract i (i + 1)) i, .int .i64 (i + 1 : Nat), .int .i64 0]) (by simp [results, Tryz.results70, go_sem]) rfl ⟨?_, (Below.refl _ _).alloc (Nat.le_refl _) _⟩
  rw [E1.out, HE.out, show i + 1 - i = 1 by omega]
  rfl
theorem dots_at (s : ByteArray) (i : Nat) (hi : i < s.size) : (s.data.toList.drop i).take 3 = elL → (s[i] = 46 ∧ i + 3 ≤ s.size) := by
  have hsz := T1.size_eq s
  intro h
  have hl := congrArg List.length h
  rw [List.length_take, List.length_drop] at hl
  have hl : min 3 (s.data.toList.length - i) = 3 := hl
  refine ⟨?_, by omega⟩
  have h0 : ((s.data.toList.drop i).take 3).getD 0 0 = 46 := by rw [h]; rfl
  rw [drop_cons (l := s.data.toList) (k := i) (by omega)] at h0
  exact h0
theorem dots_eq (s : ByteArray) (i : Nat) : ((s.extract i (i + 3)).toList == [46, 46, 46]) = decide ((s.data.toList.drop i).take 3 = elL) := by
  rw [Lib.toList_data, ext_at', show i + 3 - i = 3 by omega, Bool.eq_iff_iff, beq_iff_eq, decide_eq_true_iff]
  exact Iff.rfl
theorem c46_not : ¬ (46 : UInt8) ∈ sgL ∧ T1.letU ((46 : UInt8).toNat : Int) = false ∧ dmB 46 = false := by decide
set_option maxRecDepth 100000 in
set_option maxHeartbeats 4000000 in
theorem one_dots (s : ByteArray) (i : Nat) (hi : i < s.size) (hs : s.size ≤ 100000) (w : World) (c1 : s[i] = 46) : Calls Tryz.prog 70 #[.string s, .int .i64 i] w (OnePost (tokR (s.data.toList.drop i)) i w) := by
  have hn := c46_not
  rw [← c1] at hn
  have HT := tok_at s i hi
  rw [if_neg hn.1] at HT
  have CALL0 := rsign_any 46 (W0 w)
  rw [decide_eq_false c46_not.1] at CALL0
  have CALL : Hid (Calls Tryz.prog 88 #[.int .u8 46] (W0 w) fun e w' => e = .returned (.bool false) ∧ W0 w = w') := Lib.hid CALL0
  clear CALL0
  have n1 : ((i : Int) + 3).toNat = i + 3 := by omega
  by_cases c2 : (s.data.toList.drop i).take 3 = elL
  · rw [if_pos c2] at HT
    have E1 := Lib.hid HT
    have q1 := (dots_at s i hi c2).2
    have q2 := (dots_eq s i).trans (decide_eq_true c2)
    have n2 : (i : Int) + 3 ≤ s.size := by omega
    clear hn HT c2
    generalize tokR (s.data.toList.drop i) = R at *
    go_enter Tryz.func70, Tryz.ntmps70
    go_wp2_with fail
    refine CALL.out.mono ?_
    rintro e w1 ⟨rfl, rfl⟩
    go_wp2_with fail
    refine bodyPost_ret (v := .tuple #[tkV 1 ⟨#[46, 46, 46]⟩ i, .int .i64 (i + 3 : Nat), .int .i64 0]) (by simp [results, Tryz.results70, go_sem]) rfl ⟨?_, (Below.refl _ _).alloc (Nat.le_refl _) _⟩
    rw [E1.out]
    rfl
  · have LET := Lib.hid (kletter_any 46 (W0 w) (by omega) (by omega))
    have DIG := Lib.hid (kdigit_any 46 (W0 w) (by omega) (by omega))
    rw [if_neg c2, if_neg (by rw [hn.2.1]; decide), if_neg (by rw [hn.2.2]; decide), if_neg (by rw [c1]; decide)] at HT
    have E1 := Lib.hid HT
    rw [show T1.letU 46 = false from rfl] at LET
    rw [show T1.digB 46 = false from rfl] at DIG
    have hcase : (¬ (i : Int) + 3 ≤ s.size) ∨ ((i : Int) + 3 ≤ s.size ∧ ((s.extract i (i + 3)).toList == [46, 46, 46]) = false) := by
      by_cases q : (i : Int) + 3 ≤ s.size
      · exact .inr ⟨q, (dots_eq s i).trans (decide_eq_false c2)⟩
      · exact .inl q
    clear hn HT c2
    generalize tokR (s.data.toList.drop i) = R at *
    rcases hcase with q1 | ⟨q1, q2⟩
    · go_enter Tryz.func70, Tryz.ntmps70
      go_wp2_with fail
      refine CALL.out.mono ?_
      rintro e w1 ⟨rfl, rfl⟩
      go_wp2_with fail
      refine LET.out.mono ?_
      rintro e w1 ⟨rfl, rfl⟩
      go_wp2_with fail
      refine DIG.out.mono ?_
      rintro e w1 ⟨rfl, rfl⟩
      go_wp2_with fail
      refine bodyPost_ret (v := .tuple #[tkV 0 ⟨#[]⟩ 0, .int .i64 0, .int .i64 3]) (by simp [results, Tryz.results70, go_sem]) rfl ⟨?_, (Below.refl _ _).alloc (Nat.le_refl _) _⟩
      rw [E1.out]
      exact ⟨by decide, _, _, _, _, rfl⟩
    · go_enter Tryz.func70, Tryz.ntmps70
      go_wp2_with fail
      refine CALL.out.mono ?_
      rintro e w1 ⟨rfl, rfl⟩
      go_wp2_with fail
      refine LET.out.mono ?_
      rintro e w1 ⟨rfl, rfl⟩
      go_wp2_with fail
      refine DIG.out.mono ?_
      rintro e w1 ⟨rfl, rfl⟩
      go_wp2_with fail
      refine bodyPost_ret (v := .tuple #[tkV 0 ⟨#[]⟩ 0, .int .i64 0, .int .i64 3]) (by simp [results, Tryz.results70, go_sem]) rfl ⟨?_, (Below.refl _ _).alloc (Nat.le_refl _) _⟩
      rw [E1.out]
      exact ⟨by decide, _, _, _, _, rfl⟩
set_option maxRecDepth 100000 in
set_option maxHeartbeats 4000000 in
theorem one_none (s : ByteArray) (i : Nat) (hi : i < s.size) (_hs : s.size ≤ 100000) (w : World) (c1 : ¬ s[i] ∈ sgL) (c2 : s[i] ≠ 46) (c3 : T1.letU (s[i].toNat : Int) = false) (c4 : dmB s[i] = false) (c5 : s[i] ≠ 34) : Calls Tryz.prog 70 #[.string s, .int .i64 i] w (OnePost (tokR (s.data.toList.drop i)) i w) := by
  have hel : ¬ (s.data.toList.drop i).take 3 = elL := fun h => c2 (dots_at s i hi h).1
  have E1 : Hid (tokR (s.data.toList.drop i) = .error 3) := Lib.hid (by rw [tok_at s i hi, if_neg c1, if_neg hel, if_neg (by rw [c3]; decide), if_neg (by rw [c4]; decide), if_neg c5])
  have hbk := T1.byte_lt s[i]
  have CALL := Lib.hid (rsign_any s[i] (W0 w))
  have LET := Lib.hid (kletter_any (s[i].toNat : Int) (W0 w) (by omega) (by omega))
  have DIG := Lib.hid (kdigit_any (s[i].toNat : Int) (W0 w) (by omega) (by omega))
  have c4' := c4
  unfold dmB at c4'
  rw [Bool.or_eq_false_iff] at c4'
  rw [decide_eq_false c1] at CALL
  rw [c3] at LET
  rw [c4'.1] at DIG
  have b1 : ((s[i].toNat : Int) == 46) = false := T1.u8_ne c2
  have b2 : ((s[i].toNat : Int) == 45) = false := T1.u8_ne (of_decide_eq_false c4'.2)
  have b3 : ((s[i].toNat : Int) == 34) = false := T1.u8_ne c5
  clear c1 c2 c3 c4 c5 c4' hel
  generalize tokR (s.data.toList.drop i) = R at *
  go_enter Tryz.func70, Tryz.ntmps70
  go_wp2_with fail
  refine CALL.out.mono ?_
  rintro e w1 ⟨rfl, rfl⟩
  go_wp2_with fail
  refine LET.out.mono ?_
  rintro e w1 ⟨rfl, rfl⟩
  go_wp2_with fail
  refine DIG.out.mono ?_
  rintro e w1 ⟨rfl, rfl⟩
  go_wp2_with fail
  refine bodyPost_ret (v := .tuple #[tkV 0 ⟨#[]⟩ 0, .int .i64 0, .int .i64 3]) (by simp [results, Tryz.results70, go_sem]) rfl ⟨?_, (Below.refl _ _).alloc (Nat.le_refl _) _⟩
  rw [E1.out]
  exact ⟨by decide, _, _, _, _, rfl⟩
set_option maxRecDepth 100000 in
set_option maxHeartbeats 4000000 in
theorem one_name (s : ByteArray) (i : Nat) (hi : i < s.size) (hs : s.size ≤ 100000) (w : World) (c3 : T1.letU (s[i].toNat : Int) = true) : Calls Tryz.prog 70 #[.string s, .int .i64 i] w (OnePost (tokR (s.data.toList.drop i)) i w) := by
  obtain ⟨c1, c2⟩ := sg_not _ (.inl (let_not _ c3))
  have hel : ¬ (s.data.toList.drop i).take 3 = elL := fun h => c2 (dots_at s i hi h).1
  have hc : (s.data.toList.drop i).getD 0 0 = s[i] := by
    rw [List.getD_eq_getElem?_getD, List.getElem?_drop, Nat.add_zero, ← List.getD_eq_getElem?_getD]; exact T1.getD_at s i hi
  have E1 : tokR (s.data.toList.drop i) = nameR (s.data.toList.drop i) := by rw [tok_at s i hi, if_neg c1, if_neg hel, if_pos c3]
  unfold nameR at E1
  rw [name_wd (drop_ne s i hi) (by rw [hc]; exact c3)] at E1
  have hbk := T1.byte_lt s[i]
  have hwl := wdN_le (s.data.toList.drop i)
  rw [List.length_drop, T1.size_eq] at hwl
  have CALL := Lib.hid (rsign_any s[i] (W0 w))
  have LET := Lib.hid (kletter_any (s[i].toNat : Int) (W0 w) (by omega) (by omega))
  have WRD := Lib.hid (rword_any s hs i (by omega) (W0 w))
  rw [decide_eq_false c1] at CALL
  rw [c3] at LET
  have b1 : ((s[i].toNat : Int) == 46) = false := T1.u8_ne c2
  have HE := Lib.hid (ext_at s i (i + wdN (s.data.toList.drop i)))
  generalize wdN (s.data.toList.drop i) = n at *
  have n1 : ((i + n : Nat) : Int).toNat = i + n := by omega
  have n2 : ((i + n : Nat) : Int) ≤ s.size := by omega
  have n3 : (i : Int) ≤ ((i + n : Nat) : Int) := by omega
  have hil : (i : Int) < s.size := by omega
  clear c1 c2 c3 hel hc
  by_cases hn : n ≤ 64
  · have E2 := Lib.hid (E1.trans (if_pos (decide_eq_true hn)))
    have hgt : ¬ (((i + n : Nat) : Int) - i > 64) := by omega
    clear E1
    generalize tokR (s.data.toList.drop i) = R at *
    go_enter Tryz.func70, Tryz.ntmps70
    go_wp2_with fail
    refine CALL.out.mono ?_
    rintro e w1 ⟨rfl, rfl⟩
    go_wp2_with fail
    refine LET.out.mono ?_
    rintro e w1 ⟨rfl, rfl⟩
    go_wp2_with fail
    refine WRD.out.mono ?_
    rintro e w1 ⟨rfl, rfl⟩
    go_wp2_with fail
    refine bodyPost_ret (v := .tuple #[tkV 2 (s.extract i (i + n)) i, .int .i64 (i + n : Nat), .int .i64 0]) (by simp [results, Tryz.results70, go_sem]) rfl ⟨?_, (Below.refl _ _).alloc (Nat.le_refl _) _⟩
    rw [E2.out, HE.out, show i + n - i = n by omega]
    rfl
  · have E2 := Lib.hid (E1.trans (if_neg (by rw [decide_eq_false hn]; decide)))
    have hgt : (((i + n : Nat) : Int) - i > 64) := by omega
    clear E1
    generalize tokR (s.data.toList.drop i) = R at *
    go_enter Tryz.func70, Tryz.ntmps70
    go_wp2_with fail
    refine CALL.out.mono ?_
    rintro e w1 ⟨rfl, rfl⟩
    go_wp2_with fail
    refine LET.out.mono ?_
    rintro e w1 ⟨rfl, rfl⟩
    go_wp2_with fail
    refine WRD.out.mono ?_
    rintro e w1 ⟨rfl, rfl⟩
    go_wp2_with fail
    refine bodyPost_ret (v := .tuple #[tkV 0 ⟨#[]⟩ 0, .int .i64 0, .int .i64 3]) (by simp [results, Tryz.results70, go_sem]) rfl ⟨?_, (Below.refl _ _).alloc (Nat.le_refl _) _⟩
    rw [E2.out]
    exact ⟨by decide, _, _, _, _, rfl⟩
set_option maxRecDepth 100000 in
set_option maxHeartbeats 4000000 in
theorem one_int (s : ByteArray) (i : Nat) (hi : i < s.size) (hs : s.size ≤ 100000) (w : World) (c4 : dmB s[i] = true) : Calls Tryz.prog 70 #[.string s, .int .i64 i] w (OnePost (tokR (s.data.toList.drop i)) i w) := by
  have c3 := dm_let _ c4
  obtain ⟨c1, c2⟩ := sg_not _ ((dm_cases _ c4).elim .inl (fun x => .inr (.inr x)))
  have hel : ¬ (s.data.toList.drop i).take 3 = elL := fun h => c2 (dots_at s i hi h).1
  have E1 : tokR (s.data.toList.drop i) = intR (s.data.toList.drop i) := by rw [tok_at s i hi, if_neg c1, if_neg hel, if_neg (by rw [c3]; decide), if_pos c4]
  unfold intR at E1
  rw [List.drop_drop] at E1
  have hbk := T1.byte_lt s[i]
  have hwl := wdN_le (s.data.toList.drop (i + 1))
  rw [List.length_drop, T1.size_eq] at hwl
  have CALL := Lib.hid (rsign_any s[i] (W0 w))
  have LET := Lib.hid (kletter_any (s[i].toNat : Int) (W0 w) (by omega) (by omega))
  have DIG := Lib.hid (kdigit_any (s[i].toNat : Int) (W0 w) (by omega) (by omega))
  have WRD := Lib.hid (rword_any s hs (i + 1) (by omega) (W0 w))
  rw [decide_eq_false c1] at CALL
  rw [c3] at LET
  have b1 : ((s[i].toNat : Int) == 46) = false := T1.u8_ne c2
  have ee : ((i + 1 : Nat) : Int) = (i : Int) + 1 := by omega
  rw [ee] at WRD
  generalize wdN (s.data.toList.drop (i + 1)) = n at *
  have HE := ext_at s i (i + 1 + n)
  have HE' := ext_at' s i (i + 1 + n)
  rw [show i + 1 + n - i = n + 1 by omega] at HE HE'
  have NUM0 := T1.rnumber_any (s.extract i (i + 1 + n)) (W0 w) (by rw [← T1.size_eq, HE', List.length_take, List.length_drop, T1.size_eq]; unfold maxLen; omega)
  rw [HE'] at NUM0
  have ANS0 : OneAns (tokR (s.data.toList.drop i)) i (.returned (.tuple #[tkV 3 (s.extract i (i + 1 + n)) i, .int .i64 (i + 1 + n : Nat), .int .i64 (T1.numL ((s.data.toList.drop i).take (n + 1))).2])) := by
    rw [E1, HE]
    by_cases h0 : (T1.numL ((s.data.toList.drop i).take (n + 1))).2 = 0
    · rw [if_pos h0, h0]
      show Ending.returned _ = Ending.returned _
      rw [show i + (n + 1) = i + 1 + n by omega]
    · rw [if_neg h0]
      exact ⟨h0, _, _, _, _, rfl⟩
  unfold T1.NumPost T1.num2 at NUM0
  generalize (T1.numL ((s.data.toList.drop i).take (n + 1))).2 = er at *
  generalize (T1.numL ((s.data.toList.drop i).take (n + 1))).1 = val at *
  have NUM := Lib.hid NUM0
  have ANS := Lib.hid ANS0
  have n1 : ((i + 1 + n : Nat) : Int).toNat = i + 1 + n := by omega
  have n2 : ((i + 1 + n : Nat) : Int) ≤ s.size := by omega
  have n3 : (i : Int) ≤ ((i + 1 + n : Nat) : Int) := by omega
  have hil : (i : Int) < s.size := by omega
  clear c1 c2 c3 hel E1 NUM0 ANS0 HE HE' ee hwl
  generalize tokR (s.data.toList.drop i) = R at *
  cases hd : T1.digB (s[i].toNat : Int)
  · unfold dmB at c4
    rw [hd, Bool.false_or] at c4
    have b2 : ((s[i].toNat : Int) == 45) = true := by rw [of_decide_eq_true c4]; rfl
    rw [hd] at DIG
    clear c4
    go_enter Tryz.func70, Tryz.ntmps70
    go_wp2_with fail
    refine CALL.out.mono ?_
    rintro e w1 ⟨rfl, rfl⟩
    go_wp2_with fail
    refine LET.out.mono ?_
    rintro e w1 ⟨rfl, rfl⟩
    go_wp2_with fail
    refine DIG.out.mono ?_
    rintro e w1 ⟨rfl, rfl⟩
    go_wp2_with fail
    refine WRD.out.mono ?_
    rintro e w1 ⟨rfl, rfl⟩
    go_wp2_with fail
    refine NUM.out.mono ?_
    rintro e w1 ⟨rfl, rfl⟩
    go_wp2_with fail
    refine bodyPost_ret (v := .tuple #[tkV 3 (s.extract i (i + 1 + n)) i, .int .i64 (i + 1 + n : Nat), .int .i64 er]) (by simp [results, Tryz.results70, go_sem]) rfl ⟨?_, (Below.refl _ _).alloc (Nat.le_refl _) _⟩
    exact ANS.out
  · rw [hd] at DIG
    clear c4
    go_enter Tryz.func70, Tryz.ntmps70
    go_wp2_with fail
    refine CALL.out.mono ?_
    rintro e w1 ⟨rfl, rfl⟩
    go_wp2_with fail
    refine LET.out.mono ?_
    rintro e w1 ⟨rfl, rfl⟩
    go_wp2_with fail
    refine DIG.out.mono ?_
    rintro e w1 ⟨rfl, rfl⟩
    go_wp2_with fail
    refine WRD.out.mono ?_
    rintro e w1 ⟨rfl, rfl⟩
    go_wp2_with fail
    refine NUM.out.mono ?_
    rintro e w1 ⟨rfl, rfl⟩
    go_wp2_with fail
    refine bodyPost_ret (v := .tuple #[tkV 3 (s.extract i (i + 1 + n)) i, .int .i64 (i + 1 + n : Nat), .int .i64 er]) (by simp [results, Tryz.results70, go_sem]) rfl ⟨?_, (Below.refl _ _).alloc (Nat.le_refl _) _⟩
    exact ANS.out
set_option maxRecDepth 100000 in
set_option maxHeartbeats 4000000 in
theorem one_text (s : ByteArray) (i : Nat) (hi : i < s.size) (hs : s.size ≤ 100000) (w : World) (c5 : s[i] = 34) : Calls Tryz.prog 70 #[.string s, .int .i64 i] w (OnePost (tokR (s.data.toList.drop i)) i w) := by
  have c1 : ¬ s[i] ∈ sgL := by rw [c5]; decide
  have hel : ¬ (s.data.toList.drop i).take 3 = elL := fun h => by have := (dots_at s i hi h).1; rw [c5] at this; revert this; decide
  have E1 : tokR (s.data.toList.drop i) = textR (s.data.toList.drop i) := by rw [tok_at s i hi, if_neg c1, if_neg hel, if_neg (by rw [c5]; decide), if_neg (by rw [c5]; decide), if_pos c5]
  unfold textR at E1
  rw [List.drop_drop, List.length_drop, T1.size_eq] at E1
  have CALL0 := rsign_any 34 (W0 w)
  rw [decide_eq_false (by decide)] at CALL0
  have CALL : Hid (Calls Tryz.prog 88 #[.int .u8 34] (W0 w) fun e w' => e = .returned (.bool false) ∧ W0 w = w') := Lib.hid CALL0
  have LET := Lib.hid (kletter_any 34 (W0 w) (by omega) (by omega))
  have DIG := Lib.hid (kdigit_any 34 (W0 w) (by omega) (by omega))
  rw [show T1.letU 34 = false from rfl] at LET
  rw [show T1.digB 34 = false from rfl] at DIG
  have CLO := Lib.hid (rclosing_any s hs i hi (W0 w))
  unfold clR at CLO
  rw [T1.size_eq] at CLO
  have hwl := ltN_le (s.data.toList.drop (i + 1))
  generalize ltN (s.data.toList.drop (i + 1)) = n at *
  clear c1 hel CALL0
  by_cases hn : i + 1 + n < s.size
  · rw [if_pos hn] at CLO
    rw [if_neg (by omega)] at E1
    have HE' := ext_at' s i (i + n + 2)
    rw [show i + n + 2 - i = n + 2 by omega] at HE'
    have UNQ0 := T1.runquote_any (s.extract i (i + n + 2)) (W0 w) (by rw [← T1.size_eq, HE', List.length_take, List.length_drop, T1.size_eq]; omega)
    rw [HE'] at UNQ0
    unfold T1.UqPost at UNQ0
    have n1 : ((i + n + 2 : Nat) : Int).toNat = i + n + 2 := by omega
    have n2 : ((i + n + 2 : Nat) : Int) ≤ s.size := by omega
    have n3 : (i : Int) ≤ ((i + n + 2 : Nat) : Int) := by omega
    have n4 : ¬ ((i + n + 2 : Nat) : Int) < 0 := by omega
    have HX1 := Lib.hid (W0.rt w)
    have HB1 := Lib.hid (W0.below w)
    obtain ⟨t, er, hq, ANS0⟩ : ∃ (t : ByteArray) (er : Int), T1.uq2 (T1.unquoteL ((s.data.toList.drop i).take (n + 2))) = .tuple #[.string t, .int .i64 er] ∧ OneAns (tokR (s.data.toList.drop i)) i (.returned (.tuple #[tkV 4 t i, .int .i64 (i + n + 2 : Nat), .int .i64 er])) := by
      cases hu : T1.unquoteL ((s.data.toList.drop i).take (n + 2)) with
      | none => exact ⟨_, _, rfl, by rw [E1, hu]; exact ⟨by decide, _, _, _, _, rfl⟩⟩
      | some t => exact ⟨_, _, rfl, by rw [E1, hu]; rfl⟩
    rw [hq] at UNQ0
    have UNQ := Lib.hid UNQ0
    have ANS := Lib.hid ANS0
    clear UNQ0 ANS0 hq E1 HE' hn hwl
    generalize tokR (s.data.toList.drop i) = R at *
    generalize i + n + 2 = j at *
    go_enter Tryz.func70, Tryz.ntmps70
    go_wp2_with fail
    refine CALL.out.mono ?_
    rintro e w1 ⟨rfl, rfl⟩
    go_wp2_with fail
    refine LET.out.mono ?_
    rintro e w1 ⟨rfl, rfl⟩
    go_wp2_with fail
    refine DIG.out.mono ?_
    rintro e w1 ⟨rfl, rfl⟩
    go_wp2_with fail
    refine CLO.out.mono ?_
    rintro e w1 ⟨rfl, rfl⟩
    go_wp2_with fail
    refine UNQ.out.mono ?_
    rintro e w2 ⟨rfl, hb⟩
    have HB2 := Lib.hid (HB1.out.trans (hb.mono HB1.out.size))
    have HX2 := Lib.hid (HX1.out.stay hb)
    clear hb
    have ZZ := Lib.hid (HX2.out.three (.int .i64 4) (.string t) (.int .i64 i)).cells
    obtain ⟨x0, x1, x2⟩ := HX2.out.cells
    have g0 := HX2.out.frz 0
    have g1 := HX2.out.frz 1
    have g2 := HX2.out.frz 2
    go_wp2_with fail
    obtain ⟨z0, z1, z2⟩ := ZZ.out
    refine bodyPost_ret (v := .tuple #[tkV 4 t i, .int .i64 j, .int .i64 er]) (by simp [results, Tryz.results70, go_sem, z0, z1, z2]) rfl ⟨ANS.out, Below.three HB2.out (Nat.le_refl _) _ _ _⟩
  · rw [if_neg hn] at CLO
    rw [if_pos (by omega)] at E1
    have E2 := Lib.hid E1
    clear E1 hn hwl
    generalize tokR (s.data.toList.drop i) = R at *
    go_enter Tryz.func70, Tryz.ntmps70
    go_wp2_with fail
    refine CALL.out.mono ?_
    rintro e w1 ⟨rfl, rfl⟩
    go_wp2_with fail
    refine LET.out.mono ?_
    rintro e w1 ⟨rfl, rfl⟩
    go_wp2_with fail
    refine DIG.out.mono ?_
    rintro e w1 ⟨rfl, rfl⟩
    go_wp2_with fail
    refine CLO.out.mono ?_
    rintro e w1 ⟨rfl, rfl⟩
    go_wp2_with fail
    refine bodyPost_ret (v := .tuple #[tkV 0 ⟨#[]⟩ 0, .int .i64 0, .int .i64 3]) (by simp [results, Tryz.results70, go_sem]) rfl ⟨?_, (Below.refl _ _).alloc (Nat.le_refl _) _⟩
    rw [E2.out]
    exact ⟨by decide, _, _, _, _, rfl⟩
theorem one_any (s : ByteArray) (i : Nat) (hi : i < s.size) (hs : s.size ≤ 100000) (w : World) : Calls Tryz.prog 70 #[.string s, .int .i64 i] w (OnePost (tokR (s.data.toList.drop i)) i w) := by
  by_cases c1 : s[i] ∈ sgL
  · exact one_sign s i hi hs w c1
  by_cases c2 : s[i] = 46
  · exact one_dots s i hi hs w c2
  by_cases c3 : T1.letU (s[i].toNat : Int) = true
  · exact one_name s i hi hs w c3
  by_cases c4 : dmB s[i] = true
  · exact one_int s i hi hs w c4
  by_cases c5 : s[i] = 34
  · exact one_text s i hi hs w c5
  exact one_none s i hi hs w c1 c2 (by simpa using c3) (by simpa using c4) c5
end Go.Proofs.YtgicbmibhnnflaaGreatDoor
