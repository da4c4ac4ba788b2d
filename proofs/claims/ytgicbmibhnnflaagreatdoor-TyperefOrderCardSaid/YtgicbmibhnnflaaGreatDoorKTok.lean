
/-
  The token that a text begins with.
-/
import Derived.Test.YtgicbmibhnnflaaGreatDoorKWord
import Derived.Test.YtgicbmibhnnflaaGreatDoorKFact
namespace Go.Proofs.YtgicbmibhnnflaaGreatDoor
open Go.RowKit
structure LK (w : World) : Prop where
  num : T1.Laid w
  utf : Lib.Utf8Tabs 0 1 w
theorem LK.below {w w' : World} (h : LK w) (hb : Below w.heap.size w w') : LK w' := ⟨h.num.below hb, Utf8Tabs_below h.utf hb⟩
def TB (W : World) (b : Nat) (c0 c1 c2 : Value) : Prop := W.heap[b]? = some (.cells #[c0, c1, c2] 75 (0, 0))
theorem TB.cells {W : World} {b : Nat} {c0 c1 c2 : Value} (h : TB W b c0 c1 c2) : W.cell? ⟨b, 0, none⟩ = some c0 ∧ W.cell? ⟨b, 1, none⟩ = some c1 ∧ W.cell? ⟨b, 2, none⟩ = some c2 := by
  refine ⟨?_, ?_, ?_⟩ <;> rw [cell_of_row _ _ _ _ _ _ h] <;> rfl
theorem TB.frz {W : World} {b : Nat} {c0 c1 c2 : Value} (h : TB W b c0 c1 c2) (i : Nat) : W.frozen? ⟨b, i, none⟩ = false := by
  unfold TB at h; simp [World.frozen?, h]
theorem TB.three {W : World} {b : Nat} {c0 c1 c2 : Value} (h : TB W b c0 c1 c2) (u0 u1 u2 : Value) : TB (((W.setCell ⟨b, 0, none⟩ u0).setCell ⟨b, 1, none⟩ u1).setCell ⟨b, 2, none⟩ u2) b u0 u1 u2 := by
  unfold TB at h ⊢; simp [World.setCell, Array.getElem?_modify, h]
theorem TB.kept {W W' : World} {b : Nat} {c0 c1 c2 : Value} (h : TB W b c0 c1 c2) (hb : W'.heap[b]? = W.heap[b]?) : TB W' b c0 c1 c2 := hb.trans h
theorem TB.lt {W : World} {b : Nat} {c0 c1 c2 : Value} (h : TB W b c0 c1 c2) : b < W.heap.size := by
  unfold TB at h
  rcases Nat.lt_or_ge b W.heap.size with h' | h'
  · exact h'
  · rw [Array.getElem?_eq_none h'] at h; cases h
theorem TB.stay {W W' : World} {b : Nat} {c0 c1 c2 : Value} (h : TB W b c0 c1 c2) (hb : Below W.heap.size W W') : TB W' b c0 c1 c2 := h.kept (hb.block b h.lt)
theorem Below.three {N b : Nat} {w w' : World} (h : Below N w w') (hb : N ≤ b) (u0 u1 u2 : Value) : Below N w (((w'.setCell ⟨b, 0, none⟩ u0).setCell ⟨b, 1, none⟩ u1).setCell ⟨b, 2, none⟩ u2) :=
  ((h.setCell (p := ⟨b, 0, none⟩) hb u0).setCell (p := ⟨b, 1, none⟩) hb u1).setCell (p := ⟨b, 2, none⟩) hb u2
abbrev tkV (k : Int) (t : ByteArray) (a : Int) : Value := .agg #[.int .i64 k, .string t, .int .i64 a]
def TokAns (o : Except Int (Int × List UInt8 × Nat)) (e : Ending) : Prop :=
  match o with
  | .ok (k, t, n) => e = .returned (.tuple #[tkV k ⟨t.toArray⟩ 0, .int .i64 n, .int .i64 0])
  | .error c => c ≠ 0 ∧ ∃ (k : Int) (t : ByteArray) (n : Int), e = .returned (.tuple #[tkV k t 0, .int .i64 n, .int .i64 c])
def TokPost (o : Except Int (Int × List UInt8 × Nat)) (w : World) (e : Ending) (w' : World) : Prop := TokAns o e ∧ Below w.heap.size w w'
def nameR (l : List UInt8) : Except Int (Int × List UInt8 × Nat) := if T1.nameL (l.take (wdN l)) = true then .ok (2, l.take (wdN l), wdN l) else .error 3
def intR (l : List UInt8) : Except Int (Int × List UInt8 × Nat) := if (T1.numL (l.take (wdN (l.drop 1) + 1))).2 = 0 then .ok (3, l.take (wdN (l.drop 1) + 1), wdN (l.drop 1) + 1) else .error (T1.numL (l.take (wdN (l.drop 1) + 1))).2
def textR (l : List UInt8) : Except Int (Int × List UInt8 × Nat) := if l.length < ltN (l.drop 1) + 2 then .error 3 else match T1.unquoteL (l.take (ltN (l.drop 1) + 2)) with
  | none => .error 3
  | some t => .ok (4, t, ltN (l.drop 1) + 2)
theorem ext_to (s : ByteArray) (n : Nat) : (s.extract 0 n).data.toList = s.data.toList.take n := by
  rw [ByteArray.data_extract, Array.toList_extract]; simp
theorem ext_to' (s : ByteArray) (n : Nat) : s.extract 0 n = ⟨(s.data.toList.take n).toArray⟩ := by
  rw [← ext_to]
set_option maxHeartbeats 2000000 in
theorem tkname_any (s : ByteArray) (hs : s.size ≤ maxLen) (w : World) :
    Calls Tryz.prog 84 #[.string s] w (TokPost (nameR s.data.toList) w) := by
  have HX : Hid (TB (w.alloc (.cells #[.int .i64 0, .string ⟨#[]⟩, .int .i64 0] 75 (0, 0))) w.heap.size (.int .i64 0) (.string ⟨#[]⟩) (.int .i64 0)) := Lib.hid (heap_alloc_new w _)
  have HB : Hid (Below w.heap.size w (w.alloc (.cells #[.int .i64 0, .string ⟨#[]⟩, .int .i64 0] 75 (0, 0)))) := Lib.hid ((Below.refl _ _).alloc (Nat.le_refl _) _)
  have hn := wdN_le s.data.toList
  have hsz := T1.size_eq s
  have hml : maxLen ≤ 9223372036854775807 := by decide
  go_enter Tryz.func84, Tryz.ntmps84
  go_wp2_with fail
  refine (word_any s hs _).mono ?_
  rintro e w1 ⟨rfl, hb⟩
  have HB1 := Lib.hid (HB.out.trans (hb.mono (by simp)))
  have HX1 := Lib.hid (HX.out.stay hb)
  clear hb
  have HE := Lib.hid (ext_to s (wdN s.data.toList))
  have HR : Hid (nameR s.data.toList = if T1.nameL (s.data.toList.take (wdN s.data.toList)) = true then .ok (2, s.data.toList.take (wdN s.data.toList), wdN s.data.toList) else .error 3) := Lib.hid rfl
  generalize nameR s.data.toList = R at *
  generalize hwn : wdN s.data.toList = n at *
  have hn2 : (n : Int) ≤ s.size := by omega
  have hes : (s.extract 0 n).size ≤ maxLen := by
    have h1 := T1.size_eq (s.extract 0 n)
    have h2 := congrArg List.length HE.out
    rw [List.length_take] at h2
    omega
  have CALL := Lib.hid (T1.name_any (s.extract 0 n) w1 hes)
  clear hes
  go_wp2_with fail
  refine CALL.out.mono ?_
  rintro e w2 ⟨rfl, rfl⟩
  rw [HE.out]
  obtain ⟨x0, x1, x2⟩ := HX1.out.cells
  have g0 := HX1.out.frz 0
  have g1 := HX1.out.frz 1
  have g2 := HX1.out.frz 2
  cases hc : T1.nameL (s.data.toList.take n) with
  | true =>
    have E1 : Hid (R = .ok (2, s.data.toList.take n, n)) := Lib.hid (by rw [HR.out, hc]; rfl)
    have ZZ := Lib.hid (HX1.out.three (.int .i64 2) (.string (s.extract 0 n)) (.int .i64 0)).cells
    go_wp2_with fail
    obtain ⟨z0, z1, z2⟩ := ZZ.out
    refine bodyPost_ret (v := .tuple #[tkV 2 (s.extract 0 n) 0, .int .i64 n, .int .i64 0]) (by simp [results, Tryz.results84, go_sem, z0, z1, z2]) rfl ⟨?_, Below.three HB1.out (Nat.le_refl _) _ _ _⟩
    rw [E1.out, ext_to']; rfl
  | false =>
    have E1 : Hid (R = .error 3) := Lib.hid (by rw [HR.out, hc]; rfl)
    have ZZ := Lib.hid (HX1.out.three (.int .i64 0) (.string ⟨#[]⟩) (.int .i64 0)).cells
    go_wp2_with fail
    obtain ⟨z0, z1, z2⟩ := ZZ.out
    refine bodyPost_ret (v := .tuple #[tkV 0 ⟨#[]⟩ 0, .int .i64 0, .int .i64 3]) (by simp [results, Tryz.results84, go_sem, z0, z1, z2]) rfl ⟨?_, Below.three HB1.out (Nat.le_refl _) _ _ _⟩
    rw [E1.out]
    exact ⟨by decide, _, _, _, rfl⟩
theorem ext_drop (s : ByteArray) (k : Nat) : (s.extract k s.size).data.toList = s.data.toList.drop k := T1.drop_of s k
set_option maxHeartbeats 2000000 in
theorem tkint_any (s : ByteArray) (h0 : 0 < s.size) (hs : s.size ≤ 281474976710656) (w : World) (hL : T1.Laid w) :
    Calls Tryz.prog 85 #[.string s] w (TokPost (intR s.data.toList) w) := by
  have HX : Hid (TB (w.alloc (.cells #[.int .i64 0, .string ⟨#[]⟩, .int .i64 0] 75 (0, 0))) w.heap.size (.int .i64 0) (.string ⟨#[]⟩) (.int .i64 0)) := Lib.hid (heap_alloc_new w _)
  have HB : Hid (Below w.heap.size w (w.alloc (.cells #[.int .i64 0, .string ⟨#[]⟩, .int .i64 0] 75 (0, 0)))) := Lib.hid ((Below.refl _ _).alloc (Nat.le_refl _) _)
  have hn := wdN_le (s.data.toList.drop 1)
  have hsz := T1.size_eq s
  rw [List.length_drop] at hn
  have HD := Lib.hid (ext_drop s 1)
  have HL := Lib.hid hL
  have HWS : Hid ((s.extract 1 s.size).size ≤ maxLen) := Lib.hid (by
    have h1 := T1.size_eq (s.extract 1 s.size)
    rw [HD.out, List.length_drop] at h1
    unfold maxLen; omega)
  have CALL1 := Lib.hid (word_any (s.extract 1 s.size) HWS.out (w.alloc (.cells #[.int .i64 0, .string ⟨#[]⟩, .int .i64 0] 75 (0, 0))))
  have h1s : (1 : Int) ≤ s.size := by omega
  clear hL
  go_enter Tryz.func85, Tryz.ntmps85
  go_wp2_with fail
  refine CALL1.out.mono ?_
  rintro e w1 ⟨rfl, hb⟩
  rw [HD.out]
  have HB1 := Lib.hid (HB.out.trans (hb.mono (by simp)))
  have HX1 := Lib.hid (HX.out.stay hb)
  clear hb CALL1
  have HE := Lib.hid (ext_to s (wdN (s.data.toList.drop 1) + 1))
  have HR : Hid (intR s.data.toList = if (T1.numL (s.data.toList.take (wdN (s.data.toList.drop 1) + 1))).2 = 0 then .ok (3, s.data.toList.take (wdN (s.data.toList.drop 1) + 1), wdN (s.data.toList.drop 1) + 1) else .error (T1.numL (s.data.toList.take (wdN (s.data.toList.drop 1) + 1))).2) := Lib.hid rfl
  generalize intR s.data.toList = R at *
  generalize hwn : wdN (s.data.toList.drop 1) = m at *
  have hn2 : (m : Int) + 1 ≤ s.size := by omega
  have hn3 : (1 : Int) + m ≤ s.size := by omega
  have hn4 : (0 : Int) ≤ 1 + (m : Int) := by omega
  have hn5 : ((1 : Int) + m).toNat = m + 1 := by omega
  have hes : (s.extract 0 (m + 1)).size ≤ 281474976710656 := by
    have h1 := T1.size_eq (s.extract 0 (m + 1))
    have h2 := congrArg List.length HE.out
    rw [List.length_take] at h2
    omega
  have CALL := Lib.hid (T1.number_any (s.extract 0 (m + 1)) w1 (HL.out.below HB1.out) hes)
  clear hes
  go_wp2_with fail
  refine CALL.out.mono ?_
  rintro e w2 ⟨rfl, hb⟩
  rw [HE.out]
  have HB2 := Lib.hid (HB1.out.trans (hb.mono HB1.out.size))
  have HX2 := Lib.hid (HX1.out.stay hb)
  obtain ⟨x0, x1, x2⟩ := HX2.out.cells
  have g0 := HX2.out.frz 0
  have g1 := HX2.out.frz 1
  have g2 := HX2.out.frz 2
  clear hb CALL
  generalize T1.numL (s.data.toList.take (m + 1)) = p at *
  obtain ⟨v, c⟩ := p
  have ZZ := Lib.hid (HX2.out.three (.int .i64 3) (.string (s.extract 0 (m + 1))) (.int .i64 0)).cells
  unfold T1.num2
  go_wp2_with fail
  obtain ⟨z0, z1, z2⟩ := ZZ.out
  have e1 : (1 + (m : Int)) = ((m + 1 : Nat) : Int) := by omega
  refine bodyPost_ret (v := .tuple #[tkV 3 (s.extract 0 (m + 1)) 0, .int .i64 (1 + (m : Int)), .int .i64 c]) (by simp [results, Tryz.results85, go_sem, z0, z1, z2]) rfl ⟨?_, Below.three HB2.out (Nat.le_refl _) _ _ _⟩
  by_cases hc : c = 0
  · subst hc
    rw [HR.out, ext_to', e1]; rfl
  · rw [HR.out, if_neg hc]
    exact ⟨hc, _, _, _, rfl⟩
set_option maxHeartbeats 2000000 in
theorem tktext_any (s : ByteArray) (h0 : 0 < s.size) (hs : s.size ≤ 137438953472) (w : World) :
    Calls Tryz.prog 86 #[.string s] w (TokPost (textR s.data.toList) w) := by
  have HX0 : TB (w.alloc (.cells #[.int .i64 0, .string ⟨#[]⟩, .int .i64 0] 75 (0, 0))) w.heap.size (.int .i64 0) (.string ⟨#[]⟩) (.int .i64 0) := heap_alloc_new w _
  have HB0 : Below w.heap.size w (w.alloc (.cells #[.int .i64 0, .string ⟨#[]⟩, .int .i64 0] 75 (0, 0))) := (Below.refl _ _).alloc (Nat.le_refl _) _
  have hsz1 : (w.alloc (.cells #[.int .i64 0, .string ⟨#[]⟩, .int .i64 0] 75 (0, 0))).heap.size = w.heap.size + 1 := by simp
  have HV : Hid (BoxB (w.heap.size + 1) false ((w.alloc (.cells #[.int .i64 0, .string ⟨#[]⟩, .int .i64 0] 75 (0, 0))).alloc (.cells #[.bool false] 4 (0, 0)))) := Lib.hid (hsz1 ▸ heap_alloc_new (w.alloc (.cells #[.int .i64 0, .string ⟨#[]⟩, .int .i64 0] 75 (0, 0))) _)
  have HB1 : Below w.heap.size w ((w.alloc (.cells #[.int .i64 0, .string ⟨#[]⟩, .int .i64 0] 75 (0, 0))).alloc (.cells #[.bool false] 4 (0, 0))) := HB0.alloc (by omega) _
  have HX1 : TB ((w.alloc (.cells #[.int .i64 0, .string ⟨#[]⟩, .int .i64 0] 75 (0, 0))).alloc (.cells #[.bool false] 4 (0, 0))) w.heap.size (.int .i64 0) (.string ⟨#[]⟩) (.int .i64 0) := HX0.stay ((Below.refl _ _).alloc (Nat.le_refl _) _)
  have hsz2 : ((w.alloc (.cells #[.int .i64 0, .string ⟨#[]⟩, .int .i64 0] 75 (0, 0))).alloc (.cells #[.bool false] 4 (0, 0))).heap.size = w.heap.size + 2 := by simp
  have HB := Lib.hid HB1
  have HX := Lib.hid HX1
  have HZ2 := Lib.hid hsz2
  have hn := ltN_le (s.data.toList.drop 1)
  have hsz := T1.size_eq s
  rw [List.length_drop] at hn
  have HD := Lib.hid (ext_drop s 1)
  have HWS : Hid ((s.extract 1 s.size).size ≤ maxLen) := Lib.hid (by
    have h1 := T1.size_eq (s.extract 1 s.size)
    rw [HD.out, List.length_drop] at h1
    unfold maxLen; omega)
  have CALL1 := Lib.hid (span_any (Inv := BoxB (w.heap.size + 1)) (p := w.heap.size + 1) 104 (.inr (.inr rfl)) #[pp (w.heap.size + 1)] lt_high ltHi_idem (fun st r w' h hr _ => lit1_any _ st r w' h hr) (fun st a b h e => h.kept a b e) (s.extract 1 s.size) HWS.out false _ HV.out (by omega))
  have h1s : (1 : Int) ≤ s.size := by omega
  clear HX0 HB0 hsz1 HB1 HX1 hsz2
  go_enter Tryz.func86, Tryz.ntmps86
  go_wp2_with fail
  refine CALL1.out.mono ?_
  rintro e w1 ⟨rfl, hb⟩
  rw [HD.out]
  have HB2 := Lib.hid (HB.out.trans (hb.below (by omega) (by have := HZ2.out; omega)))
  have HX2 : Hid (TB w1 w.heap.size (.int .i64 0) (.string ⟨#[]⟩) (.int .i64 0)) := Lib.hid (HX.out.kept (hb.block _ (by have := HZ2.out; omega) (by omega)))
  clear hb CALL1
  have HE := Lib.hid (ext_to s (ltN (s.data.toList.drop 1) + 2))
  have HR : Hid (textR s.data.toList = if s.data.toList.length < ltN (s.data.toList.drop 1) + 2 then .error 3 else match T1.unquoteL (s.data.toList.take (ltN (s.data.toList.drop 1) + 2)) with
    | none => .error 3
    | some t => .ok (4, t, ltN (s.data.toList.drop 1) + 2)) := Lib.hid rfl
  generalize textR s.data.toList = R at *
  have hln : spanL ltS false (s.data.toList.drop 1) = ltN (s.data.toList.drop 1) := rfl
  rw [hln]
  generalize hwn : ltN (s.data.toList.drop 1) = m at *
  obtain ⟨x0, x1, x2⟩ := HX2.out.cells
  have g0 := HX2.out.frz 0
  have g1 := HX2.out.frz 1
  have g2 := HX2.out.frz 2
  by_cases hlt : s.size < m + 2
  · have E1 : Hid (R = .error 3) := Lib.hid (by rw [HR.out, if_pos (by omega)])
    have hgt : ((m : Int) + 2 > s.size) := by omega
    have ZZ := Lib.hid (HX2.out.three (.int .i64 0) (.string ⟨#[]⟩) (.int .i64 0)).cells
    clear HR hln
    go_wp2_with fail
    obtain ⟨z0, z1, z2⟩ := ZZ.out
    refine bodyPost_ret (v := .tuple #[tkV 0 ⟨#[]⟩ 0, .int .i64 0, .int .i64 3]) (by simp [results, Tryz.results86, go_sem, z0, z1, z2]) rfl ⟨?_, Below.three HB2.out (Nat.le_refl _) _ _ _⟩
    rw [E1.out]
    exact ⟨by decide, _, _, _, rfl⟩
  · have hgt : ¬ ((m : Int) + 2 > s.size) := by omega
    have hle : ((m : Int) + 2 ≤ s.size) := by omega
    have E1 : Hid (R = match T1.unquoteL (s.data.toList.take (m + 2)) with | none => .error 3 | some t => .ok (4, t, m + 2)) := Lib.hid (by rw [HR.out, if_neg (by omega)])
    have hes : (s.extract 0 (m + 2)).size ≤ 137438953472 := by
      have h1 := T1.size_eq (s.extract 0 (m + 2))
      have h2 := congrArg List.length HE.out
      rw [List.length_take] at h2
      omega
    have CALL := Lib.hid (T1.unquote_any (s.extract 0 (m + 2)) w1 hes)
    clear hes HR hln hlt x0 x1 x2 g0 g1 g2
    go_wp2_with fail
    refine CALL.out.mono ?_
    rintro e w2 ⟨rfl, hb⟩
    rw [HE.out]
    have HB3 := Lib.hid (HB2.out.trans (hb.mono HB2.out.size))
    have HX3 := Lib.hid (HX2.out.stay hb)
    obtain ⟨x0, x1, x2⟩ := HX3.out.cells
    have g0 := HX3.out.frz 0
    have g1 := HX3.out.frz 1
    have g2 := HX3.out.frz 2
    clear hb CALL
    have e1 : ((m : Int) + 2) = ((m + 2 : Nat) : Int) := by omega
    cases hu : T1.unquoteL (s.data.toList.take (m + 2)) with
    | none =>
      have E2 : Hid (R = .error 3) := Lib.hid (by rw [E1.out, hu])
      have ZZ := Lib.hid (HX3.out.three (.int .i64 4) (.string ⟨#[]⟩) (.int .i64 0)).cells
      clear hu e1
      unfold T1.uq2
      go_wp2_with fail
      obtain ⟨z0, z1, z2⟩ := ZZ.out
      refine bodyPost_ret (v := .tuple #[tkV 4 ⟨#[]⟩ 0, .int .i64 (m + 2), .int .i64 3]) (by simp [results, Tryz.results86, go_sem, z0, z1, z2]) rfl ⟨?_, Below.three HB3.out (Nat.le_refl _) _ _ _⟩
      rw [E2.out]
      exact ⟨by decide, _, _, _, rfl⟩
    | some t =>
      have E2 : Hid (R = .ok (4, t, m + 2)) := Lib.hid (by rw [E1.out, hu])
      have ZZ := Lib.hid (HX3.out.three (.int .i64 4) (.string ⟨t.toArray⟩) (.int .i64 0)).cells
      have EE := Lib.hid e1
      clear hu e1
      unfold T1.uq2
      go_wp2_with fail
      obtain ⟨z0, z1, z2⟩ := ZZ.out
      refine bodyPost_ret (v := .tuple #[tkV 4 ⟨t.toArray⟩ 0, .int .i64 (m + 2), .int .i64 0]) (by simp [results, Tryz.results86, go_sem, z0, z1, z2]) rfl ⟨?_, Below.three HB3.out (Nat.le_refl _) _ _ _⟩
      rw [E2.out, EE.out]
      rfl
end Go.Proofs.YtgicbmibhnnflaaGreatDoor
