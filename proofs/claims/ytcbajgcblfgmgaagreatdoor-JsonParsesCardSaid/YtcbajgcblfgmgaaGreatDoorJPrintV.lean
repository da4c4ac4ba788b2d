
/-
  Print: a value; Print.
-/
import Derived.Test.YtcbajgcblfgmgaaGreatDoorJPrintO
import Derived.Lib.ItoaLen
namespace Go.Proofs.YtcbajgcblfgmgaaGreatDoor
open Go.RowKit
theorem bw_eq (k n : Int) (s : ByteArray) (items : List VT) (keys : List ByteArray) : (VT.mk k n s items keys).bw = 1 + s.size + ksum keys + VT.bws items := by
  rw [VT.bw]; rfl
theorem k_ne {k m : Int} (h : k ≠ m) : (k == m) = false := by simp [h]
set_option maxRecDepth 100000 in
set_option maxHeartbeats 8000000 in
theorem pr_any (t : VT) : PrAt t := by
  induction t using VT.ind with
  | h k n s items keys ih =>
  intro B b l w v h hd hL hl hB
  cases h with
  | @mk _ _ _ A li ci K lk ck _ _ V hk hn hs hks hli hlk hbi hbk hA hr hK =>
  rw [bw_eq] at hl ⊢
  have bz : Below w.heap.size w (w.alloc (.cells #[.int .i64 k, .int .i64 n, .string s, .slice A li ci, .slice K lk ck] 26 (0, 0))) := (Below.refl _ _).alloc (Nat.le_refl _) _
  have HD1 := Lib.hid (hd.kept bz)
  have HB1 := Lib.hid (bz.mono hB)
  have HL1 := Lib.hid (hL.kept HB1.out)
  have Y1 := Lib.hid (Box.new w (.int .i64 k) (.int .i64 n) (.string s) (.slice A li ci) (.slice K lk ck))
  have HA := Lib.hid hA
  have HR := Lib.hid hr
  have HK := Lib.hid hK
  have HLI := Lib.hid hli
  have HLK := Lib.hid hlk
  have IH := Lib.hid ih
  have hTX := (rfl : VT.txt (.mk k n s items keys) = _)
  rw [VT.txt] at hTX
  have HTX0 := Lib.hid hTX
  generalize hRR : VT.txt (.mk k n s items keys) = RR at *
  have HRR := Lib.hid hRR
  clear hTX hRR bz hd hL hA hr hK hli hlk ih hks
  by_cases hk0 : k = 0
  · subst hk0
    have HTX : Hid (RR = some nullB) := Lib.hid (by rw [← HRR.out, VT.txt]; rfl)
    clear HTX0 HRR hk
    obtain ⟨x0, x1, x2, x3, x4⟩ := Y1.out.cells
    go_enter Tryz.func14, Tryz.ntmps14
    go_wp2_with fail
    clear x0 x1 x2 x3 x4
    refine (writeString_any B b l ⟨#[110, 117, 108, 108]⟩ (w.alloc (.cells #[.int .i64 0, .int .i64 n, .string s, .slice A li ci, .slice K lk ck] 26 (0, 0))) HD1.out (by show _ + 4 ≤ _; omega) (by have := HB1.out.size; omega)).mono ?_
    rintro e w7 ⟨rfl, hd7, hb7, _⟩
    have HD7 := Lib.hid hd7
    have HB7 := Lib.hid (HB1.out.trans hb7)
    clear hd7 hb7
    go_wp2_with fail
    go_ret
    exact ⟨by rw [HTX.out]; rfl, HB7.out, fun y hy => by rw [HTX.out] at hy; cases hy; exact ⟨HD7.out, by show 4 + 1 ≤ _; omega⟩⟩
  by_cases hk1 : k = 1
  · subst hk1
    by_cases hn0 : n = 0
    · subst hn0
      have HTX : Hid (RR = some falseB) := Lib.hid (by rw [← HRR.out, VT.txt]; rfl)
      clear HTX0 HRR hk
      obtain ⟨x0, x1, x2, x3, x4⟩ := Y1.out.cells
      go_enter Tryz.func14, Tryz.ntmps14
      go_wp2_with fail
      refine (Tryz.strconv_FormatBool _ _).mono ?_
      rintro e w6 ⟨rfl, rfl⟩
      go_wp2_with fail
      clear x0 x1 x2 x3 x4
      refine (writeString_any B b l ⟨(Lib.formatBool false).toArray⟩ (w.alloc (.cells #[.int .i64 1, .int .i64 0, .string s, .slice A li ci, .slice K lk ck] 26 (0, 0))) HD1.out (by show _ + 5 ≤ _; omega) (by have := HB1.out.size; omega)).mono ?_
      rintro e w7 ⟨rfl, hd7, hb7, _⟩
      have HD7 := Lib.hid hd7
      have HB7 := Lib.hid (HB1.out.trans hb7)
      clear hd7 hb7
      go_wp2_with fail
      go_ret
      exact ⟨by rw [HTX.out]; rfl, HB7.out, fun y hy => by rw [HTX.out] at hy; cases hy; exact ⟨HD7.out, by show 5 + 1 ≤ _; omega⟩⟩
    · have hn0' : (n != 0) = true := by simp [hn0]
      have HTX : Hid (RR = some trueB) := Lib.hid (by rw [← HRR.out, VT.txt]; simp [hn0])
      clear HTX0 HRR hk hn0
      obtain ⟨x0, x1, x2, x3, x4⟩ := Y1.out.cells
      go_enter Tryz.func14, Tryz.ntmps14
      go_wp2_with fail
      refine (Tryz.strconv_FormatBool _ _).mono ?_
      rintro e w6 ⟨rfl, rfl⟩
      go_wp2_with fail
      clear x0 x1 x2 x3 x4
      refine (writeString_any B b l ⟨(Lib.formatBool true).toArray⟩ (w.alloc (.cells #[.int .i64 1, .int .i64 n, .string s, .slice A li ci, .slice K lk ck] 26 (0, 0))) HD1.out (by show _ + 4 ≤ _; omega) (by have := HB1.out.size; omega)).mono ?_
      rintro e w7 ⟨rfl, hd7, hb7, _⟩
      have HD7 := Lib.hid hd7
      have HB7 := Lib.hid (HB1.out.trans hb7)
      clear hd7 hb7
      go_wp2_with fail
      go_ret
      exact ⟨by rw [HTX.out]; rfl, HB7.out, fun y hy => by rw [HTX.out] at hy; cases hy; exact ⟨HD7.out, by show 4 + 1 ≤ _; omega⟩⟩
  by_cases hk2 : k = 2
  · subst hk2
    have HTX : Hid (RR = some (Lib.itoa n)) := Lib.hid (by rw [← HRR.out, VT.txt]; rfl)
    have hlen := Lib.itoa_length_le n hn.1 hn.2
    clear HTX0 HRR hk
    obtain ⟨x0, x1, x2, x3, x4⟩ := Y1.out.cells
    go_enter Tryz.func14, Tryz.ntmps14
    go_wp2_with fail
    refine (T1.decimal_any n _ HL1.out.is hn.1 hn.2).mono ?_
    rintro e w6 ⟨rfl, hb6⟩
    have HD6 := Lib.hid (HD1.out.kept hb6)
    have HB6 := Lib.hid (HB1.out.trans (hb6.mono (by have := HB1.out.size; omega)))
    clear hb6 x0 x1 x2 x3 x4
    go_wp2_with fail
    refine (writeString_any B b l ⟨(Lib.itoa n).toArray⟩ w6 HD6.out (by rw [← T1.size_eq]; show _ + (Lib.itoa n).length ≤ _; omega) (by have := HB6.out.size; omega)).mono ?_
    rintro e w7 ⟨rfl, hd7, hb7, _⟩
    have HD7 := Lib.hid hd7
    have HB7 := Lib.hid (HB6.out.trans hb7)
    clear hd7 hb7
    go_wp2_with fail
    go_ret
    exact ⟨by rw [HTX.out]; rfl, HB7.out, fun y hy => by rw [HTX.out] at hy; cases hy; exact ⟨HD7.out, by omega⟩⟩
  by_cases hk3 : k = 3
  · subst hk3
    have HTX : Hid (RR = some (qL s)) := Lib.hid (by rw [← HRR.out, VT.txt]; rfl)
    have hlen := qL_len s
    clear HTX0 HRR hk
    obtain ⟨x0, x1, x2, x3, x4⟩ := Y1.out.cells
    go_enter Tryz.func14, Tryz.ntmps14
    go_wp2_with fail
    refine (T1.quote_any s _ (by omega)).mono ?_
    rintro e w6 ⟨rfl, hb6⟩
    have HD6 := Lib.hid (HD1.out.kept hb6)
    have HB6 := Lib.hid (HB1.out.trans (hb6.mono (by have := HB1.out.size; omega)))
    clear hb6 x0 x1 x2 x3 x4
    go_wp2_with fail
    refine (writeString_any B b l ⟨(T1.quoteL s.data.toList).toArray⟩ w6 HD6.out (by rw [← T1.size_eq]; show _ + (qL s).length ≤ _; omega) (by have := HB6.out.size; omega)).mono ?_
    rintro e w7 ⟨rfl, hd7, hb7, _⟩
    have HD7 := Lib.hid hd7
    have HB7 := Lib.hid (HB6.out.trans hb7)
    clear hd7 hb7
    go_wp2_with fail
    go_ret
    exact ⟨by rw [HTX.out]; rfl, HB7.out, fun y hy => by rw [HTX.out] at hy; cases hy; exact ⟨HD7.out, by omega⟩⟩
  by_cases hk4 : k = 4
  · subst hk4
    have HTX : Hid (RR = some (qL s)) := Lib.hid (by rw [← HRR.out, VT.txt]; rfl)
    have hlen := qL_len s
    clear HTX0 HRR hk
    obtain ⟨x0, x1, x2, x3, x4⟩ := Y1.out.cells
    go_enter Tryz.func14, Tryz.ntmps14
    go_wp2_with fail
    refine (T1.quote_any s _ (by omega)).mono ?_
    rintro e w6 ⟨rfl, hb6⟩
    have HD6 := Lib.hid (HD1.out.kept hb6)
    have HB6 := Lib.hid (HB1.out.trans (hb6.mono (by have := HB1.out.size; omega)))
    clear hb6 x0 x1 x2 x3 x4
    go_wp2_with fail
    refine (writeString_any B b l ⟨(T1.quoteL s.data.toList).toArray⟩ w6 HD6.out (by rw [← T1.size_eq]; show _ + (qL s).length ≤ _; omega) (by have := HB6.out.size; omega)).mono ?_
    rintro e w7 ⟨rfl, hd7, hb7, _⟩
    have HD7 := Lib.hid hd7
    have HB7 := Lib.hid (HB6.out.trans hb7)
    clear hd7 hb7
    go_wp2_with fail
    go_ret
    exact ⟨by rw [HTX.out]; rfl, HB7.out, fun y hy => by rw [HTX.out] at hy; cases hy; exact ⟨HD7.out, by omega⟩⟩
  by_cases hk5 : k = 5
  · subst hk5
    have HTX : Hid (RR = (VT.txtL items true).map (fun l => 91 :: l ++ [93])) := Lib.hid (by rw [← HRR.out, VT.txt]; rfl)
    clear HTX0 HRR hk
    have CALL := Lib.hid (printList_any items IH.out A li ci V B b l _ HLI.out hbi (fun h => by obtain ⟨a, e, ha, hc⟩ := HA.out h; exact ⟨a, e, ha, fun i hi => (hc i hi).kept (by rw [add_block]; exact ha) HB1.out⟩) (fun i t ht => (HR.out i t ht).kept HB1.out) (by have := HB1.out.size; omega) HD1.out HL1.out (by omega))
    obtain ⟨x0, x1, x2, x3, x4⟩ := Y1.out.cells
    go_enter Tryz.func14, Tryz.ntmps14
    go_wp2_with fail
    refine CALL.out.mono ?_
    rintro e w6 ⟨rfl, hb6, hp6⟩
    have HB6 := Lib.hid (HB1.out.trans hb6)
    have HP6 := Lib.hid hp6
    clear hb6 hp6 x0 x1 x2 x3 x4 CALL
    rw [← HTX.out] at HP6 ⊢
    go_wp2_with fail
    go_ret
    exact ⟨rfl, HB6.out, fun y hy => ⟨(HP6.out y hy).1, by have := (HP6.out y hy).2; omega⟩⟩
  by_cases hk6 : k = 6
  · subst hk6
    have HTX : Hid (RR = if keys.length = items.length then (VT.txtO items keys true).map (fun l => 123 :: l ++ [125]) else none) := Lib.hid (by rw [← HRR.out, VT.txt]; rfl)
    clear HTX0 HRR hk
    have CALL := Lib.hid (printObject_any items keys IH.out A li ci K lk ck V B b l _ HLI.out hbi HLK.out hbk (HK.out.kept HB1.out) (fun h => by obtain ⟨a, e, ha, hc⟩ := HA.out h; exact ⟨a, e, ha, fun i hi => (hc i hi).kept (by rw [add_block]; exact ha) HB1.out⟩) (fun i t ht => (HR.out i t ht).kept HB1.out) (by have := HB1.out.size; omega) HD1.out HL1.out (by omega))
    obtain ⟨x0, x1, x2, x3, x4⟩ := Y1.out.cells
    go_enter Tryz.func14, Tryz.ntmps14
    go_wp2_with fail
    refine CALL.out.mono ?_
    rintro e w6 ⟨rfl, hb6, hp6⟩
    have HB6 := Lib.hid (HB1.out.trans hb6)
    have HP6 := Lib.hid hp6
    clear hb6 hp6 x0 x1 x2 x3 x4 CALL
    rw [← HTX.out] at HP6 ⊢
    go_wp2_with fail
    go_ret
    exact ⟨rfl, HB6.out, fun y hy => ⟨(HP6.out y hy).1, by have := (HP6.out y hy).2; omega⟩⟩
  have HTX : Hid (RR = none) := Lib.hid (by rw [← HRR.out, VT.txt]; simp [hk0, hk1, hk2, hk3, hk4, hk5, hk6])
  have b0 := k_ne hk0
  have b1 := k_ne hk1
  have b2 := k_ne hk2
  have b3 := k_ne hk3
  have b4 := k_ne hk4
  have b5 := k_ne hk5
  have b6 := k_ne hk6
  clear HTX0 HRR hk0 hk1 hk2 hk3 hk4 hk5 hk6
  obtain ⟨x0, x1, x2, x3, x4⟩ := Y1.out.cells
  go_enter Tryz.func14, Tryz.ntmps14
  go_wp2_with fail
  go_ret
  exact ⟨by rw [HTX.out]; rfl, HB1.out, fun y hy => by rw [HTX.out] at hy; cases hy⟩
def PrintPost (w : World) (r : Option (List UInt8)) (e : Ending) (w' : World) : Prop :=
  e = .returned (match r with | some a => .tuple #[.string ⟨a.toArray⟩, .int .i64 0] | none => .tuple #[.string ⟨#[]⟩, .int .i64 9]) ∧ Below w.heap.size w w'
theorem BD.fresh (w : World) : BD w.heap.size w.heap.size [] (w.alloc (.cells #[.pointer none, .slice none 0 0] 47 (0, 0))) :=
  .inl ⟨Nat.le_refl _, .slice none 0 0, heap_alloc_new _ _, ⟨rfl, .inl ⟨rfl, rfl⟩⟩, fun e => by cases e⟩
set_option maxRecDepth 100000 in
set_option maxHeartbeats 2000000 in
theorem print_any (t : VT) (w : World) (v : Value) (h : Rd w w.heap.size v t) (hL : T1.Laid w) (hl : 30 * t.bw ≤ 1099511627776) :
    Calls Tryz.prog 8 #[v] w (PrintPost w t.txt) := by
  have HRD := Lib.hid h
  obtain ⟨k, n, s, A, li, ci, K, lk, ck, rfl⟩ := h.shape
  have b1 : Below w.heap.size w (w.alloc (.cells #[.int .i64 k, .int .i64 n, .string s, .slice A li ci, .slice K lk ck] 26 (0, 0))) := (Below.refl _ _).alloc (Nat.le_refl _) _
  have b2 : Below w.heap.size w ((w.alloc (.cells #[.int .i64 k, .int .i64 n, .string s, .slice A li ci, .slice K lk ck] 26 (0, 0))).alloc (.cells #[.pointer none, .slice none 0 0] 47 (0, 0))) := b1.alloc (by simp) _
  have Y2 := Lib.hid ((Box.new w (.int .i64 k) (.int .i64 n) (.string s) (.slice A li ci) (.slice K lk ck)).alloc (.cells #[.pointer none, .slice none 0 0] 47 (0, 0)))
  have hD := BD.fresh (w.alloc (.cells #[.int .i64 k, .int .i64 n, .string s, .slice A li ci, .slice K lk ck] 26 (0, 0)))
  have hsz1 : (w.alloc (.cells #[.int .i64 k, .int .i64 n, .string s, .slice A li ci, .slice K lk ck] 26 (0, 0))).heap.size = w.heap.size + 1 := by simp
  rw [hsz1] at hD
  have hL2 : LaidB (w.heap.size + 1) ((w.alloc (.cells #[.int .i64 k, .int .i64 n, .string s, .slice A li ci, .slice K lk ck] 26 (0, 0))).alloc (.cells #[.pointer none, .slice none 0 0] 47 (0, 0))) := fun w' hb => hL.below (b2.trans (hb.mono (by omega)))
  have CALL := Lib.hid (pr_any t (w.heap.size + 1) (w.heap.size + 1) [] _ _ ((HRD.out.kept b2).mono (by omega)) hD hL2 (by simpa using hl) (by simp))
  have HB2 := Lib.hid b2
  clear h hL hL2 hD b1 b2 hsz1
  obtain ⟨x0, x1, x2, x3, x4⟩ := Y2.out.cells
  go_enter Tryz.func8, Tryz.ntmps8
  go_wp2_with fail
  refine CALL.out.mono ?_
  rintro e w6 ⟨rfl, hb6, hp6⟩
  have HB6 := Lib.hid (HB2.out.trans (hb6.mono (by omega)))
  have HP6 := Lib.hid hp6
  have hs6 := hb6.size
  have hs2 := HB2.out.size
  clear hb6 hp6 x0 x1 x2 x3 x4 CALL
  cases hx : t.txt with
  | none =>
    go_wp2_with fail
    go_ret2
    exact ⟨by rw [hx]; rfl, HB6.out⟩
  | some a =>
    obtain ⟨hd7, _⟩ := HP6.out a hx
    have HD7 := Lib.hid hd7
    clear hd7
    go_wp2_with fail
    refine (Tryz.Builder_String_any_f _ _ _ w6 HD7.out (by have h9 := HB2.out.size; simp at hs6; omega)).mono ?_
    rintro e w7 ⟨rfl, _, hb7⟩
    have HB7 := Lib.hid (HB6.out.trans (hb7.mono (by omega)))
    clear hb7
    go_wp2_with fail
    go_ret2
    exact ⟨by rw [hx]; simp, HB7.out⟩
end Go.Proofs.YtcbajgcblfgmgaaGreatDoor
