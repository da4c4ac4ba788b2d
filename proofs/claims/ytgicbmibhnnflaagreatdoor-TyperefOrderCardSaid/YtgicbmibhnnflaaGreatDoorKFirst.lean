
/-
  The token that a text begins with, whichever it is.
-/
import Derived.Test.YtgicbmibhnnflaaGreatDoorKTok
namespace Go.Proofs.YtgicbmibhnnflaaGreatDoor
open Go.RowKit
/- A character in block p. -/
def RB (p : Nat) (r : Int) (w : World) : Prop := w.heap[p]? = some (.cells #[.int .i32 r] 21 (0, 0))
theorem RB.cell {p : Nat} {r : Int} {w : World} (h : RB p r w) : w.cell? ⟨p, 0, none⟩ = some (.int .i32 r) ∧ w.frozen? ⟨p, 0, none⟩ = false := by
  unfold RB at h
  exact ⟨by rw [cell_of_row _ _ _ _ _ _ h]; rfl, by simp [World.frozen?, h]⟩
theorem RB.stay {p : Nat} {r : Int} {w w' : World} (h : RB p r w) (hb : Below w.heap.size w w') : RB p r w' := by
  unfold RB at *
  have : p < w.heap.size := by
    rcases Nat.lt_or_ge p w.heap.size with h' | h'
    · exact h'
    · rw [Array.getElem?_eq_none h'] at h; cases h
  exact (hb.block p this).trans h
set_option maxHeartbeats 2000000 in
theorem isin_any (p : Nat) (r : Nat) (hr : r < 128 ∨ Utf8.valid r = true) (set : ByteArray) (hset : AscSet set) (w : World) (h : RB p r w) :
    Calls Tryz.prog 82 #[.string set, pp p] w fun e w' => e = .returned (.bool (decide (r < 128 ∧ r.toUInt8 ∈ set.data.toList))) ∧ Below w.heap.size w w' := by
  have CALL := Lib.hid (contains_any set hset r hr w)
  obtain ⟨q0, f0⟩ := h.cell
  clear h
  generalize decide (r < 128 ∧ r.toUInt8 ∈ set.data.toList) = b at *
  go_enter Tryz.func82, Tryz.ntmps82
  go_wp2_with fail
  refine CALL.out.mono ?_
  rintro e w1 ⟨rfl, hb⟩
  have HB := Lib.hid hb
  clear hb
  go_wp2_with fail
  go_ret
  exact ⟨rfl, HB.out⟩
def sgS : ByteArray := ⟨#[33, 36, 38, 40, 41, 58, 61, 64, 91, 93, 123, 124, 125]⟩
def leS : ByteArray := ⟨#[65, 66, 67, 68, 69, 70, 71, 72, 73, 74, 75, 76, 77, 78, 79, 80, 81, 82, 83, 84, 85, 86, 87, 88, 89, 90, 97, 98, 99, 100, 101, 102, 103, 104, 105, 106, 107, 108, 109, 110, 111, 112, 113, 114, 115, 116, 117, 118, 119, 120, 121, 122, 95]⟩
def dmS : ByteArray := ⟨#[45, 48, 49, 50, 51, 52, 53, 54, 55, 56, 57]⟩
theorem sgS_set : AscSet sgS := ⟨by decide +kernel, by decide, by decide⟩
theorem leS_set : AscSet leS := ⟨by decide +kernel, by decide, by decide⟩
theorem dmS_set : AscSet dmS := ⟨by decide +kernel, by decide, by decide⟩
theorem sgS_is : ∀ c : UInt8, decide (c ∈ sgS.data.toList) = decide (c ∈ sgL) := fun _ => rfl
theorem leS_is : ∀ c : UInt8, decide (c ∈ leS.data.toList) = T1.letU (c.toNat : Int) := all_u8 (by decide +kernel)
theorem dmS_is : ∀ c : UInt8, decide (c ∈ dmS.data.toList) = dmB c := all_u8 (by decide +kernel)
/- The first character of a string and its first byte. -/
theorem first_rune (s : ByteArray) (h : 0 < s.size) : ∃ r k : Nat, Lib.decodeGo s = (r, k) ∧ (r < 128 ∨ Utf8.valid r = true) ∧ (∀ set, AscSet set → decide (r < 128 ∧ r.toUInt8 ∈ set.data.toList) = decide (s[0] ∈ set.data.toList)) ∧ ((r : Int) == 34) = decide (s[0] = 34) := by
  have hd : Lib.decodeGo s = Utf8.decode s 0 := by unfold Lib.decodeGo; rw [if_neg (by omega)]
  refine ⟨(Utf8.decode s 0).1, (Utf8.decode s 0).2, hd, decode_ok s 0 h, ?_, ?_⟩
  · intro set hs
    apply decide_eq_decide.2
    rcases Nat.lt_or_ge (s[0]).toNat 128 with ha | ha
    · rw [decode_ascii s 0 h ha]
      have e : ((s[0]).toNat).toUInt8 = s[0] := by rw [Nat.toUInt8_eq, UInt8.ofNat_toNat]
      show (s[0]).toNat < 128 ∧ ((s[0]).toNat).toUInt8 ∈ _ ↔ _
      rw [e]
      exact ⟨fun x => x.2, fun x => ⟨ha, x⟩⟩
    · have := (decode_high s 0 h ha).1
      exact ⟨fun x => by omega, fun x => by have := hs.asc _ x; omega⟩
  · rcases Nat.lt_or_ge (s[0]).toNat 128 with ha | ha
    · rw [decode_ascii s 0 h ha]
      show (((s[0]).toNat : Int) == 34) = _
      by_cases hc : s[0] = 34
      · rw [hc]; rfl
      · rw [decide_eq_false hc]
        exact beq_false_of_ne (fun e => hc (UInt8.toNat_inj.1 (by
          have e : ((s[0]).toNat : Int) = 34 := e
          show (s[0]).toNat = 34
          omega)))
    · have h1 := (decode_high s 0 h ha).1
      have hc : ¬ s[0] = 34 := by
        intro e
        rw [e] at ha
        revert ha; decide
      rw [decide_eq_false hc]
      exact beq_false_of_ne (by omega)
theorem tokR_eq (s : ByteArray) (h : 0 < s.size) : tokR s.data.toList = if s[0] ∈ sgL then .ok (1, s.data.toList.take 1, 1) else if s.data.toList.take 3 = elL then .ok (1, elL, 3)
    else if T1.letU ((s[0]).toNat : Int) = true then nameR s.data.toList else if dmB s[0] = true then intR s.data.toList else if s[0] = 34 then textR s.data.toList else .error 3 := by
  have e : s.data.toList.getD 0 0 = s[0] := T1.getD_at s 0 h
  rw [← e]; rfl
theorem hasPrefix_el (l : List UInt8) : Lib.hasPrefix l [46, 46, 46] = decide (l.take 3 = elL) := by
  unfold Lib.hasPrefix
  rw [Bool.eq_iff_iff, List.isPrefixOf_iff_prefix, List.prefix_iff_eq_take, decide_eq_true_iff]
  exact ⟨fun h => h.symm, fun h => h.symm⟩
theorem TokAns.parts {o : Except Int (Int × List UInt8 × Nat)} {e : Ending} (h : TokAns o e) : ∃ (k : Int) (t : ByteArray) (n c : Int), e = .returned (.tuple #[tkV k t 0, .int .i64 n, .int .i64 c]) := by
  cases o with
  | ok p => obtain ⟨k, t, n⟩ := p; exact ⟨_, _, _, _, h⟩
  | error c => obtain ⟨_, k, t, n, h⟩ := h; exact ⟨_, _, _, _, h⟩
set_option maxRecDepth 100000 in
set_option maxHeartbeats 4000000 in
theorem first_any (s : ByteArray) (h0 : 0 < s.size) (hs : s.size ≤ 137438953472) (w : World) (hL : LK w) :
    Calls Tryz.prog 64 #[.string s] w (TokPost (tokR s.data.toList) w) := by
  have HX0 : Hid (TB (w.alloc (.cells #[.int .i64 0, .string ⟨#[]⟩, .int .i64 0] 75 (0, 0))) w.heap.size (.int .i64 0) (.string ⟨#[]⟩) (.int .i64 0)) := Lib.hid (heap_alloc_new w _)
  have hb0 : Below w.heap.size w (w.alloc (.cells #[.int .i64 0, .string ⟨#[]⟩, .int .i64 0] 75 (0, 0))) := (Below.refl _ _).alloc (Nat.le_refl _) _
  have HB0 := Lib.hid hb0
  have CALL0 := Lib.hid (Tryz.utf8_DecodeRuneInString s (w.alloc (.cells #[.int .i64 0, .string ⟨#[]⟩, .int .i64 0] 75 (0, 0))) (hL.below hb0).utf)
  obtain ⟨r, k, e1, hr, hset, h34⟩ := first_rune s h0
  rw [e1] at CALL0
  have HR := Lib.hid hr
  have HSET := Lib.hid hset
  have H34 := Lib.hid h34
  have HL := Lib.hid hL
  have HT := Lib.hid (tokR_eq s h0)
  have HS := Lib.hid hs
  have H0 := Lib.hid h0
  have h1s : (1 : Int) ≤ s.size := by omega
  clear hb0 e1 hr hset h34 hL hs
  generalize tokR s.data.toList = R at *
  generalize hc : s[0] = c at *
  clear hc
  go_enter Tryz.func64, Tryz.ntmps64
  go_wp2_with fail
  refine CALL0.out.mono ?_
  rintro e w1 ⟨rfl, hb⟩
  have HB1 := Lib.hid (HB0.out.trans (hb.mono (by simp)))
  have HX1 := Lib.hid (HX0.out.stay hb)
  have HV : Hid (RB w1.heap.size r (w1.alloc (.cells #[.int .i32 r] 21 (0, 0)))) := Lib.hid (heap_alloc_new w1 _)
  have HB2 : Hid (Below w.heap.size w (w1.alloc (.cells #[.int .i32 r] 21 (0, 0)))) := Lib.hid (HB1.out.alloc HB1.out.size _)
  have HX2 : Hid (TB (w1.alloc (.cells #[.int .i32 r] 21 (0, 0))) w.heap.size (.int .i64 0) (.string ⟨#[]⟩) (.int .i64 0)) := Lib.hid (HX1.out.stay ((Below.refl _ _).alloc (Nat.le_refl _) _))
  have CALL1 := Lib.hid (isin_any w1.heap.size r HR.out sgS sgS_set _ HV.out)
  clear hb CALL0
  go_wp2_with fail
  refine CALL1.out.mono ?_
  rintro e w2 ⟨rfl, hb⟩
  rw [HSET.out _ sgS_set, sgS_is]
  have HB3 := Lib.hid (HB2.out.trans (hb.mono HB2.out.size))
  have HX3 := Lib.hid (HX2.out.stay hb)
  have HV3 := Lib.hid (HV.out.stay hb)
  clear hb CALL1 HX0 HB0 HX1 HB1 HX2 HB2 HV
  generalize w1.heap.size = p at *
  by_cases c1 : c ∈ sgL
  · have d1 : decide (c ∈ sgL) = true := decide_eq_true c1
    have E1 := Lib.hid (HT.out.trans (if_pos c1))
    have HE := Lib.hid (ext_to' s 1)
    have ZZ := Lib.hid (HX3.out.three (.int .i64 1) (.string (s.extract 0 1)) (.int .i64 0)).cells
    obtain ⟨x0, x1, x2⟩ := HX3.out.cells
    have g0 := HX3.out.frz 0
    have g1 := HX3.out.frz 1
    have g2 := HX3.out.frz 2
    rw [d1]
    clear HT c1 d1
    go_wp2_with fail
    obtain ⟨z0, z1, z2⟩ := ZZ.out
    refine bodyPost_ret (v := .tuple #[tkV 1 (s.extract 0 1) 0, .int .i64 1, .int .i64 0]) (by simp [results, Tryz.results64, go_sem, z0, z1, z2]) rfl ⟨?_, Below.three HB3.out (Nat.le_refl _) _ _ _⟩
    rw [E1.out, HE.out]
    rfl
  have d1 : decide (c ∈ sgL) = false := decide_eq_false c1
  have HT1 := Lib.hid (HT.out.trans (if_neg c1))
  rw [d1]
  clear HT c1 d1
  go_wp2_with fail
  refine (Tryz.strings_HasPrefix s ⟨#[46, 46, 46]⟩ w2).mono ?_
  rintro e w3 ⟨rfl, rfl⟩
  rw [hasPrefix_el]
  by_cases c2 : s.data.toList.take 3 = elL
  · have d2 : decide (s.data.toList.take 3 = elL) = true := decide_eq_true c2
    have E1 := Lib.hid (HT1.out.trans (if_pos c2))
    have ZZ := Lib.hid (HX3.out.three (.int .i64 1) (.string ⟨#[46, 46, 46]⟩) (.int .i64 0)).cells
    obtain ⟨x0, x1, x2⟩ := HX3.out.cells
    have g0 := HX3.out.frz 0
    have g1 := HX3.out.frz 1
    have g2 := HX3.out.frz 2
    rw [d2]
    clear HT1 c2 d2
    go_wp2_with fail
    obtain ⟨z0, z1, z2⟩ := ZZ.out
    refine bodyPost_ret (v := .tuple #[tkV 1 ⟨#[46, 46, 46]⟩ 0, .int .i64 3, .int .i64 0]) (by simp [results, Tryz.results64, go_sem, z0, z1, z2]) rfl ⟨?_, Below.three HB3.out (Nat.le_refl _) _ _ _⟩
    rw [E1.out]
    rfl
  have d2 : decide (s.data.toList.take 3 = elL) = false := decide_eq_false c2
  have HT2 := Lib.hid (HT1.out.trans (if_neg c2))
  have CALL2 := Lib.hid (isin_any p r HR.out leS leS_set _ HV3.out)
  rw [d2]
  clear HT1 c2 d2
  go_wp2_with fail
  refine CALL2.out.mono ?_
  rintro e w4 ⟨rfl, hb⟩
  rw [HSET.out _ leS_set, leS_is]
  have HB4 := Lib.hid (HB3.out.trans (hb.mono HB3.out.size))
  have HX4 := Lib.hid (HX3.out.stay hb)
  have HV4 := Lib.hid (HV3.out.stay hb)
  clear hb CALL2 HB3 HX3 HV3
  by_cases c3 : T1.letU (c.toNat : Int) = true
  · have E1 := Lib.hid (HT2.out.trans (if_pos c3))
    have CALL3 := Lib.hid (tkname_any s (by have := HS.out; unfold maxLen; omega) w4)
    rw [c3]
    clear HT2 c3
    go_wp2_with fail
    refine CALL3.out.mono ?_
    rintro e w5 ⟨ha, hb⟩
    have HB5 := Lib.hid (HB4.out.trans (hb.mono HB4.out.size))
    have HX5 := Lib.hid (HX4.out.stay hb)
    clear hb CALL3 HB4 HX4
    obtain ⟨k1, t1, n1, q1, rfl⟩ := ha.parts
    have HA := Lib.hid ha
    have ZZ := Lib.hid (HX5.out.three (.int .i64 k1) (.string t1) (.int .i64 0)).cells
    obtain ⟨x0, x1, x2⟩ := HX5.out.cells
    have g0 := HX5.out.frz 0
    have g1 := HX5.out.frz 1
    have g2 := HX5.out.frz 2
    clear ha
    go_wp2_with fail
    obtain ⟨z0, z1, z2⟩ := ZZ.out
    refine bodyPost_ret (v := .tuple #[tkV k1 t1 0, .int .i64 n1, .int .i64 q1]) (by simp [results, Tryz.results64, go_sem, z0, z1, z2]) rfl ⟨?_, Below.three HB5.out (Nat.le_refl _) _ _ _⟩
    rw [E1.out]
    exact HA.out
  have c3' : T1.letU (c.toNat : Int) = false := by simpa using c3
  have HT3 := Lib.hid (HT2.out.trans (if_neg c3))
  have CALL3 := Lib.hid (isin_any p r HR.out dmS dmS_set _ HV4.out)
  rw [c3']
  clear HT2 c3 c3'
  go_wp2_with fail
  refine CALL3.out.mono ?_
  rintro e w5 ⟨rfl, hb⟩
  rw [HSET.out _ dmS_set, dmS_is]
  have HB5 := Lib.hid (HB4.out.trans (hb.mono HB4.out.size))
  have HX5 := Lib.hid (HX4.out.stay hb)
  have HV5 := Lib.hid (HV4.out.stay hb)
  clear hb CALL3 HB4 HX4 HV4
  by_cases c4 : dmB c = true
  · have E1 := Lib.hid (HT3.out.trans (if_pos c4))
    have CALL4 := Lib.hid (tkint_any s H0.out (by have := HS.out; omega) w5 (HL.out.below HB5.out).num)
    rw [c4]
    clear HT3 c4
    go_wp2_with fail
    refine CALL4.out.mono ?_
    rintro e w6 ⟨ha, hb⟩
    have HB6 := Lib.hid (HB5.out.trans (hb.mono HB5.out.size))
    have HX6 := Lib.hid (HX5.out.stay hb)
    clear hb CALL4 HB5 HX5
    obtain ⟨k1, t1, n1, q1, rfl⟩ := ha.parts
    have HA := Lib.hid ha
    have ZZ := Lib.hid (HX6.out.three (.int .i64 k1) (.string t1) (.int .i64 0)).cells
    obtain ⟨x0, x1, x2⟩ := HX6.out.cells
    have g0 := HX6.out.frz 0
    have g1 := HX6.out.frz 1
    have g2 := HX6.out.frz 2
    clear ha
    go_wp2_with fail
    obtain ⟨z0, z1, z2⟩ := ZZ.out
    refine bodyPost_ret (v := .tuple #[tkV k1 t1 0, .int .i64 n1, .int .i64 q1]) (by simp [results, Tryz.results64, go_sem, z0, z1, z2]) rfl ⟨?_, Below.three HB6.out (Nat.le_refl _) _ _ _⟩
    rw [E1.out]
    exact HA.out
  have c4' : dmB c = false := by simpa using c4
  have HT4 := Lib.hid (HT3.out.trans (if_neg c4))
  rw [c4']
  obtain ⟨y0, y1⟩ := HV5.out.cell
  have h34 := H34.out
  clear HT3 c4 c4'
  by_cases c5 : c = 34
  · have E1 := Lib.hid (HT4.out.trans (if_pos c5))
    have CALL4 := Lib.hid (tktext_any s H0.out HS.out w5)
    rw [decide_eq_true c5] at h34
    clear HT4 c5
    go_wp2_with fail
    refine CALL4.out.mono ?_
    rintro e w6 ⟨ha, hb⟩
    have HB6 := Lib.hid (HB5.out.trans (hb.mono HB5.out.size))
    have HX6 := Lib.hid (HX5.out.stay hb)
    clear hb CALL4 HB5 HX5 y0 y1
    obtain ⟨k1, t1, n1, q1, rfl⟩ := ha.parts
    have HA := Lib.hid ha
    have ZZ := Lib.hid (HX6.out.three (.int .i64 k1) (.string t1) (.int .i64 0)).cells
    obtain ⟨x0, x1, x2⟩ := HX6.out.cells
    have g0 := HX6.out.frz 0
    have g1 := HX6.out.frz 1
    have g2 := HX6.out.frz 2
    clear ha
    go_wp2_with fail
    obtain ⟨z0, z1, z2⟩ := ZZ.out
    refine bodyPost_ret (v := .tuple #[tkV k1 t1 0, .int .i64 n1, .int .i64 q1]) (by simp [results, Tryz.results64, go_sem, z0, z1, z2]) rfl ⟨?_, Below.three HB6.out (Nat.le_refl _) _ _ _⟩
    rw [E1.out]
    exact HA.out
  have E1 := Lib.hid (HT4.out.trans (if_neg c5))
  rw [decide_eq_false c5] at h34
  have ZZ := Lib.hid (HX5.out.three (.int .i64 0) (.string ⟨#[]⟩) (.int .i64 0)).cells
  obtain ⟨x0, x1, x2⟩ := HX5.out.cells
  have g0 := HX5.out.frz 0
  have g1 := HX5.out.frz 1
  have g2 := HX5.out.frz 2
  clear HT4 c5
  go_wp2_with fail
  obtain ⟨z0, z1, z2⟩ := ZZ.out
  refine bodyPost_ret (v := .tuple #[tkV 0 ⟨#[]⟩ 0, .int .i64 0, .int .i64 3]) (by simp [results, Tryz.results64, go_sem, z0, z1, z2]) rfl ⟨?_, Below.three HB5.out (Nat.le_refl _) _ _ _⟩
  rw [E1.out]
  exact ⟨by decide, _, _, _, rfl⟩
end Go.Proofs.YtgicbmibhnnflaaGreatDoor
