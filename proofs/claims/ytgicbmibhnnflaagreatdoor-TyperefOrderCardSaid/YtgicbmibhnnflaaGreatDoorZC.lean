
/-
  Which references are right. Fits of the reference. Reading a reference by the reference: sign, Tokens. Parse of the reference. slices.Backward: the elements of a list, the last one first. Writing into a strings.Builder. Printing a reference. The examples of the chapter.
-/
import Derived.Test.YtgicbmibhnnflaaGreatDoorYCmp
import Derived.Test.YtgicbmibhnnflaaGreatDoorRefText
import Derived.Test.YtgicbmibhnnflaaGreatDoorYRWeak
import Derived.Test.YtgicbmibhnnflaaGreatDoorYRead
import Derived.Test.YtgicbmibhnnflaaGreatDoorRScan
import Derived.Test.YtgicbmibhnnflaaGreatDoorYParse
import Derived.RangeFuncBox
import Derived.RangeFuncLeaves
import Derived.RangeFuncWrites
import Derived.RangeFuncBound
import Derived.RangeFuncCalls
import Derived.Shelf.Abstract
import Derived.Shelf.RegionOpen
import Derived.WalkKit
import Derived.OwnWalkIn
import Derived.TacticsInMore
import Derived.LoopNIn
import Derived.LoopIn
import Derived.Test.YtgicbmibhnnflaaGreatDoorKScan
import Derived.Test.YtgicbmibhnnflaaGreatDoorShelf
import Derived.Shelf.Strings.BuilderK
namespace Go.Proofs.YtgicbmibhnnflaaGreatDoor
open Go.RowKit
def okB (n : ByteArray) (xs : Ws) : Bool := T1.nameL n.data.toList && decide (xs.length ≤ 24) && rtF false xs
def pvB (xs : Ws) (k : Nat) : Bool := match k with | 0 => false | j + 1 => xs[j]? == some 1
theorem rt_cons (p : Bool) (x : Int) (r : Ws) : rtF p (x :: r) = ((x == 2 || (x == 1 && !p)) && rtF (x == 1) r) := rfl
theorem ok_len {n : ByteArray} {xs : Ws} (h : okB n xs = true) : T1.nameL n.data.toList = true ∧ xs.length ≤ 24 ∧ rtF false xs = true := by
  unfold okB at h; simp at h; exact ⟨h.1.1, h.1.2, h.2⟩
set_option maxRecDepth 100000 in
set_option maxHeartbeats 2000000 in
theorem tright_any (n : ByteArray) (xs : Ws) (v : Value) (w : World) (h : RefV w w.heap.size v n xs) (hn : n.size ≤ maxLen) : Calls Tryz.prog 25 #[v] w (BoolPost (okB n xs) w) := by
  obtain ⟨A, c, rfl, hc, hi⟩ := h
  have x3 := (Below.refl w.heap.size w).alloc (Nat.le_refl _) (.cells #[.string n, .slice A xs.length c] 24 (0, 0))
  have X0 := Lib.hid (BxR.new w (.string n) (.slice A xs.length c))
  have I0 := Lib.hid (hi.stay x3)
  have B0 := Lib.hid x3
  clear hc hi x3
  have CALL := Lib.hid (T1.name_any n (w.alloc (.cells #[.string n, .slice A xs.length c] 24 (0, 0))) hn)
  by_cases hnm : T1.nameL n.data.toList = true
  · by_cases hle : xs.length ≤ 24
    · have HV : Hid (okB n xs = rtF false xs) := Lib.hid (by unfold okB; rw [hnm, decide_eq_true hle]; rfl)
      have HNM := Lib.hid hnm
      have HLE : Hid ((xs.length : Int) ≤ 24) := Lib.hid (by omega)
      have hgt : ¬ ((xs.length : Int) > 24) := by omega
      clear hnm hle
      go_enter Tryz.func25, Tryz.ntmps25
      go_wp2_with fail
      generalize (w.alloc (.cells #[.string n, .slice A xs.length c] 24 (0, 0))) = W0 at *
      have hcall := CALL.out
      rw [HNM.out] at hcall
      refine hcall.mono ?_
      rintro e w1 ⟨rfl, rfl⟩
      clear hcall CALL
      have q1 := X0.out.cells.2
      go_wp2_with fail
      go_loopw [3, 5, 19] (fun o _ i wr => ∃ (k : Nat) (q : Int), i = .int .i64 k ∧ o = .int .i64 q ∧ k ≤ xs.length ∧ rtF (q == 1) (xs.drop k) = rtF false xs ∧ Below W0.heap.size W0 wr) (fun _ _ i _ => xs.length - (intOf i).toNat)
      case atStart => exact ⟨0, 2, rfl, rfl, Nat.zero_le _, rfl, Below.refl _ _⟩
      case round =>
        obtain ⟨k, q, rfl, rfl, hk, hr, hb⟩ := hrel
        have HB := Lib.hid hb
        have hlm := HLE.out
        by_cases hlt : k < xs.length
        · obtain ⟨a, x, rfl, ha, hp, h0⟩ := ints_round I0.out hb hlt
          have hlt' : (k : Int) < xs.length := by omega
          rw [drop_one hp, rt_cons] at hr
          clear hb ha hp
          by_cases h2 : x = 2
          · subst h2
            have HR := Lib.hid hr
            clear hr
            go_wp2_with fail
            go_roundw
            case rel => exact ⟨k + 1, 2, by go_num, rfl, by omega, HR.out, HB.out⟩
            case measure => simp [intOf]; omega
          · have hb2 : (x != 2) = true := by simp [h2]
            by_cases h1 : x = 1
            · subst h1
              by_cases hq : q = 1
              · subst hq
                have HF : Hid (rtF false xs = false) := Lib.hid hr.symm
                clear hr
                go_wp2_with fail
                go_ret
                exact ⟨by rw [HV.out, HF.out]; rfl, B0.out.trans (HB.out.mono B0.out.size)⟩
              · have hqb : (q == 1) = false := by simp [hq]
                rw [hqb] at hr
                have HR := Lib.hid hr
                clear hr hq
                go_wp2_with fail
                go_roundw
                case rel => exact ⟨k + 1, 1, by go_num, rfl, by omega, HR.out, HB.out⟩
                case measure => simp [intOf]; omega
            · have hb1 : (x != 1) = true := by simp [h1]
              have e2 : (x == 2) = false := by simp [h2]
              have e1 : (x == 1) = false := by simp [h1]
              rw [e1, e2] at hr
              have HF : Hid (rtF false xs = false) := Lib.hid hr.symm
              clear hr e1 e2
              go_wp2_with fail
              go_ret
              exact ⟨by rw [HV.out, HF.out]; rfl, B0.out.trans (HB.out.mono B0.out.size)⟩
        · have hlt' : ¬ (k : Int) < xs.length := by omega
          have HF : Hid (rtF false xs = true) := Lib.hid (by rw [← hr, List.drop_eq_nil_of_le (by omega)]; rfl)
          clear hr hb
          go_wp2_with fail
          go_ret
          exact ⟨by rw [HV.out, HF.out]; rfl, B0.out.trans (HB.out.mono B0.out.size)⟩
    · have HV : Hid (okB n xs = false) := Lib.hid (by unfold okB; rw [hnm, decide_eq_false hle]; rfl)
      have HNM := Lib.hid hnm
      have hgt : ((xs.length : Int) > 24) := by omega
      clear hnm hle
      go_enter Tryz.func25, Tryz.ntmps25
      go_wp2_with fail
      generalize (w.alloc (.cells #[.string n, .slice A xs.length c] 24 (0, 0))) = W0 at *
      have hcall := CALL.out
      rw [HNM.out] at hcall
      refine hcall.mono ?_
      rintro e w1 ⟨rfl, rfl⟩
      clear hcall CALL
      have q1 := X0.out.cells.2
      go_wp2_with fail
      all_goals exact bodyPost_ret (v := .bool false) (by simp [results, Tryz.results25, go_sem]) rfl ⟨by rw [HV.out], B0.out⟩
  · have HV : Hid (okB n xs = false) := Lib.hid (by unfold okB; simp [hnm])
    have hnm' : T1.nameL n.data.toList = false := by simpa using hnm
    have HNM := Lib.hid hnm'
    clear hnm hnm'
    go_enter Tryz.func25, Tryz.ntmps25
    go_wp2_with fail
    generalize (w.alloc (.cells #[.string n, .slice A xs.length c] 24 (0, 0))) = W0 at *
    have hcall := CALL.out
    rw [HNM.out] at hcall
    refine hcall.mono ?_
    rintro e w1 ⟨rfl, rfl⟩
    clear hcall CALL
    have q1 := X0.out.cells.2
    go_wp2_with fail
    all_goals exact bodyPost_ret (v := .bool false) (by simp [results, Tryz.results25, go_sem]) rfl ⟨by rw [HV.out], B0.out⟩
set_option maxRecDepth 100000 in
set_option maxHeartbeats 2000000 in
theorem rright_any (n : ByteArray) (xs : Ws) (v : Value) (w : World) (h : RefV w w.heap.size v n xs) (hn : n.size ≤ maxLen) : Calls Tryz.prog 26 #[v] w (BoolPost (okB n xs) w) := by
  obtain ⟨A, c, rfl, hc, hi⟩ := h
  have x3 := (Below.refl w.heap.size w).alloc (Nat.le_refl _) (.cells #[.string n, .slice A xs.length c] 24 (0, 0))
  have X0 := Lib.hid (BxR.new w (.string n) (.slice A xs.length c))
  have I0 := Lib.hid (hi.stay x3)
  have B0 := Lib.hid x3
  clear hc hi x3
  have CALL := Lib.hid (T1.rname_any n (w.alloc (.cells #[.string n, .slice A xs.length c] 24 (0, 0))) hn)
  by_cases hnm : T1.nameL n.data.toList = true
  · by_cases hle : xs.length ≤ 24
    · have HV : Hid (okB n xs = rtF false xs) := Lib.hid (by unfold okB; rw [hnm, decide_eq_true hle]; rfl)
      have HNM := Lib.hid hnm
      have HLE : Hid ((xs.length : Int) ≤ 24) := Lib.hid (by omega)
      have hgt : ¬ ((xs.length : Int) > 24) := by omega
      clear hnm hle
      go_enter Tryz.func26, Tryz.ntmps26
      go_wp2_with fail
      generalize (w.alloc (.cells #[.string n, .slice A xs.length c] 24 (0, 0))) = W0 at *
      have hcall := CALL.out
      rw [HNM.out] at hcall
      refine hcall.mono ?_
      rintro e w1 ⟨rfl, rfl⟩
      clear hcall CALL
      have q1 := X0.out.cells.2
      go_wp2_with fail
      go_loopw [3] (fun i wr => ∃ k : Nat, i = .int .i64 k ∧ k ≤ xs.length ∧ rtF (pvB xs k) (xs.drop k) = rtF false xs ∧ Below W0.heap.size W0 wr) (fun i _ => xs.length - (intOf i).toNat)
      case atStart => exact ⟨0, rfl, Nat.zero_le _, rfl, Below.refl _ _⟩
      case round =>
        obtain ⟨k, rfl, hk, hr, hb⟩ := hrel
        have HB := Lib.hid hb
        have hlm := HLE.out
        have q2 := (X0.out.stay hb).cells.2
        by_cases hlt : k < xs.length
        · obtain ⟨a, x, rfl, ha, hp, h0⟩ := ints_round I0.out hb hlt
          have hlt' : (k : Int) < xs.length := by omega
          rw [drop_one hp, rt_cons] at hr
          have hnx : rtF (x == 1) (xs.drop (k + 1)) = rtF (pvB xs (k + 1)) (xs.drop (k + 1)) := by
            show _ = rtF (xs[k]? == some 1) _; rw [hp]; rfl
          rw [hnx] at hr
          clear ha hp hnx
          by_cases h2 : x = 2
          · subst h2
            have HR := Lib.hid hr
            clear hr hb
            by_cases hkp : (k : Int) > 0
            · go_wp2_with fail
              go_roundw
              case rel => exact ⟨k + 1, by go_num, by omega, HR.out, HB.out⟩
              case measure => simp [intOf]; omega
            · go_wp2_with fail
              go_roundw
              case rel => exact ⟨k + 1, by go_num, by omega, HR.out, HB.out⟩
              case measure => simp [intOf]; omega
          · have hb2 : (x != 2) = true := by simp [h2]
            by_cases h1 : x = 1
            · subst h1
              by_cases hk0 : k = 0
              · have HR : Hid (rtF (pvB xs (k + 1)) (xs.drop (k + 1)) = rtF false xs) := Lib.hid (by rw [← hr]; subst hk0; rfl)
                have hkp : ¬ ((k : Int) > 0) := by omega
                clear hr hb hk0
                go_wp2_with fail
                go_roundw
                case rel => exact ⟨k + 1, by go_num, by omega, HR.out, HB.out⟩
                case measure => simp [intOf]; omega
              · obtain ⟨a', y, ea, _, hpy, h9⟩ := ints_round I0.out hb (k := k - 1) (by omega)
                obtain rfl : a = a' := Option.some.inj ea
                have hkp : ((k : Int) > 0) := by omega
                have hpv : pvB xs k = (y == 1) := by
                  obtain ⟨j, rfl⟩ : ∃ j, k = j + 1 := ⟨k - 1, by omega⟩
                  show (xs[j]? == some 1) = _
                  have e : xs[j]? = some y := hpy
                  rw [e]; rfl
                rw [hpv] at hr
                have hc9 : wr.cell? (a.add ((k : Int) - 1).toNat) = some (.int .i64 y) := by rw [show ((k : Int) - 1).toNat = k - 1 by omega]; exact h9
                have hi9 : (k : Int) - 1 < xs.length := by omega
                have hi8 : 0 ≤ (k : Int) - 1 := by omega
                by_cases hy : y = 1
                · subst hy
                  have HF : Hid (rtF false xs = false) := Lib.hid hr.symm
                  clear hr hb hpy ea hc9 hpv
                  go_wp2_with fail
                  go_ret
                  exact ⟨by rw [HV.out, HF.out]; rfl, B0.out.trans (HB.out.mono B0.out.size)⟩
                · have hyb : (y == 1) = false := by simp [hy]
                  rw [hyb] at hr
                  have HR := Lib.hid hr
                  clear hr hb hpy ea hy hc9 hpv
                  go_wp2_with fail
                  go_roundw
                  case rel => exact ⟨k + 1, by go_num, by omega, HR.out, HB.out⟩
                  case measure => simp [intOf]; omega
            · have hb1 : (x != 1) = true := by simp [h1]
              have e2 : (x == 2) = false := by simp [h2]
              have e1 : (x == 1) = false := by simp [h1]
              rw [e1, e2] at hr
              have HF : Hid (rtF false xs = false) := Lib.hid hr.symm
              clear hr e1 e2 hb
              go_wp2_with fail
              go_ret
              exact ⟨by rw [HV.out, HF.out]; rfl, B0.out.trans (HB.out.mono B0.out.size)⟩
        · have hlt' : ¬ (k : Int) < xs.length := by omega
          have HF : Hid (rtF false xs = true) := Lib.hid (by rw [← hr, List.drop_eq_nil_of_le (by omega)]; rfl)
          clear hr hb
          go_wp2_with fail
          go_ret
          exact ⟨by rw [HV.out, HF.out]; rfl, B0.out.trans (HB.out.mono B0.out.size)⟩
    · have HV : Hid (okB n xs = false) := Lib.hid (by unfold okB; rw [hnm, decide_eq_false hle]; rfl)
      have HNM := Lib.hid hnm
      have hgt : ((xs.length : Int) > 24) := by omega
      clear hnm hle
      go_enter Tryz.func26, Tryz.ntmps26
      go_wp2_with fail
      generalize (w.alloc (.cells #[.string n, .slice A xs.length c] 24 (0, 0))) = W0 at *
      have hcall := CALL.out
      rw [HNM.out] at hcall
      refine hcall.mono ?_
      rintro e w1 ⟨rfl, rfl⟩
      clear hcall CALL
      have q1 := X0.out.cells.2
      go_wp2_with fail
      all_goals exact bodyPost_ret (v := .bool false) (by simp [results, Tryz.results26, go_sem]) rfl ⟨by rw [HV.out], B0.out⟩
  · have HV : Hid (okB n xs = false) := Lib.hid (by unfold okB; simp [hnm])
    have hnm' : T1.nameL n.data.toList = false := by simpa using hnm
    have HNM := Lib.hid hnm'
    clear hnm hnm'
    go_enter Tryz.func26, Tryz.ntmps26
    go_wp2_with fail
    generalize (w.alloc (.cells #[.string n, .slice A xs.length c] 24 (0, 0))) = W0 at *
    have hcall := CALL.out
    rw [HNM.out] at hcall
    refine hcall.mono ?_
    rintro e w1 ⟨rfl, rfl⟩
    clear hcall CALL
    have q1 := X0.out.cells.2
    go_wp2_with fail
    all_goals exact bodyPost_ret (v := .bool false) (by simp [results, Tryz.results26, go_sem]) rfl ⟨by rw [HV.out], B0.out⟩
end Go.Proofs.YtgicbmibhnnflaaGreatDoor
namespace Go.Proofs.YtgicbmibhnnflaaGreatDoor
open Go.RowKit
def fitB (n m : ByteArray) (xs ys : Ws) : Bool := decide (n = m) && fiL xs ys
set_option maxRecDepth 100000 in
set_option maxHeartbeats 2000000 in
theorem rfits_f (n m : ByteArray) (xs ys : Ws) (v u : Value) (w : World) (hx : RefV w w.heap.size v n xs) (hy : RefV w w.heap.size u m ys) (hl : xs.length ≤ 100) (hl2 : ys.length ≤ 100) (hsh : decide (n = m ∧ strL xs = strL ys) = false) (hf : fitB n m xs ys = false) : Calls Tryz.prog 33 #[v, u] w (BoolPost (fitB n m xs ys) w) := by
  have HSH := Lib.hid hsh
  have HF := Lib.hid hf
  clear hsh hf
  obtain ⟨A, c, rfl, hc, hi⟩ := hx
  obtain ⟨B0, d, rfl, hd, hj⟩ := hy
  obtain ⟨x1, x2, x3, x5⟩ := BxR.both w (.string n) (.slice A xs.length c) (.string m) (.slice B0 ys.length d)
  have X : Hid (RefB ((w.alloc (.cells #[.string n, .slice A xs.length c] 24 (0, 0))).alloc (.cells #[.string m, .slice B0 ys.length d] 24 (0, 0))) w.heap.size n xs) := Lib.hid ⟨A, c, x1, hc, hi.stay x3⟩
  have Y : Hid (RefB ((w.alloc (.cells #[.string n, .slice A xs.length c] 24 (0, 0))).alloc (.cells #[.string m, .slice B0 ys.length d] 24 (0, 0))) (w.heap.size + 1) m ys) := Lib.hid ⟨B0, d, x2, hd, hj.stay x3⟩
  have B := Lib.hid x3
  have I := Lib.hid (hi.stay x3)
  have J := Lib.hid (hj.stay x3)
  have HC0 := Lib.hid hc
  have HD0 := Lib.hid hd
  have HX := Lib.hid hl
  have HY := Lib.hid hl2
  clear hc hd hi hj x1 x2 x3 x5 hl hl2
  go_enter Tryz.func33, Tryz.ntmps33
  go_wp2_with fail
  generalize ((w.alloc (.cells #[.string n, .slice A xs.length c] 24 (0, 0))).alloc (.cells #[.string m, .slice B0 ys.length d] 24 (0, 0))) = W0 at *
  have hcall := rshape_any n m xs ys _ _ _ ⟨A, c, rfl, HC0.out, I.out⟩ ⟨B0, d, rfl, HD0.out, J.out⟩ (by have := HX.out; omega) (by have := HY.out; omega)
  rw [HSH.out] at hcall
  refine hcall.mono ?_
  clear hcall
  rintro e wc1 ⟨rfl, hb1⟩
  clear I J HC0 HD0
  replace X := Lib.hid (X.out.stay hb1)
  replace Y := Lib.hid (Y.out.stay hb1)
  replace B := Lib.hid (B.out.trans (hb1.mono B.out.size))
  clear hb1
  go_wp2_with fail
  exact bodyPost_ret (v := .bool false) (by simp [results, Tryz.results33, go_sem]) rfl ⟨by rw [HF.out], B.out⟩
set_option maxRecDepth 100000 in
set_option maxHeartbeats 2000000 in
theorem rfits_x (n m : ByteArray) (xs ys : Ws) (v u : Value) (w : World) (hx : RefV w w.heap.size v n xs) (hy : RefV w w.heap.size u m ys) (hl : xs.length ≤ 100) (hl2 : ys.length ≤ 100) (hsh : decide (n = m ∧ strL xs = strL ys) = true) (hnb : nnB ys = true) (hna : nnB xs = false) (hf : fitB n m xs ys = false) : Calls Tryz.prog 33 #[v, u] w (BoolPost (fitB n m xs ys) w) := by
  have HSH := Lib.hid hsh
  have HF := Lib.hid hf
  have HNA := Lib.hid hna
  have HNB := Lib.hid hnb
  clear hsh hf hna hnb
  obtain ⟨A, c, rfl, hc, hi⟩ := hx
  obtain ⟨B0, d, rfl, hd, hj⟩ := hy
  obtain ⟨x1, x2, x3, x5⟩ := BxR.both w (.string n) (.slice A xs.length c) (.string m) (.slice B0 ys.length d)
  have X : Hid (RefB ((w.alloc (.cells #[.string n, .slice A xs.length c] 24 (0, 0))).alloc (.cells #[.string m, .slice B0 ys.length d] 24 (0, 0))) w.heap.size n xs) := Lib.hid ⟨A, c, x1, hc, hi.stay x3⟩
  have Y : Hid (RefB ((w.alloc (.cells #[.string n, .slice A xs.length c] 24 (0, 0))).alloc (.cells #[.string m, .slice B0 ys.length d] 24 (0, 0))) (w.heap.size + 1) m ys) := Lib.hid ⟨B0, d, x2, hd, hj.stay x3⟩
  have B := Lib.hid x3
  have I := Lib.hid (hi.stay x3)
  have J := Lib.hid (hj.stay x3)
  have HC0 := Lib.hid hc
  have HD0 := Lib.hid hd
  have HX := Lib.hid hl
  have HY := Lib.hid hl2
  clear hc hd hi hj x1 x2 x3 x5 hl hl2
  go_enter Tryz.func33, Tryz.ntmps33
  go_wp2_with fail
  generalize ((w.alloc (.cells #[.string n, .slice A xs.length c] 24 (0, 0))).alloc (.cells #[.string m, .slice B0 ys.length d] 24 (0, 0))) = W0 at *
  have hcall := rshape_any n m xs ys _ _ _ ⟨A, c, rfl, HC0.out, I.out⟩ ⟨B0, d, rfl, HD0.out, J.out⟩ (by have := HX.out; omega) (by have := HY.out; omega)
  rw [HSH.out] at hcall
  refine hcall.mono ?_
  clear hcall
  rintro e wc1 ⟨rfl, hb1⟩
  clear I J HC0 HD0
  replace X := Lib.hid (X.out.stay hb1)
  replace Y := Lib.hid (Y.out.stay hb1)
  replace B := Lib.hid (B.out.trans (hb1.mono B.out.size))
  clear hb1
  obtain ⟨AY, cY, hY, hcY, hiY⟩ := Y.out
  have qY0 := hY.cells.1
  have qY1 := hY.cells.2
  have HHY := Lib.hid hY
  have HCY := Lib.hid hcY
  have HIY := Lib.hid hiY
  clear hY hcY hiY
  go_wp2_with fail
  have hcall := risnn_any m ys _ _ ⟨AY, cY, rfl, HCY.out, HIY.out⟩
  rw [HNB.out] at hcall
  refine hcall.mono ?_
  clear hcall
  clear qY0 qY1
  rintro e wc2 ⟨rfl, hb1⟩
  replace X := Lib.hid (X.out.stay hb1)
  replace Y := Lib.hid (Y.out.stay hb1)
  replace B := Lib.hid (B.out.trans (hb1.mono B.out.size))
  clear hb1
  obtain ⟨AX, cX, hX, hcX, hiX⟩ := X.out
  have qX0 := hX.cells.1
  have qX1 := hX.cells.2
  have HHX := Lib.hid hX
  have HCX := Lib.hid hcX
  have HIX := Lib.hid hiX
  clear hX hcX hiX
  go_wp2_with fail
  have hcall := risnn_any n xs _ _ ⟨AX, cX, rfl, HCX.out, HIX.out⟩
  rw [HNA.out] at hcall
  refine hcall.mono ?_
  clear hcall
  clear qX0 qX1
  rintro e wc3 ⟨rfl, hb1⟩
  replace X := Lib.hid (X.out.stay hb1)
  replace Y := Lib.hid (Y.out.stay hb1)
  replace B := Lib.hid (B.out.trans (hb1.mono B.out.size))
  clear hb1
  go_wp2_with fail
  exact bodyPost_ret (v := .bool false) (by simp [results, Tryz.results33, go_sem]) rfl ⟨by rw [HF.out], B.out⟩
set_option maxRecDepth 100000 in
set_option maxHeartbeats 2000000 in
theorem rfits_nf (n m : ByteArray) (xs ys : Ws) (v u : Value) (w : World) (hx : RefV w w.heap.size v n xs) (hy : RefV w w.heap.size u m ys) (hl : xs.length ≤ 100) (hl2 : ys.length ≤ 100) (hsh : decide (n = m ∧ strL xs = strL ys) = true) (hnb : nnB ys = false) (hia : inO xs = none) (hib : inO ys = none) (hf : fitB n m xs ys = true) : Calls Tryz.prog 33 #[v, u] w (BoolPost (fitB n m xs ys) w) := by
  have HSH := Lib.hid hsh
  have HF := Lib.hid hf
  have HNB := Lib.hid hnb
  have HIA := Lib.hid hia
  have HIB := Lib.hid hib
  clear hsh hf hnb hia hib
  obtain ⟨A, c, rfl, hc, hi⟩ := hx
  obtain ⟨B0, d, rfl, hd, hj⟩ := hy
  obtain ⟨x1, x2, x3, x5⟩ := BxR.both w (.string n) (.slice A xs.length c) (.string m) (.slice B0 ys.length d)
  have X : Hid (RefB ((w.alloc (.cells #[.string n, .slice A xs.length c] 24 (0, 0))).alloc (.cells #[.string m, .slice B0 ys.length d] 24 (0, 0))) w.heap.size n xs) := Lib.hid ⟨A, c, x1, hc, hi.stay x3⟩
  have Y : Hid (RefB ((w.alloc (.cells #[.string n, .slice A xs.length c] 24 (0, 0))).alloc (.cells #[.string m, .slice B0 ys.length d] 24 (0, 0))) (w.heap.size + 1) m ys) := Lib.hid ⟨B0, d, x2, hd, hj.stay x3⟩
  have B := Lib.hid x3
  have I := Lib.hid (hi.stay x3)
  have J := Lib.hid (hj.stay x3)
  have HC0 := Lib.hid hc
  have HD0 := Lib.hid hd
  have HX := Lib.hid hl
  have HY := Lib.hid hl2
  clear hc hd hi hj x1 x2 x3 x5 hl hl2
  go_enter Tryz.func33, Tryz.ntmps33
  go_wp2_with fail
  generalize ((w.alloc (.cells #[.string n, .slice A xs.length c] 24 (0, 0))).alloc (.cells #[.string m, .slice B0 ys.length d] 24 (0, 0))) = W0 at *
  have hcall := rshape_any n m xs ys _ _ _ ⟨A, c, rfl, HC0.out, I.out⟩ ⟨B0, d, rfl, HD0.out, J.out⟩ (by have := HX.out; omega) (by have := HY.out; omega)
  rw [HSH.out] at hcall
  refine hcall.mono ?_
  clear hcall
  rintro e wc1 ⟨rfl, hb1⟩
  clear I J HC0 HD0
  replace X := Lib.hid (X.out.stay hb1)
  replace Y := Lib.hid (Y.out.stay hb1)
  replace B := Lib.hid (B.out.trans (hb1.mono B.out.size))
  clear hb1
  obtain ⟨AY, cY, hY, hcY, hiY⟩ := Y.out
  have qY0 := hY.cells.1
  have qY1 := hY.cells.2
  have HHY := Lib.hid hY
  have HCY := Lib.hid hcY
  have HIY := Lib.hid hiY
  clear hY hcY hiY
  go_wp2_with fail
  have hcall := risnn_any m ys _ _ ⟨AY, cY, rfl, HCY.out, HIY.out⟩
  rw [HNB.out] at hcall
  refine hcall.mono ?_
  clear hcall
  clear qY0 qY1
  rintro e wc2 ⟨rfl, hb1⟩
  replace X := Lib.hid (X.out.stay hb1)
  replace Y := Lib.hid (Y.out.stay hb1)
  replace B := Lib.hid (B.out.trans (hb1.mono B.out.size))
  clear hb1
  obtain ⟨AX, cX, hX, hcX, hiX⟩ := X.out
  have qX0 := hX.cells.1
  have qX1 := hX.cells.2
  have HHX := Lib.hid hX
  have HCX := Lib.hid hcX
  have HIX := Lib.hid hiX
  clear hX hcX hiX
  go_wp2_with fail
  have hcall := (rinner_any n xs _ _ ⟨AX, cX, rfl, HCX.out, HIX.out⟩ (by have := HX.out; omega)).mono fun _ _ h => rweak_no h HIA.out
  refine hcall.mono ?_
  clear hcall
  clear qX0 qX1
  rintro e wc3 ⟨rfl, hb1⟩
  replace X := Lib.hid (X.out.stay hb1)
  replace Y := Lib.hid (Y.out.stay hb1)
  replace B := Lib.hid (B.out.trans (hb1.mono B.out.size))
  clear hb1
  have HNC : Hid (([] : Ws).length ≤ 0) := Lib.hid (Nat.le_refl _)
  have HNI := Lib.hid (IntsAt.nil wc3 wc3.heap.size none)
  have hbA := (Below.refl wc3.heap.size wc3).alloc (Nat.le_refl _) (.cells #[.string ⟨#[]⟩, .slice none 0 0] 24 (0, 0))
  have P : Hid (RefB (wc3.alloc (.cells #[.string ⟨#[]⟩, .slice none 0 0] 24 (0, 0))) wc3.heap.size ⟨#[]⟩ []) := Lib.hid ⟨_, _, BxR.new wc3 _ _, HNC.out, HNI.out.stay hbA⟩
  have VP : Hid (RefV (wc3.alloc (.cells #[.string ⟨#[]⟩, .slice none 0 0] 24 (0, 0))) (wc3.alloc (.cells #[.string ⟨#[]⟩, .slice none 0 0] 24 (0, 0))).heap.size (.agg #[.string ⟨#[]⟩, .slice none 0 0]) ⟨#[]⟩ []) := Lib.hid ⟨_, _, rfl, HNC.out, HNI.out.stay hbA⟩
  replace X := Lib.hid (X.out.stay hbA)
  replace Y := Lib.hid (Y.out.stay hbA)
  replace B := Lib.hid (B.out.trans (hbA.mono B.out.size))
  clear hbA
  have hltP : Hid (wc3.heap.size < (wc3.alloc (.cells #[.string ⟨#[]⟩, .slice none 0 0] 24 (0, 0))).heap.size) := Lib.hid (by simp)
  obtain ⟨AY, cY, hY, hcY, hiY⟩ := Y.out
  have qY0 := hY.cells.1
  have qY1 := hY.cells.2
  have HHY := Lib.hid hY
  have HCY := Lib.hid hcY
  have HIY := Lib.hid hiY
  clear hY hcY hiY
  go_wp2_with fail
  generalize (wc3.alloc (.cells #[.string ⟨#[]⟩, .slice none 0 0] 24 (0, 0))) = wa4 at *
  have hcall := (rinner_any m ys _ _ ⟨AY, cY, rfl, HCY.out, HIY.out⟩ (by have := HY.out; omega)).mono fun _ _ h => rweak_no h HIB.out
  refine hcall.mono ?_
  clear hcall
  clear qY0 qY1
  rintro e wc5 ⟨rfl, hb1⟩
  replace X := Lib.hid (X.out.stay hb1)
  replace Y := Lib.hid (Y.out.stay hb1)
  replace P := Lib.hid (P.out.stay hb1)
  replace B := Lib.hid (B.out.trans (hb1.mono B.out.size))
  clear hb1
  replace HNI := Lib.hid (IntsAt.nil wc5 wc5.heap.size none)
  have hbA := (Below.refl wc5.heap.size wc5).alloc (Nat.le_refl _) (.cells #[.string ⟨#[]⟩, .slice none 0 0] 24 (0, 0))
  have Q : Hid (RefB (wc5.alloc (.cells #[.string ⟨#[]⟩, .slice none 0 0] 24 (0, 0))) wc5.heap.size ⟨#[]⟩ []) := Lib.hid ⟨_, _, BxR.new wc5 _ _, HNC.out, HNI.out.stay hbA⟩
  have VQ : Hid (RefV (wc5.alloc (.cells #[.string ⟨#[]⟩, .slice none 0 0] 24 (0, 0))) (wc5.alloc (.cells #[.string ⟨#[]⟩, .slice none 0 0] 24 (0, 0))).heap.size (.agg #[.string ⟨#[]⟩, .slice none 0 0]) ⟨#[]⟩ []) := Lib.hid ⟨_, _, rfl, HNC.out, HNI.out.stay hbA⟩
  replace X := Lib.hid (X.out.stay hbA)
  replace Y := Lib.hid (Y.out.stay hbA)
  replace P := Lib.hid (P.out.stay hbA)
  replace B := Lib.hid (B.out.trans (hbA.mono B.out.size))
  clear hbA
  have hltQ : Hid (wc5.heap.size < (wc5.alloc (.cells #[.string ⟨#[]⟩, .slice none 0 0] 24 (0, 0))).heap.size) := Lib.hid (by simp)
  go_wp2_with fail
  generalize (wc5.alloc (.cells #[.string ⟨#[]⟩, .slice none 0 0] 24 (0, 0))) = wa6 at *
  exact bodyPost_ret (v := .bool true) (by simp [results, Tryz.results33, go_sem]) rfl ⟨by rw [HF.out], B.out⟩
set_option maxRecDepth 100000 in
set_option maxHeartbeats 2000000 in
theorem rfits_nt (n m : ByteArray) (xs ys : Ws) (v u : Value) (w : World) (hx : RefV w w.heap.size v n xs) (hy : RefV w w.heap.size u m ys) (hl : xs.length ≤ 100) (hl2 : ys.length ≤ 100) (hsh : decide (n = m ∧ strL xs = strL ys) = true) (hnb : nnB ys = true) (hna : nnB xs = true) (hia : inO xs = none) (hib : inO ys = none) (hf : fitB n m xs ys = true) : Calls Tryz.prog 33 #[v, u] w (BoolPost (fitB n m xs ys) w) := by
  have HSH := Lib.hid hsh
  have HF := Lib.hid hf
  have HNB := Lib.hid hnb
  have HIA := Lib.hid hia
  have HIB := Lib.hid hib
  have HNA := Lib.hid hna
  clear hna
  clear hsh hf hnb hia hib
  obtain ⟨A, c, rfl, hc, hi⟩ := hx
  obtain ⟨B0, d, rfl, hd, hj⟩ := hy
  obtain ⟨x1, x2, x3, x5⟩ := BxR.both w (.string n) (.slice A xs.length c) (.string m) (.slice B0 ys.length d)
  have X : Hid (RefB ((w.alloc (.cells #[.string n, .slice A xs.length c] 24 (0, 0))).alloc (.cells #[.string m, .slice B0 ys.length d] 24 (0, 0))) w.heap.size n xs) := Lib.hid ⟨A, c, x1, hc, hi.stay x3⟩
  have Y : Hid (RefB ((w.alloc (.cells #[.string n, .slice A xs.length c] 24 (0, 0))).alloc (.cells #[.string m, .slice B0 ys.length d] 24 (0, 0))) (w.heap.size + 1) m ys) := Lib.hid ⟨B0, d, x2, hd, hj.stay x3⟩
  have B := Lib.hid x3
  have I := Lib.hid (hi.stay x3)
  have J := Lib.hid (hj.stay x3)
  have HC0 := Lib.hid hc
  have HD0 := Lib.hid hd
  have HX := Lib.hid hl
  have HY := Lib.hid hl2
  clear hc hd hi hj x1 x2 x3 x5 hl hl2
  go_enter Tryz.func33, Tryz.ntmps33
  go_wp2_with fail
  generalize ((w.alloc (.cells #[.string n, .slice A xs.length c] 24 (0, 0))).alloc (.cells #[.string m, .slice B0 ys.length d] 24 (0, 0))) = W0 at *
  have hcall := rshape_any n m xs ys _ _ _ ⟨A, c, rfl, HC0.out, I.out⟩ ⟨B0, d, rfl, HD0.out, J.out⟩ (by have := HX.out; omega) (by have := HY.out; omega)
  rw [HSH.out] at hcall
  refine hcall.mono ?_
  clear hcall
  rintro e wc1 ⟨rfl, hb1⟩
  clear I J HC0 HD0
  replace X := Lib.hid (X.out.stay hb1)
  replace Y := Lib.hid (Y.out.stay hb1)
  replace B := Lib.hid (B.out.trans (hb1.mono B.out.size))
  clear hb1
  obtain ⟨AY, cY, hY, hcY, hiY⟩ := Y.out
  have qY0 := hY.cells.1
  have qY1 := hY.cells.2
  have HHY := Lib.hid hY
  have HCY := Lib.hid hcY
  have HIY := Lib.hid hiY
  clear hY hcY hiY
  go_wp2_with fail
  have hcall := risnn_any m ys _ _ ⟨AY, cY, rfl, HCY.out, HIY.out⟩
  rw [HNB.out] at hcall
  refine hcall.mono ?_
  clear hcall
  clear qY0 qY1
  rintro e wc2 ⟨rfl, hb1⟩
  replace X := Lib.hid (X.out.stay hb1)
  replace Y := Lib.hid (Y.out.stay hb1)
  replace B := Lib.hid (B.out.trans (hb1.mono B.out.size))
  clear hb1
  obtain ⟨AX, cX, hX, hcX, hiX⟩ := X.out
  have qX0 := hX.cells.1
  have qX1 := hX.cells.2
  have HHX := Lib.hid hX
  have HCX := Lib.hid hcX
  have HIX := Lib.hid hiX
  clear hX hcX hiX
  go_wp2_with fail
  have hcall := risnn_any n xs _ _ ⟨AX, cX, rfl, HCX.out, HIX.out⟩
  rw [HNA.out] at hcall
  refine hcall.mono ?_
  clear hcall
  clear qX0 qX1
  rintro e wc3 ⟨rfl, hb1⟩
  replace X := Lib.hid (X.out.stay hb1)
  replace Y := Lib.hid (Y.out.stay hb1)
  replace B := Lib.hid (B.out.trans (hb1.mono B.out.size))
  clear hb1
  obtain ⟨AX, cX, hX, hcX, hiX⟩ := X.out
  have qX0 := hX.cells.1
  have qX1 := hX.cells.2
  have HHX := Lib.hid hX
  have HCX := Lib.hid hcX
  have HIX := Lib.hid hiX
  clear hX hcX hiX
  go_wp2_with fail
  have hcall := (rinner_any n xs _ _ ⟨AX, cX, rfl, HCX.out, HIX.out⟩ (by have := HX.out; omega)).mono fun _ _ h => rweak_no h HIA.out
  refine hcall.mono ?_
  clear hcall
  clear qX0 qX1
  rintro e wc4 ⟨rfl, hb1⟩
  replace X := Lib.hid (X.out.stay hb1)
  replace Y := Lib.hid (Y.out.stay hb1)
  replace B := Lib.hid (B.out.trans (hb1.mono B.out.size))
  clear hb1
  have HNC : Hid (([] : Ws).length ≤ 0) := Lib.hid (Nat.le_refl _)
  have HNI := Lib.hid (IntsAt.nil wc4 wc4.heap.size none)
  have hbA := (Below.refl wc4.heap.size wc4).alloc (Nat.le_refl _) (.cells #[.string ⟨#[]⟩, .slice none 0 0] 24 (0, 0))
  have P : Hid (RefB (wc4.alloc (.cells #[.string ⟨#[]⟩, .slice none 0 0] 24 (0, 0))) wc4.heap.size ⟨#[]⟩ []) := Lib.hid ⟨_, _, BxR.new wc4 _ _, HNC.out, HNI.out.stay hbA⟩
  have VP : Hid (RefV (wc4.alloc (.cells #[.string ⟨#[]⟩, .slice none 0 0] 24 (0, 0))) (wc4.alloc (.cells #[.string ⟨#[]⟩, .slice none 0 0] 24 (0, 0))).heap.size (.agg #[.string ⟨#[]⟩, .slice none 0 0]) ⟨#[]⟩ []) := Lib.hid ⟨_, _, rfl, HNC.out, HNI.out.stay hbA⟩
  replace X := Lib.hid (X.out.stay hbA)
  replace Y := Lib.hid (Y.out.stay hbA)
  replace B := Lib.hid (B.out.trans (hbA.mono B.out.size))
  clear hbA
  have hltP : Hid (wc4.heap.size < (wc4.alloc (.cells #[.string ⟨#[]⟩, .slice none 0 0] 24 (0, 0))).heap.size) := Lib.hid (by simp)
  obtain ⟨AY, cY, hY, hcY, hiY⟩ := Y.out
  have qY0 := hY.cells.1
  have qY1 := hY.cells.2
  have HHY := Lib.hid hY
  have HCY := Lib.hid hcY
  have HIY := Lib.hid hiY
  clear hY hcY hiY
  go_wp2_with fail
  generalize (wc4.alloc (.cells #[.string ⟨#[]⟩, .slice none 0 0] 24 (0, 0))) = wa5 at *
  have hcall := (rinner_any m ys _ _ ⟨AY, cY, rfl, HCY.out, HIY.out⟩ (by have := HY.out; omega)).mono fun _ _ h => rweak_no h HIB.out
  refine hcall.mono ?_
  clear hcall
  clear qY0 qY1
  rintro e wc6 ⟨rfl, hb1⟩
  replace X := Lib.hid (X.out.stay hb1)
  replace Y := Lib.hid (Y.out.stay hb1)
  replace P := Lib.hid (P.out.stay hb1)
  replace B := Lib.hid (B.out.trans (hb1.mono B.out.size))
  clear hb1
  replace HNI := Lib.hid (IntsAt.nil wc6 wc6.heap.size none)
  have hbA := (Below.refl wc6.heap.size wc6).alloc (Nat.le_refl _) (.cells #[.string ⟨#[]⟩, .slice none 0 0] 24 (0, 0))
  have Q : Hid (RefB (wc6.alloc (.cells #[.string ⟨#[]⟩, .slice none 0 0] 24 (0, 0))) wc6.heap.size ⟨#[]⟩ []) := Lib.hid ⟨_, _, BxR.new wc6 _ _, HNC.out, HNI.out.stay hbA⟩
  have VQ : Hid (RefV (wc6.alloc (.cells #[.string ⟨#[]⟩, .slice none 0 0] 24 (0, 0))) (wc6.alloc (.cells #[.string ⟨#[]⟩, .slice none 0 0] 24 (0, 0))).heap.size (.agg #[.string ⟨#[]⟩, .slice none 0 0]) ⟨#[]⟩ []) := Lib.hid ⟨_, _, rfl, HNC.out, HNI.out.stay hbA⟩
  replace X := Lib.hid (X.out.stay hbA)
  replace Y := Lib.hid (Y.out.stay hbA)
  replace P := Lib.hid (P.out.stay hbA)
  replace B := Lib.hid (B.out.trans (hbA.mono B.out.size))
  clear hbA
  have hltQ : Hid (wc6.heap.size < (wc6.alloc (.cells #[.string ⟨#[]⟩, .slice none 0 0] 24 (0, 0))).heap.size) := Lib.hid (by simp)
  go_wp2_with fail
  generalize (wc6.alloc (.cells #[.string ⟨#[]⟩, .slice none 0 0] 24 (0, 0))) = wa7 at *
  exact bodyPost_ret (v := .bool true) (by simp [results, Tryz.results33, go_sem]) rfl ⟨by rw [HF.out], B.out⟩
set_option maxRecDepth 100000 in
set_option maxHeartbeats 2000000 in
theorem rfits_sf (n m : ByteArray) (xs ys : Ws) (v u : Value) (w : World) (hx : RefV w w.heap.size v n xs) (hy : RefV w w.heap.size u m ys) (hl : xs.length ≤ 100) (hl2 : ys.length ≤ 100) (hsh : decide (n = m ∧ strL xs = strL ys) = true) (hnb : nnB ys = false) (xi yi : Ws) (b : Bool) (hia : inO xs = some xi) (hib : inO ys = some yi) (ih : ∀ (v u : Value) (w : World), RefV w w.heap.size v n xi → RefV w w.heap.size u m yi → Calls Tryz.prog 33 #[v, u] w (BoolPost b w)) (hf : fitB n m xs ys = b) : Calls Tryz.prog 33 #[v, u] w (BoolPost (fitB n m xs ys) w) := by
  have HSH := Lib.hid hsh
  have HF := Lib.hid hf
  have HNB := Lib.hid hnb
  have HIA := Lib.hid hia
  have HIB := Lib.hid hib
  have IH := Lib.hid ih
  clear ih
  clear hsh hf hnb hia hib
  obtain ⟨A, c, rfl, hc, hi⟩ := hx
  obtain ⟨B0, d, rfl, hd, hj⟩ := hy
  obtain ⟨x1, x2, x3, x5⟩ := BxR.both w (.string n) (.slice A xs.length c) (.string m) (.slice B0 ys.length d)
  have X : Hid (RefB ((w.alloc (.cells #[.string n, .slice A xs.length c] 24 (0, 0))).alloc (.cells #[.string m, .slice B0 ys.length d] 24 (0, 0))) w.heap.size n xs) := Lib.hid ⟨A, c, x1, hc, hi.stay x3⟩
  have Y : Hid (RefB ((w.alloc (.cells #[.string n, .slice A xs.length c] 24 (0, 0))).alloc (.cells #[.string m, .slice B0 ys.length d] 24 (0, 0))) (w.heap.size + 1) m ys) := Lib.hid ⟨B0, d, x2, hd, hj.stay x3⟩
  have B := Lib.hid x3
  have I := Lib.hid (hi.stay x3)
  have J := Lib.hid (hj.stay x3)
  have HC0 := Lib.hid hc
  have HD0 := Lib.hid hd
  have HX := Lib.hid hl
  have HY := Lib.hid hl2
  clear hc hd hi hj x1 x2 x3 x5 hl hl2
  go_enter Tryz.func33, Tryz.ntmps33
  go_wp2_with fail
  generalize ((w.alloc (.cells #[.string n, .slice A xs.length c] 24 (0, 0))).alloc (.cells #[.string m, .slice B0 ys.length d] 24 (0, 0))) = W0 at *
  have hcall := rshape_any n m xs ys _ _ _ ⟨A, c, rfl, HC0.out, I.out⟩ ⟨B0, d, rfl, HD0.out, J.out⟩ (by have := HX.out; omega) (by have := HY.out; omega)
  rw [HSH.out] at hcall
  refine hcall.mono ?_
  clear hcall
  rintro e wc1 ⟨rfl, hb1⟩
  clear I J HC0 HD0
  replace X := Lib.hid (X.out.stay hb1)
  replace Y := Lib.hid (Y.out.stay hb1)
  replace B := Lib.hid (B.out.trans (hb1.mono B.out.size))
  clear hb1
  obtain ⟨AY, cY, hY, hcY, hiY⟩ := Y.out
  have qY0 := hY.cells.1
  have qY1 := hY.cells.2
  have HHY := Lib.hid hY
  have HCY := Lib.hid hcY
  have HIY := Lib.hid hiY
  clear hY hcY hiY
  go_wp2_with fail
  have hcall := risnn_any m ys _ _ ⟨AY, cY, rfl, HCY.out, HIY.out⟩
  rw [HNB.out] at hcall
  refine hcall.mono ?_
  clear hcall
  clear qY0 qY1
  rintro e wc2 ⟨rfl, hb1⟩
  replace X := Lib.hid (X.out.stay hb1)
  replace Y := Lib.hid (Y.out.stay hb1)
  replace B := Lib.hid (B.out.trans (hb1.mono B.out.size))
  clear hb1
  obtain ⟨AX, cX, hX, hcX, hiX⟩ := X.out
  have qX0 := hX.cells.1
  have qX1 := hX.cells.2
  have HHX := Lib.hid hX
  have HCX := Lib.hid hcX
  have HIX := Lib.hid hiX
  clear hX hcX hiX
  go_wp2_with fail
  have hcall := (rinner_any n xs _ _ ⟨AX, cX, rfl, HCX.out, HIX.out⟩ (by have := HX.out; omega)).mono fun _ _ h => rweak_len h HIA.out
  refine hcall.mono ?_
  clear hcall
  clear qX0 qX1
  rintro e wc3 ⟨⟨u, rfl, AIX, cIX, rfl, hcI, hiI⟩, hb1⟩
  have HCIX := Lib.hid hcI
  have HIIX := Lib.hid hiI
  clear hcI hiI
  replace X := Lib.hid (X.out.stay hb1)
  replace Y := Lib.hid (Y.out.stay hb1)
  replace B := Lib.hid (B.out.trans (hb1.mono B.out.size))
  clear hb1
  have hbA := (Below.refl wc3.heap.size wc3).alloc (Nat.le_refl _) (.cells #[.string n, .slice AIX xi.length cIX] 24 (0, 0))
  have P : Hid (RefB (wc3.alloc (.cells #[.string n, .slice AIX xi.length cIX] 24 (0, 0))) wc3.heap.size n xi) := Lib.hid ⟨_, _, BxR.new wc3 _ _, HCIX.out, HIIX.out.stay hbA⟩
  have VP : Hid (RefV (wc3.alloc (.cells #[.string n, .slice AIX xi.length cIX] 24 (0, 0))) (wc3.alloc (.cells #[.string n, .slice AIX xi.length cIX] 24 (0, 0))).heap.size (.agg #[.string n, .slice AIX xi.length cIX]) n xi) := Lib.hid ⟨_, _, rfl, HCIX.out, HIIX.out.stay hbA⟩
  replace X := Lib.hid (X.out.stay hbA)
  replace Y := Lib.hid (Y.out.stay hbA)
  replace B := Lib.hid (B.out.trans (hbA.mono B.out.size))
  clear hbA
  have hltP : Hid (wc3.heap.size < (wc3.alloc (.cells #[.string n, .slice AIX xi.length cIX] 24 (0, 0))).heap.size) := Lib.hid (by simp)
  obtain ⟨AY, cY, hY, hcY, hiY⟩ := Y.out
  have qY0 := hY.cells.1
  have qY1 := hY.cells.2
  have HHY := Lib.hid hY
  have HCY := Lib.hid hcY
  have HIY := Lib.hid hiY
  clear hY hcY hiY
  go_wp2_with fail
  generalize (wc3.alloc (.cells #[.string n, .slice AIX xi.length cIX] 24 (0, 0))) = wa4 at *
  have hcall := (rinner_any m ys _ _ ⟨AY, cY, rfl, HCY.out, HIY.out⟩ (by have := HY.out; omega)).mono fun _ _ h => rweak_len h HIB.out
  refine hcall.mono ?_
  clear hcall
  clear qY0 qY1
  rintro e wc5 ⟨⟨u, rfl, AIY, cIY, rfl, hcI, hiI⟩, hb1⟩
  have HCIY := Lib.hid hcI
  have HIIY := Lib.hid hiI
  clear hcI hiI
  replace X := Lib.hid (X.out.stay hb1)
  replace Y := Lib.hid (Y.out.stay hb1)
  replace P := Lib.hid (P.out.stay hb1)
  replace B := Lib.hid (B.out.trans (hb1.mono B.out.size))
  clear hb1
  have hbA := (Below.refl wc5.heap.size wc5).alloc (Nat.le_refl _) (.cells #[.string m, .slice AIY yi.length cIY] 24 (0, 0))
  have Q : Hid (RefB (wc5.alloc (.cells #[.string m, .slice AIY yi.length cIY] 24 (0, 0))) wc5.heap.size m yi) := Lib.hid ⟨_, _, BxR.new wc5 _ _, HCIY.out, HIIY.out.stay hbA⟩
  have VQ : Hid (RefV (wc5.alloc (.cells #[.string m, .slice AIY yi.length cIY] 24 (0, 0))) (wc5.alloc (.cells #[.string m, .slice AIY yi.length cIY] 24 (0, 0))).heap.size (.agg #[.string m, .slice AIY yi.length cIY]) m yi) := Lib.hid ⟨_, _, rfl, HCIY.out, HIIY.out.stay hbA⟩
  replace X := Lib.hid (X.out.stay hbA)
  replace Y := Lib.hid (Y.out.stay hbA)
  replace P := Lib.hid (P.out.stay hbA)
  replace B := Lib.hid (B.out.trans (hbA.mono B.out.size))
  clear hbA
  have hltQ : Hid (wc5.heap.size < (wc5.alloc (.cells #[.string m, .slice AIY yi.length cIY] 24 (0, 0))).heap.size) := Lib.hid (by simp)
  obtain ⟨AP, cP, hP, hcP, hiP⟩ := P.out
  have qP0 := hP.cells.1
  have qP1 := hP.cells.2
  have HHP := Lib.hid hP
  have HCP := Lib.hid hcP
  have HIP := Lib.hid hiP
  clear hP hcP hiP
  go_wp2_with fail
  generalize (wc5.alloc (.cells #[.string m, .slice AIY yi.length cIY] 24 (0, 0))) = wa6 at *
  have hcall := IH.out _ _ _ ⟨AP, cP, rfl, HCP.out, HIP.out⟩ VQ.out
  refine hcall.mono ?_
  clear hcall
  clear qP0 qP1
  rintro e wc7 ⟨rfl, hb1⟩
  replace X := Lib.hid (X.out.stay hb1)
  replace Y := Lib.hid (Y.out.stay hb1)
  replace P := Lib.hid (P.out.stay hb1)
  replace Q := Lib.hid (Q.out.stay hb1)
  replace B := Lib.hid (B.out.trans (hb1.mono B.out.size))
  clear hb1
  go_wp2_with fail
  exact bodyPost_ret (v := .bool b) (by simp [results, Tryz.results33, go_sem]) rfl ⟨by rw [HF.out], B.out⟩
set_option maxRecDepth 100000 in
set_option maxHeartbeats 2000000 in
theorem rfits_st (n m : ByteArray) (xs ys : Ws) (v u : Value) (w : World) (hx : RefV w w.heap.size v n xs) (hy : RefV w w.heap.size u m ys) (hl : xs.length ≤ 100) (hl2 : ys.length ≤ 100) (hsh : decide (n = m ∧ strL xs = strL ys) = true) (hnb : nnB ys = true) (hna : nnB xs = true) (xi yi : Ws) (b : Bool) (hia : inO xs = some xi) (hib : inO ys = some yi) (ih : ∀ (v u : Value) (w : World), RefV w w.heap.size v n xi → RefV w w.heap.size u m yi → Calls Tryz.prog 33 #[v, u] w (BoolPost b w)) (hf : fitB n m xs ys = b) : Calls Tryz.prog 33 #[v, u] w (BoolPost (fitB n m xs ys) w) := by
  have HSH := Lib.hid hsh
  have HF := Lib.hid hf
  have HNB := Lib.hid hnb
  have HIA := Lib.hid hia
  have HIB := Lib.hid hib
  have HNA := Lib.hid hna
  clear hna
  have IH := Lib.hid ih
  clear ih
  clear hsh hf hnb hia hib
  obtain ⟨A, c, rfl, hc, hi⟩ := hx
  obtain ⟨B0, d, rfl, hd, hj⟩ := hy
  obtain ⟨x1, x2, x3, x5⟩ := BxR.both w (.string n) (.slice A xs.length c) (.string m) (.slice B0 ys.length d)
  have X : Hid (RefB ((w.alloc (.cells #[.string n, .slice A xs.length c] 24 (0, 0))).alloc (.cells #[.string m, .slice B0 ys.length d] 24 (0, 0))) w.heap.size n xs) := Lib.hid ⟨A, c, x1, hc, hi.stay x3⟩
  have Y : Hid (RefB ((w.alloc (.cells #[.string n, .slice A xs.length c] 24 (0, 0))).alloc (.cells #[.string m, .slice B0 ys.length d] 24 (0, 0))) (w.heap.size + 1) m ys) := Lib.hid ⟨B0, d, x2, hd, hj.stay x3⟩
  have B := Lib.hid x3
  have I := Lib.hid (hi.stay x3)
  have J := Lib.hid (hj.stay x3)
  have HC0 := Lib.hid hc
  have HD0 := Lib.hid hd
  have HX := Lib.hid hl
  have HY := Lib.hid hl2
  clear hc hd hi hj x1 x2 x3 x5 hl hl2
  go_enter Tryz.func33, Tryz.ntmps33
  go_wp2_with fail
  generalize ((w.alloc (.cells #[.string n, .slice A xs.length c] 24 (0, 0))).alloc (.cells #[.string m, .slice B0 ys.length d] 24 (0, 0))) = W0 at *
  have hcall := rshape_any n m xs ys _ _ _ ⟨A, c, rfl, HC0.out, I.out⟩ ⟨B0, d, rfl, HD0.out, J.out⟩ (by have := HX.out; omega) (by have := HY.out; omega)
  rw [HSH.out] at hcall
  refine hcall.mono ?_
  clear hcall
  rintro e wc1 ⟨rfl, hb1⟩
  clear I J HC0 HD0
  replace X := Lib.hid (X.out.stay hb1)
  replace Y := Lib.hid (Y.out.stay hb1)
  replace B := Lib.hid (B.out.trans (hb1.mono B.out.size))
  clear hb1
  obtain ⟨AY, cY, hY, hcY, hiY⟩ := Y.out
  have qY0 := hY.cells.1
  have qY1 := hY.cells.2
  have HHY := Lib.hid hY
  have HCY := Lib.hid hcY
  have HIY := Lib.hid hiY
  clear hY hcY hiY
  go_wp2_with fail
  have hcall := risnn_any m ys _ _ ⟨AY, cY, rfl, HCY.out, HIY.out⟩
  rw [HNB.out] at hcall
  refine hcall.mono ?_
  clear hcall
  clear qY0 qY1
  rintro e wc2 ⟨rfl, hb1⟩
  replace X := Lib.hid (X.out.stay hb1)
  replace Y := Lib.hid (Y.out.stay hb1)
  replace B := Lib.hid (B.out.trans (hb1.mono B.out.size))
  clear hb1
  obtain ⟨AX, cX, hX, hcX, hiX⟩ := X.out
  have qX0 := hX.cells.1
  have qX1 := hX.cells.2
  have HHX := Lib.hid hX
  have HCX := Lib.hid hcX
  have HIX := Lib.hid hiX
  clear hX hcX hiX
  go_wp2_with fail
  have hcall := risnn_any n xs _ _ ⟨AX, cX, rfl, HCX.out, HIX.out⟩
  rw [HNA.out] at hcall
  refine hcall.mono ?_
  clear hcall
  clear qX0 qX1
  rintro e wc3 ⟨rfl, hb1⟩
  replace X := Lib.hid (X.out.stay hb1)
  replace Y := Lib.hid (Y.out.stay hb1)
  replace B := Lib.hid (B.out.trans (hb1.mono B.out.size))
  clear hb1
  obtain ⟨AX, cX, hX, hcX, hiX⟩ := X.out
  have qX0 := hX.cells.1
  have qX1 := hX.cells.2
  have HHX := Lib.hid hX
  have HCX := Lib.hid hcX
  have HIX := Lib.hid hiX
  clear hX hcX hiX
  go_wp2_with fail
  have hcall := (rinner_any n xs _ _ ⟨AX, cX, rfl, HCX.out, HIX.out⟩ (by have := HX.out; omega)).mono fun _ _ h => rweak_len h HIA.out
  refine hcall.mono ?_
  clear hcall
  clear qX0 qX1
  rintro e wc4 ⟨⟨u, rfl, AIX, cIX, rfl, hcI, hiI⟩, hb1⟩
  have HCIX := Lib.hid hcI
  have HIIX := Lib.hid hiI
  clear hcI hiI
  replace X := Lib.hid (X.out.stay hb1)
  replace Y := Lib.hid (Y.out.stay hb1)
  replace B := Lib.hid (B.out.trans (hb1.mono B.out.size))
  clear hb1
  have hbA := (Below.refl wc4.heap.size wc4).alloc (Nat.le_refl _) (.cells #[.string n, .slice AIX xi.length cIX] 24 (0, 0))
  have P : Hid (RefB (wc4.alloc (.cells #[.string n, .slice AIX xi.length cIX] 24 (0, 0))) wc4.heap.size n xi) := Lib.hid ⟨_, _, BxR.new wc4 _ _, HCIX.out, HIIX.out.stay hbA⟩
  have VP : Hid (RefV (wc4.alloc (.cells #[.string n, .slice AIX xi.length cIX] 24 (0, 0))) (wc4.alloc (.cells #[.string n, .slice AIX xi.length cIX] 24 (0, 0))).heap.size (.agg #[.string n, .slice AIX xi.length cIX]) n xi) := Lib.hid ⟨_, _, rfl, HCIX.out, HIIX.out.stay hbA⟩
  replace X := Lib.hid (X.out.stay hbA)
  replace Y := Lib.hid (Y.out.stay hbA)
  replace B := Lib.hid (B.out.trans (hbA.mono B.out.size))
  clear hbA
  have hltP : Hid (wc4.heap.size < (wc4.alloc (.cells #[.string n, .slice AIX xi.length cIX] 24 (0, 0))).heap.size) := Lib.hid (by simp)
  obtain ⟨AY, cY, hY, hcY, hiY⟩ := Y.out
  have qY0 := hY.cells.1
  have qY1 := hY.cells.2
  have HHY := Lib.hid hY
  have HCY := Lib.hid hcY
  have HIY := Lib.hid hiY
  clear hY hcY hiY
  go_wp2_with fail
  generalize (wc4.alloc (.cells #[.string n, .slice AIX xi.length cIX] 24 (0, 0))) = wa5 at *
  have hcall := (rinner_any m ys _ _ ⟨AY, cY, rfl, HCY.out, HIY.out⟩ (by have := HY.out; omega)).mono fun _ _ h => rweak_len h HIB.out
  refine hcall.mono ?_
  clear hcall
  clear qY0 qY1
  rintro e wc6 ⟨⟨u, rfl, AIY, cIY, rfl, hcI, hiI⟩, hb1⟩
  have HCIY := Lib.hid hcI
  have HIIY := Lib.hid hiI
  clear hcI hiI
  replace X := Lib.hid (X.out.stay hb1)
  replace Y := Lib.hid (Y.out.stay hb1)
  replace P := Lib.hid (P.out.stay hb1)
  replace B := Lib.hid (B.out.trans (hb1.mono B.out.size))
  clear hb1
  have hbA := (Below.refl wc6.heap.size wc6).alloc (Nat.le_refl _) (.cells #[.string m, .slice AIY yi.length cIY] 24 (0, 0))
  have Q : Hid (RefB (wc6.alloc (.cells #[.string m, .slice AIY yi.length cIY] 24 (0, 0))) wc6.heap.size m yi) := Lib.hid ⟨_, _, BxR.new wc6 _ _, HCIY.out, HIIY.out.stay hbA⟩
  have VQ : Hid (RefV (wc6.alloc (.cells #[.string m, .slice AIY yi.length cIY] 24 (0, 0))) (wc6.alloc (.cells #[.string m, .slice AIY yi.length cIY] 24 (0, 0))).heap.size (.agg #[.string m, .slice AIY yi.length cIY]) m yi) := Lib.hid ⟨_, _, rfl, HCIY.out, HIIY.out.stay hbA⟩
  replace X := Lib.hid (X.out.stay hbA)
  replace Y := Lib.hid (Y.out.stay hbA)
  replace P := Lib.hid (P.out.stay hbA)
  replace B := Lib.hid (B.out.trans (hbA.mono B.out.size))
  clear hbA
  have hltQ : Hid (wc6.heap.size < (wc6.alloc (.cells #[.string m, .slice AIY yi.length cIY] 24 (0, 0))).heap.size) := Lib.hid (by simp)
  obtain ⟨AP, cP, hP, hcP, hiP⟩ := P.out
  have qP0 := hP.cells.1
  have qP1 := hP.cells.2
  have HHP := Lib.hid hP
  have HCP := Lib.hid hcP
  have HIP := Lib.hid hiP
  clear hP hcP hiP
  go_wp2_with fail
  generalize (wc6.alloc (.cells #[.string m, .slice AIY yi.length cIY] 24 (0, 0))) = wa7 at *
  have hcall := IH.out _ _ _ ⟨AP, cP, rfl, HCP.out, HIP.out⟩ VQ.out
  refine hcall.mono ?_
  clear hcall
  clear qP0 qP1
  rintro e wc8 ⟨rfl, hb1⟩
  replace X := Lib.hid (X.out.stay hb1)
  replace Y := Lib.hid (Y.out.stay hb1)
  replace P := Lib.hid (P.out.stay hb1)
  replace Q := Lib.hid (Q.out.stay hb1)
  replace B := Lib.hid (B.out.trans (hb1.mono B.out.size))
  clear hb1
  go_wp2_with fail
  exact bodyPost_ret (v := .bool b) (by simp [results, Tryz.results33, go_sem]) rfl ⟨by rw [HF.out], B.out⟩
theorem rfits_core (n m : ByteArray) (xs ys : Ws) (v u : Value) (w : World) (hx : RefV w w.heap.size v n xs) (hy : RefV w w.heap.size u m ys) (hl : xs.length ≤ 100) (hl2 : ys.length ≤ 100) (ha : rtF false xs = true) (hb : rtF false ys = true)
    (IH : ∀ (xi yi : Ws) (v u : Value) (w : World), xi.length < xs.length → rtF false xi = true → rtF false yi = true → xi.length ≤ 100 → yi.length ≤ 100 → RefV w w.heap.size v n xi → RefV w w.heap.size u m yi → Calls Tryz.prog 33 #[v, u] w (BoolPost (fitB n m xi yi) w)) :
    Calls Tryz.prog 33 #[v, u] w (BoolPost (fitB n m xs ys) w) := by
  cases hsh : decide (n = m ∧ strL xs = strL ys) with
  | false => exact rfits_f n m xs ys v u w hx hy hl hl2 hsh (fi_no hsh)
  | true =>
    have hs := of_decide_eq_true hsh
    have hn : decide (n = m) = true := decide_eq_true hs.1
    rcases we_step ha hb hs.2 with ⟨x, y, h1, h2, h3, _, h4⟩ | ⟨h1, h2, _, h4⟩
    · have l1 := in_len h1
      have l2 := in_len h2
      have ih := fun (v u : Value) (w : World) (hv : RefV w w.heap.size v n x) (hu : RefV w w.heap.size u m y) => IH x y v u w l1 (in_rt ha h1) (in_rt hb h2) (by omega) (by omega) hv hu
      cases hnb : nnB ys with
      | false => exact rfits_sf n m xs ys v u w hx hy hl hl2 hsh hnb x y _ h1 h2 ih (by unfold fitB; rw [h4, hnb, hn]; simp)
      | true =>
        cases hna : nnB xs with
        | false => exact rfits_x n m xs ys v u w hx hy hl hl2 hsh hnb hna (by unfold fitB; rw [h4, hna, hnb]; simp)
        | true => exact rfits_st n m xs ys v u w hx hy hl hl2 hsh hnb hna x y _ h1 h2 ih (by unfold fitB; rw [h4, hna, hnb, hn]; simp)
    · cases hnb : nnB ys with
      | false => exact rfits_nf n m xs ys v u w hx hy hl hl2 hsh hnb h1 h2 (by unfold fitB; rw [h4, hnb, hn]; simp)
      | true =>
        cases hna : nnB xs with
        | false => exact rfits_x n m xs ys v u w hx hy hl hl2 hsh hnb hna (by unfold fitB; rw [h4, hna, hnb]; simp)
        | true => exact rfits_nt n m xs ys v u w hx hy hl hl2 hsh hnb hna h1 h2 (by unfold fitB; rw [h4, hna, hnb, hn]; simp)
theorem rfits_all : ∀ (N : Nat) (n m : ByteArray) (xs ys : Ws) (v u : Value) (w : World), RefV w w.heap.size v n xs → RefV w w.heap.size u m ys → xs.length ≤ 100 → ys.length ≤ 100 → xs.length ≤ N → rtF false xs = true → rtF false ys = true → Calls Tryz.prog 33 #[v, u] w (BoolPost (fitB n m xs ys) w)
  | 0, n, m, xs, ys, v, u, w, hx, hy, hl, hl2, h0, ha, hb => rfits_core n m xs ys v u w hx hy hl hl2 ha hb (fun xi yi _ _ _ hlt _ _ _ _ _ _ => by omega)
  | N + 1, n, m, xs, ys, v, u, w, hx, hy, hl, hl2, h0, ha, hb => rfits_core n m xs ys v u w hx hy hl hl2 ha hb (fun xi yi v u w hlt h1 h2 h3 h4 h5 h6 => rfits_all N n m xi yi v u w h5 h6 h3 h4 (by omega) h1 h2)
theorem rfits_any (n m : ByteArray) (xs ys : Ws) (v u : Value) (w : World) (hx : RefV w w.heap.size v n xs) (hy : RefV w w.heap.size u m ys) (hl : xs.length ≤ 100) (hl2 : ys.length ≤ 100) (ha : rtF false xs = true) (hb : rtF false ys = true) : Calls Tryz.prog 33 #[v, u] w (BoolPost (fitB n m xs ys) w) :=
  rfits_all xs.length n m xs ys v u w hx hy hl hl2 (Nat.le_refl _) ha hb
end Go.Proofs.YtgicbmibhnnflaaGreatDoor
namespace Go.Proofs.YtgicbmibhnnflaaGreatDoor
open Go.RowKit
theorem z_at {w : World} {B : Nat} {A : Option Addr} {zs : List Tz} (h : ZAt w B A zs) {i : Nat} {k : Int} {t : List UInt8} {n : Int} (hq : zs[i]? = some (k, t, n)) : ∃ a : Addr, A = some a ∧ w.cell? (a.add (i * 3)) = some (.int .i64 k) ∧ w.cell? ⟨(a.add (i * 3)).block, (a.add (i * 3)).off + 1, none⟩ = some (.string ⟨t.toArray⟩) := by
  obtain ⟨a, e, _, hc⟩ := h (by have := (List.getElem?_eq_some_iff.1 hq).1; omega)
  obtain ⟨h0, h1, _⟩ := hc i _ hq
  exact ⟨a, e, h0, h1⟩
theorem kz_at {zs : List Tz} {i : Nat} {k : Int} {t : List UInt8} {n : Int} (hq : zs[i]? = some (k, t, n)) : kz (zs.drop i) = (k, t) :: kz (zs.drop (i + 1)) := by
  obtain ⟨h1, h2⟩ := List.getElem?_eq_some_iff.1 hq
  rw [List.drop_eq_getElem_cons h1, h2]; rfl
theorem kz_out {zs : List Tz} {i : Nat} (h : zs.length ≤ i) : kz (zs.drop i) = [] := by rw [List.drop_eq_nil_of_le h]; rfl
set_option maxRecDepth 100000 in
set_option maxHeartbeats 2000000 in
theorem tksign_m (zs : List Tz) (A : Option Addr) (c B i : Nat) (ch : UInt8) (m : ByteArray) (hm : m = ⟨#[ch]⟩) (w : World) (h : ZAt w B A zs) (hl : zs.length ≤ 100000) : Calls Tryz.prog 71 #[.slice A zs.length c, .int .i64 i, .string m] w fun e w' => e = .returned (.bool (sgB ch (kz (zs.drop i)))) ∧ w = w' := by
  by_cases hlt : i < zs.length
  · obtain ⟨⟨k, t, n⟩, hq⟩ : ∃ q, zs[i]? = some q := ⟨zs[i], List.getElem?_eq_getElem hlt⟩
    obtain ⟨a, rfl, h0, h1⟩ := z_at h hq
    have hv : sgB ch (kz (zs.drop i)) = decide (k = 1 ∧ t = [ch]) := by rw [kz_at hq]; rfl
    have hbe := bytes_eq t ch
    rw [← hm] at hbe
    have hse := str_eq ⟨t.toArray⟩ m
    generalize (⟨t.toArray⟩ : ByteArray) = tb at *
    have hlt' : (i : Int) < zs.length := by omega
    have hl' : (zs.length : Int) ≤ 100000 := by omega
    by_cases hk : k = 1
    · subst hk
      by_cases ht : t = [ch]
      · rw [decide_eq_true (hbe.2 ht)] at hse
        have HV : Hid (sgB ch (kz (zs.drop i)) = true) := Lib.hid (by rw [hv]; simp [ht])
        clear hv hbe ht hq hm hl hlt h
        go_enter Tryz.func71, Tryz.ntmps71
        go_wp2_with fail
        exact bodyPost_ret (v := .bool true) (by simp [results, Tryz.results71, go_sem]) rfl ⟨by rw [HV.out], rfl⟩
      · rw [decide_eq_false (fun h => ht (hbe.1 h))] at hse
        have HV : Hid (sgB ch (kz (zs.drop i)) = false) := Lib.hid (by rw [hv]; simp [ht])
        clear hv hbe ht hq hm hl hlt h
        go_enter Tryz.func71, Tryz.ntmps71
        go_wp2_with fail
        exact bodyPost_ret (v := .bool false) (by simp [results, Tryz.results71, go_sem]) rfl ⟨by rw [HV.out], rfl⟩
    · have hkb : (k == 1) = false := by simp [hk]
      have HV : Hid (sgB ch (kz (zs.drop i)) = false) := Lib.hid (by rw [hv]; simp [hk])
      clear hv hbe hk hq hm hl hlt h hse
      go_enter Tryz.func71, Tryz.ntmps71
      go_wp2_with fail
      exact bodyPost_ret (v := .bool false) (by simp [results, Tryz.results71, go_sem]) rfl ⟨by rw [HV.out], rfl⟩
  · have hlt' : ¬ (i : Int) < zs.length := by omega
    have HV : Hid (sgB ch (kz (zs.drop i)) = false) := Lib.hid (by rw [kz_out (by omega)]; rfl)
    clear hm hlt h hl
    go_enter Tryz.func71, Tryz.ntmps71
    go_wp2_with fail
    exact bodyPost_ret (v := .bool false) (by simp [results, Tryz.results71, go_sem]) rfl ⟨by rw [HV.out], rfl⟩
theorem tksign_any (zs : List Tz) (A : Option Addr) (c B i : Nat) (ch : UInt8) (w : World) (h : ZAt w B A zs) (hl : zs.length ≤ 100000) : Calls Tryz.prog 71 #[.slice A zs.length c, .int .i64 i, .string ⟨#[ch]⟩] w fun e w' => e = .returned (.bool (sgB ch (kz (zs.drop i)))) ∧ w = w' := tksign_m zs A c B i ch _ rfl w h hl
def TkPost (o : Option (List UInt8 × Ws × List K2)) (zs : List Tz) (w : World) (e : Ending) (w' : World) : Prop :=
  (match o with
    | none => e = .returned (.tuple #[.agg #[.string ⟨#[]⟩, .slice none 0 0], .int .i64 0, .bool false])
    | some (n, ws, r) => ∃ (u : Value) (j : Nat), e = .returned (.tuple #[u, .int .i64 j, .bool true]) ∧ RefV w' w'.heap.size u ⟨n.toArray⟩ ws ∧ r = kz (zs.drop j) ∧ 1 ≤ j ∧ j ≤ zs.length ∧ ws.length ≤ 2 * j) ∧ Below w.heap.size w w'
theorem sg_lt {zs : List Tz} {c : UInt8} {i : Nat} (h : sgB c (kz (zs.drop i)) = true) : i < zs.length := by
  rcases Nat.lt_or_ge i zs.length with h' | h'
  · exact h'
  · rw [kz_out h'] at h; cases h
theorem kz_next {zs : List Tz} {i : Nat} : (kz (zs.drop i)).tail = kz (zs.drop (i + 1)) := by rw [← kz_tail, List.tail_drop]
set_option maxRecDepth 100000 in
set_option maxHeartbeats 2000000 in
theorem rtokens_core (zs : List Tz) (A : Option Addr) (c i : Nat) (w : World) (h : ZAt w w.heap.size A zs) (hl : zs.length ≤ 100000) (hi : i ≤ zs.length)
    (ih : ∀ w' : World, i < zs.length → ZAt w' w'.heap.size A zs → Calls Tryz.prog 54 #[.slice A zs.length c, .int .i64 ((i + 1 : Nat) : Int)] w' (TkPost (refP (kz (zs.drop (i + 1)))) zs w')) :
    Calls Tryz.prog 54 #[.slice A zs.length c, .int .i64 i] w (TkPost (refP (kz (zs.drop i))) zs w) := by
  obtain ⟨x1, x2, x3, x4⟩ := BxR.args w (.string ⟨#[]⟩) (.slice none 0 0)
  have Z := Lib.hid x1
  have O : Hid (RefB ((w.alloc (.cells #[.string ⟨#[]⟩, .slice none 0 0] 24 (0, 0))).alloc (.cells #[.string ⟨#[]⟩, .slice none 0 0] 24 (0, 0))) (w.heap.size + 1) ⟨#[]⟩ []) := Lib.hid ⟨none, 0, x2, Nat.le_refl _, IntsAt.nil _ _ _⟩
  have B := Lib.hid x3
  have HA := Lib.hid h
  have HL := Lib.hid hl
  have HJ := Lib.hid hi
  have IH := Lib.hid ih
  have hii : (i : Int) ≤ 100000 := by omega
  have hllz : (zs.length : Int) ≤ 100000 := by omega
  obtain ⟨RR, hRR⟩ : ∃ RR, RR = refP (kz (zs.drop i)) := ⟨_, rfl⟩
  rw [← hRR]
  have HR0 := Lib.hid hRR
  clear x1 x2 x3 x4 h hl hi ih hRR
  go_enter Tryz.func54, Tryz.ntmps54
  go_wp2_with fail
  generalize ((w.alloc (.cells #[.string ⟨#[]⟩, .slice none 0 0] 24 (0, 0))).alloc (.cells #[.string ⟨#[]⟩, .slice none 0 0] 24 (0, 0))) = W0 at *
  have HPO : Hid (w.heap.size + 1 < W0.heap.size) := Lib.hid O.out.lt
  have hcall := tksign_any zs A c w.heap.size i 91 _ (HA.out.kept B.out) HL.out
  cases hs91 : sgB 91 (kz (zs.drop i)) with
  | true =>
    rw [hs91] at hcall
    have Hhs91 := Lib.hid hs91
    clear hs91
    refine hcall.mono ?_
    clear hcall
    rintro e wq0t ⟨rfl, rfl⟩
    have HIL := Lib.hid (sg_lt Hhs91.out)
    go_wp2_with fail
    have hcall := IH.out _ HIL.out ((HA.out.kept B.out).mono B.out.size)
    cases hrf : refP (kz (zs.drop (i + 1))) with
    | none =>
      rw [hrf] at hcall
      have HRN : Hid (RR = none) := Lib.hid (by rw [HR0.out, refP_open Hhs91.out, kz_next, hrf])
      clear hrf
      refine hcall.mono ?_
      clear hcall
      rintro e w3 ⟨rfl, hb1⟩
      replace O := Lib.hid (O.out.stay hb1)
      replace Z := Lib.hid (Z.out.stay hb1)
      replace B := Lib.hid (B.out.trans (hb1.mono B.out.size))
      clear hb1
      have HNC : Hid (([] : Ws).length ≤ 0) := Lib.hid (Nat.le_refl _)
      have HNI := Lib.hid (IntsAt.nil w3 w3.heap.size none)
      have hbA := (Below.refl w3.heap.size w3).alloc (Nat.le_refl _) (.cells #[.string ⟨#[]⟩, .slice none 0 0] 24 (0, 0))
      have P : Hid (RefB (w3.alloc (.cells #[.string ⟨#[]⟩, .slice none 0 0] 24 (0, 0))) w3.heap.size ⟨#[]⟩ []) := Lib.hid ⟨_, _, BxR.new w3 _ _, HNC.out, HNI.out.stay hbA⟩
      have VP : Hid (RefV (w3.alloc (.cells #[.string ⟨#[]⟩, .slice none 0 0] 24 (0, 0))) (w3.alloc (.cells #[.string ⟨#[]⟩, .slice none 0 0] 24 (0, 0))).heap.size (.agg #[.string ⟨#[]⟩, .slice none 0 0]) ⟨#[]⟩ []) := Lib.hid ⟨_, _, rfl, HNC.out, HNI.out.stay hbA⟩
      replace O := Lib.hid (O.out.stay hbA)
      replace Z := Lib.hid (Z.out.stay hbA)
      replace B := Lib.hid (B.out.trans (hbA.mono B.out.size))
      clear hbA
      have hltP : Hid (w3.heap.size < (w3.alloc (.cells #[.string ⟨#[]⟩, .slice none 0 0] 24 (0, 0))).heap.size) := Lib.hid (by simp)
      have z0 := Z.out.cells.1
      have z1 := Z.out.cells.2
      have zf0 := Z.out.frz 0
      have zf1 := Z.out.frz 1
      go_wp2_with fail
      generalize (w3.alloc (.cells #[.string ⟨#[]⟩, .slice none 0 0] 24 (0, 0))) = wa1 at *
      obtain ⟨y1, y2, y3⟩ := zero_end Z.out (Nat.le_refl _) B.out
      refine bodyPost_ret (v := .tuple #[.agg #[.string ⟨#[]⟩, .slice none 0 0], .int .i64 0, .bool false]) (by simp [results, Tryz.results54, go_sem, y2, y3]) rfl ⟨?_, y1⟩
      rw [HRN.out]
    | some x =>
      obtain ⟨n, ws, rr⟩ := x
      rw [hrf] at hcall
      have HR1 : Hid (RR = if sgB 93 rr = true then some (bang2 n (2 :: ws) rr.tail) else none) := Lib.hid (by rw [HR0.out, refP_open Hhs91.out, kz_next, hrf])
      clear hrf
      refine hcall.mono ?_
      clear hcall
      rintro e w3 ⟨⟨u, j, rfl, ⟨A3, c3, rfl, hc3, hi3⟩, rfl, hj1, hj, hwl⟩, hb1⟩
      replace O := Lib.hid (O.out.stay hb1)
      replace Z := Lib.hid (Z.out.stay hb1)
      replace B := Lib.hid (B.out.trans (hb1.mono B.out.size))
      have HC3 := Lib.hid hc3
      have HI3 := Lib.hid hi3
      have HWL := Lib.hid hwl
      replace HJ := Lib.hid hj
      have HJ0 := Lib.hid hj1
      clear hb1 hc3 hi3 hwl
      replace HPO := Lib.hid O.out.lt
      have hjj : (j : Int) ≤ 100000 := by have := HL.out; omega
      clear hj hj1
      have hbA := (Below.refl w3.heap.size w3).alloc (Nat.le_refl _) (.cells #[.string ⟨n.toArray⟩, .slice A3 ws.length c3] 24 (0, 0))
      have P : Hid (RefB (w3.alloc (.cells #[.string ⟨n.toArray⟩, .slice A3 ws.length c3] 24 (0, 0))) w3.heap.size ⟨n.toArray⟩ ws) := Lib.hid ⟨_, _, BxR.new w3 _ _, HC3.out, HI3.out.stay hbA⟩
      have VP : Hid (RefV (w3.alloc (.cells #[.string ⟨n.toArray⟩, .slice A3 ws.length c3] 24 (0, 0))) (w3.alloc (.cells #[.string ⟨n.toArray⟩, .slice A3 ws.length c3] 24 (0, 0))).heap.size (.agg #[.string ⟨n.toArray⟩, .slice A3 ws.length c3]) ⟨n.toArray⟩ ws) := Lib.hid ⟨_, _, rfl, HC3.out, HI3.out.stay hbA⟩
      replace O := Lib.hid (O.out.stay hbA)
      replace Z := Lib.hid (Z.out.stay hbA)
      replace B := Lib.hid (B.out.trans (hbA.mono B.out.size))
      clear hbA
      have hltP : Hid (w3.heap.size < (w3.alloc (.cells #[.string ⟨n.toArray⟩, .slice A3 ws.length c3] 24 (0, 0))).heap.size) := Lib.hid (by simp)
      go_wp2_with fail
      generalize (w3.alloc (.cells #[.string ⟨n.toArray⟩, .slice A3 ws.length c3] 24 (0, 0))) = wa1 at *
      have hcall := tksign_any zs A c w.heap.size j 93 _ (HA.out.kept B.out) HL.out
      cases hs93 : sgB 93 (kz (zs.drop j)) with
      | true =>
        rw [hs93] at hcall
        have Hhs93 := Lib.hid hs93
        clear hs93
        refine hcall.mono ?_
        clear hcall
        rintro e wq1t ⟨rfl, rfl⟩
        obtain ⟨AP, cP, hP, hcP, hiP⟩ := P.out
        have qP0 := hP.cells.1
        have qP1 := hP.cells.2
        have HHP := Lib.hid hP
        have HCP := Lib.hid hcP
        have HIP := Lib.hid hiP
        clear hP hcP hiP
        go_wp2_with fail
        have hcall := rlistof_any ⟨n.toArray⟩ ws _ _ ⟨AP, cP, rfl, HCP.out, HIP.out⟩ (by have := HWL.out; have := HL.out; have := HJ.out; omega)
        refine hcall.mono ?_
        clear hcall
        clear qP0 qP1
        rintro e wc2 ⟨⟨u, rfl, AS, cS, rfl, hcS, hiS⟩, hb1⟩
        have HCS := Lib.hid hcS
        have HIS := Lib.hid hiS
        clear hcS hiS
        replace O := Lib.hid (O.out.stay hb1)
        replace P := Lib.hid (P.out.stay hb1)
        replace Z := Lib.hid (Z.out.stay hb1)
        replace B := Lib.hid (B.out.trans (hb1.mono B.out.size))
        clear hb1
        obtain ⟨AO, cO, hO, hcO, hiO⟩ := O.out
        have qO0 := hO.cells.1
        have qO1 := hO.cells.2
        have fO0 := hO.frz 0
        have fO1 := hO.frz 1
        have HHO := Lib.hid hO
        have HCO := Lib.hid hcO
        have HIO := Lib.hid hiO
        clear hO hcO hiO
        have hjl := sg_lt Hhs93.out
        have hjj2 : ((j : Int) + 1) ≤ 100000 := by have := HL.out; omega
        have hpo : ¬ w3.heap.size = w.heap.size + 1 := by have h9 := HPO.out; omega
        replace P : Hid (RefB ((wc2.setCell ⟨(w.heap.size + 1), 0, none⟩ (.string ⟨n.toArray⟩)).setCell ⟨(w.heap.size + 1), 1, none⟩ (.slice AS (ws.length + 1) cS)) w3.heap.size ⟨n.toArray⟩ ws) := Lib.hid ((P.out.off HHO.out (by have h9 := HPO.out; omega) 0 _).off (HHO.out.s0 _) (by have h9 := HPO.out; omega) 1 _)
        replace Z : Hid (BxR ((wc2.setCell ⟨(w.heap.size + 1), 0, none⟩ (.string ⟨n.toArray⟩)).setCell ⟨(w.heap.size + 1), 1, none⟩ (.slice AS (ws.length + 1) cS)) w.heap.size (.string ⟨#[]⟩) (.slice none 0 0)) := Lib.hid ((Z.out.kept (Below.heap_setCell _ _ _ _ (by dsimp only; omega))).kept (Below.heap_setCell _ _ _ _ (by dsimp only; omega)))
        have VO : Hid (RefV ((wc2.setCell ⟨(w.heap.size + 1), 0, none⟩ (.string ⟨n.toArray⟩)).setCell ⟨(w.heap.size + 1), 1, none⟩ (.slice AS (ws.length + 1) cS)) ((wc2.setCell ⟨(w.heap.size + 1), 0, none⟩ (.string ⟨n.toArray⟩)).setCell ⟨(w.heap.size + 1), 1, none⟩ (.slice AS (ws.length + 1) cS)).heap.size (.agg #[.string ⟨n.toArray⟩, (.slice AS (ws.length + 1) cS)]) ⟨n.toArray⟩ (2 :: ws)) := Lib.hid ⟨_, _, rfl, HCS.out, by have h8 := (HIS.out.off HHO.out 0 (.string ⟨n.toArray⟩)).off (HHO.out.s0 (.string ⟨n.toArray⟩)) 1 (.slice AS (ws.length + 1) cS); simpa using h8⟩
        replace O : Hid (RefB ((wc2.setCell ⟨(w.heap.size + 1), 0, none⟩ (.string ⟨n.toArray⟩)).setCell ⟨(w.heap.size + 1), 1, none⟩ (.slice AS (ws.length + 1) cS)) (w.heap.size + 1) ⟨n.toArray⟩ (2 :: ws)) := Lib.hid (RefB.put HHO.out HCS.out HIS.out)
        replace B : Hid (Below w.heap.size w ((wc2.setCell ⟨(w.heap.size + 1), 0, none⟩ (.string ⟨n.toArray⟩)).setCell ⟨(w.heap.size + 1), 1, none⟩ (.slice AS (ws.length + 1) cS))) := Lib.hid (Below.pair B.out (by omega) _ _)
        go_wp2_with fail
        generalize ((wc2.setCell ⟨(w.heap.size + 1), 0, none⟩ (.string ⟨n.toArray⟩)).setCell ⟨(w.heap.size + 1), 1, none⟩ (.slice AS (ws.length + 1) cS)) = wa3 at *
        have HRR : Hid (RR = some (bang2 n (2 :: ws) (kz (zs.drop (j + 1))))) := Lib.hid (by rw [HR1.out, if_pos Hhs93.out, kz_next])
        replace HJ : Hid (j + 1 ≤ zs.length) := Lib.hid hjl
        have HJ1 : Hid (1 ≤ j + 1) := Lib.hid (by omega)
        clear hjl hpo
        have hcall := tksign_any zs A c w.heap.size (j + 1) 33 _ (HA.out.kept B.out) HL.out
        cases hs33 : sgB 33 (kz (zs.drop (j + 1))) with
        | true =>
          rw [hs33] at hcall
          have Hhs33 := Lib.hid hs33
          clear hs33
          refine hcall.mono ?_
          clear hcall
          clear qO0 qO1 fO0 fO1
          rintro e wq3t ⟨rfl, rfl⟩
          obtain ⟨AO, cO, hO, hcO, hiO⟩ := O.out
          have qO0 := hO.cells.1
          have qO1 := hO.cells.2
          have HHO := Lib.hid hO
          have HCO := Lib.hid hcO
          have HIO := Lib.hid hiO
          clear hO hcO hiO
          go_wp2_with fail
          have hcall := rnonnull_any ⟨n.toArray⟩ (2 :: ws) _ _ ⟨AO, cO, rfl, HCO.out, HIO.out⟩ (by have := HWL.out; have := HL.out; have := HJ.out; simp only [List.length_cons]; omega)
          generalize hzz : nnL (2 :: ws) = zz at hcall
          have HZZ := Lib.hid hzz
          clear hzz
          have HZL : Hid (zz.length ≤ (2 :: ws).length + 1) := Lib.hid (by rw [← HZZ.out]; have := nul_len (2 :: ws); show _ + 1 ≤ _; omega)
          refine hcall.mono ?_
          clear hcall
          clear qO0 qO1
          rintro e wn4 ⟨⟨u9, rfl, A9, c9, rfl, hc9, hi9⟩, hb1⟩
          replace O := Lib.hid (O.out.stay hb1)
          replace P := Lib.hid (P.out.stay hb1)
          replace Z := Lib.hid (Z.out.stay hb1)
          replace B := Lib.hid (B.out.trans (hb1.mono B.out.size))
          clear hb1
          have HC9 := Lib.hid hc9
          have HI9 := Lib.hid hi9
          clear hc9 hi9
          obtain ⟨AO, cO, hO, hcO, hiO⟩ := O.out
          have qO0 := hO.cells.1
          have qO1 := hO.cells.2
          have fO0 := hO.frz 0
          have fO1 := hO.frz 1
          have HHO := Lib.hid hO
          have HCO := Lib.hid hcO
          have HIO := Lib.hid hiO
          clear hO hcO hiO
          have z0 := Z.out.cells.1
          have z1 := Z.out.cells.2
          have zf0 := Z.out.frz 0
          have zf1 := Z.out.frz 1
          have hji : (((j + 1) : Nat) : Int) ≤ 100000 := by have := HL.out; have := HJ.out; omega
          replace Z : Hid (BxR ((wn4.setCell ⟨(w.heap.size + 1), 0, none⟩ (.string ⟨n.toArray⟩)).setCell ⟨(w.heap.size + 1), 1, none⟩ (.slice A9 zz.length c9)) w.heap.size (.string ⟨#[]⟩) (.slice none 0 0)) := Lib.hid ((Z.out.kept (Below.heap_setCell _ _ _ _ (by dsimp only; omega))).kept (Below.heap_setCell _ _ _ _ (by dsimp only; omega)))
          have VO : Hid (RefV ((wn4.setCell ⟨(w.heap.size + 1), 0, none⟩ (.string ⟨n.toArray⟩)).setCell ⟨(w.heap.size + 1), 1, none⟩ (.slice A9 zz.length c9)) ((wn4.setCell ⟨(w.heap.size + 1), 0, none⟩ (.string ⟨n.toArray⟩)).setCell ⟨(w.heap.size + 1), 1, none⟩ (.slice A9 zz.length c9)).heap.size (.agg #[.string ⟨n.toArray⟩, (.slice A9 zz.length c9)]) ⟨n.toArray⟩ zz) := Lib.hid ⟨_, _, rfl, HC9.out, by have h8 := (HI9.out.off HHO.out 0 (.string ⟨n.toArray⟩)).off (HHO.out.s0 (.string ⟨n.toArray⟩)) 1 (.slice A9 zz.length c9); simpa using h8⟩
          replace O : Hid (RefB ((wn4.setCell ⟨(w.heap.size + 1), 0, none⟩ (.string ⟨n.toArray⟩)).setCell ⟨(w.heap.size + 1), 1, none⟩ (.slice A9 zz.length c9)) (w.heap.size + 1) ⟨n.toArray⟩ zz) := Lib.hid (RefB.put HHO.out HC9.out HI9.out)
          replace B : Hid (Below w.heap.size w ((wn4.setCell ⟨(w.heap.size + 1), 0, none⟩ (.string ⟨n.toArray⟩)).setCell ⟨(w.heap.size + 1), 1, none⟩ (.slice A9 zz.length c9))) := Lib.hid (Below.pair B.out (by omega) _ _)
          have z0 := Z.out.cells.1
          have z1 := Z.out.cells.2
          have zf0 := Z.out.frz 0
          have zf1 := Z.out.frz 1
          obtain ⟨y1, y2, y3⟩ := ref_end (n := ⟨n.toArray⟩) Z.out (Nat.le_refl _) B.out HC9.out (by obtain ⟨A8, c8, e8, _, h8⟩ := VO.out; injection e8 with e8; injection e8 with e8; simp at e8; obtain ⟨rfl, _⟩ := e8; exact h8)
          have HY := Lib.hid y1
          clear y1
          go_wp2_with fail
          obtain ⟨⟨u, e, hu⟩, hbl⟩ := HY.out
          cases e
          refine bodyPost_ret (v := .tuple #[.agg #[.string ⟨n.toArray⟩, .slice A9 zz.length c9], .int .i64 (((j : Int) + 1) + 1), .bool true]) (by simp [results, Tryz.results54, go_sem, y2, y3]) rfl ⟨?_, hbl⟩
          rw [HRR.out, show bang2 n (2 :: ws) (kz (zs.drop (j + 1))) = (n, zz, kz (zs.drop ((j + 1) + 1))) by unfold bang2; rw [Hhs33.out, if_pos rfl, HZZ.out, kz_next]]
          exact ⟨_, (j + 1) + 1, by first | rfl | simp, hu, rfl, by omega, sg_lt Hhs33.out, by have := HZL.out; have := HWL.out; simp only [List.length_cons] at *; omega⟩
        | false =>
          rw [hs33] at hcall
          have Hhs33 := Lib.hid hs33
          clear hs33
          refine hcall.mono ?_
          clear hcall
          clear qO0 qO1 fO0 fO1
          rintro e wq3f ⟨rfl, rfl⟩
          obtain ⟨AO, cO, hO, hcO, hiO⟩ := O.out
          have qO0 := hO.cells.1
          have qO1 := hO.cells.2
          have HHO := Lib.hid hO
          have HCO := Lib.hid hcO
          have HIO := Lib.hid hiO
          clear hO hcO hiO
          have z0 := Z.out.cells.1
          have z1 := Z.out.cells.2
          have zf0 := Z.out.frz 0
          have zf1 := Z.out.frz 1
          have hji : (((j + 1) : Nat) : Int) ≤ 100000 := by have := HL.out; have := HJ.out; omega
          obtain ⟨y1, y2, y3⟩ := ref_end (n := ⟨n.toArray⟩) Z.out (Nat.le_refl _) B.out HCO.out HIO.out
          simp only [List.length_cons] at y2 y3
          have HY := Lib.hid y1
          clear y1
          go_wp2_with fail
          obtain ⟨⟨u, e, hu⟩, hbl⟩ := HY.out
          cases e
          refine bodyPost_ret (v := .tuple #[.agg #[.string ⟨n.toArray⟩, .slice AO (ws.length + 1) cO], .int .i64 ((j : Int) + 1), .bool true]) (by simp [results, Tryz.results54, go_sem, y2, y3]) rfl ⟨?_, hbl⟩
          rw [HRR.out, show bang2 n (2 :: ws) (kz (zs.drop (j + 1))) = (n, 2 :: ws, kz (zs.drop (j + 1))) by unfold bang2; rw [Hhs33.out]; rfl]
          exact ⟨_, (j + 1), by first | rfl | simp, hu, rfl, HJ1.out, by have := HJ.out; omega, by have := HWL.out; simp only [List.length_cons]; omega⟩
      | false =>
        rw [hs93] at hcall
        have Hhs93 := Lib.hid hs93
        clear hs93
        refine hcall.mono ?_
        clear hcall
        rintro e wq1f ⟨rfl, rfl⟩
        have HRN : Hid (RR = none) := Lib.hid (by rw [HR1.out, if_neg (by rw [Hhs93.out]; decide)])
        have z0 := Z.out.cells.1
        have z1 := Z.out.cells.2
        have zf0 := Z.out.frz 0
        have zf1 := Z.out.frz 1
        go_wp2_with fail
        obtain ⟨y1, y2, y3⟩ := zero_end Z.out (Nat.le_refl _) B.out
        refine bodyPost_ret (v := .tuple #[.agg #[.string ⟨#[]⟩, .slice none 0 0], .int .i64 0, .bool false]) (by simp [results, Tryz.results54, go_sem, y2, y3]) rfl ⟨?_, y1⟩
        rw [HRN.out]
  | false =>
    rw [hs91] at hcall
    have Hhs91 := Lib.hid hs91
    clear hs91
    refine hcall.mono ?_
    clear hcall
    rintro e wq0f ⟨rfl, rfl⟩
    have HR1 : Hid (RR = match nmO (kz (zs.drop i)) with | none => none | some n => some (bang2 n [] (kz (zs.drop i)).tail)) := Lib.hid (HR0.out.trans (refP_name Hhs91.out))
    by_cases hlt : i < zs.length
    · obtain ⟨⟨k, t, ix⟩, hq⟩ : ∃ q, zs[i]? = some q := ⟨zs[i], List.getElem?_eq_getElem hlt⟩
      have hkz := kz_at hq
      have HR2 : Hid (RR = match (if k = 2 then some t else none : Option (List UInt8)) with | none => none | some n => some (bang2 n [] (kz (zs.drop (i + 1))))) := Lib.hid (by rw [HR1.out, kz_next, hkz]; rfl)
      obtain ⟨a, ea, g0, g1⟩ := z_at (HA.out.kept B.out) hq
      have HEA := Lib.hid ea
      have hlt1 : (i : Int) < zs.length := by omega
      have HLT := Lib.hid hlt
      clear hkz hq hlt ea
      have hea := HEA.out
      subst hea
      clear HEA
      by_cases hk : k = 2
      · subst hk
        have HRR : Hid (RR = some (bang2 t [] (kz (zs.drop (i + 1))))) := Lib.hid (by rw [HR2.out]; rfl)
        obtain ⟨AO, cO, hO, hcO, hiO⟩ := O.out
        have o0 := hO.cells.1
        have of0 := hO.frz 0
        have hz9 : Hid (BxR (W0.setCell ⟨w.heap.size + 1, 0, none⟩ (.string ⟨t.toArray⟩)) w.heap.size (.string ⟨#[]⟩) (.slice none 0 0)) := Lib.hid (Z.out.kept (Below.heap_setCell _ _ _ _ (by dsimp only; omega)))
        have ho9 : Hid (RefB (W0.setCell ⟨w.heap.size + 1, 0, none⟩ (.string ⟨t.toArray⟩)) (w.heap.size + 1) ⟨t.toArray⟩ []) := Lib.hid ⟨AO, cO, hO.s0 _, hcO, IntsAt.nil _ _ _⟩
        have hb9 : Hid (Below w.heap.size w (W0.setCell ⟨w.heap.size + 1, 0, none⟩ (.string ⟨t.toArray⟩))) := Lib.hid (B.out.setCell (p := ⟨w.heap.size + 1, 0, none⟩) (by dsimp only; omega) _)
        clear hO hcO hiO O Z B
        go_wp2_with fail
        clear o0 of0 g0 g1
        generalize (W0.setCell ⟨w.heap.size + 1, 0, none⟩ (.string ⟨t.toArray⟩)) = W1 at *
        have O : Hid (RefB W1 (w.heap.size + 1) ⟨t.toArray⟩ []) := Lib.hid ho9.out
        have Z : Hid (BxR W1 w.heap.size (.string ⟨#[]⟩) (.slice none 0 0)) := Lib.hid hz9.out
        have B : Hid (Below w.heap.size w W1) := Lib.hid hb9.out
        clear ho9 hz9 hb9
        replace HJ : Hid (i + 1 ≤ zs.length) := Lib.hid HLT.out
        have HJ1 : Hid (1 ≤ i + 1) := Lib.hid (by omega)
        have hcall := tksign_any zs (some a) c w.heap.size (i + 1) 33 _ (HA.out.kept B.out) HL.out
        cases hs33 : sgB 33 (kz (zs.drop (i + 1))) with
        | true =>
          rw [hs33] at hcall
          have Hhs33 := Lib.hid hs33
          clear hs33
          refine hcall.mono ?_
          clear hcall
          rintro e wq0t ⟨rfl, rfl⟩
          obtain ⟨AO, cO, hO, hcO, hiO⟩ := O.out
          have qO0 := hO.cells.1
          have qO1 := hO.cells.2
          have HHO := Lib.hid hO
          have HCO := Lib.hid hcO
          have HIO := Lib.hid hiO
          clear hO hcO hiO
          go_wp2_with fail
          have hcall := rnonnull_any ⟨t.toArray⟩ ([]) _ _ ⟨AO, cO, rfl, HCO.out, HIO.out⟩ (by have := HL.out; have := HL.out; have := HJ.out; simp only [List.length_nil]; omega)
          generalize hzz : nnL ([]) = zz at hcall
          have HZZ := Lib.hid hzz
          clear hzz
          have HZL : Hid (zz.length ≤ ([]).length + 1) := Lib.hid (by rw [← HZZ.out]; have := nul_len ([]); show _ + 1 ≤ _; omega)
          refine hcall.mono ?_
          clear hcall
          clear qO0 qO1
          rintro e wn1 ⟨⟨u9, rfl, A9, c9, rfl, hc9, hi9⟩, hb1⟩
          replace O := Lib.hid (O.out.stay hb1)
          replace Z := Lib.hid (Z.out.stay hb1)
          replace B := Lib.hid (B.out.trans (hb1.mono B.out.size))
          clear hb1
          have HC9 := Lib.hid hc9
          have HI9 := Lib.hid hi9
          clear hc9 hi9
          obtain ⟨AO, cO, hO, hcO, hiO⟩ := O.out
          have qO0 := hO.cells.1
          have qO1 := hO.cells.2
          have fO0 := hO.frz 0
          have fO1 := hO.frz 1
          have HHO := Lib.hid hO
          have HCO := Lib.hid hcO
          have HIO := Lib.hid hiO
          clear hO hcO hiO
          have z0 := Z.out.cells.1
          have z1 := Z.out.cells.2
          have zf0 := Z.out.frz 0
          have zf1 := Z.out.frz 1
          have hji : (((i + 1) : Nat) : Int) ≤ 100000 := by have := HL.out; have := HJ.out; omega
          replace Z : Hid (BxR ((wn1.setCell ⟨(w.heap.size + 1), 0, none⟩ (.string ⟨t.toArray⟩)).setCell ⟨(w.heap.size + 1), 1, none⟩ (.slice A9 zz.length c9)) w.heap.size (.string ⟨#[]⟩) (.slice none 0 0)) := Lib.hid ((Z.out.kept (Below.heap_setCell _ _ _ _ (by dsimp only; omega))).kept (Below.heap_setCell _ _ _ _ (by dsimp only; omega)))
          have VO : Hid (RefV ((wn1.setCell ⟨(w.heap.size + 1), 0, none⟩ (.string ⟨t.toArray⟩)).setCell ⟨(w.heap.size + 1), 1, none⟩ (.slice A9 zz.length c9)) ((wn1.setCell ⟨(w.heap.size + 1), 0, none⟩ (.string ⟨t.toArray⟩)).setCell ⟨(w.heap.size + 1), 1, none⟩ (.slice A9 zz.length c9)).heap.size (.agg #[.string ⟨t.toArray⟩, (.slice A9 zz.length c9)]) ⟨t.toArray⟩ zz) := Lib.hid ⟨_, _, rfl, HC9.out, by have h8 := (HI9.out.off HHO.out 0 (.string ⟨t.toArray⟩)).off (HHO.out.s0 (.string ⟨t.toArray⟩)) 1 (.slice A9 zz.length c9); simpa using h8⟩
          replace O : Hid (RefB ((wn1.setCell ⟨(w.heap.size + 1), 0, none⟩ (.string ⟨t.toArray⟩)).setCell ⟨(w.heap.size + 1), 1, none⟩ (.slice A9 zz.length c9)) (w.heap.size + 1) ⟨t.toArray⟩ zz) := Lib.hid (RefB.put HHO.out HC9.out HI9.out)
          replace B : Hid (Below w.heap.size w ((wn1.setCell ⟨(w.heap.size + 1), 0, none⟩ (.string ⟨t.toArray⟩)).setCell ⟨(w.heap.size + 1), 1, none⟩ (.slice A9 zz.length c9))) := Lib.hid (Below.pair B.out (by omega) _ _)
          have z0 := Z.out.cells.1
          have z1 := Z.out.cells.2
          have zf0 := Z.out.frz 0
          have zf1 := Z.out.frz 1
          obtain ⟨y1, y2, y3⟩ := ref_end (n := ⟨t.toArray⟩) Z.out (Nat.le_refl _) B.out HC9.out (by obtain ⟨A8, c8, e8, _, h8⟩ := VO.out; injection e8 with e8; injection e8 with e8; simp at e8; obtain ⟨rfl, _⟩ := e8; exact h8)
          have HY := Lib.hid y1
          clear y1
          go_wp2_with fail
          obtain ⟨⟨u, e, hu⟩, hbl⟩ := HY.out
          cases e
          refine bodyPost_ret (v := .tuple #[.agg #[.string ⟨t.toArray⟩, .slice A9 zz.length c9], .int .i64 (((i : Int) + 1) + 1), .bool true]) (by simp [results, Tryz.results54, go_sem, y2, y3]) rfl ⟨?_, hbl⟩
          rw [HRR.out, show bang2 t ([]) (kz (zs.drop (i + 1))) = (t, zz, kz (zs.drop ((i + 1) + 1))) by unfold bang2; rw [Hhs33.out, if_pos rfl, HZZ.out, kz_next]]
          exact ⟨_, (i + 1) + 1, by first | rfl | simp, hu, rfl, by omega, sg_lt Hhs33.out, by have := HZL.out; have := HL.out; simp only [List.length_nil] at *; omega⟩
        | false =>
          rw [hs33] at hcall
          have Hhs33 := Lib.hid hs33
          clear hs33
          refine hcall.mono ?_
          clear hcall
          rintro e wq0f ⟨rfl, rfl⟩
          obtain ⟨AO, cO, hO, hcO, hiO⟩ := O.out
          have qO0 := hO.cells.1
          have qO1 := hO.cells.2
          have HHO := Lib.hid hO
          have HCO := Lib.hid hcO
          have HIO := Lib.hid hiO
          clear hO hcO hiO
          have z0 := Z.out.cells.1
          have z1 := Z.out.cells.2
          have zf0 := Z.out.frz 0
          have zf1 := Z.out.frz 1
          have hji : (((i + 1) : Nat) : Int) ≤ 100000 := by have := HL.out; have := HJ.out; omega
          obtain ⟨y1, y2, y3⟩ := ref_end (n := ⟨t.toArray⟩) Z.out (Nat.le_refl _) B.out HCO.out HIO.out
          simp only [List.length_nil] at y2 y3
          have HY := Lib.hid y1
          clear y1
          go_wp2_with fail
          obtain ⟨⟨u, e, hu⟩, hbl⟩ := HY.out
          cases e
          refine bodyPost_ret (v := .tuple #[.agg #[.string ⟨t.toArray⟩, .slice AO 0 cO], .int .i64 ((i : Int) + 1), .bool true]) (by simp [results, Tryz.results54, go_sem, y2, y3]) rfl ⟨?_, hbl⟩
          rw [HRR.out, show bang2 t ([]) (kz (zs.drop (i + 1))) = (t, [], kz (zs.drop (i + 1))) by unfold bang2; rw [Hhs33.out]; rfl]
          exact ⟨_, (i + 1), by first | rfl | simp, hu, rfl, HJ1.out, by have := HJ.out; omega, by have := HL.out; simp only [List.length_nil]; omega⟩
      · have hkb : (k != 2) = true := by simp [hk]
        have HRN : Hid (RR = none) := Lib.hid (by rw [HR2.out, if_neg hk])
        clear hk
        have z0 := Z.out.cells.1
        have z1 := Z.out.cells.2
        have zf0 := Z.out.frz 0
        have zf1 := Z.out.frz 1
        go_wp2_with fail
        obtain ⟨y1, y2, y3⟩ := zero_end Z.out (Nat.le_refl _) B.out
        refine bodyPost_ret (v := .tuple #[.agg #[.string ⟨#[]⟩, .slice none 0 0], .int .i64 0, .bool false]) (by simp [results, Tryz.results54, go_sem, y2, y3]) rfl ⟨?_, y1⟩
        rw [HRN.out]
    · have hlt1 : ¬ (i : Int) < zs.length := by omega
      have HRN : Hid (RR = none) := Lib.hid (by rw [HR1.out, kz_out (by omega)]; rfl)
      have z0 := Z.out.cells.1
      have z1 := Z.out.cells.2
      have zf0 := Z.out.frz 0
      have zf1 := Z.out.frz 1
      go_wp2_with fail
      obtain ⟨y1, y2, y3⟩ := zero_end Z.out (Nat.le_refl _) B.out
      refine bodyPost_ret (v := .tuple #[.agg #[.string ⟨#[]⟩, .slice none 0 0], .int .i64 0, .bool false]) (by simp [results, Tryz.results54, go_sem, y2, y3]) rfl ⟨?_, y1⟩
      rw [HRN.out]
end Go.Proofs.YtgicbmibhnnflaaGreatDoor
namespace Go.Proofs.YtgicbmibhnnflaaGreatDoor
open Go.RowKit
theorem rtokens_all (zs : List Tz) (A : Option Addr) (c : Nat) (hl : zs.length ≤ 100000) : ∀ (f i : Nat) (w : World), zs.length - i ≤ f → i ≤ zs.length → ZAt w w.heap.size A zs →
    Calls Tryz.prog 54 #[.slice A zs.length c, .int .i64 i] w (TkPost (refP (kz (zs.drop i))) zs w)
  | 0, i, w, hf, hi, h => rtokens_core zs A c i w h hl hi (fun _ hlt _ => by omega)
  | f + 1, i, w, hf, hi, h => rtokens_core zs A c i w h hl hi (fun w' hlt h' => rtokens_all zs A c hl f (i + 1) w' (by omega) hlt h')
theorem five_at {ts : List Tk} {l : List UInt8} (h : scR l = .ok ts) {j : Nat} (hj : j ≤ ts.length) : fivB (kz ((tz ts).drop j)) = decide (ts.length - j = 1) := by
  obtain ⟨ps, n, rfl, hp⟩ := scan_last h
  have e : kt ps ++ [(5, [])] = (kz (tz (ps ++ [(5, [], n)]))).take j ++ (kz (tz (ps ++ [(5, [], n)]))).drop j := by
    rw [List.take_append_drop, kz_tz]; unfold kt; simp
  rw [kz_drop, five_last e (fun p hp' => by
    unfold kt at hp'
    obtain ⟨q, hq, rfl⟩ := List.mem_map.1 hp'
    exact hp q hq)]
  rw [List.length_drop, kz_len, tz_len]
set_option maxRecDepth 100000 in
set_option maxHeartbeats 2000000 in
theorem rparse_any (s : ByteArray) (w : World) : Calls Tryz.prog 35 #[.string s] w (PaPost (paL s.data.toList) w) := by
  have hb0 := (Below.refl w.heap.size w).alloc (Nat.le_refl _) (.cells #[.string ⟨#[]⟩, .slice none 0 0] 24 (0, 0))
  have Z0 := Lib.hid (BxR.new w (.string ⟨#[]⟩) (.slice none 0 0))
  have CALL := Lib.hid (rscan_any s (w.alloc (.cells #[.string ⟨#[]⟩, .slice none 0 0] 24 (0, 0))))
  have B0 := Lib.hid hb0
  have HPA : Hid (paL s.data.toList = match scR s.data.toList with | .error e => .error e.2 | .ok ts => paT (kt ts)) := Lib.hid rfl
  generalize paL s.data.toList = R at *
  clear hb0
  go_enter Tryz.func35, Tryz.ntmps35
  go_wp2_with fail
  generalize (w.alloc (.cells #[.string ⟨#[]⟩, .slice none 0 0] 24 (0, 0))) = W0 at *
  have hcall := CALL.out
  clear CALL
  cases hsc : scR s.data.toList with
  | error x =>
    obtain ⟨xi, xc⟩ := x
    rw [hsc] at hcall
    have HR : Hid (R = .error xc) := Lib.hid (by rw [HPA.out, hsc])
    clear hsc HPA
    refine hcall.mono ?_
    clear hcall
    rintro e w1 ⟨⟨rfl, hne⟩, hb⟩
    have HZ1 : Hid (BxR w1 w.heap.size (.string ⟨#[]⟩) (.slice none 0 0)) := Lib.hid (Z0.out.stay hb)
    have HB1 := Lib.hid (B0.out.trans (hb.mono B0.out.size))
    have HNE := Lib.hid hne
    have hxb : (xc != 0) = true := by simpa using hne
    clear hb hne
    have z0 := HZ1.out.cells.1
    have z1 := HZ1.out.cells.2
    have f0 := HZ1.out.frz 0
    have f1 := HZ1.out.frz 1
    go_wp2_with fail
    obtain ⟨y2, y3⟩ := (HZ1.out.two (.string ⟨#[]⟩) (.slice none 0 0)).cells
    refine bodyPost_ret (v := .tuple #[.agg #[.string ⟨#[]⟩, .slice none 0 0], .int .i64 xc]) (by simp [results, Tryz.results35, go_sem, y2, y3]) rfl ⟨?_, ?_⟩
    · rw [HR.out]; exact ⟨HNE.out, rfl⟩
    · exact Below.pair HB1.out (Nat.le_refl _) _ _
  | ok ts =>
    rw [hsc] at hcall
    have HR : Hid (R = paT (kt ts)) := Lib.hid (by rw [HPA.out, hsc])
    have HFV : Hid (∀ j, j ≤ ts.length → fivB (kz ((tz ts).drop j)) = decide (ts.length - j = 1)) := Lib.hid (fun j hj => five_at hsc hj)
    have HCNT := Lib.hid (scan_count hsc)
    have HPOS := Lib.hid (end_tz hsc).pos
    clear hsc HPA
    refine hcall.mono ?_
    clear hcall
    rintro e w1 ⟨⟨v, rfl, hown⟩, hb⟩
    obtain ⟨A, c, rfl, hz, hzc⟩ := hown.at
    have HZA := Lib.hid hz
    have HZ1 : Hid (BxR w1 w.heap.size (.string ⟨#[]⟩) (.slice none 0 0)) := Lib.hid (Z0.out.stay hb)
    have HB1 := Lib.hid (B0.out.trans (hb.mono B0.out.size))
    have HZLN : Hid ((tz ts).length = ts.length) := Lib.hid (tz_len ts)
    have HKZ := Lib.hid (kz_tz ts)
    generalize tz ts = zs at *
    clear hown hz hzc hb B0 Z0
    go_wp2_with fail
    have hcall := rtokens_all zs A c (by have := HCNT.out; have := HZLN.out; omega) zs.length 0 w1 (by omega) (by omega) HZA.out
    rw [List.drop_zero, HKZ.out] at hcall
    have hlz : (zs.length : Int) ≤ 100000 := by have := HCNT.out; have := HZLN.out; omega
    cases hrf : refP (kt ts) with
    | none =>
      rw [hrf] at hcall
      have HR2 : Hid (R = .error 3) := Lib.hid (by rw [HR.out]; unfold paT; rw [hrf])
      clear hrf
      refine hcall.mono ?_
      clear hcall
      rintro e w3 ⟨rfl, hb⟩
      have HZ3 : Hid (BxR w3 w.heap.size (.string ⟨#[]⟩) (.slice none 0 0)) := Lib.hid (HZ1.out.stay hb)
      have HB3 := Lib.hid (HB1.out.trans (hb.mono HB1.out.size))
      have hb4 := (Below.refl w3.heap.size w3).alloc (Nat.le_refl _) (.cells #[.string ⟨#[]⟩, .slice none 0 0] 24 (0, 0))
      have HZ4 : Hid (BxR (w3.alloc (.cells #[.string ⟨#[]⟩, .slice none 0 0] 24 (0, 0))) w.heap.size (.string ⟨#[]⟩) (.slice none 0 0)) := Lib.hid (HZ3.out.stay hb4)
      have HB4 : Hid (Below w.heap.size w (w3.alloc (.cells #[.string ⟨#[]⟩, .slice none 0 0] 24 (0, 0)))) := Lib.hid (HB3.out.trans (hb4.mono HB3.out.size))
      clear hb hb4
      have z0 := HZ4.out.cells.1
      have z1 := HZ4.out.cells.2
      have f0 := HZ4.out.frz 0
      have f1 := HZ4.out.frz 1
      go_wp2_with fail
      obtain ⟨y2, y3⟩ := (HZ4.out.two (.string ⟨#[]⟩) (.slice none 0 0)).cells
      refine bodyPost_ret (v := .tuple #[.agg #[.string ⟨#[]⟩, .slice none 0 0], .int .i64 3]) (by simp [results, Tryz.results35, go_sem, y2, y3]) rfl ⟨?_, ?_⟩
      · rw [HR2.out]; exact ⟨by decide, rfl⟩
      · exact Below.pair HB4.out (Nat.le_refl _) _ _
    | some q =>
      obtain ⟨n, ws, r⟩ := q
      rw [hrf] at hcall
      have HR2 : Hid (R = if fivB r = true then (if 24 < ws.length then .error 5 else .ok (n, ws)) else .error 3) := Lib.hid (by rw [HR.out]; unfold paT; rw [hrf])
      clear hrf
      refine hcall.mono ?_
      clear hcall
      rintro e w3 ⟨⟨u, j, rfl, ⟨A3, c3, rfl, hc3, hi3⟩, hr, hj1, hj2, _⟩, hb⟩
      have HF : Hid (fivB r = decide (zs.length - j = 1)) := Lib.hid (by rw [hr, HZLN.out]; exact HFV.out j (by rw [← HZLN.out]; exact hj2))
      have HZ3 : Hid (BxR w3 w.heap.size (.string ⟨#[]⟩) (.slice none 0 0)) := Lib.hid (HZ1.out.stay hb)
      have HB3 := Lib.hid (HB1.out.trans (hb.mono HB1.out.size))
      have hb4 := (Below.refl w3.heap.size w3).alloc (Nat.le_refl _) (.cells #[.string ⟨n.toArray⟩, .slice A3 ws.length c3] 24 (0, 0))
      have HZ4 : Hid (BxR (w3.alloc (.cells #[.string ⟨n.toArray⟩, .slice A3 ws.length c3] 24 (0, 0))) w.heap.size (.string ⟨#[]⟩) (.slice none 0 0)) := Lib.hid (HZ3.out.stay hb4)
      have HB4 : Hid (Below w.heap.size w (w3.alloc (.cells #[.string ⟨n.toArray⟩, .slice A3 ws.length c3] 24 (0, 0)))) := Lib.hid (HB3.out.trans (hb4.mono HB3.out.size))
      have HI4 : Hid (IntsAt (w3.alloc (.cells #[.string ⟨n.toArray⟩, .slice A3 ws.length c3] 24 (0, 0))) (w3.alloc (.cells #[.string ⟨n.toArray⟩, .slice A3 ws.length c3] 24 (0, 0))).heap.size A3 ws) := Lib.hid (hi3.stay hb4)
      have HC4 := Lib.hid hc3
      have hjz : (j : Int) ≤ 100000 := by omega
      clear hb hb4 hi3 hc3 hr
      by_cases hf : zs.length - j = 1
      · have hjl : (j : Int) = (zs.length : Int) - 1 := by omega
        have hne : ((j : Int) != (zs.length : Int) - 1) = false := by simp [hjl]
        by_cases h24 : 24 < ws.length
        · have HR3 : Hid (R = .error 5) := Lib.hid (by rw [HR2.out, HF.out, decide_eq_true hf, if_pos rfl, if_pos h24])
          have hgt : (ws.length : Int) > 24 := by omega
          clear hf h24 hjl
          have z0 := HZ4.out.cells.1
          have z1 := HZ4.out.cells.2
          have f0 := HZ4.out.frz 0
          have f1 := HZ4.out.frz 1
          go_wp2_with fail
          obtain ⟨y2, y3⟩ := (HZ4.out.two (.string ⟨#[]⟩) (.slice none 0 0)).cells
          refine bodyPost_ret (v := .tuple #[.agg #[.string ⟨#[]⟩, .slice none 0 0], .int .i64 5]) (by simp [results, Tryz.results35, go_sem, y2, y3]) rfl ⟨?_, ?_⟩
          · rw [HR3.out]; exact ⟨by decide, rfl⟩
          · exact Below.pair HB4.out (Nat.le_refl _) _ _
        · have HR3 : Hid (R = .ok (n, ws)) := Lib.hid (by rw [HR2.out, HF.out, decide_eq_true hf, if_pos rfl, if_neg h24])
          have hgt : ¬ ((ws.length : Int) > 24) := by omega
          have HWL : Hid (ws.length ≤ 24) := Lib.hid (by omega)
          clear hf h24 hjl
          have z0 := HZ4.out.cells.1
          have z1 := HZ4.out.cells.2
          have f0 := HZ4.out.frz 0
          have f1 := HZ4.out.frz 1
          obtain ⟨y1, y2, y3⟩ := ref_end (n := ⟨n.toArray⟩) HZ4.out (Nat.le_refl _) HB4.out HC4.out HI4.out
          have HY := Lib.hid y1
          clear y1
          go_wp2_with fail
          obtain ⟨⟨u, e, hu⟩, hbl⟩ := HY.out
          cases e
          refine bodyPost_ret (v := .tuple #[.agg #[.string ⟨n.toArray⟩, .slice A3 ws.length c3], .int .i64 0]) (by simp [results, Tryz.results35, go_sem, y2, y3]) rfl ⟨?_, hbl⟩
          rw [HR3.out]
          exact ⟨⟨_, rfl, hu⟩, HWL.out⟩
      · have hne : ((j : Int) != (zs.length : Int) - 1) = true := by
          rw [bne_iff_ne]; omega
        have HR3 : Hid (R = .error 3) := Lib.hid (by rw [HR2.out, HF.out, decide_eq_false hf]; rfl)
        clear hf
        have z0 := HZ4.out.cells.1
        have z1 := HZ4.out.cells.2
        have f0 := HZ4.out.frz 0
        have f1 := HZ4.out.frz 1
        go_wp2_with fail
        obtain ⟨y2, y3⟩ := (HZ4.out.two (.string ⟨#[]⟩) (.slice none 0 0)).cells
        refine bodyPost_ret (v := .tuple #[.agg #[.string ⟨#[]⟩, .slice none 0 0], .int .i64 3]) (by simp [results, Tryz.results35, go_sem, y2, y3]) rfl ⟨?_, ?_⟩
        · rw [HR3.out]; exact ⟨by decide, rfl⟩
        · exact Below.pair HB4.out (Nat.le_refl _) _ _
end Go.Proofs.YtgicbmibhnnflaaGreatDoor
namespace Go.Proofs.YtgicbmibhnnflaaGreatDoor
open Go.RowKit Go.Shelf
attribute [local go_sem] Oper.semAt_some
/- What has come when k rounds are over. -/
def bwL (xs : Ws) (k : Nat) : List (Int × Int) := (List.range k).map fun j => (((xs.length - 1 - j : Nat) : Int), xs.getD (xs.length - 1 - j) 0)
theorem bw_succ (xs : Ws) (k : Nat) : bwL xs (k + 1) = bwL xs k ++ [(((xs.length - 1 - k : Nat) : Int), xs.getD (xs.length - 1 - k) 0)] := by simp [bwL, List.range_succ]
theorem bw_len (xs : Ws) (k : Nat) : (bwL xs k).length = k := by simp [bwL]
theorem bw_all (xs : Ws) : (bwL xs xs.length).map (fun p => p.2) = xs.reverse := by
  apply List.ext_getElem
  · simp [bwL]
  · intro i h1 h2
    have hi : i < xs.length := by simpa [bwL] using h1
    have h3 : xs.length - 1 - i < xs.length := by omega
    simp [bwL, h3]
/- What a round leaves that goes on: what lay below n0, and the variable of the iterator. -/
def KpB (n0 b : Nat) (W W' : World) : Prop := Below n0 W W' ∧ W'.heap[b]? = W.heap[b]?
theorem KpB.trans {n0 b : Nat} {A B C : World} (h : KpB n0 b A B) (k : KpB n0 b B C) : KpB n0 b A C := ⟨h.1.trans k.1, k.2.trans h.2⟩
theorem KpB.refl (n0 b : Nat) (W : World) : KpB n0 b W W := ⟨Below.refl _ _, rfl⟩
set_option maxRecDepth 100000 in
set_option maxHeartbeats 2000000 in
theorem bwd1_in (F : Fence) (n : Nat) (h7 : F.fn 77) (hro : F.round = none) (hn : 1 ≤ n) (l Bs n0 : Nat) (A : Option Addr) (c : Nat) (xs : Ws) (hl : xs.length ≤ 1000000) (J Jx : List (Int × Int) → World → Prop)
    (hY : ∀ pre x W, J pre W → pre.length < xs.length → YieldAt F (n - 1) Tryz.prog l #[.int .i64 x.1, .int .i64 x.2] W fun e W' =>
      (e = .returned (.bool true) ∧ J (pre ++ [x]) W' ∧ KpB n0 Bs W W') ∨ (e = .returned (.bool false) ∧ Jx (pre ++ [x]) W'))
    (W : World) (hBs : W.cell? ⟨Bs, 0, none⟩ = some (.slice A xs.length c)) (hc : IntsAt W n0 A xs) (h0 : J [] W) :
    CallsIn F n Tryz.prog 77 #[.func (.yield l) #[] #[], .pointer (some ⟨Bs, 0, none⟩)] W fun e W' => (∃ v, e = .returned v) ∧
      ((∃ ys, ys = bwL xs xs.length ∧ J ys W') ∨ (∃ pre, (∃ k, k ≤ xs.length ∧ pre = bwL xs k) ∧ Jx pre W')) := by
  refine callsIn_of_wp Tryz.func77 rfl h7 ?_ hro
  simp only [Tryz.ntmps77, List.size_toArray, List.length_cons, List.length_nil, Nat.reduceAdd, Nat.reduceSub, Array.replicate_succ, Array.replicate_zero, List.push_toArray, List.append_toArray, List.nil_append, List.cons_append]
  have hlm : ((xs.length : Int) ≤ 1000000) := by omega
  gi_wp2
  gi_loopw [3] (fun i wr => ∃ m : Nat, m ≤ xs.length ∧ i = .int .i64 ((m : Int) - 1) ∧ J (bwL xs (xs.length - m)) wr ∧ KpB n0 Bs W wr)
    (fun i _ => (intOf i + 1).toNat)
  case atStart => exact ⟨xs.length, Nat.le_refl _, rfl, by rw [Nat.sub_self]; exact h0, KpB.refl _ _ _⟩
  case round =>
    obtain ⟨m, hm, rfl, hJs, hnx⟩ := hrel
    have hbs : wr.cell? ⟨Bs, 0, none⟩ = some (.slice A xs.length c) := (World.cell?_of_block (w := W) hnx.2).trans hBs
    cases m with
    | zero =>
      gi_wp2
      go_end0
      exact ⟨⟨_, rfl⟩, .inl ⟨_, rfl, hJs⟩⟩
    | succ j =>
      obtain ⟨a, ea, ha, hcell⟩ := hc.kept hnx.1 (by omega)
      subst ea
      have hj : j < xs.length := by omega
      have hcx := hcell j _ (List.getElem?_eq_getElem hj)
      have e1 : xs.length - 1 - (xs.length - (j + 1)) = j := by omega
      have e2 : xs.length - (j + 1) + 1 = xs.length - j := by omega
      have e3 : xs.getD j 0 = xs[j] := by simp [hj]
      have hbw := bw_succ xs (xs.length - (j + 1))
      rw [e1, e2, e3] at hbw
      generalize xs[j] = x at *
      have hjl : (j : Int) < xs.length := by omega
      obtain ⟨fn, tmps, assign, body, hy, hR⟩ := hY _ ((j : Int), x) wr hJs (by rw [bw_len]; omega)
      dsimp only at hy
      have HBW := Lib.hid hbw
      have HNX := Lib.hid hnx
      clear hbw hnx e1 e2 e3 hcell hj
      gi_wp2
      refine hR.mono ?_
      rintro e W3 (⟨rfl, hJ3, hk3⟩ | ⟨rfl, hJx3⟩)
      · have HJ3 := Lib.hid hJ3
        have HK3 := Lib.hid hk3
        clear hJ3 hk3
        gi_wp2
        go_roundw
        case rel => exact ⟨j, by omega, by go_num, by rw [HBW.out]; exact HJ3.out, HNX.out.trans HK3.out⟩
        case measure => simp [intOf]
      · have HJ3 := Lib.hid hJx3
        clear hJx3
        gi_wp2
        refine bodyPost_ret (results_none rfl _ _ _) rfl ?_
        exact ⟨⟨_, rfl⟩, .inr ⟨_, ⟨_, by omega, HBW.out.symm⟩, HJ3.out⟩⟩
set_option maxHeartbeats 1000000 in
theorem bwd_in (F : Fence) (n : Nat) (h5 : F.fn 57) (hro : F.round = none) (a : Option Addr) (len cap : Nat) (w : World) :
    CallsIn F n Tryz.prog 57 #[.slice a len cap] w fun e w' => e = .returned (.func (.func 77) #[] #[.pointer (some ⟨w.heap.size, 0, none⟩)]) ∧ w' = w.alloc (.cells #[.slice a len cap] 22) := by
  refine callsIn_of_wp Tryz.func57 rfl h5 ?_ hro
  simp only [Tryz.ntmps57, List.size_toArray, List.length_cons, List.length_nil, Nat.reduceAdd, Nat.reduceSub, Array.replicate_succ, Array.replicate_zero, List.push_toArray, List.append_toArray, List.nil_append, List.cons_append]
  gi_wp2
  go_ret
  exact ⟨rfl, rfl⟩
theorem bwd_stops (F : Fence) (n : Nat) (h7 : F.fn 77) (hro : F.round = none) (hn : 1 ≤ n) (Bs n0 : Nat) (A : Option Addr) (c : Nat) (xs : Ws) (hl : xs.length ≤ 1000000) (w : World) (hBs : Bs < w.heap.size) (hn0 : n0 ≤ w.heap.size)
    (hc : w.cell? ⟨Bs, 0, none⟩ = some (.slice A xs.length c)) (hI : IntsAt w n0 A xs) :
    SeqStopsK F n Tryz.prog 77 #[.pointer (some ⟨Bs, 0, none⟩)] (fun x : Int × Int => #[Value.int .i64 x.1, Value.int .i64 x.2]) (KpB n0 Bs) (fun ys => ys = bwL xs xs.length)
      (fun pre => ∃ k, k ≤ xs.length ∧ pre = bwL xs k) xs.length w := fun l J Jx W hW _ _ hY h0 =>
  bwd1_in F n h7 hro hn l Bs n0 A c xs hl J Jx hY W ((hW.cell (p := ⟨Bs, 0, none⟩) hBs).trans hc) (hI.kept (hW.mono hn0)) h0
end Go.Proofs.YtgicbmibhnnflaaGreatDoor
namespace Go.Proofs.YtgicbmibhnnflaaGreatDoor
open Go.RowKit
def layW : Go.Shelf.Ren := ⟨fun | 166 => 55 | 240 => 72 | 276 => 95 | n => n, fun | 0 => 0 | 3 => 3 | 4 => 4 | 5 => 5 | 9 => 9 | 20 => 20 | 37 => 60 | 70 => 59 | 72 => 62 | 75 => 64 | 80 => 71 | 164 => 104 | n => n, fun n => n⟩
theorem lay166 : Go.Proofs.Lays.n166 Tryz.prog layW := {
  mixed := by kernel_rfl
  f166 := Tryz.func55.trans (congrArg some (by kernel_rfl))
  f240 := Tryz.func72.trans (congrArg some (by kernel_rfl))
  f276 := Tryz.func95.trans (congrArg some (by kernel_rfl))
  t0 := Tryz.underlying0
  a0 := Tryz.isAgg0
  z0 := Tryz.sizeOf0
  v0 := Tryz.zeroValue0
  t3 := Tryz.underlying3
  a3 := Tryz.isAgg3
  z3 := Tryz.sizeOf3
  v3 := Tryz.zeroValue3
  t4 := Tryz.underlying4
  a4 := Tryz.isAgg4
  z4 := Tryz.sizeOf4
  v4 := Tryz.zeroValue4
  t9 := Tryz.underlying9
  a9 := Tryz.isAgg9
  z9 := Tryz.sizeOf9
  v9 := Tryz.zeroValue9
  t20 := Tryz.underlying20
  a20 := Tryz.isAgg20
  z20 := Tryz.sizeOf20
  v20 := Tryz.zeroValue20
  t37 := Tryz.underlying60
  a37 := Tryz.isAgg60
  z37 := Tryz.sizeOf60
  v37 := Tryz.zeroValue60
  t70 := Tryz.underlying59
  a70 := Tryz.isAgg59
  z70 := Tryz.sizeOf59
  v70 := Tryz.zeroValue59
  t72 := Tryz.underlying62
  a72 := Tryz.isAgg62
  z72 := Tryz.sizeOf62
  v72 := Tryz.zeroValue62
  t75 := Tryz.underlying64
  a75 := Tryz.isAgg64
  z75 := Tryz.sizeOf64
  v75 := Tryz.zeroValue64
  t164 := Tryz.underlying104
  a164 := Tryz.isAgg104
  z164 := Tryz.sizeOf104
  v164 := Tryz.zeroValue104 }
theorem layX : Builder.Extra Tryz.prog layW := {
  sizeBuilder := by kernel_rfl
  liesBuilder := by kernel_rfl
  t5 := Tryz.underlying5
  a5 := Tryz.isAgg5
  z5 := Tryz.sizeOf5
  v5 := Tryz.zeroValue5
  infoByte := by kernel_rfl
  cellsByte := by kernel_rfl
  sizeByte := by kernel_rfl
  neB5 := by decide }
abbrev BD (B b : Nat) (l : List UInt8) (w : World) : Prop := Lib.IsBuilderF 62 5 B b (Lib.byteCells l) w
theorem writeString_any (B b : Nat) (l : List UInt8) (s : ByteArray) (w : World) (h : BD B b l w) (hl : l.length + s.size ≤ 1099511627776) (hB : B ≤ w.heap.size) :
    Calls Tryz.prog 55 #[pp b, .string s] w fun e w' => e = .returned (.tuple #[.int .i64 s.size, .nilIface]) ∧ BD B b (l ++ s.data.toList) w' ∧ Below B w w' ∧ Lib.OthersKept 5 (some b) w w' := by
  refine (Any.Builder_WriteString_k lay166 layX B b (Lib.byteCells l) s w h (by simp [Lib.byteCells]; omega) hB).mono ?_
  rintro e w' ⟨rfl, h1, h2⟩
  refine ⟨rfl, .inr ?_, h2⟩
  have e1 : Lib.byteCells l ++ Lib.strCells s = Lib.byteCells (l ++ s.data.toList) := by simp [Lib.byteCells, Lib.strCells]
  rw [← e1]
  exact h1
end Go.Proofs.YtgicbmibhnnflaaGreatDoor
namespace Go.Proofs.YtgicbmibhnnflaaGreatDoor
open Go.RowKit Go.Shelf
attribute [local go_sem] Oper.semAt_some
theorem cells_turn {W W' : World} {row : Option Nat} {k : Nat} {c : Array Value} {e : TypeId} {f : Nat × Nat} (h : W.heap[k]? = some (.cells c e f)) (hg : W.grownBy W' row) (hr : ∀ r, row = some r → ∃ o : Obj, W.heap[r]? = some o ∧ o.isCells = false) : W'.heap[k]? = some (.cells c e f) := by
  have hlt : k < W.heap.size := by
    rcases Nat.lt_or_ge k W.heap.size with h' | h'
    · exact h'
    · rw [Array.getElem?_eq_none h'] at h; cases h
  refine (hg.block k hlt (fun e => ?_)).trans h
  obtain ⟨o, ho, hc⟩ := hr k e.symm
  rw [h] at ho; cases ho; cases hc
theorem BD.any {B b : Nat} {l : List UInt8} {w w' : World} (h : BD B b l w) (hb : ∀ (k : Nat) (c : Array Value) (e : TypeId) (f : Nat × Nat), w.heap[k]? = some (Obj.cells c e f) → w'.heap[k]? = some (Obj.cells c e f)) : BD B b l w' := by
  have key : ∀ {p : Value}, Lib.BuilderAtF 62 5 B b p (Lib.byteCells l) w → Lib.BuilderAtF 62 5 B b p (Lib.byteCells l) w' := by
    intro p h
    obtain ⟨hB, v, hbk, hown, hne⟩ := h
    refine ⟨hB, v, hb _ _ _ _ hbk, ⟨hown.1, hown.2.imp id ?_⟩, hne⟩
    rintro ⟨g, cap, cur, fz, e1, e2, e3, r⟩
    exact ⟨g, cap, cur, fz, e1, e2, hb _ _ _ _ e3, r⟩
  exact h.imp key key
theorem BD.stay {B b : Nat} {l : List UInt8} {w w' : World} (h : BD B b l w) (hb : Below w.heap.size w w') : BD B b l w' :=
  BD.any h fun k c e f hk => by
    have hlt : k < w.heap.size := by
      rcases Nat.lt_or_ge k w.heap.size with h' | h'
      · exact h'
      · rw [Array.getElem?_eq_none h'] at hk; cases hk
    exact (hb.block k hlt).trans hk
theorem BD.lt {B b : Nat} {l : List UInt8} {w : World} (h : BD B b l w) : b < w.heap.size := by
  have key : ∀ {p v : Value}, w.heap[b]? = some (Obj.cells #[p, v] 62 (0, 0)) → b < w.heap.size := by
    intro p v hbk
    rcases Nat.lt_or_ge b w.heap.size with h' | h'
    · exact h'
    · rw [Array.getElem?_eq_none h'] at hbk; cases hbk
  rcases h with h | h
  · obtain ⟨_, v, hbk, _⟩ := h; exact key hbk
  · obtain ⟨_, v, hbk, _⟩ := h; exact key hbk
theorem BD.fresh (w : World) : BD w.heap.size w.heap.size [] (w.alloc (.cells #[.pointer none, .slice none 0 0] 62 (0, 0))) :=
  .inl ⟨Nat.le_refl _, .slice none 0 0, heap_alloc_new _ _, ⟨rfl, .inl ⟨rfl, rfl⟩⟩, fun e => by cases e⟩
theorem keepsFrom_others {e : TypeId} {b B : Nat} {W W' : World} (h : Lib.OthersKept e (some b) W W') (hs : W.heap.size ≤ W'.heap.size) (hb : b < B) : KeepsFrom B W W' :=
  ⟨hs, fun k o hk ho hc => h k o ho (fun e => by cases e; omega) (fun c fz e => by subst e; cases hc)⟩
theorem pr_app (n : List UInt8) (xs : Ws) : prL n xs = List.replicate (strL xs).length 91 ++ n ++ (bwL xs xs.length).map (fun p => endB p.2) := by
  unfold prL; rw [← bw_all, List.map_map]; rfl
theorem rep_eq (k : Nat) : Lib.repeatL [91] k = List.replicate k (91 : UInt8) := by
  induction k with
  | zero => rfl
  | succ k ih => first | (simp [Lib.repeatL, List.replicate_succ] at *; done) | (rw [List.replicate_succ, ← ih]; rfl)
set_option maxRecDepth 100000 in
set_option maxHeartbeats 2000000 in
theorem tprint_any (n : ByteArray) (xs : Ws) (v : Value) (w : World) (h : RefV w w.heap.size v n xs) (hn : n.size ≤ 1000000000) (hl : xs.length ≤ 900000) : Calls Tryz.prog 36 #[v] w fun e w' => e = .returned (.string ⟨(prL n.data.toList xs).toArray⟩) ∧ Below w.heap.size w w' := by
  refine (callsIn_wide (n := 5)).1 ?_
  obtain ⟨A, c, rfl, hc, hi⟩ := h
  have X : Hid (BxR (w.alloc (.cells #[.string n, .slice A xs.length c] 24 (0, 0))) w.heap.size (.string n) (.slice A xs.length c)) := Lib.hid (BxR.new w _ _)
  have hb0 := (Below.refl w.heap.size w).alloc (Nat.le_refl _) (.cells #[.string n, .slice A xs.length c] 24 (0, 0))
  have HC := Lib.hid hc
  have HL := Lib.hid hl
  have HN := Lib.hid hn
  have I := Lib.hid (hi.stay hb0)
  have B0 := Lib.hid hb0
  have I00 := Lib.hid hi
  clear hc hi hl hn hb0
  refine callsIn_of_wp_marks Tryz.func36 rfl trivial ?_ rfl
  simp only [Tryz.ntmps36, List.size_toArray, List.length_cons, List.length_nil, Nat.reduceAdd, Nat.reduceSub, Array.replicate_succ, Array.replicate_zero, List.push_toArray, List.append_toArray, List.nil_append, List.cons_append]
  gi_wp2_with fail
  have hb1 := (Below.refl (w.heap.size + 1) (w.alloc (.cells #[.string n, .slice A xs.length c] 24 (0, 0)))).alloc (by simp) (.cells #[.pointer none, .slice none 0 0] 62 (0, 0))
  have BDF := Lib.hid (BD.fresh (w.alloc (.cells #[.string n, .slice A xs.length c] 24 (0, 0))))
  have hz : (w.alloc (.cells #[.string n, .slice A xs.length c] 24 (0, 0))).heap.size = w.heap.size + 1 := by simp
  have HB1 := Lib.hid hb1
  rw [hz] at BDF
  have HZ := Lib.hid hz
  clear hb1 hz
  generalize (w.alloc (.cells #[.string n, .slice A xs.length c] 24 (0, 0))) = W0 at *
  have I1 : Hid (IntsAt (W0.alloc (.cells #[.pointer none, .slice none 0 0] 62 (0, 0))) (W0.alloc (.cells #[.pointer none, .slice none 0 0] 62 (0, 0))).heap.size A xs) := Lib.hid (I.out.stay ((Below.refl _ _).alloc (Nat.le_refl _) _))
  have hsz : w.heap.size + 1 ≤ W0.heap.size := by have := HZ.out; omega
  have X1 : Hid (BxR (W0.alloc (.cells #[.pointer none, .slice none 0 0] 62 (0, 0))) w.heap.size (.string n) (.slice A xs.length c)) := Lib.hid (X.out.alloc _)
  have B1 : Hid (Below w.heap.size w (W0.alloc (.cells #[.pointer none, .slice none 0 0] 62 (0, 0)))) := Lib.hid (B0.out.alloc B0.out.size _)
  have BW : Hid (w.heap.size + 1 < (W0.alloc (.cells #[.pointer none, .slice none 0 0] 62 (0, 0))).heap.size) := Lib.hid (by have := HZ.out; simp; omega)
  clear hsz HB1 X I B0
  generalize (W0.alloc (.cells #[.pointer none, .slice none 0 0] 62 (0, 0))) = W1 at *
  have hcall := without_sl xs (.slice A xs.length c) W1 ⟨A, c, rfl, HC.out, I1.out⟩ HL.out
  have hpl := str_le xs
  have hpr := pr_app n.data.toList xs
  generalize strL xs = ss at hcall hpl hpr
  refine ⟨trivial, (callsIn_wide.2 hcall).mono ?_⟩
  clear hcall
  rintro e w2 ⟨⟨u, rfl, A2, c2, rfl, _, _⟩, hb2⟩
  have HPL := Lib.hid hpl
  have HPR := Lib.hid hpr
  replace BDF := Lib.hid (BD.stay BDF.out hb2)
  have I2 := Lib.hid (I1.out.stay hb2)
  replace X1 := Lib.hid (X1.out.stay hb2)
  replace B1 := Lib.hid (B1.out.trans (hb2.mono B1.out.size))
  replace BW := Lib.hid (Nat.lt_of_lt_of_le BW.out hb2.size)
  clear hb2 hpl hpr I1
  gi_wp2_with fail
  refine ⟨trivial, (callsIn_wide.2 (Tryz.strings_Repeat ⟨#[91]⟩ ss.length _ (by have := HPL.out; have := HL.out; omega) (by have := HPL.out; have := HL.out; show 1 * _ ≤ _; omega))).mono ?_⟩
  rintro e w3 ⟨rfl, hb2⟩
  rw [show Lib.repeatL (⟨#[91]⟩ : ByteArray).data.toList ss.length = List.replicate ss.length 91 from rep_eq _]
  replace BDF := Lib.hid (BD.stay BDF.out hb2)
  replace I2 := Lib.hid (I2.out.stay hb2)
  replace X1 := Lib.hid (X1.out.stay hb2)
  replace B1 := Lib.hid (B1.out.trans (hb2.mono B1.out.size))
  replace BW := Lib.hid (Nat.lt_of_lt_of_le BW.out hb2.size)
  clear hb2
  have HRS : Hid ((⟨(List.replicate ss.length (91 : UInt8)).toArray⟩ : ByteArray).size = ss.length) := Lib.hid (by show (List.replicate ss.length (91 : UInt8)).toArray.size = _; simp)
  have HRD : Hid ((⟨(List.replicate ss.length (91 : UInt8)).toArray⟩ : ByteArray).data.toList = List.replicate ss.length 91) := Lib.hid (by simp)
  generalize (⟨(List.replicate ss.length (91 : UInt8)).toArray⟩ : ByteArray) = rs at *
  gi_wp2_with fail
  refine ⟨trivial, (callsIn_wide.2 (writeString_any (w.heap.size + 1) (w.heap.size + 1) [] rs w3 BDF.out (by have := HRS.out; have := HPL.out; have := HL.out; simp; omega) (by have := BW.out; omega))).mono ?_⟩
  rintro e w4 ⟨rfl, hbd, hb2, hoth⟩
  replace BDF := Lib.hid hbd
  replace X1 := Lib.hid (X1.out.kept (hb2.block _ (Nat.lt_succ_self _)))
  replace B1 := Lib.hid (B1.out.trans (hb2.mono (Nat.le_succ _)))
  replace BW := Lib.hid (Nat.lt_of_lt_of_le BW.out hb2.size)
  have q0 := X1.out.cells.1
  have q1 := X1.out.cells.2
  clear hbd hb2 hoth I2
  gi_wp2_with fail
  refine ⟨trivial, (callsIn_wide.2 (writeString_any (w.heap.size + 1) (w.heap.size + 1) _ n w4 BDF.out (by have := HRS.out; have := HRD.out; have := HPL.out; have := HL.out; have := HN.out; simp only [List.nil_append]; rw [HRD.out, List.length_replicate]; omega) (by have := BW.out; omega))).mono ?_⟩
  rintro e w5 ⟨rfl, hbd, hb2, hoth⟩
  replace BDF := Lib.hid hbd
  replace X1 := Lib.hid (X1.out.kept (hb2.block _ (Nat.lt_succ_self _)))
  replace B1 := Lib.hid (B1.out.trans (hb2.mono (Nat.le_succ _)))
  replace BW := Lib.hid (Nat.lt_of_lt_of_le BW.out hb2.size)
  replace q0 := X1.out.cells.1
  replace q1 := X1.out.cells.2
  clear hbd hb2 hoth
  gi_wp2_with fail
  refine ⟨trivial, (bwd_in Fence.wide _ trivial rfl _ _ _ _).mono ?_⟩
  rintro e w6 ⟨rfl, hw6⟩
  have hbx : w6.heap[w5.heap.size]? = some (Obj.cells #[.slice A xs.length c] 22 (0, 0)) := by rw [hw6]; exact heap_alloc_new _ _
  have hb6 : Below w5.heap.size w5 w6 := by rw [hw6]; exact (Below.refl _ _).alloc (Nat.le_refl _) _
  have hs6 : w6.heap.size = w5.heap.size + 1 := by rw [hw6]; simp
  clear hw6 q0 q1
  replace BDF := Lib.hid (BD.stay BDF.out hb6)
  replace B1 := Lib.hid (B1.out.trans (hb6.mono B1.out.size))
  have HBX := Lib.hid hbx
  have HS6 := Lib.hid hs6
  clear hbx hb6 hs6 X1
  gi_wp2_with fail
  have HI6 : Hid (IntsAt w6 w.heap.size A xs) := Lib.hid (I00.out.kept B1.out)
  have hcb : w6.cell? ⟨w5.heap.size, 0, none⟩ = some (.slice A xs.length c) := by
    rw [cell_of_row _ _ _ _ _ _ HBX.out]; rfl
  have HCB := Lib.hid hcb
  have HBL : Hid (([] ++ rs.data.toList ++ n.data.toList : List UInt8).length ≤ 1000900000) := Lib.hid (by
    rw [List.nil_append, List.length_append, HRD.out, List.length_replicate, T1.size_eq]; have := HPL.out; have := HL.out; have := HN.out; omega)
  clear hcb
  generalize hbs : ([] ++ rs.data.toList ++ n.data.toList : List UInt8) = base at *
  have HBS := Lib.hid hbs
  clear hbs
  refine wpIn_rangeFunc_ownG rfl (by omega) (gf := 77) (lb := #[.pointer (some ⟨w5.heap.size, 0, none⟩)]) rfl trivial (enters_of Tryz.func77 (by kernel_rfl) rfl)
    (bwd_stops Fence.wide (5 - 1) trivial rfl (by omega) w5.heap.size w.heap.size A c xs (by have := HL.out; omega) w6 (by have := HS6.out; omega) B1.out.size HCB.out HI6.out) KpB.trans (fun W l o o' hl ho hc hwk => ⟨belowK_b (w := w6) B1.out.size W l o o' hl ho hc hwk, World.putObj_heap_other (fun e => by have := HS6.out; omega)⟩) (Below.refl _ _) (fun _ => rfl)
    (fun pre W => (BD (w.heap.size + 1) (w.heap.size + 1) (base ++ pre.map (fun p => endB p.2)) W ∧ W.heap[w5.heap.size]? = some (Obj.cells #[.slice A xs.length c] 22 (0, 0))) ∧ Below w.heap.size w W)
    (fun _ _ _ => False)
    (OwnFrom.and (fun s W W' row hs hg hr => ⟨BD.any hs.1 (fun k c e f hk => cells_turn hk hg (fun r e => (hr r e).2)), cells_turn hs.2 hg (fun r e => (hr r e).2)⟩) (ownFrom_below (Nat.le_refl _) B1.out.size))
    (fun _ _ _ _ _ hs _ _ => hs)
    ⟨⟨by rw [List.map_nil, List.append_nil]; exact BDF.out, HBX.out⟩, B1.out⟩
    (fun x => { tmps := #[.agg #[.string n, .slice A xs.length c], .pointer (some ⟨w.heap.size, 0, none⟩), .string ⟨#[]⟩, .pointer (some ⟨w.heap.size + 1, 0, none⟩), undef, .int .i64 x.2, .pointer (some ⟨w.heap.size, 1, none⟩), .slice A xs.length c, .slice A2 ss.length c2, .int .i64 ss.length, .string rs, .tuple #[.int .i64 rs.size, .nilIface], .pointer (some ⟨w.heap.size, 0, none⟩), .string n, .tuple #[.int .i64 n.size, .nilIface], .pointer (some ⟨w.heap.size, 1, none⟩), .slice A xs.length c, .func (.func 77) #[] #[.pointer (some ⟨w5.heap.size, 0, none⟩)], .int .i64 x.1, .int .i64 x.2, undef, undef, undef, undef, undef], defers := [] }) ?assign ?body ?done ?stop
  case assign =>
    intro l x W K hK
    gi_wp2
    exact hK
  case body =>
    rintro l pre x W ⟨⟨hbd, hbx⟩, hB⟩ hlen
    have hpl : pre.length ≤ 900000 := by have := HL.out; omega
    by_cases hx : x.2 = 1
    · have HX := Lib.hid hx
      have hxb : (x.2 == 1) = true := by simp [hx]
      clear hx
      gi_wp2_with fail
      refine ⟨trivial, (CallsIn.inRound l (callsIn_wide.2 (writeString_any (w.heap.size + 1) (w.heap.size + 1) _ ⟨#[33]⟩ W hbd (by have h5 := HBL.out; have h6 := HL.out; simp only [List.length_append, List.length_map]; show _ + 1 ≤ _; omega) (by have := BD.lt hbd; omega)))).mono ?_⟩
      rintro e W2 ⟨rfl, hbd2, hb2, hoth⟩
      have HBD2 := Lib.hid hbd2
      have HB2 := Lib.hid hb2
      have HO2 := Lib.hid hoth
      have HBDX := Lib.hid hbx
      have HBB := Lib.hid hB
      clear hbd2 hb2 hoth hbx hB hbd
      gi_wp2_with fail
      refine ⟨keepsFrom_others HO2.out HB2.out.size (by have := BW.out; have := HS6.out; omega), ⟨HB2.out.mono (Nat.le_succ _), (HO2.out _ _ HBDX.out (fun e => by have := BW.out; have h8 := Option.some.inj e; omega) (fun c fz e => by injection e with _ e2 _; exact absurd e2 (by decide))).trans HBDX.out.symm⟩, ⟨?_, HO2.out _ _ HBDX.out (fun e => by have := BW.out; have h8 := Option.some.inj e; omega) (fun c fz e => by injection e with _ e2 _; exact absurd e2 (by decide))⟩, HBB.out.trans (HB2.out.mono (Nat.le_succ _))⟩
      have h7 := HBD2.out
      rw [List.map_append, ← List.append_assoc]
      rw [show List.map (fun p : Int × Int => endB p.2) [x] = [33] by show [endB x.2] = _; unfold endB; rw [if_pos HX.out]]
      exact h7
    · have HX := Lib.hid hx
      have hxb : (x.2 == 1) = false := by simp [hx]
      clear hx
      gi_wp2_with fail
      refine ⟨trivial, (CallsIn.inRound l (callsIn_wide.2 (writeString_any (w.heap.size + 1) (w.heap.size + 1) _ ⟨#[93]⟩ W hbd (by have h5 := HBL.out; have h6 := HL.out; simp only [List.length_append, List.length_map]; show _ + 1 ≤ _; omega) (by have := BD.lt hbd; omega)))).mono ?_⟩
      rintro e W2 ⟨rfl, hbd2, hb2, hoth⟩
      have HBD2 := Lib.hid hbd2
      have HB2 := Lib.hid hb2
      have HO2 := Lib.hid hoth
      have HBDX := Lib.hid hbx
      have HBB := Lib.hid hB
      clear hbd2 hb2 hoth hbx hB hbd
      gi_wp2_with fail
      refine ⟨keepsFrom_others HO2.out HB2.out.size (by have := BW.out; have := HS6.out; omega), ⟨HB2.out.mono (Nat.le_succ _), (HO2.out _ _ HBDX.out (fun e => by have := BW.out; have h8 := Option.some.inj e; omega) (fun c fz e => by injection e with _ e2 _; exact absurd e2 (by decide))).trans HBDX.out.symm⟩, ⟨?_, HO2.out _ _ HBDX.out (fun e => by have := BW.out; have h8 := Option.some.inj e; omega) (fun c fz e => by injection e with _ e2 _; exact absurd e2 (by decide))⟩, HBB.out.trans (HB2.out.mono (Nat.le_succ _))⟩
      have h7 := HBD2.out
      rw [List.map_append, ← List.append_assoc]
      rw [show List.map (fun p : Int × Int => endB p.2) [x] = [93] by show [endB x.2] = _; unfold endB; rw [if_neg HX.out]]
      exact h7
  case done =>
    rintro D ys W hD rfl ⟨⟨hbd, hbx⟩, hB⟩ hK
    have HB := Lib.hid hB
    have HK := Lib.hid hK
    have HD := Lib.hid hD
    have hbl := BD.lt hbd
    have hstr := Tryz.Builder_String_any_k (w.heap.size + 1) (w.heap.size + 1) _ W hbd (by omega)
    rw [show base ++ List.map (fun p : Int × Int => endB p.2) (bwL xs xs.length) = prL n.data.toList xs by rw [HPR.out, ← HRD.out, ← HBS.out, List.nil_append]] at hstr
    clear hbd hbx hB hK hD hbl
    generalize hout : (⟨(prL n.data.toList xs).toArray⟩ : ByteArray) = out at *
    have HOUT := Lib.hid hout
    clear hout
    gi_wp2_with fail
    refine ⟨trivial, (callsIn_wide.2 hstr).mono ?_⟩
    rintro e W2 ⟨rfl, hbd2, hb2, hoth⟩
    have hK2 : W2.heap[D]? = some (.deferred (some [])) := hoth _ _ HK.out (fun e => by have := BW.out; have := HS6.out; have := HD.out; have h8 := Option.some.inj e; omega) (fun c fz e => by cases e)
    have HK2 := Lib.hid hK2
    have HB2 := Lib.hid (HB.out.trans (hb2.mono (Nat.le_succ _)))
    clear hstr hbd2 hb2 hoth hK2
    gi_wp2_with fail
    refine ⟨by simp, .inl ⟨_, _, rfl, run_takeDeferred HK2.out, ?_⟩⟩
    exact ⟨_, results_tmp rfl _ _ _, by rw [HOUT.out]; rfl, HB2.out.trans (belowK_b (w := w) (Nat.le_refl _) W2 D _ _ (by have := BW.out; have := HS6.out; have := HD.out; omega) HK2.out rfl rfl)⟩
  case stop =>
    rintro D c pre W _ _ h _
    exact h.elim
def StrPost (l : List UInt8) (w : World) (e : Ending) (w' : World) : Prop := e = .returned (.string ⟨l.toArray⟩) ∧ Below w.heap.size w w'
theorem pr_len (n : List UInt8) (xs : Ws) : (prL n xs).length ≤ n.length + 2 * xs.length := by
  unfold prL; rw [List.length_append, List.length_append, List.length_replicate, List.length_map, List.length_reverse]; have := str_le xs; omega
theorem cat_str (a b : List UInt8) : (⟨a.toArray⟩ : ByteArray) ++ ⟨b.toArray⟩ = ⟨(a ++ b).toArray⟩ := by
  apply ByteArray.ext
  simp
set_option maxRecDepth 100000 in
set_option maxHeartbeats 2000000 in
theorem rprint_one (n : ByteArray) (xs : Ws) (v : Value) (w : World) (h : RefV w w.heap.size v n xs) (hl : xs.length ≤ 1000) (hns : n.size ≤ 1000000000) (r0 : Ws) (hnn : nnB xs = true) (hp : 1 ≤ xs.length) (hr1 : xs.drop 1 = r0) (hpr : prL n.data.toList xs = prL n.data.toList r0 ++ [33]) (ih : ∀ (v : Value) (w : World), RefV w w.heap.size v n r0 → Calls Tryz.prog 37 #[v] w (StrPost (prL n.data.toList r0) w)) : Calls Tryz.prog 37 #[v] w (StrPost (prL n.data.toList xs) w) := by
  obtain ⟨r, hr⟩ : ∃ r, r = r0 := ⟨_, rfl⟩
  subst hr
  have HNS := Lib.hid hns
  have HRL : Hid (r.length ≤ 1000) := Lib.hid (by rw [← hr1, List.length_drop]; omega)
  have HNN := Lib.hid hnn
  have HP := Lib.hid hp
  have HR := Lib.hid hr1
  have HPR := Lib.hid hpr
  have IH := Lib.hid ih
  clear hnn hp hr1 hpr ih hns
  obtain ⟨A, c, rfl, hc, hi⟩ := h
  have x3 := (Below.refl w.heap.size w).alloc (Nat.le_refl _) (.cells #[.string n, .slice A xs.length c] 24 (0, 0))
  have X0 := Lib.hid (BxR.new w (.string n) (.slice A xs.length c))
  have I0 := Lib.hid (hi.stay x3)
  have B0 := Lib.hid x3
  have HC := Lib.hid hc
  have HL := Lib.hid hl
  clear hc hi x3 hl
  go_enter Tryz.func37, Tryz.ntmps37
  go_wp2_with fail
  generalize hW0 : (w.alloc (.cells #[.string n, .slice A xs.length c] 24 (0, 0))) = W0 at *
  have q0 := X0.out.cells.1
  have q1 := X0.out.cells.2
  clear hW0
  have hcall := risnn_any n xs _ _ ⟨A, c, rfl, HC.out, I0.out⟩
  rw [HNN.out] at hcall
  refine hcall.mono ?_
  clear hcall
  rintro e w1 ⟨rfl, hb1⟩
  clear q0 q1
  have X1 := Lib.hid (X0.out.stay hb1)
  have I1 := Lib.hid (I0.out.stay hb1)
  have B1 := Lib.hid (B0.out.trans (hb1.mono B0.out.size))
  have q0 := X1.out.cells.1
  have q1 := X1.out.cells.2
  clear X0 I0 B0 hb1
  go_wp2_with fail
  have HE := HR.out
  have hcall := cut_any n xs _ _ ⟨A, c, rfl, HC.out, I1.out⟩ HP.out (by have := HL.out; omega)
  generalize hz1 : xs.drop 1 = zs1 at hcall HE
  refine hcall.mono ?_
  clear hcall
  rintro e w2 ⟨⟨u, rfl, A1, c1, rfl, hc1, hi1⟩, hb1⟩
  have HC1 := Lib.hid hc1
  have HI1 := Lib.hid hi1
  clear hc1 hi1
  have HZ1 := Lib.hid hz1
  clear hz1
  clear q0 q1
  have X2 := Lib.hid (X1.out.stay hb1)
  have I2 := Lib.hid (I1.out.stay hb1)
  have B2 := Lib.hid (B1.out.trans (hb1.mono B1.out.size))
  have q0 := X2.out.cells.1
  have q1 := X2.out.cells.2
  clear X1 I1 B1 hb1
  have HE2 := Lib.hid HE
  clear HE
  go_wp2_with fail
  have hcall := IH.out _ _ (show RefV w2 w2.heap.size (.agg #[.string n, .slice A1 zs1.length c1]) n r from HE2.out ▸ ⟨A1, c1, rfl, HC1.out, HI1.out⟩)
  refine hcall.mono ?_
  clear hcall
  rintro e w3 ⟨rfl, hb1⟩
  have B3 := Lib.hid (B2.out.trans (hb1.mono B2.out.size))
  clear hb1 q0 q1
  have HS := Lib.hid (cat_str (prL n.data.toList r) [33])
  have hol := pr_len n.data.toList r
  rw [T1.size_eq] at hol
  have hol2 : (prL n.data.toList r).length ≤ 9000000000 := by have := HNS.out; have := HRL.out; omega
  clear hol
  generalize prL n.data.toList r = out at *
  have hlm1 : ¬ (9223372036854775807 < out.length + 1) := by omega
  have hlm2 : ¬ (9223372036854775807 < 1 + out.length) := by omega
  have hlm3 : ¬ (9223372036854775807 < 1 + out.length + 1) := by omega
  have hlm4 : ¬ (9223372036854775807 < out.length + 1 + 1) := by omega
  clear hol2
  go_wp2_with fail
  refine bodyPost_ret (results_tmp rfl _ _ _) rfl ⟨?_, B3.out⟩
  rw [HPR.out]
  exact congrArg (fun x => Ending.returned (.string x)) HS.out
set_option maxRecDepth 100000 in
set_option maxHeartbeats 2000000 in
theorem rprint_two (n : ByteArray) (xs : Ws) (v : Value) (w : World) (h : RefV w w.heap.size v n xs) (hl : xs.length ≤ 1000) (hns : n.size ≤ 1000000000) (r0 : Ws) (hnn : nnB xs = false) (hp : 1 ≤ xs.length) (hr1 : xs.drop 1 = r0) (hpr : prL n.data.toList xs = 91 :: prL n.data.toList r0 ++ [93]) (ih : ∀ (v : Value) (w : World), RefV w w.heap.size v n r0 → Calls Tryz.prog 37 #[v] w (StrPost (prL n.data.toList r0) w)) : Calls Tryz.prog 37 #[v] w (StrPost (prL n.data.toList xs) w) := by
  obtain ⟨r, hr⟩ : ∃ r, r = r0 := ⟨_, rfl⟩
  subst hr
  have HNS := Lib.hid hns
  have HRL : Hid (r.length ≤ 1000) := Lib.hid (by rw [← hr1, List.length_drop]; omega)
  have HNN := Lib.hid hnn
  have HP := Lib.hid hp
  have HR := Lib.hid hr1
  have HPR := Lib.hid hpr
  have IH := Lib.hid ih
  clear hnn hp hr1 hpr ih hns
  obtain ⟨A, c, rfl, hc, hi⟩ := h
  have x3 := (Below.refl w.heap.size w).alloc (Nat.le_refl _) (.cells #[.string n, .slice A xs.length c] 24 (0, 0))
  have X0 := Lib.hid (BxR.new w (.string n) (.slice A xs.length c))
  have I0 := Lib.hid (hi.stay x3)
  have B0 := Lib.hid x3
  have HC := Lib.hid hc
  have HL := Lib.hid hl
  clear hc hi x3 hl
  go_enter Tryz.func37, Tryz.ntmps37
  go_wp2_with fail
  generalize hW0 : (w.alloc (.cells #[.string n, .slice A xs.length c] 24 (0, 0))) = W0 at *
  have q0 := X0.out.cells.1
  have q1 := X0.out.cells.2
  clear hW0
  have hcall := risnn_any n xs _ _ ⟨A, c, rfl, HC.out, I0.out⟩
  rw [HNN.out] at hcall
  refine hcall.mono ?_
  clear hcall
  rintro e w1 ⟨rfl, hb1⟩
  clear q0 q1
  have X1 := Lib.hid (X0.out.stay hb1)
  have I1 := Lib.hid (I0.out.stay hb1)
  have B1 := Lib.hid (B0.out.trans (hb1.mono B0.out.size))
  have q0 := X1.out.cells.1
  have q1 := X1.out.cells.2
  clear X0 I0 B0 hb1
  have hp0 : (0 : Int) < xs.length := by have := HP.out; omega
  go_wp2_with fail
  clear hp0
  have HE := HR.out
  have hcall := cut_any n xs _ _ ⟨A, c, rfl, HC.out, I1.out⟩ HP.out (by have := HL.out; omega)
  generalize hz1 : xs.drop 1 = zs1 at hcall HE
  refine hcall.mono ?_
  clear hcall
  rintro e w2 ⟨⟨u, rfl, A1, c1, rfl, hc1, hi1⟩, hb1⟩
  have HC1 := Lib.hid hc1
  have HI1 := Lib.hid hi1
  clear hc1 hi1
  have HZ1 := Lib.hid hz1
  clear hz1
  clear q0 q1
  have X2 := Lib.hid (X1.out.stay hb1)
  have I2 := Lib.hid (I1.out.stay hb1)
  have B2 := Lib.hid (B1.out.trans (hb1.mono B1.out.size))
  have q0 := X2.out.cells.1
  have q1 := X2.out.cells.2
  clear X1 I1 B1 hb1
  have HE2 := Lib.hid HE
  clear HE
  go_wp2_with fail
  have hcall := IH.out _ _ (show RefV w2 w2.heap.size (.agg #[.string n, .slice A1 zs1.length c1]) n r from HE2.out ▸ ⟨A1, c1, rfl, HC1.out, HI1.out⟩)
  refine hcall.mono ?_
  clear hcall
  rintro e w3 ⟨rfl, hb1⟩
  have B3 := Lib.hid (B2.out.trans (hb1.mono B2.out.size))
  clear hb1 q0 q1
  have HS := Lib.hid (cat_str [91] (prL n.data.toList r))
  have HS2 := Lib.hid (cat_str (91 :: prL n.data.toList r) [93])
  have hol := pr_len n.data.toList r
  rw [T1.size_eq] at hol
  have hol2 : (prL n.data.toList r).length ≤ 9000000000 := by have := HNS.out; have := HRL.out; omega
  clear hol
  generalize prL n.data.toList r = out at *
  have hlm1 : ¬ (9223372036854775807 < out.length + 1) := by omega
  have hlm2 : ¬ (9223372036854775807 < 1 + out.length) := by omega
  have hlm3 : ¬ (9223372036854775807 < 1 + out.length + 1) := by omega
  have hlm4 : ¬ (9223372036854775807 < out.length + 1 + 1) := by omega
  clear hol2
  go_wp2_with fail
  refine bodyPost_ret (results_tmp rfl _ _ _) rfl ⟨?_, B3.out⟩
  rw [HPR.out]
  exact congrArg (fun x => Ending.returned (.string x)) ((congrArg (fun x => x ++ (⟨#[93]⟩ : ByteArray)) HS.out).trans HS2.out)
set_option maxRecDepth 100000 in
theorem rprint_nil (n : ByteArray) (v : Value) (w : World) (h : RefV w w.heap.size v n []) : Calls Tryz.prog 37 #[v] w (StrPost (prL n.data.toList []) w) := by
  have hl : ([] : Ws).length ≤ 1000 := by decide
  obtain ⟨A, c, rfl, hc, hi⟩ := h
  have x3 := (Below.refl w.heap.size w).alloc (Nat.le_refl _) (.cells #[.string n, .slice A ([] : Ws).length c] 24 (0, 0))
  have X0 := Lib.hid (BxR.new w (.string n) (.slice A ([] : Ws).length c))
  have I0 := Lib.hid (hi.stay x3)
  have B0 := Lib.hid x3
  have HC := Lib.hid hc
  have HPR := Lib.hid (pr_nil n.data.toList)
  clear hc hi x3 hl
  go_enter Tryz.func37, Tryz.ntmps37
  go_wp2_with fail
  have hcall := risnn_any n [] _ _ ⟨A, c, rfl, HC.out, I0.out⟩
  refine hcall.mono ?_
  clear hcall
  rintro e w1 ⟨rfl, hb1⟩
  have X1 := X0.out.stay hb1
  have q0 := X1.cells.1
  have q1 := X1.cells.2
  have hnn : nnB [] = false := rfl
  have B1 := Lib.hid (B0.out.trans (hb1.mono B0.out.size))
  rw [hnn]
  clear hb1 X1 hnn
  go_wp2_with fail
  exact bodyPost_ret (v := .string n) (by simp [results, Tryz.results37, go_sem]) rfl ⟨by rw [HPR.out], B1.out⟩
theorem rprint_any (n : ByteArray) (hns : n.size ≤ 1000000000) : ∀ (xs : Ws) (v : Value) (w : World), xs.length ≤ 1000 → RefV w w.heap.size v n xs → Calls Tryz.prog 37 #[v] w (StrPost (prL n.data.toList xs) w)
  | [], v, w, _, h => rprint_nil n v w h
  | x :: r, v, w, hl, h => by
    have ih := fun v w => rprint_any n hns r v w (by simp at hl; omega)
    by_cases hx : x = 1
    · subst hx
      exact rprint_one n (1 :: r) v w h hl hns r rfl (by simp) rfl (pr_one _ _) ih
    · exact rprint_two n (x :: r) v w h hl hns r (by simp [nnB, hx]) (by simp) rfl (pr_two _ _ _ hx) ih
end Go.Proofs.YtgicbmibhnnflaaGreatDoor
namespace Go.Proofs.YtgicbmibhnnflaaGreatDoor
open Go.RowKit
abbrev us : ByteArray := ⟨#[85, 115, 101, 114]⟩
theorem us_ne : ¬ us = ⟨#[]⟩ := by decide
/- Two references that are alike. -/
theorem rsame_eq (n : ByteArray) (xs : Ws) (v u : Value) (w : World) (hx : RefV w w.heap.size v n xs) (hy : RefV w w.heap.size u n xs) (hl : xs.length ≤ 1000000) : Calls Tryz.prog 12 #[v, u] w (BoolPost true w) := by
  have h := rsame2_any n n xs xs v u w hx hy hl
  rw [decide_eq_true ⟨rfl, rfl⟩] at h
  exact h
def optN (n : ByteArray) (o : Option Ws) : ByteArray := match o with | some _ => n | none => ⟨#[]⟩
def optW (o : Option Ws) : Ws := match o with | some z => z | none => []
theorem OptPost.ref {n : ByteArray} {o : Option Ws} {w w' : World} {e : Ending} (h : OptPost n o w e w') : (∃ u, e = .returned (.tuple #[u, .bool o.isSome]) ∧ RefV w' w'.heap.size u (optN n o) (optW o)) ∧ Below w.heap.size w w' := by
  cases o with
  | some z => exact h
  | none =>
    obtain ⟨rfl, hb⟩ := h.none
    exact ⟨⟨_, rfl, Option.none, 0, rfl, Nat.le_refl _, IntsAt.nil _ _ _⟩, hb⟩
def paC (o : Except Int (List UInt8 × Ws)) : Int := match o with | .ok _ => 0 | .error c => c
def paN (o : Except Int (List UInt8 × Ws)) : ByteArray := match o with | .ok p => ⟨p.1.toArray⟩ | .error _ => ⟨#[]⟩
def paW (o : Except Int (List UInt8 × Ws)) : Ws := match o with | .ok p => p.2 | .error _ => []
theorem PaPost.ref {o : Except Int (List UInt8 × Ws)} {w w' : World} {e : Ending} (h : PaPost o w e w') : (∃ u, e = .returned (.tuple #[u, .int .i64 (paC o)]) ∧ RefV w' w'.heap.size u (paN o) (paW o)) ∧ (paW o).length ≤ 24 ∧ Below w.heap.size w w' := by
  cases o with
  | ok p => obtain ⟨n, ws⟩ := p; exact ⟨h.1.1, h.1.2, h.2⟩
  | error c =>
    obtain ⟨⟨_, rfl⟩, hb⟩ := h
    exact ⟨⟨_, rfl, Option.none, 0, rfl, Nat.le_refl _, IntsAt.nil _ _ _⟩, Nat.zero_le _, hb⟩
theorem ex_parse : paL [91, 32, 85, 115, 101, 114, 32, 33, 32, 93] = .ok ([85, 115, 101, 114], [2, 1]) := by kernel_rfl
theorem ex_bad : paL [85, 115, 101, 114, 33, 33] = .error 3 := by kernel_rfl
section
variable {ops : Array Oper} {Q : Exit → Act → World → Prop} {o : Oper} {a : Act} {w : World} {R : Value → World → Prop}
theorem rk_made2 (hw : Region.wanted o (yielded ops a.tmps) = true) (x y : Operand) {n m : Int} (ho : o.op = .buildSlice 22 2 #[(0, x), (1, y)]) (hx : a.eval x = .int .i64 n) (hy : a.eval y = .int .i64 m)
    (h : ∀ v w', Below w.heap.size w w' → SlV w' w'.heap.size v [n, m] → R v w') : Runs Tryz.prog ops Q o a w R := by
  have hb := (Below.refl w.heap.size w).alloc (Nat.le_refl _) (.cells #[.int .i64 n, .int .i64 m] 3 (0, 0))
  have hc : (w.alloc (.cells #[.int .i64 n, .int .i64 m] 3 (0, 0))).heap[w.heap.size]? = some (Obj.cells #[.int .i64 n, .int .i64 m] 3 (0, 0)) := heap_alloc_new _ _
  refine runs_value (v := .slice (some ⟨w.heap.size, 0, none⟩) 2 2) (w' := w.alloc (.cells #[.int .i64 n, .int .i64 m] 3 (0, 0))) hw ?_ (h _ _ hb ⟨some ⟨w.heap.size, 0, none⟩, 2, rfl, Nat.le_refl _, fun _ => ⟨_, rfl, by simp, fun i x hx => ?_⟩⟩)
  · generalize a.eval = ρ at hx hy; simp [execOp, ho, go_sem, hx, hy]
  · match i, hx with
    | 0, hx => cases hx; rw [show (⟨w.heap.size, 0, none⟩ : Addr).add 0 = ⟨w.heap.size, 0, none⟩ from rfl, cell_of_row _ _ _ _ _ _ hc]; rfl
    | 1, hx => cases hx; rw [show (⟨w.heap.size, 0, none⟩ : Addr).add 1 = ⟨w.heap.size, 1, none⟩ from rfl, cell_of_row _ _ _ _ _ _ hc]; rfl
    | i + 2, hx => simp at hx
end
theorem en_10 : ∀ (args : Array Value) (w : World), (callFunc 10 args).run Tryz.prog w = .ok (.enter 10 args) w := enters_of Tryz.func10 (by kernel_rfl) rfl
theorem en_11 : ∀ (args : Array Value) (w : World), (callFunc 11 args).run Tryz.prog w = .ok (.enter 11 args) w := enters_of Tryz.func11 (by kernel_rfl) rfl
theorem en_12 : ∀ (args : Array Value) (w : World), (callFunc 12 args).run Tryz.prog w = .ok (.enter 12 args) w := enters_of Tryz.func12 (by kernel_rfl) rfl
theorem en_13 : ∀ (args : Array Value) (w : World), (callFunc 13 args).run Tryz.prog w = .ok (.enter 13 args) w := enters_of Tryz.func13 (by kernel_rfl) rfl
theorem en_14 : ∀ (args : Array Value) (w : World), (callFunc 14 args).run Tryz.prog w = .ok (.enter 14 args) w := enters_of Tryz.func14 (by kernel_rfl) rfl
theorem en_15 : ∀ (args : Array Value) (w : World), (callFunc 15 args).run Tryz.prog w = .ok (.enter 15 args) w := enters_of Tryz.func15 (by kernel_rfl) rfl
theorem en_16 : ∀ (args : Array Value) (w : World), (callFunc 16 args).run Tryz.prog w = .ok (.enter 16 args) w := enters_of Tryz.func16 (by kernel_rfl) rfl
theorem en_17 : ∀ (args : Array Value) (w : World), (callFunc 17 args).run Tryz.prog w = .ok (.enter 17 args) w := enters_of Tryz.func17 (by kernel_rfl) rfl
theorem en_18 : ∀ (args : Array Value) (w : World), (callFunc 18 args).run Tryz.prog w = .ok (.enter 18 args) w := enters_of Tryz.func18 (by kernel_rfl) rfl
theorem en_19 : ∀ (args : Array Value) (w : World), (callFunc 19 args).run Tryz.prog w = .ok (.enter 19 args) w := enters_of Tryz.func19 (by kernel_rfl) rfl
theorem en_20 : ∀ (args : Array Value) (w : World), (callFunc 20 args).run Tryz.prog w = .ok (.enter 20 args) w := enters_of Tryz.func20 (by kernel_rfl) rfl
theorem en_21 : ∀ (args : Array Value) (w : World), (callFunc 21 args).run Tryz.prog w = .ok (.enter 21 args) w := enters_of Tryz.func21 (by kernel_rfl) rfl
theorem en_22 : ∀ (args : Array Value) (w : World), (callFunc 22 args).run Tryz.prog w = .ok (.enter 22 args) w := enters_of Tryz.func22 (by kernel_rfl) rfl
theorem en_23 : ∀ (args : Array Value) (w : World), (callFunc 23 args).run Tryz.prog w = .ok (.enter 23 args) w := enters_of Tryz.func23 (by kernel_rfl) rfl
theorem en_24 : ∀ (args : Array Value) (w : World), (callFunc 24 args).run Tryz.prog w = .ok (.enter 24 args) w := enters_of Tryz.func24 (by kernel_rfl) rfl
theorem en_25 : ∀ (args : Array Value) (w : World), (callFunc 25 args).run Tryz.prog w = .ok (.enter 25 args) w := enters_of Tryz.func25 (by kernel_rfl) rfl
theorem en_26 : ∀ (args : Array Value) (w : World), (callFunc 26 args).run Tryz.prog w = .ok (.enter 26 args) w := enters_of Tryz.func26 (by kernel_rfl) rfl
theorem en_27 : ∀ (args : Array Value) (w : World), (callFunc 27 args).run Tryz.prog w = .ok (.enter 27 args) w := enters_of Tryz.func27 (by kernel_rfl) rfl
theorem en_28 : ∀ (args : Array Value) (w : World), (callFunc 28 args).run Tryz.prog w = .ok (.enter 28 args) w := enters_of Tryz.func28 (by kernel_rfl) rfl
theorem en_29 : ∀ (args : Array Value) (w : World), (callFunc 29 args).run Tryz.prog w = .ok (.enter 29 args) w := enters_of Tryz.func29 (by kernel_rfl) rfl
theorem en_32 : ∀ (args : Array Value) (w : World), (callFunc 32 args).run Tryz.prog w = .ok (.enter 32 args) w := enters_of Tryz.func32 (by kernel_rfl) rfl
theorem en_33 : ∀ (args : Array Value) (w : World), (callFunc 33 args).run Tryz.prog w = .ok (.enter 33 args) w := enters_of Tryz.func33 (by kernel_rfl) rfl
theorem en_36 : ∀ (args : Array Value) (w : World), (callFunc 36 args).run Tryz.prog w = .ok (.enter 36 args) w := enters_of Tryz.func36 (by kernel_rfl) rfl
theorem en_37 : ∀ (args : Array Value) (w : World), (callFunc 37 args).run Tryz.prog w = .ok (.enter 37 args) w := enters_of Tryz.func37 (by kernel_rfl) rfl
theorem en_9 : ∀ (args : Array Value) (w : World), (callFunc 9 args).run Tryz.prog w = .ok (.enter 9 args) w := enters_of Tryz.func9 (by kernel_rfl) rfl
set_option maxRecDepth 100000 in
set_option maxHeartbeats 2000000 in
theorem knows_any (w : World) (hL : LK w) : Calls Tryz.prog 9 #[] w (BoolPost true w) := by
  have HLK := Lib.hid hL
  have B := Lib.hid (Below.refl w.heap.size w)
  clear hL
  go_enter Tryz.func9, Tryz.ntmps9
  go_wp2_with fail
  have hcall := named_any us w
  refine hcall.mono ?_
  clear hcall
  rintro e wc1 ⟨⟨u, rfl, A1, c1, rfl, hcx, hix⟩, hb1⟩
  have HC1 := Lib.hid hcx
  have HI1 := Lib.hid hix
  clear hcx hix
  replace B := Lib.hid (B.out.trans (hb1.mono B.out.size))
  clear hb1
  have hbA := (Below.refl wc1.heap.size wc1).alloc (Nat.le_refl _) (.cells #[.string us, .slice A1 0 c1] 24 (0, 0))
  have BU : Hid (RefB (wc1.alloc (.cells #[.string us, .slice A1 0 c1] 24 (0, 0))) wc1.heap.size us []) := Lib.hid ⟨_, _, BxR.new wc1 _ _, HC1.out, HI1.out.stay hbA⟩
  have VBU : Hid (RefV (wc1.alloc (.cells #[.string us, .slice A1 0 c1] 24 (0, 0))) (wc1.alloc (.cells #[.string us, .slice A1 0 c1] 24 (0, 0))).heap.size (.agg #[.string us, .slice A1 0 c1]) us []) := Lib.hid ⟨_, _, rfl, HC1.out, HI1.out.stay hbA⟩
  replace B := Lib.hid (B.out.trans (hbA.mono B.out.size))
  clear hbA
  have hltBU : Hid (wc1.heap.size < (wc1.alloc (.cells #[.string us, .slice A1 0 c1] 24 (0, 0))).heap.size) := Lib.hid (by simp)
  obtain ⟨ABU, cBU, hBU, hcBU, hiBU⟩ := BU.out
  have qBU0 := hBU.cells.1
  have qBU1 := hBU.cells.2
  have HHBU := Lib.hid hBU
  have HCBU := Lib.hid hcBU
  have HIBU := Lib.hid hiBU
  clear hBU hcBU hiBU
  go_wp2_with fail
  generalize (wc1.alloc (.cells #[.string us, .slice A1 0 c1] 24 (0, 0))) = wa2 at *
  have hcall : Calls _ _ #[_] wa2 (RefPost us [1] wa2) := nonnull_any us [] _ wa2 ⟨ABU, cBU, rfl, HCBU.out, HIBU.out⟩ (by decide)
  refine hcall.mono ?_
  clear hcall
  clear qBU0 qBU1
  rintro e wc3 ⟨⟨u, rfl, ABA0, cBA0, rfl, hcx, hix⟩, hb1⟩
  have HCBA0 := Lib.hid hcx
  have HIBA0 := Lib.hid hix
  clear hcx hix
  replace BU := Lib.hid (BU.out.stay hb1)
  replace B := Lib.hid (B.out.trans (hb1.mono B.out.size))
  clear hb1
  go_wp2_with fail
  have hcall : Calls _ _ #[_] wc3 (RefPost us [2, 1] wc3) := listof_any us [1] _ wc3 ⟨ABA0, cBA0, rfl, HCBA0.out, HIBA0.out⟩ (by decide)
  refine hcall.mono ?_
  clear hcall
  rintro e wc4 ⟨⟨u, rfl, ABA1, cBA1, rfl, hcx, hix⟩, hb1⟩
  have HCBA1 := Lib.hid hcx
  have HIBA1 := Lib.hid hix
  clear hcx hix
  replace BU := Lib.hid (BU.out.stay hb1)
  replace B := Lib.hid (B.out.trans (hb1.mono B.out.size))
  clear hb1
  go_wp2_with fail
  have hcall : Calls _ _ #[_] wc4 (RefPost us [1, 2, 1] wc4) := nonnull_any us [2, 1] _ wc4 ⟨ABA1, cBA1, rfl, HCBA1.out, HIBA1.out⟩ (by decide)
  refine hcall.mono ?_
  clear hcall
  rintro e wc5 ⟨⟨u, rfl, ABA2, cBA2, rfl, hcx, hix⟩, hb1⟩
  have HCBA2 := Lib.hid hcx
  have HIBA2 := Lib.hid hix
  clear hcx hix
  replace BU := Lib.hid (BU.out.stay hb1)
  replace B := Lib.hid (B.out.trans (hb1.mono B.out.size))
  clear hb1
  have hbA := (Below.refl wc5.heap.size wc5).alloc (Nat.le_refl _) (.cells #[.string us, .slice ABA2 3 cBA2] 24 (0, 0))
  have BA : Hid (RefB (wc5.alloc (.cells #[.string us, .slice ABA2 3 cBA2] 24 (0, 0))) wc5.heap.size us [1, 2, 1]) := Lib.hid ⟨_, _, BxR.new wc5 _ _, HCBA2.out, HIBA2.out.stay hbA⟩
  have VBA : Hid (RefV (wc5.alloc (.cells #[.string us, .slice ABA2 3 cBA2] 24 (0, 0))) (wc5.alloc (.cells #[.string us, .slice ABA2 3 cBA2] 24 (0, 0))).heap.size (.agg #[.string us, .slice ABA2 3 cBA2]) us [1, 2, 1]) := Lib.hid ⟨_, _, rfl, HCBA2.out, HIBA2.out.stay hbA⟩
  replace BU := Lib.hid (BU.out.stay hbA)
  replace B := Lib.hid (B.out.trans (hbA.mono B.out.size))
  clear hbA
  have hltBA : Hid (wc5.heap.size < (wc5.alloc (.cells #[.string us, .slice ABA2 3 cBA2] 24 (0, 0))).heap.size) := Lib.hid (by simp)
  obtain ⟨ABU, cBU, hBU, hcBU, hiBU⟩ := BU.out
  have qBU0 := hBU.cells.1
  have qBU1 := hBU.cells.2
  have HHBU := Lib.hid hBU
  have HCBU := Lib.hid hcBU
  have HIBU := Lib.hid hiBU
  clear hBU hcBU hiBU
  go_wp2_with fail
  generalize (wc5.alloc (.cells #[.string us, .slice ABA2 3 cBA2] 24 (0, 0))) = wa6 at *
  have hcall : Calls _ _ #[_] wa6 (RefPost us [1] wa6) := nonnull_any us [] _ wa6 ⟨ABU, cBU, rfl, HCBU.out, HIBU.out⟩ (by decide)
  refine hcall.mono ?_
  clear hcall
  clear qBU0 qBU1
  rintro e wc7 ⟨⟨u, rfl, ABB0, cBB0, rfl, hcx, hix⟩, hb1⟩
  have HCBB0 := Lib.hid hcx
  have HIBB0 := Lib.hid hix
  clear hcx hix
  replace BU := Lib.hid (BU.out.stay hb1)
  replace BA := Lib.hid (BA.out.stay hb1)
  replace B := Lib.hid (B.out.trans (hb1.mono B.out.size))
  clear hb1
  go_wp2_with fail
  have hcall : Calls _ _ #[_] wc7 (RefPost us [2, 1] wc7) := listof_any us [1] _ wc7 ⟨ABB0, cBB0, rfl, HCBB0.out, HIBB0.out⟩ (by decide)
  refine hcall.mono ?_
  clear hcall
  rintro e wc8 ⟨⟨u, rfl, ABB1, cBB1, rfl, hcx, hix⟩, hb1⟩
  have HCBB1 := Lib.hid hcx
  have HIBB1 := Lib.hid hix
  clear hcx hix
  replace BU := Lib.hid (BU.out.stay hb1)
  replace BA := Lib.hid (BA.out.stay hb1)
  replace B := Lib.hid (B.out.trans (hb1.mono B.out.size))
  clear hb1
  have hbA := (Below.refl wc8.heap.size wc8).alloc (Nat.le_refl _) (.cells #[.string us, .slice ABB1 2 cBB1] 24 (0, 0))
  have BB : Hid (RefB (wc8.alloc (.cells #[.string us, .slice ABB1 2 cBB1] 24 (0, 0))) wc8.heap.size us [2, 1]) := Lib.hid ⟨_, _, BxR.new wc8 _ _, HCBB1.out, HIBB1.out.stay hbA⟩
  have VBB : Hid (RefV (wc8.alloc (.cells #[.string us, .slice ABB1 2 cBB1] 24 (0, 0))) (wc8.alloc (.cells #[.string us, .slice ABB1 2 cBB1] 24 (0, 0))).heap.size (.agg #[.string us, .slice ABB1 2 cBB1]) us [2, 1]) := Lib.hid ⟨_, _, rfl, HCBB1.out, HIBB1.out.stay hbA⟩
  replace BU := Lib.hid (BU.out.stay hbA)
  replace BA := Lib.hid (BA.out.stay hbA)
  replace B := Lib.hid (B.out.trans (hbA.mono B.out.size))
  clear hbA
  have hltBB : Hid (wc8.heap.size < (wc8.alloc (.cells #[.string us, .slice ABB1 2 cBB1] 24 (0, 0))).heap.size) := Lib.hid (by simp)
  obtain ⟨ABA, cBA, hBA, hcBA, hiBA⟩ := BA.out
  have qBA0 := hBA.cells.1
  have qBA1 := hBA.cells.2
  have HHBA := Lib.hid hBA
  have HCBA := Lib.hid hcBA
  have HIBA := Lib.hid hiBA
  clear hBA hcBA hiBA
  obtain ⟨ABB, cBB, hBB, hcBB, hiBB⟩ := BB.out
  have qBB0 := hBB.cells.1
  have qBB1 := hBB.cells.2
  have HHBB := Lib.hid hBB
  have HCBB := Lib.hid hcBB
  have HIBB := Lib.hid hiBB
  clear hBB hcBB hiBB
  go_wp2_with fail
  generalize (wc8.alloc (.cells #[.string us, .slice ABB1 2 cBB1] 24 (0, 0))) = wa9 at *
  have hcall := tweaken_any us us [1, 2, 1] [2, 1] _ _ wa9 ⟨ABA, cBA, rfl, HCBA.out, HIBA.out⟩ ⟨ABB, cBB, rfl, HCBB.out, HIBB.out⟩ (by decide) (by decide)
  rw [show (if decide (us = us ∧ strL [1, 2, 1] = strL [2, 1]) = true then some (weL [1, 2, 1] [2, 1]) else none) = some [2, 1] by decide] at hcall
  refine hcall.mono ?_
  clear hcall
  clear qBA0 qBA1 qBB0 qBB1
  rintro e wc10 hpost
  obtain ⟨⟨u, rfl, ABX, cBX, rfl, hcx, hix⟩, hb1⟩ := hpost.some
  clear hpost
  have HCBXv := Lib.hid hcx
  have HIBXv := Lib.hid hix
  clear hcx hix
  replace BU := Lib.hid (BU.out.stay hb1)
  replace BA := Lib.hid (BA.out.stay hb1)
  replace BB := Lib.hid (BB.out.stay hb1)
  replace B := Lib.hid (B.out.trans (hb1.mono B.out.size))
  clear hb1
  have hbA := (Below.refl wc10.heap.size wc10).alloc (Nat.le_refl _) (.cells #[.string us, .slice ABX 2 cBX] 24 (0, 0))
  have BX : Hid (RefB (wc10.alloc (.cells #[.string us, .slice ABX 2 cBX] 24 (0, 0))) wc10.heap.size us [2, 1]) := Lib.hid ⟨_, _, BxR.new wc10 _ _, HCBXv.out, HIBXv.out.stay hbA⟩
  have VBX : Hid (RefV (wc10.alloc (.cells #[.string us, .slice ABX 2 cBX] 24 (0, 0))) (wc10.alloc (.cells #[.string us, .slice ABX 2 cBX] 24 (0, 0))).heap.size (.agg #[.string us, .slice ABX 2 cBX]) us [2, 1]) := Lib.hid ⟨_, _, rfl, HCBXv.out, HIBXv.out.stay hbA⟩
  replace BU := Lib.hid (BU.out.stay hbA)
  replace BA := Lib.hid (BA.out.stay hbA)
  replace BB := Lib.hid (BB.out.stay hbA)
  replace B := Lib.hid (B.out.trans (hbA.mono B.out.size))
  clear hbA
  have hltBX : Hid (wc10.heap.size < (wc10.alloc (.cells #[.string us, .slice ABX 2 cBX] 24 (0, 0))).heap.size) := Lib.hid (by simp)
  obtain ⟨ABA, cBA, hBA, hcBA, hiBA⟩ := BA.out
  have qBA0 := hBA.cells.1
  have qBA1 := hBA.cells.2
  have HHBA := Lib.hid hBA
  have HCBA := Lib.hid hcBA
  have HIBA := Lib.hid hiBA
  clear hBA hcBA hiBA
  go_wp2_with fail
  generalize (wc10.alloc (.cells #[.string us, .slice ABX 2 cBX] 24 (0, 0))) = wa11 at *
  have hcall := inner_any us [1, 2, 1] _ wa11 ⟨ABA, cBA, rfl, HCBA.out, HIBA.out⟩ (by decide)
  rw [show inO [1, 2, 1] = some [1] by decide] at hcall
  refine hcall.mono ?_
  clear hcall
  clear qBA0 qBA1
  rintro e wc12 hpost
  obtain ⟨⟨u, rfl, ABY, cBY, rfl, hcx, hix⟩, hb1⟩ := hpost.some
  clear hpost
  have HCBYv := Lib.hid hcx
  have HIBYv := Lib.hid hix
  clear hcx hix
  replace BU := Lib.hid (BU.out.stay hb1)
  replace BA := Lib.hid (BA.out.stay hb1)
  replace BB := Lib.hid (BB.out.stay hb1)
  replace BX := Lib.hid (BX.out.stay hb1)
  replace B := Lib.hid (B.out.trans (hb1.mono B.out.size))
  clear hb1
  have hbA := (Below.refl wc12.heap.size wc12).alloc (Nat.le_refl _) (.cells #[.string us, .slice ABY 1 cBY] 24 (0, 0))
  have BY : Hid (RefB (wc12.alloc (.cells #[.string us, .slice ABY 1 cBY] 24 (0, 0))) wc12.heap.size us [1]) := Lib.hid ⟨_, _, BxR.new wc12 _ _, HCBYv.out, HIBYv.out.stay hbA⟩
  have VBY : Hid (RefV (wc12.alloc (.cells #[.string us, .slice ABY 1 cBY] 24 (0, 0))) (wc12.alloc (.cells #[.string us, .slice ABY 1 cBY] 24 (0, 0))).heap.size (.agg #[.string us, .slice ABY 1 cBY]) us [1]) := Lib.hid ⟨_, _, rfl, HCBYv.out, HIBYv.out.stay hbA⟩
  replace BU := Lib.hid (BU.out.stay hbA)
  replace BA := Lib.hid (BA.out.stay hbA)
  replace BB := Lib.hid (BB.out.stay hbA)
  replace BX := Lib.hid (BX.out.stay hbA)
  replace B := Lib.hid (B.out.trans (hbA.mono B.out.size))
  clear hbA
  have hltBY : Hid (wc12.heap.size < (wc12.alloc (.cells #[.string us, .slice ABY 1 cBY] 24 (0, 0))).heap.size) := Lib.hid (by simp)
  go_wp2_with fail
  generalize (wc12.alloc (.cells #[.string us, .slice ABY 1 cBY] 24 (0, 0))) = wa13 at *
  have hcall := tparse_any ⟨#[91, 32, 85, 115, 101, 114, 32, 33, 32, 93]⟩ wa13 (HLK.out.below B.out)
  rw [show paL (⟨#[91, 32, 85, 115, 101, 114, 32, 33, 32, 93]⟩ : ByteArray).data.toList = _ from ex_parse] at hcall
  refine hcall.mono ?_
  clear hcall
  rintro e wc14 ⟨⟨⟨u, rfl, ABT, cBT, rfl, hcx, hix⟩, _⟩, hb1⟩
  have HCBTv := Lib.hid hcx
  have HIBTv := Lib.hid hix
  clear hcx hix
  replace BU := Lib.hid (BU.out.stay hb1)
  replace BA := Lib.hid (BA.out.stay hb1)
  replace BB := Lib.hid (BB.out.stay hb1)
  replace BX := Lib.hid (BX.out.stay hb1)
  replace BY := Lib.hid (BY.out.stay hb1)
  replace B := Lib.hid (B.out.trans (hb1.mono B.out.size))
  clear hb1
  have hbA := (Below.refl wc14.heap.size wc14).alloc (Nat.le_refl _) (.cells #[.string us, .slice ABT 2 cBT] 24 (0, 0))
  have BT : Hid (RefB (wc14.alloc (.cells #[.string us, .slice ABT 2 cBT] 24 (0, 0))) wc14.heap.size us [2, 1]) := Lib.hid ⟨_, _, BxR.new wc14 _ _, HCBTv.out, HIBTv.out.stay hbA⟩
  have VBT : Hid (RefV (wc14.alloc (.cells #[.string us, .slice ABT 2 cBT] 24 (0, 0))) (wc14.alloc (.cells #[.string us, .slice ABT 2 cBT] 24 (0, 0))).heap.size (.agg #[.string us, .slice ABT 2 cBT]) us [2, 1]) := Lib.hid ⟨_, _, rfl, HCBTv.out, HIBTv.out.stay hbA⟩
  replace BU := Lib.hid (BU.out.stay hbA)
  replace BA := Lib.hid (BA.out.stay hbA)
  replace BB := Lib.hid (BB.out.stay hbA)
  replace BX := Lib.hid (BX.out.stay hbA)
  replace BY := Lib.hid (BY.out.stay hbA)
  replace B := Lib.hid (B.out.trans (hbA.mono B.out.size))
  clear hbA
  have hltBT : Hid (wc14.heap.size < (wc14.alloc (.cells #[.string us, .slice ABT 2 cBT] 24 (0, 0))).heap.size) := Lib.hid (by simp)
  go_wp2_with fail
  generalize (wc14.alloc (.cells #[.string us, .slice ABT 2 cBT] 24 (0, 0))) = wa15 at *
  have hcall := tparse_any ⟨#[85, 115, 101, 114, 33, 33]⟩ wa15 (HLK.out.below B.out)
  rw [show paL (⟨#[85, 115, 101, 114, 33, 33]⟩ : ByteArray).data.toList = _ from ex_bad] at hcall
  refine hcall.mono ?_
  clear hcall
  rintro e wc16 ⟨⟨_, rfl⟩, hb1⟩
  have HCBZv : Hid (([] : Ws).length ≤ 0) := Lib.hid (Nat.le_refl _)
  have HIBZv := Lib.hid (IntsAt.nil wc16 wc16.heap.size none)
  replace BU := Lib.hid (BU.out.stay hb1)
  replace BA := Lib.hid (BA.out.stay hb1)
  replace BB := Lib.hid (BB.out.stay hb1)
  replace BX := Lib.hid (BX.out.stay hb1)
  replace BY := Lib.hid (BY.out.stay hb1)
  replace BT := Lib.hid (BT.out.stay hb1)
  replace B := Lib.hid (B.out.trans (hb1.mono B.out.size))
  clear hb1
  have hbA := (Below.refl wc16.heap.size wc16).alloc (Nat.le_refl _) (.cells #[.string ⟨#[]⟩, .slice none 0 0] 24 (0, 0))
  have BZ : Hid (RefB (wc16.alloc (.cells #[.string ⟨#[]⟩, .slice none 0 0] 24 (0, 0))) wc16.heap.size ⟨#[]⟩ []) := Lib.hid ⟨_, _, BxR.new wc16 _ _, HCBZv.out, HIBZv.out.stay hbA⟩
  have VBZ : Hid (RefV (wc16.alloc (.cells #[.string ⟨#[]⟩, .slice none 0 0] 24 (0, 0))) (wc16.alloc (.cells #[.string ⟨#[]⟩, .slice none 0 0] 24 (0, 0))).heap.size (.agg #[.string ⟨#[]⟩, .slice none 0 0]) ⟨#[]⟩ []) := Lib.hid ⟨_, _, rfl, HCBZv.out, HIBZv.out.stay hbA⟩
  replace BU := Lib.hid (BU.out.stay hbA)
  replace BA := Lib.hid (BA.out.stay hbA)
  replace BB := Lib.hid (BB.out.stay hbA)
  replace BX := Lib.hid (BX.out.stay hbA)
  replace BY := Lib.hid (BY.out.stay hbA)
  replace BT := Lib.hid (BT.out.stay hbA)
  replace B := Lib.hid (B.out.trans (hbA.mono B.out.size))
  clear hbA
  have hltBZ : Hid (wc16.heap.size < (wc16.alloc (.cells #[.string ⟨#[]⟩, .slice none 0 0] 24 (0, 0))).heap.size) := Lib.hid (by simp)
  go_wp2_with fail
  generalize (wc16.alloc (.cells #[.string ⟨#[]⟩, .slice none 0 0] 24 (0, 0))) = wa17 at *
  clear VBU hltBU VBA hltBA VBB hltBB VBX hltBX VBY hltBY VBT hltBT VBZ hltBZ
  refine wp_region_list (by kernel_rfl) (by kernel_rfl) (by kernel_rfl) [Fact.is (.bool true), Fact.is (.bool false), Fact.is (.bool false), Fact.is (.bool true), Fact.is (.bool false), Fact.is (.bool false), Fact.is (.bool false), Fact.is (.int .i64 0), Fact.is (.bool false), Fact.is (.bool false), Fact.is (.bool false), Fact.is (.int .i64 3), Fact.is (.bool false), Fact.is (.bool false), Fact.is (.bool false), Fact.ref us [2, 1], Fact.ref us [2, 1], Fact.is (.bool true), Fact.is (.bool false), Fact.is (.bool false), Fact.is (.bool false), Fact.ref us [1], Fact.ref us [], Fact.ref us [1], Fact.is (.bool true), Fact.is (.bool false), Fact.is (.bool false), Fact.is (.bool false), Fact.ref us [2, 1], Fact.ref us [2, 1], Fact.is (.bool true), Fact.is (.bool false), Fact.is (.bool false)] ?_ ?_
  · intro i o ho a wn hf hbl had
    have hi : i < 33 := (Array.getElem?_eq_some_iff.1 ho).1
    have hc : i = 0 ∨ i = 1 ∨ i = 2 ∨ i = 3 ∨ i = 4 ∨ i = 5 ∨ i = 6 ∨ i = 7 ∨ i = 8 ∨ i = 9 ∨ i = 10 ∨ i = 11 ∨ i = 12 ∨ i = 13 ∨ i = 14 ∨ i = 15 ∨ i = 16 ∨ i = 17 ∨ i = 18 ∨ i = 19 ∨ i = 20 ∨ i = 21 ∨ i = 22 ∨ i = 23 ∨ i = 24 ∨ i = 25 ∨ i = 26 ∨ i = 27 ∨ i = 28 ∨ i = 29 ∨ i = 30 ∨ i = 31 ∨ i = 32 := by omega
    rcases hc with rfl | rfl | rfl | rfl | rfl | rfl | rfl | rfl | rfl | rfl | rfl | rfl | rfl | rfl | rfl | rfl | rfl | rfl | rfl | rfl | rfl | rfl | rfl | rfl | rfl | rfl | rfl | rfl | rfl | rfl | rfl | rfl | rfl
    · cases ho
      have h0 : a.tmps.getD 5 undef = .bool true := hf.slot 5 (by kernel_rfl)
      left
      exact rc_move rfl (.tmp 5) rfl h0 ⟨Below.refl _ _, rfl⟩
    · cases ho
      have h0 : vof _ a 0 = .bool true := had ⟨0, .data⟩ (by simp) rfl (by decide)
      left
      exact rc_not rfl (.tmp 39) rfl h0 rfl ⟨Below.refl _ _, rfl⟩
    · cases ho
      have h0 : vof _ a 1 = .bool false := had ⟨1, .data⟩ (by simp) rfl (by decide)
      left
      exact rc_move rfl (.tmp 40) rfl h0 ⟨Below.refl _ _, rfl⟩
    · cases ho
      have hg : vof _ a 2 = .bool false := had ⟨2, .guard⟩ (by simp) rfl (by decide)
      have h0 : a.tmps.getD 7 undef = .bool true := hf.slot 7 (by kernel_rfl)
      left
      exact rc_move (want_if rfl hg) (.tmp 7) rfl h0 ⟨Below.refl _ _, rfl⟩
    · cases ho
      have hg : vof _ a 2 = .bool false := had ⟨2, .guard⟩ (by simp) rfl (by decide)
      have h0 : vof _ a 3 = .bool true := had ⟨3, .data⟩ (by simp) rfl (by decide)
      left
      exact rc_not (want_if rfl hg) (.tmp 42) rfl h0 rfl ⟨Below.refl _ _, rfl⟩
    · cases ho
      have h0 : vof _ a 2 = .bool false := had ⟨2, .data⟩ (by simp) rfl (by decide)
      have h1 : vof _ a 4 = .bool false := had ⟨4, .data⟩ (by simp) rfl (by decide)
      left
      exact rk_pickF rfl (.tmp 41) _ _ rfl h0 h1 ⟨Below.refl _ _, rfl⟩
    · cases ho
      have h0 : vof _ a 5 = .bool false := had ⟨5, .data⟩ (by simp) rfl (by decide)
      left
      exact rc_move rfl (.tmp 44) rfl h0 ⟨Below.refl _ _, rfl⟩
    · cases ho
      have hg : vof _ a 6 = .bool false := had ⟨6, .guard⟩ (by simp) rfl (by decide)
      have h0 : a.tmps.getD 9 undef = .int .i64 0 := hf.slot 9 (by kernel_rfl)
      left
      exact rc_move (want_if rfl hg) (.tmp 9) rfl h0 ⟨Below.refl _ _, rfl⟩
    · cases ho
      have hg : vof _ a 6 = .bool false := had ⟨6, .guard⟩ (by simp) rfl (by decide)
      have h0 : vof _ a 7 = .int .i64 0 := had ⟨7, .data⟩ (by simp) rfl (by decide)
      left
      exact rc_neq (want_if rfl hg) (.tmp 46) _ rfl h0 rfl (by decide) ⟨Below.refl _ _, rfl⟩
    · cases ho
      have h0 : vof _ a 6 = .bool false := had ⟨6, .data⟩ (by simp) rfl (by decide)
      have h1 : vof _ a 8 = .bool false := had ⟨8, .data⟩ (by simp) rfl (by decide)
      left
      exact rk_pickF rfl (.tmp 45) _ _ rfl h0 h1 ⟨Below.refl _ _, rfl⟩
    · cases ho
      have h0 : vof _ a 9 = .bool false := had ⟨9, .data⟩ (by simp) rfl (by decide)
      left
      exact rc_move rfl (.tmp 48) rfl h0 ⟨Below.refl _ _, rfl⟩
    · cases ho
      have hg : vof _ a 10 = .bool false := had ⟨10, .guard⟩ (by simp) rfl (by decide)
      have h0 : a.tmps.getD 11 undef = .int .i64 3 := hf.slot 11 (by kernel_rfl)
      left
      exact rc_move (want_if rfl hg) (.tmp 11) rfl h0 ⟨Below.refl _ _, rfl⟩
    · cases ho
      have hg : vof _ a 10 = .bool false := had ⟨10, .guard⟩ (by simp) rfl (by decide)
      have h0 : vof _ a 11 = .int .i64 3 := had ⟨11, .data⟩ (by simp) rfl (by decide)
      left
      exact rk_neqE (want_if rfl hg) (.tmp 50) _ rfl h0 rfl (by decide) ⟨Below.refl _ _, rfl⟩
    · cases ho
      have h0 : vof _ a 10 = .bool false := had ⟨10, .data⟩ (by simp) rfl (by decide)
      have h1 : vof _ a 12 = .bool false := had ⟨12, .data⟩ (by simp) rfl (by decide)
      left
      exact rk_pickF rfl (.tmp 49) _ _ rfl h0 h1 ⟨Below.refl _ _, rfl⟩
    · cases ho
      have h0 : vof _ a 13 = .bool false := had ⟨13, .data⟩ (by simp) rfl (by decide)
      left
      exact rc_move rfl (.tmp 52) rfl h0 ⟨Below.refl _ _, rfl⟩
    · cases ho
      have hg : vof _ a 14 = .bool false := had ⟨14, .guard⟩ (by simp) rfl (by decide)
      have h0 : a.tmps.getD 4 undef = .pointer (some ⟨wc10.heap.size, 0, none⟩) := hf.slot 4 (by kernel_rfl)
      left
      exact rk_ldR (want_if rfl hg) (.tmp 4) rfl h0 (BX.out.stay hbl) fun u hu => ⟨Below.refl _ _, hu⟩
    · cases ho
      have hg : vof _ a 14 = .bool false := had ⟨14, .guard⟩ (by simp) rfl (by decide)
      have h0 : a.tmps.getD 3 undef = .pointer (some ⟨wc8.heap.size, 0, none⟩) := hf.slot 3 (by kernel_rfl)
      left
      exact rk_ldR (want_if rfl hg) (.tmp 3) rfl h0 (BB.out.stay hbl) fun u hu => ⟨Below.refl _ _, hu⟩
    · cases ho
      have hg : vof _ a 14 = .bool false := had ⟨14, .guard⟩ (by simp) rfl (by decide)
      have h0 : RefV wn wn.heap.size (vof _ a 15) us [2, 1] := had ⟨15, .data⟩ (by simp) rfl (by decide)
      have h1 : RefV wn wn.heap.size (vof _ a 16) us [2, 1] := had ⟨16, .data⟩ (by simp) rfl (by decide)
      left
      exact rk_call2 (want_if rfl hg) rfl en_12 rfl rfl ((rsame_eq us [2, 1] _ _ wn h0 h1 (by decide)).mono fun e w1 ⟨he, hb1⟩ => ⟨_, he, hb1, rfl⟩)
    · cases ho
      have hg : vof _ a 14 = .bool false := had ⟨14, .guard⟩ (by simp) rfl (by decide)
      have h0 : vof _ a 17 = .bool true := had ⟨17, .data⟩ (by simp) rfl (by decide)
      left
      exact rc_not (want_if rfl hg) (.tmp 56) rfl h0 rfl ⟨Below.refl _ _, rfl⟩
    · cases ho
      have h0 : vof _ a 14 = .bool false := had ⟨14, .data⟩ (by simp) rfl (by decide)
      have h1 : vof _ a 18 = .bool false := had ⟨18, .data⟩ (by simp) rfl (by decide)
      left
      exact rk_pickF rfl (.tmp 53) _ _ rfl h0 h1 ⟨Below.refl _ _, rfl⟩
    · cases ho
      have h0 : vof _ a 19 = .bool false := had ⟨19, .data⟩ (by simp) rfl (by decide)
      left
      exact rc_move rfl (.tmp 58) rfl h0 ⟨Below.refl _ _, rfl⟩
    · cases ho
      have hg : vof _ a 20 = .bool false := had ⟨20, .guard⟩ (by simp) rfl (by decide)
      have h0 : a.tmps.getD 6 undef = .pointer (some ⟨wc12.heap.size, 0, none⟩) := hf.slot 6 (by kernel_rfl)
      left
      exact rk_ldR (want_if rfl hg) (.tmp 6) rfl h0 (BY.out.stay hbl) fun u hu => ⟨Below.refl _ _, hu⟩
    · cases ho
      have hg : vof _ a 20 = .bool false := had ⟨20, .guard⟩ (by simp) rfl (by decide)
      have h0 : a.tmps.getD 1 undef = .pointer (some ⟨wc1.heap.size, 0, none⟩) := hf.slot 1 (by kernel_rfl)
      left
      exact rk_ldR (want_if rfl hg) (.tmp 1) rfl h0 (BU.out.stay hbl) fun u hu => ⟨Below.refl _ _, hu⟩
    · cases ho
      have hg : vof _ a 20 = .bool false := had ⟨20, .guard⟩ (by simp) rfl (by decide)
      have h0 : RefV wn wn.heap.size (vof _ a 22) us [] := had ⟨22, .data⟩ (by simp) rfl (by decide)
      left
      exact rk_call1 (want_if rfl hg) rfl en_15 rfl (((show Calls _ _ #[_] wn (RefPost us [1] wn) from nonnull_any us [] _ wn h0 (by decide))).mono fun e w1 ⟨⟨u, he, hu⟩, hb1⟩ => ⟨u, he, hb1, hu⟩)
    · cases ho
      have hg : vof _ a 20 = .bool false := had ⟨20, .guard⟩ (by simp) rfl (by decide)
      have h0 : RefV wn wn.heap.size (vof _ a 21) us [1] := had ⟨21, .data⟩ (by simp) rfl (by decide)
      have h1 : RefV wn wn.heap.size (vof _ a 23) us [1] := had ⟨23, .data⟩ (by simp) rfl (by decide)
      left
      exact rk_call2 (want_if rfl hg) rfl en_12 rfl rfl ((rsame_eq us [1] _ _ wn h0 h1 (by decide)).mono fun e w1 ⟨he, hb1⟩ => ⟨_, he, hb1, rfl⟩)
    · cases ho
      have hg : vof _ a 20 = .bool false := had ⟨20, .guard⟩ (by simp) rfl (by decide)
      have h0 : vof _ a 24 = .bool true := had ⟨24, .data⟩ (by simp) rfl (by decide)
      left
      exact rc_not (want_if rfl hg) (.tmp 63) rfl h0 rfl ⟨Below.refl _ _, rfl⟩
    · cases ho
      have h0 : vof _ a 20 = .bool false := had ⟨20, .data⟩ (by simp) rfl (by decide)
      have h1 : vof _ a 25 = .bool false := had ⟨25, .data⟩ (by simp) rfl (by decide)
      left
      exact rk_pickF rfl (.tmp 59) _ _ rfl h0 h1 ⟨Below.refl _ _, rfl⟩
    · cases ho
      have h0 : vof _ a 26 = .bool false := had ⟨26, .data⟩ (by simp) rfl (by decide)
      left
      exact rc_move rfl (.tmp 65) rfl h0 ⟨Below.refl _ _, rfl⟩
    · cases ho
      have hg : vof _ a 27 = .bool false := had ⟨27, .guard⟩ (by simp) rfl (by decide)
      have h0 : a.tmps.getD 8 undef = .pointer (some ⟨wc14.heap.size, 0, none⟩) := hf.slot 8 (by kernel_rfl)
      left
      exact rk_ldR (want_if rfl hg) (.tmp 8) rfl h0 (BT.out.stay hbl) fun u hu => ⟨Below.refl _ _, hu⟩
    · cases ho
      have hg : vof _ a 27 = .bool false := had ⟨27, .guard⟩ (by simp) rfl (by decide)
      have h0 : a.tmps.getD 3 undef = .pointer (some ⟨wc8.heap.size, 0, none⟩) := hf.slot 3 (by kernel_rfl)
      left
      exact rk_ldR (want_if rfl hg) (.tmp 3) rfl h0 (BB.out.stay hbl) fun u hu => ⟨Below.refl _ _, hu⟩
    · cases ho
      have hg : vof _ a 27 = .bool false := had ⟨27, .guard⟩ (by simp) rfl (by decide)
      have h0 : RefV wn wn.heap.size (vof _ a 28) us [2, 1] := had ⟨28, .data⟩ (by simp) rfl (by decide)
      have h1 : RefV wn wn.heap.size (vof _ a 29) us [2, 1] := had ⟨29, .data⟩ (by simp) rfl (by decide)
      left
      exact rk_call2 (want_if rfl hg) rfl en_12 rfl rfl ((rsame_eq us [2, 1] _ _ wn h0 h1 (by decide)).mono fun e w1 ⟨he, hb1⟩ => ⟨_, he, hb1, rfl⟩)
    · cases ho
      have hg : vof _ a 27 = .bool false := had ⟨27, .guard⟩ (by simp) rfl (by decide)
      have h0 : vof _ a 30 = .bool true := had ⟨30, .data⟩ (by simp) rfl (by decide)
      left
      exact rc_not (want_if rfl hg) (.tmp 69) rfl h0 rfl ⟨Below.refl _ _, rfl⟩
    · cases ho
      have h0 : vof _ a 27 = .bool false := had ⟨27, .data⟩ (by simp) rfl (by decide)
      have h1 : vof _ a 31 = .bool false := had ⟨31, .data⟩ (by simp) rfl (by decide)
      left
      exact rk_pickF rfl (.tmp 66) _ _ rfl h0 h1 ⟨Below.refl _ _, rfl⟩
  · intro a wn hf hbl hall
    replace BU := Lib.hid (BU.out.stay hbl)
    replace BA := Lib.hid (BA.out.stay hbl)
    replace BB := Lib.hid (BB.out.stay hbl)
    replace BX := Lib.hid (BX.out.stay hbl)
    replace BY := Lib.hid (BY.out.stay hbl)
    replace BT := Lib.hid (BT.out.stay hbl)
    replace BZ := Lib.hid (BZ.out.stay hbl)
    replace B := Lib.hid (B.out.trans (hbl.mono B.out.size))
    clear hbl
    have ha := over_ofB hf [39, 40, 41, 42, 43, 44, 45, 46, 47, 48, 49, 50, 51, 52, 53, 54, 55, 56, 57, 58, 59, 60, 61, 62, 63, 64, 65, 66, 67, 68, 69, 70, 71] (by kernel_rfl)
    have q71 : (fun d => a.tmps.getD d undef) 71 = .bool false := hall 32 (by decide)
    generalize (fun d => a.tmps.getD d undef) = f at ha q71
    subst ha
    clear hf hall
    simp only [over, List.foldl_cons, List.foldl_nil, Act.put, List.setIfInBounds_toArray, List.set_cons_succ, List.set_cons_zero]
    rw [q71]
    clear q71
    generalize f 39 = u39
    generalize f 40 = u40
    generalize f 41 = u41
    generalize f 42 = u42
    generalize f 43 = u43
    generalize f 44 = u44
    generalize f 45 = u45
    generalize f 46 = u46
    generalize f 47 = u47
    generalize f 48 = u48
    generalize f 49 = u49
    generalize f 50 = u50
    generalize f 51 = u51
    generalize f 52 = u52
    generalize f 53 = u53
    generalize f 54 = u54
    generalize f 55 = u55
    generalize f 56 = u56
    generalize f 57 = u57
    generalize f 58 = u58
    generalize f 59 = u59
    generalize f 60 = u60
    generalize f 61 = u61
    generalize f 62 = u62
    generalize f 63 = u63
    generalize f 64 = u64
    generalize f 65 = u65
    generalize f 66 = u66
    generalize f 67 = u67
    generalize f 68 = u68
    generalize f 69 = u69
    generalize f 70 = u70
    go_wp2_with fail
    refine wp_region_list (by kernel_rfl) (by kernel_rfl) (by kernel_rfl) [Fact.ref us [1, 2, 1], Fact.is (.string ⟨#[91, 85, 115, 101, 114, 33, 93, 33]⟩), Fact.is (.bool true), Fact.is (.bool true), Fact.ref us [1, 2, 1], Fact.ref us [], Fact.ref us [2], Fact.is (.bool true), Fact.is (.bool true), Fact.is (.bool true), Fact.ref us [], Fact.ref us [], Fact.ref us [1], Fact.is (.bool false), Fact.is (.bool true), Fact.is (.bool true), Fact.is (.bool true), Fact.ref us [], Fact.ref us [], Fact.ref us [2], Fact.is (.bool false), Fact.is (.bool true), Fact.is (.bool true), Fact.is (.bool true), Fact.ref us [1, 2, 1], Fact.is (.bool true), Fact.is (.bool true), Fact.is (.bool true), Fact.sl [1, 1], Fact.ref ⟨#[85, 115, 101, 114]⟩ [1, 1], Fact.is (.bool false), Fact.is (.bool true), Fact.is (.bool true), Fact.is (.bool true)] ?_ ?_
    · intro i o ho a wn hf hbl had
      have hi : i < 34 := (Array.getElem?_eq_some_iff.1 ho).1
      have hc : i = 0 ∨ i = 1 ∨ i = 2 ∨ i = 3 ∨ i = 4 ∨ i = 5 ∨ i = 6 ∨ i = 7 ∨ i = 8 ∨ i = 9 ∨ i = 10 ∨ i = 11 ∨ i = 12 ∨ i = 13 ∨ i = 14 ∨ i = 15 ∨ i = 16 ∨ i = 17 ∨ i = 18 ∨ i = 19 ∨ i = 20 ∨ i = 21 ∨ i = 22 ∨ i = 23 ∨ i = 24 ∨ i = 25 ∨ i = 26 ∨ i = 27 ∨ i = 28 ∨ i = 29 ∨ i = 30 ∨ i = 31 ∨ i = 32 ∨ i = 33 := by omega
      rcases hc with rfl | rfl | rfl | rfl | rfl | rfl | rfl | rfl | rfl | rfl | rfl | rfl | rfl | rfl | rfl | rfl | rfl | rfl | rfl | rfl | rfl | rfl | rfl | rfl | rfl | rfl | rfl | rfl | rfl | rfl | rfl | rfl | rfl | rfl
      · cases ho
        have h0 : a.tmps.getD 2 undef = .pointer (some ⟨wc5.heap.size, 0, none⟩) := hf.slot 2 (by kernel_rfl)
        left
        exact rk_ldR rfl (.tmp 2) rfl h0 (BA.out.stay hbl) fun u hu => ⟨Below.refl _ _, hu⟩
      · cases ho
        have h0 : RefV wn wn.heap.size (vof _ a 0) us [1, 2, 1] := had ⟨0, .data⟩ (by simp) rfl (by decide)
        left
        exact rk_call1 rfl rfl en_36 rfl (((by have h := tprint_any us [1, 2, 1] _ wn h0 (by decide) (by decide); rw [show prL us.data.toList [1, 2, 1] = [91, 85, 115, 101, 114, 33, 93, 33] by decide] at h; exact h : Calls _ _ _ wn (StrPost [91, 85, 115, 101, 114, 33, 93, 33] wn))).mono fun e w1 ⟨he, hb1⟩ => ⟨_, he, hb1, rfl⟩)
      · cases ho
        have h0 : vof _ a 1 = .string ⟨#[91, 85, 115, 101, 114, 33, 93, 33]⟩ := had ⟨1, .data⟩ (by simp) rfl (by decide)
        left
        exact rk_eqlS rfl (.tmp 73) _ rfl h0 rfl (by decide) ⟨Below.refl _ _, rfl⟩
      · cases ho
        have h0 : vof _ a 2 = .bool true := had ⟨2, .data⟩ (by simp) rfl (by decide)
        left
        exact rc_move rfl (.tmp 74) rfl h0 ⟨Below.refl _ _, rfl⟩
      · cases ho
        have hg : vof _ a 3 = .bool true := had ⟨3, .guard⟩ (by simp) rfl (by decide)
        have h0 : a.tmps.getD 2 undef = .pointer (some ⟨wc5.heap.size, 0, none⟩) := hf.slot 2 (by kernel_rfl)
        left
        exact rk_ldR (want_if rfl hg) (.tmp 2) rfl h0 (BA.out.stay hbl) fun u hu => ⟨Below.refl _ _, hu⟩
      · cases ho
        have hg : vof _ a 3 = .bool true := had ⟨3, .guard⟩ (by simp) rfl (by decide)
        have h0 : a.tmps.getD 1 undef = .pointer (some ⟨wc1.heap.size, 0, none⟩) := hf.slot 1 (by kernel_rfl)
        left
        exact rk_ldR (want_if rfl hg) (.tmp 1) rfl h0 (BU.out.stay hbl) fun u hu => ⟨Below.refl _ _, hu⟩
      · cases ho
        have hg : vof _ a 3 = .bool true := had ⟨3, .guard⟩ (by simp) rfl (by decide)
        have h0 : RefV wn wn.heap.size (vof _ a 5) us [] := had ⟨5, .data⟩ (by simp) rfl (by decide)
        left
        exact rk_call1 (want_if rfl hg) rfl en_17 rfl ((listof_any us [] _ wn h0 (by decide)).mono fun e w1 ⟨⟨u, he, hu⟩, hb1⟩ => ⟨u, he, hb1, hu⟩)
      · cases ho
        have hg : vof _ a 3 = .bool true := had ⟨3, .guard⟩ (by simp) rfl (by decide)
        have h0 : RefV wn wn.heap.size (vof _ a 4) us [1, 2, 1] := had ⟨4, .data⟩ (by simp) rfl (by decide)
        have h1 : RefV wn wn.heap.size (vof _ a 6) us [2] := had ⟨6, .data⟩ (by simp) rfl (by decide)
        left
        exact rk_call2 (want_if rfl hg) rfl en_32 rfl rfl (((by have h := tfits_any us us [1, 2, 1] [2] _ _ wn h0 h1 (by decide) (by decide); rw [show (decide (us = us) && fiL [1, 2, 1] [2]) = true by decide] at h; exact h : Calls _ _ _ wn (BoolPost true wn))).mono fun e w1 ⟨he, hb1⟩ => ⟨_, he, hb1, rfl⟩)
      · cases ho
        have h0 : vof _ a 3 = .bool true := had ⟨3, .data⟩ (by simp) rfl (by decide)
        have h1 : vof _ a 7 = .bool true := had ⟨7, .data⟩ (by simp) rfl (by decide)
        left
        exact rk_pickT rfl (.tmp 75) _ _ rfl h0 h1 ⟨Below.refl _ _, rfl⟩
      · cases ho
        have h0 : vof _ a 8 = .bool true := had ⟨8, .data⟩ (by simp) rfl (by decide)
        left
        exact rc_move rfl (.tmp 80) rfl h0 ⟨Below.refl _ _, rfl⟩
      · cases ho
        have hg : vof _ a 9 = .bool true := had ⟨9, .guard⟩ (by simp) rfl (by decide)
        have h0 : a.tmps.getD 1 undef = .pointer (some ⟨wc1.heap.size, 0, none⟩) := hf.slot 1 (by kernel_rfl)
        left
        exact rk_ldR (want_if rfl hg) (.tmp 1) rfl h0 (BU.out.stay hbl) fun u hu => ⟨Below.refl _ _, hu⟩
      · cases ho
        have hg : vof _ a 9 = .bool true := had ⟨9, .guard⟩ (by simp) rfl (by decide)
        have h0 : a.tmps.getD 1 undef = .pointer (some ⟨wc1.heap.size, 0, none⟩) := hf.slot 1 (by kernel_rfl)
        left
        exact rk_ldR (want_if rfl hg) (.tmp 1) rfl h0 (BU.out.stay hbl) fun u hu => ⟨Below.refl _ _, hu⟩
      · cases ho
        have hg : vof _ a 9 = .bool true := had ⟨9, .guard⟩ (by simp) rfl (by decide)
        have h0 : RefV wn wn.heap.size (vof _ a 11) us [] := had ⟨11, .data⟩ (by simp) rfl (by decide)
        left
        exact rk_call1 (want_if rfl hg) rfl en_15 rfl (((show Calls _ _ #[_] wn (RefPost us [1] wn) from nonnull_any us [] _ wn h0 (by decide))).mono fun e w1 ⟨⟨u, he, hu⟩, hb1⟩ => ⟨u, he, hb1, hu⟩)
      · cases ho
        have hg : vof _ a 9 = .bool true := had ⟨9, .guard⟩ (by simp) rfl (by decide)
        have h0 : RefV wn wn.heap.size (vof _ a 10) us [] := had ⟨10, .data⟩ (by simp) rfl (by decide)
        have h1 : RefV wn wn.heap.size (vof _ a 12) us [1] := had ⟨12, .data⟩ (by simp) rfl (by decide)
        left
        exact rk_call2 (want_if rfl hg) rfl en_32 rfl rfl (((by have h := tfits_any us us [] [1] _ _ wn h0 h1 (by decide) (by decide); rw [show (decide (us = us) && fiL [] [1]) = false by decide] at h; exact h : Calls _ _ _ wn (BoolPost false wn))).mono fun e w1 ⟨he, hb1⟩ => ⟨_, he, hb1, rfl⟩)
      · cases ho
        have hg : vof _ a 9 = .bool true := had ⟨9, .guard⟩ (by simp) rfl (by decide)
        have h0 : vof _ a 13 = .bool false := had ⟨13, .data⟩ (by simp) rfl (by decide)
        left
        exact rc_not (want_if rfl hg) (.tmp 85) rfl h0 rfl ⟨Below.refl _ _, rfl⟩
      · cases ho
        have h0 : vof _ a 9 = .bool true := had ⟨9, .data⟩ (by simp) rfl (by decide)
        have h1 : vof _ a 14 = .bool true := had ⟨14, .data⟩ (by simp) rfl (by decide)
        left
        exact rk_pickT rfl (.tmp 81) _ _ rfl h0 h1 ⟨Below.refl _ _, rfl⟩
      · cases ho
        have h0 : vof _ a 15 = .bool true := had ⟨15, .data⟩ (by simp) rfl (by decide)
        left
        exact rc_move rfl (.tmp 87) rfl h0 ⟨Below.refl _ _, rfl⟩
      · cases ho
        have hg : vof _ a 16 = .bool true := had ⟨16, .guard⟩ (by simp) rfl (by decide)
        have h0 : a.tmps.getD 1 undef = .pointer (some ⟨wc1.heap.size, 0, none⟩) := hf.slot 1 (by kernel_rfl)
        left
        exact rk_ldR (want_if rfl hg) (.tmp 1) rfl h0 (BU.out.stay hbl) fun u hu => ⟨Below.refl _ _, hu⟩
      · cases ho
        have hg : vof _ a 16 = .bool true := had ⟨16, .guard⟩ (by simp) rfl (by decide)
        have h0 : a.tmps.getD 1 undef = .pointer (some ⟨wc1.heap.size, 0, none⟩) := hf.slot 1 (by kernel_rfl)
        left
        exact rk_ldR (want_if rfl hg) (.tmp 1) rfl h0 (BU.out.stay hbl) fun u hu => ⟨Below.refl _ _, hu⟩
      · cases ho
        have hg : vof _ a 16 = .bool true := had ⟨16, .guard⟩ (by simp) rfl (by decide)
        have h0 : RefV wn wn.heap.size (vof _ a 18) us [] := had ⟨18, .data⟩ (by simp) rfl (by decide)
        left
        exact rk_call1 (want_if rfl hg) rfl en_17 rfl ((listof_any us [] _ wn h0 (by decide)).mono fun e w1 ⟨⟨u, he, hu⟩, hb1⟩ => ⟨u, he, hb1, hu⟩)
      · cases ho
        have hg : vof _ a 16 = .bool true := had ⟨16, .guard⟩ (by simp) rfl (by decide)
        have h0 : RefV wn wn.heap.size (vof _ a 17) us [] := had ⟨17, .data⟩ (by simp) rfl (by decide)
        have h1 : RefV wn wn.heap.size (vof _ a 19) us [2] := had ⟨19, .data⟩ (by simp) rfl (by decide)
        left
        exact rk_call2 (want_if rfl hg) rfl en_32 rfl rfl (((by have h := tfits_any us us [] [2] _ _ wn h0 h1 (by decide) (by decide); rw [show (decide (us = us) && fiL [] [2]) = false by decide] at h; exact h : Calls _ _ _ wn (BoolPost false wn))).mono fun e w1 ⟨he, hb1⟩ => ⟨_, he, hb1, rfl⟩)
      · cases ho
        have hg : vof _ a 16 = .bool true := had ⟨16, .guard⟩ (by simp) rfl (by decide)
        have h0 : vof _ a 20 = .bool false := had ⟨20, .data⟩ (by simp) rfl (by decide)
        left
        exact rc_not (want_if rfl hg) (.tmp 92) rfl h0 rfl ⟨Below.refl _ _, rfl⟩
      · cases ho
        have h0 : vof _ a 16 = .bool true := had ⟨16, .data⟩ (by simp) rfl (by decide)
        have h1 : vof _ a 21 = .bool true := had ⟨21, .data⟩ (by simp) rfl (by decide)
        left
        exact rk_pickT rfl (.tmp 88) _ _ rfl h0 h1 ⟨Below.refl _ _, rfl⟩
      · cases ho
        have h0 : vof _ a 22 = .bool true := had ⟨22, .data⟩ (by simp) rfl (by decide)
        left
        exact rc_move rfl (.tmp 94) rfl h0 ⟨Below.refl _ _, rfl⟩
      · cases ho
        have hg : vof _ a 23 = .bool true := had ⟨23, .guard⟩ (by simp) rfl (by decide)
        have h0 : a.tmps.getD 2 undef = .pointer (some ⟨wc5.heap.size, 0, none⟩) := hf.slot 2 (by kernel_rfl)
        left
        exact rk_ldR (want_if rfl hg) (.tmp 2) rfl h0 (BA.out.stay hbl) fun u hu => ⟨Below.refl _ _, hu⟩
      · cases ho
        have hg : vof _ a 23 = .bool true := had ⟨23, .guard⟩ (by simp) rfl (by decide)
        have h0 : RefV wn wn.heap.size (vof _ a 24) us [1, 2, 1] := had ⟨24, .data⟩ (by simp) rfl (by decide)
        left
        exact rk_call1 (want_if rfl hg) rfl en_25 rfl (((by have h := tright_any us [1, 2, 1] _ wn h0 (by decide); rw [show okB us [1, 2, 1] = true by decide +kernel] at h; exact h : Calls _ _ _ wn (BoolPost true wn))).mono fun e w1 ⟨he, hb1⟩ => ⟨_, he, hb1, rfl⟩)
      · cases ho
        have h0 : vof _ a 23 = .bool true := had ⟨23, .data⟩ (by simp) rfl (by decide)
        have h1 : vof _ a 25 = .bool true := had ⟨25, .data⟩ (by simp) rfl (by decide)
        left
        exact rk_pickT rfl (.tmp 95) _ _ rfl h0 h1 ⟨Below.refl _ _, rfl⟩
      · cases ho
        have h0 : vof _ a 26 = .bool true := had ⟨26, .data⟩ (by simp) rfl (by decide)
        left
        exact rc_move rfl (.tmp 98) rfl h0 ⟨Below.refl _ _, rfl⟩
      · cases ho
        have hg : vof _ a 27 = .bool true := had ⟨27, .guard⟩ (by simp) rfl (by decide)
        left
        exact rk_made2 (want_if rfl hg) _ _ rfl rfl rfl fun v w1 hb1 hv => ⟨hb1, hv⟩
      · cases ho
        have hg : vof _ a 27 = .bool true := had ⟨27, .guard⟩ (by simp) rfl (by decide)
        have h1 : SlV wn wn.heap.size (vof _ a 28) [1, 1] := had ⟨28, .data⟩ (by simp) rfl (by decide)
        left
        exact rk_build (want_if rfl hg) _ (.tmp 100) rfl rfl h1 fun u hu => ⟨Below.refl _ _, hu⟩
      · cases ho
        have hg : vof _ a 27 = .bool true := had ⟨27, .guard⟩ (by simp) rfl (by decide)
        have h0 : RefV wn wn.heap.size (vof _ a 29) ⟨#[85, 115, 101, 114]⟩ [1, 1] := had ⟨29, .data⟩ (by simp) rfl (by decide)
        left
        exact rk_call1 (want_if rfl hg) rfl en_25 rfl (((by have h := tright_any ⟨#[85, 115, 101, 114]⟩ [1, 1] _ wn h0 (by decide); rw [show okB ⟨#[85, 115, 101, 114]⟩ [1, 1] = false by decide +kernel] at h; exact h : Calls _ _ _ wn (BoolPost false wn))).mono fun e w1 ⟨he, hb1⟩ => ⟨_, he, hb1, rfl⟩)
      · cases ho
        have hg : vof _ a 27 = .bool true := had ⟨27, .guard⟩ (by simp) rfl (by decide)
        have h0 : vof _ a 30 = .bool false := had ⟨30, .data⟩ (by simp) rfl (by decide)
        left
        exact rc_not (want_if rfl hg) (.tmp 102) rfl h0 rfl ⟨Below.refl _ _, rfl⟩
      · cases ho
        have h0 : vof _ a 27 = .bool true := had ⟨27, .data⟩ (by simp) rfl (by decide)
        have h1 : vof _ a 31 = .bool true := had ⟨31, .data⟩ (by simp) rfl (by decide)
        left
        exact rk_pickT rfl (.tmp 99) _ _ rfl h0 h1 ⟨Below.refl _ _, rfl⟩
      · cases ho
        have h0 : vof _ a 32 = .bool true := had ⟨32, .data⟩ (by simp) rfl (by decide)
        left
        exact rk_assign rfl (.tmp 104) rfl h0 ⟨Below.refl _ _, rfl⟩
    · intro a wn hf hbl hall
      have HB := Lib.hid (B.out.trans (hbl.mono B.out.size))
      clear hbl
      have ha := over_ofB hf [72, 73, 74, 75, 76, 77, 78, 79, 80, 81, 82, 83, 84, 85, 86, 87, 88, 89, 90, 91, 92, 93, 94, 95, 96, 97, 98, 99, 100, 101, 102, 103, 104, 0] (by kernel_rfl)
      have q0 : (fun d => a.tmps.getD d undef) 0 = .bool true := hall 33 (by decide)
      generalize (fun d => a.tmps.getD d undef) = f at ha q0
      subst ha
      clear hf hall
      simp only [over, List.foldl_cons, List.foldl_nil, Act.put, List.setIfInBounds_toArray, List.set_cons_succ, List.set_cons_zero]
      rw [q0]
      clear q0
      generalize f 72 = u72
      generalize f 73 = u73
      generalize f 74 = u74
      generalize f 75 = u75
      generalize f 76 = u76
      generalize f 77 = u77
      generalize f 78 = u78
      generalize f 79 = u79
      generalize f 80 = u80
      generalize f 81 = u81
      generalize f 82 = u82
      generalize f 83 = u83
      generalize f 84 = u84
      generalize f 85 = u85
      generalize f 86 = u86
      generalize f 87 = u87
      generalize f 88 = u88
      generalize f 89 = u89
      generalize f 90 = u90
      generalize f 91 = u91
      generalize f 92 = u92
      generalize f 93 = u93
      generalize f 94 = u94
      generalize f 95 = u95
      generalize f 96 = u96
      generalize f 97 = u97
      generalize f 98 = u98
      generalize f 99 = u99
      generalize f 100 = u100
      generalize f 101 = u101
      generalize f 102 = u102
      generalize f 103 = u103
      generalize f 104 = u104
      go_wp2_with fail
      exact bodyPost_ret (v := .bool true) (by simp [results, Tryz.results9, go_sem]) rfl ⟨rfl, HB.out⟩
end Go.Proofs.YtgicbmibhnnflaaGreatDoor
