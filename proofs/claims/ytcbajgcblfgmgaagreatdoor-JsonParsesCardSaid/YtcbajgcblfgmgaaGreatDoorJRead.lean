
/-
  The reader's small methods.
-/
import Derived.Test.YtcbajgcblfgmgaaGreatDoorJState
namespace Go.Proofs.YtcbajgcblfgmgaaGreatDoor
open Go.RowKit
/- skip -/
def SkipPost (w : World) (p : Nat) (s : ByteArray) (n j : Nat) (e : Ending) (w' : World) : Prop := e = .returned (.tuple #[]) ∧ PS w' p s j n 0 0 ∧ Bes p w.heap.size w w'
set_option maxHeartbeats 1000000 in
theorem skip_any {w : World} {p : Nat} {s : ByteArray} {i n : Nat} (h : PS w p s i n 0 0) (set : ByteArray) (h0 : (0 : UInt8) ∉ set.data.toList) :
    Calls Tryz.prog 10 #[pp p, .string set] w (SkipPost w p s n (sk set.data.toList s i)) := by
  have HP := Lib.hid h
  have H0 := Lib.hid h0
  clear h h0
  go_enter Tryz.func10, Tryz.ntmps10
  go_wp2_with fail
  go_loopw [] (fun wr => ∃ j : Nat, PS wr p s j n 0 0 ∧ sk set.data.toList s i = sk set.data.toList s j ∧ Bes p w.heap.size w wr) (fun wr => s.size - (match wr.cell? ⟨p, 1, none⟩ with | some (.int _ k) => k.toNat | _ => 0))
  case atStart => exact ⟨i, HP.out, rfl, Bes.refl _ _ _⟩
  case round =>
    obtain ⟨j, hp, he, hb⟩ := hrel
    have HPJ := Lib.hid hp
    have HE := Lib.hid he
    have HB := Lib.hid hb
    clear hp he hb
    go_wp2_with fail
    refine (nextIn_any HPJ.out set).mono ?_
    rintro e w1 ⟨rfl, hb⟩
    have HB1 := Lib.hid hb
    have HP1 := Lib.hid (HPJ.out.kept hb)
    have HB2 := Lib.hid (HB.out.trans ((Bes.of hb).mono HB.out.size))
    clear hb
    obtain ⟨q0, q1, q2, q3, q4⟩ := HP1.out.box.cells
    have f1 := HP1.out.box.frz 1
    cases hx : isIn set.data.toList (bt s j)
    · have E1 := Lib.hid (HE.out.trans (sk_out hx))
      clear hx
      go_wp2_with fail
      exact bodyPost_ret (v := .tuple #[]) (by simp [results, Tryz.results10, go_sem]) rfl ⟨rfl, by rw [E1.out]; exact HP1.out, HB2.out⟩
    · have hlt := lt_of_in H0.out hx
      have E1 := Lib.hid (HE.out.trans (sk_in H0.out hx))
      have hs := HP1.out.hs
      have hz : Hid (wr.cell? ⟨p, 1, none⟩ = some (.int .i64 j)) := Lib.hid HPJ.out.box.cells.2.1
      clear hx
      go_wp2_with fail
      go_roundw
      case rel => exact ⟨j + 1, by have := HP1.out.at1 (j := j + 1) (by omega); simpa using this, E1.out, by simpa using HB2.out.set 1 _⟩
      case measure =>
        rw [hz.out]
        have h1 := (HP1.out.at1 (j := j + 1) (by omega)).box.cells.2.1
        simp at h1
        simp [h1]
        exact Nat.sub_lt_sub_left hlt (Nat.lt_succ_self j)
/- begin -/
def BegPost (w : World) (p : Nat) (s : ByteArray) (i : Nat) (r : Except Er Nat) (e : Ending) (w' : World) : Prop :=
  (match r with
    | .ok m => e = .returned (.bool true) ∧ PS w' p s i m 0 0
    | .error x => e = .returned (.bool false) ∧ ∃ m, PS w' p s i m x.1 x.2) ∧ Bes p w.heap.size w w'
theorem BegPost.ok {w : World} {p : Nat} {s : ByteArray} {i m : Nat} {w' : World} (h : PS w' p s i m 0 0) (hb : Bes p w.heap.size w w') : BegPost w p s i (.ok m) (.returned (.bool true)) w' := ⟨⟨rfl, h⟩, hb⟩
theorem BegPost.bad {w : World} {p : Nat} {s : ByteArray} {i m : Nat} {x : Er} {w' : World} (h : PS w' p s i m x.1 x.2) (hb : Bes p w.heap.size w w') : BegPost w p s i (.error x) (.returned (.bool false)) w' := ⟨⟨rfl, m, h⟩, hb⟩
set_option maxRecDepth 100000 in
set_option maxHeartbeats 1000000 in
theorem begin_any {w : World} {p : Nat} {s : ByteArray} {i n : Nat} (h : PS w p s i n 0 0) (hn : n ≤ 4096) (level : Nat) (hl : level ≤ 25) :
    Calls Tryz.prog 16 #[pp p, .int .i64 level] w (BegPost w p s i (beginR s level i n)) := by
  have HP := Lib.hid h
  clear h
  go_enter Tryz.func16, Tryz.ntmps16
  go_wp2_with fail
  refine (nextIn_any HP.out _).mono ?_
  rintro e w1 ⟨rfl, hb⟩
  have HB := Lib.hid hb
  have HP1 := Lib.hid (HP.out.kept hb)
  have hsz := hb.size
  clear hb
  obtain ⟨q0, q1, q2, q3, q4⟩ := HP1.out.box.cells
  have f2 := HP1.out.box.frz 2
  cases hx : isIn vbL (bt s i)
  · have E1 : Hid (beginR s level i n = .error (i, 3)) := Lib.hid (by unfold beginR; rw [if_pos hx])
    have hx' : isIn (ByteArray.data ⟨#[34, 91, 123, 110, 102, 116, 45, 48, 49, 50, 51, 52, 53, 54, 55, 56, 57]⟩).toList (bt s i) = false := hx
    rw [hx']
    clear hx hx'
    go_wp2_with fail
    refine (fail_any HP1.out _ _).mono ?_
    rintro e w2 ⟨rfl, hp2, hb2⟩
    have HP2 := Lib.hid hp2
    have HB2 := Lib.hid ((Bes.of HB.out).trans (hb2.mono hsz))
    clear hp2 hb2 q0 q1 q2 q3 q4 f2
    go_wp2_with fail
    go_ret
    rw [E1.out]
    exact .bad HP2.out HB2.out
  · have hx' : isIn (ByteArray.data ⟨#[34, 91, 123, 110, 102, 116, 45, 48, 49, 50, 51, 52, 53, 54, 55, 56, 57]⟩).toList (bt s i) = true := hx
    rw [hx']
    have hx2 : ¬ isIn vbL (bt s i) = false := by rw [hx]; simp
    clear hx hx'
    by_cases hlv : 24 < level
    · have E1 : Hid (beginR s level i n = .error (i, 5)) := Lib.hid (by unfold beginR; rw [if_neg hx2, if_pos hlv])
      have hlv' : (level : Int) > 24 := by omega
      clear hx2
      go_wp2_with fail
      refine (fail_any HP1.out _ _).mono ?_
      rintro e w2 ⟨rfl, hp2, hb2⟩
      have HP2 := Lib.hid hp2
      have HB2 := Lib.hid ((Bes.of HB.out).trans (hb2.mono hsz))
      clear hp2 hb2 q0 q1 q2 q3 q4 f2
      go_wp2_with fail
      go_ret
      rw [E1.out]
      exact .bad HP2.out HB2.out
    · have hlv' : ¬ (level : Int) > 24 := by omega
      by_cases hnn : 4096 < n + 1
      · have E1 : Hid (beginR s level i n = .error (i, 4)) := Lib.hid (by unfold beginR; rw [if_neg hx2, if_neg hlv, if_pos hnn])
        have hnn' : (n : Int) + 1 > 4096 := by omega
        have HP2 : Hid (PS (w1.setCell ⟨p, 2, none⟩ (.int .i64 ((n : Int) + 1))) p s i (n + 1) 0 0) := Lib.hid (by have := HP1.out.at2 (m := n + 1) (by omega); simpa using this)
        obtain ⟨r0, r1, r2, r3, r4⟩ := HP2.out.box.cells
        have HB1 : Hid (Bes p w.heap.size w (w1.setCell ⟨p, 2, none⟩ (.int .i64 ((n : Int) + 1)))) := Lib.hid ((Bes.of HB.out).set 2 _)
        have hsz2 : w1.heap.size = (w1.setCell ⟨p, 2, none⟩ (.int .i64 ((n : Int) + 1))).heap.size := by simp [World.setCell]
        clear hx2
        go_wp2_with fail
        refine (fail_any HP2.out _ _).mono ?_
        rintro e w2 ⟨rfl, hp2, hb2⟩
        have HP3 := Lib.hid hp2
        have HB2 := Lib.hid (HB1.out.trans (hb2.mono (by omega)))
        clear hp2 hb2 q0 q1 q2 q3 q4 f2 r0 r1 r2 r3 r4
        go_wp2_with fail
        go_ret
        rw [E1.out]
        exact .bad HP3.out HB2.out
      · have E1 : Hid (beginR s level i n = .ok (n + 1)) := Lib.hid (by unfold beginR; rw [if_neg hx2, if_neg hlv, if_neg hnn])
        have hnn' : ¬ (n : Int) + 1 > 4096 := by omega
        have HP2 : Hid (PS (w1.setCell ⟨p, 2, none⟩ (.int .i64 ((n : Int) + 1))) p s i (n + 1) 0 0) := Lib.hid (by have := HP1.out.at2 (m := n + 1) (by omega); simpa using this)
        obtain ⟨r0, r1, r2, r3, r4⟩ := HP2.out.box.cells
        clear hx2
        go_wp2_with fail
        go_ret
        rw [E1.out]
        exact .ok HP2.out ((Bes.of HB.out).set 2 _)
/- word -/
theorem wordR_take (s : ByteArray) (l : List UInt8) (k i : Nat) (hk : k < l.length) : wordR s (l.drop k) i = match takeR s [l.getD k 0] i with | .ok j => wordR s (l.drop (k + 1)) j | .error e => .error e := by
  rw [List.drop_eq_getElem_cons hk, wordR, List.getD_eq_getElem?_getD, List.getElem?_eq_getElem hk]
  rfl
set_option maxHeartbeats 1000000 in
theorem word_any {w : World} {p : Nat} {s : ByteArray} {i n : Nat} (h : PS w p s i n 0 0) (x : ByteArray) (h0 : (0 : UInt8) ∉ x.data.toList) (hx : x.size ≤ 100) :
    Calls Tryz.prog 18 #[pp p, .string x] w (TakePost w p s n (wordR s x.data.toList i)) := by
  have HP := Lib.hid h
  have H0 := Lib.hid h0
  have HLEN : Hid (x.data.toList.length = x.size) := Lib.hid (T1.size_eq x)
  clear h h0
  go_enter Tryz.func18, Tryz.ntmps18
  go_wp2_with fail
  go_loopw [8] (fun v wr => ∃ (k j : Nat), k ≤ x.size ∧ v = .int .i64 k ∧ PS wr p s j n 0 0 ∧ wordR s x.data.toList i = wordR s (x.data.toList.drop k) j ∧ Bes p w.heap.size w wr) (fun v _ => x.size - (intOf v).toNat)
  case atStart => exact ⟨0, i, Nat.zero_le _, rfl, HP.out, rfl, Bes.refl _ _ _⟩
  case round =>
    obtain ⟨k, j, hk, rfl, hp, he, hb⟩ := hrel
    have HPJ := Lib.hid hp
    have HE := Lib.hid he
    have HB := Lib.hid hb
    clear hp he hb
    by_cases hlt : k < x.size
    · have hlt' : (k : Int) < x.size := by omega
      have hk1 : (k : Int) + 1 ≤ x.size := by omega
      have hc : Hid ((x.extract k (k + 1)).data.toList = [x.data.toList.getD k 0]) := Lib.hid (by
        rw [Lib.extract_data]
        have h1 := HLEN.out
        rw [List.getD_eq_getElem?_getD, List.getElem?_eq_getElem (by omega)]
        simp [List.take_one, List.head?_drop, List.getElem?_eq_getElem (show k < x.data.toList.length by omega)])
      have hz : (0 : UInt8) ∉ (x.extract k (k + 1)).data.toList := by
        rw [hc.out]
        intro h
        apply H0.out
        have h1 := HLEN.out
        rw [List.getD_eq_getElem?_getD, List.getElem?_eq_getElem (by omega)] at h
        simp at h
        rw [h]
        exact List.getElem_mem _
      have HT := Lib.hid (take_any HPJ.out (x.extract k (k + 1)) hz)
      clear hz
      have HD := Lib.hid (wordR_take s x.data.toList k j (by rw [HLEN.out]; exact hlt))
      go_wp2_with fail
      refine HT.out.mono ?_
      rintro e w2 ⟨h2, hb2⟩
      rw [hc.out] at h2
      cases hr : takeR s [x.data.toList.getD k 0] j with
      | ok j2 =>
        rw [hr] at h2
        obtain ⟨rfl, hp2⟩ := h2
        have HP2 := Lib.hid hp2
        have HB2 := Lib.hid (HB.out.trans (hb2.mono HB.out.size))
        have E2 : Hid (wordR s x.data.toList i = wordR s (x.data.toList.drop (k + 1)) j2) := Lib.hid (by rw [HE.out, HD.out, hr])
        clear hp2 hb2 hr
        go_wp2_with fail
        go_roundw
        case rel => exact ⟨k + 1, j2, by omega, by go_num, HP2.out, E2.out, HB2.out⟩
        case measure => simp [intOf]; omega
      | error z =>
        rw [hr] at h2
        obtain ⟨rfl, m, hp2⟩ := h2
        have HP2 := Lib.hid hp2
        have HB2 := Lib.hid (HB.out.trans (hb2.mono HB.out.size))
        have E2 : Hid (wordR s x.data.toList i = .error z) := Lib.hid (by rw [HE.out, HD.out, hr])
        clear hp2 hb2 hr
        go_wp2_with fail
        go_ret
        rw [E2.out]
        exact .bad HP2.out HB2.out
    · have hkx : k = x.size := by omega
      subst hkx
      have E1 : Hid (wordR s x.data.toList i = .ok j) := Lib.hid (by rw [HE.out, List.drop_eq_nil_of_le (by have := HLEN.out; omega)]; rfl)
      go_wp2_with fail
      go_ret
      rw [E1.out]
      exact .ok HPJ.out HB.out
/- escape, character -/
set_option maxRecDepth 100000 in
set_option maxHeartbeats 2000000 in
theorem escape_any {w : World} {p : Nat} {s : ByteArray} {i n : Nat} (h : PS w p s i n 0 0) :
    Calls Tryz.prog 57 #[pp p] w (TakePost w p s n (escR s i)) := by
  have HP := Lib.hid h
  clear h
  go_enter Tryz.func57, Tryz.ntmps57
  go_wp2_with fail
  refine (next_any HP.out).mono ?_
  rintro e w1 ⟨rfl, hb⟩
  have HB1 := Lib.hid (Bes.of hb : Bes p w.heap.size w w1)
  have HP1 := Lib.hid (HP.out.kept hb)
  clear hb
  by_cases hc : bt s i = 117
  · have hlt : i < s.size := lt_of_bt (by rw [hc]; decide)
    have hcc : (((bt s i).toNat : Int) != 117) = false := u8_bne' 117 hc
    have hs := HP1.out.hs
    have HP2 : Hid (PS (w1.setCell ⟨p, 1, none⟩ (.int .i64 ((i : Int) + 1))) p s (i + 1) n 0 0) := Lib.hid (by have := HP1.out.at1 (j := i + 1) (by omega); simpa using this)
    have HB2 : Hid (Bes p w.heap.size w (w1.setCell ⟨p, 1, none⟩ (.int .i64 ((i : Int) + 1)))) := Lib.hid (HB1.out.set 1 _)
    obtain ⟨q0, q1, q2, q3, q4⟩ := HP1.out.box.cells
    have f1 := HP1.out.box.frz 1
    have E0 : Hid (escR s i = match takeR s [48] (i + 1) with
      | .error e => .error e
      | .ok j => match takeR s [48] j with
        | .error e => .error e
        | .ok j => match takeR s hxL j with
          | .error e => .error e
          | .ok j => takeR s hxL j) := Lib.hid (by unfold escR; rw [if_neg (by rw [hc]; simp)]; rfl)
    clear hc
    go_wp2_with fail
    refine (take_any HP2.out ⟨#[48]⟩ (by decide)).mono ?_
    clear q0 q1 q2 q3 q4 f1
    intro e w3 hh
    obtain ⟨j1, hr, rfl, hp, hb⟩ | ⟨x, j, hr, rfl, hp, hb⟩ := hh.parts
    rotate_left
    · have HPX := Lib.hid hp
      have HBX := Lib.hid (HB2.out.trans (hb.mono HB2.out.size))
      have R : Hid (takeR s [48] (i + 1) = .error x) := Lib.hid hr
      have E1 : Hid (escR s i = .error x) := Lib.hid (by rw [E0.out]; simp only [R.out])
      clear hp hb hr hh
      go_wp2_with fail
      go_ret
      rw [E1.out]
      exact .bad HPX.out HBX.out
    have R1 : Hid (takeR s [48] (i + 1) = .ok j1) := Lib.hid hr
    have HP3 := Lib.hid hp
    have HB3 := Lib.hid (HB2.out.trans (hb.mono HB2.out.size))
    clear hp hb hr hh
    go_wp2_with fail
    refine (take_any HP3.out ⟨#[48]⟩ (by decide)).mono ?_
    intro e w4 hh
    obtain ⟨j2, hr, rfl, hp, hb⟩ | ⟨x, j, hr, rfl, hp, hb⟩ := hh.parts
    rotate_left
    · have HPX := Lib.hid hp
      have HBX := Lib.hid (HB3.out.trans (hb.mono HB3.out.size))
      have R : Hid (takeR s [48] j1 = .error x) := Lib.hid hr
      have E1 : Hid (escR s i = .error x) := Lib.hid (by rw [E0.out]; simp only [R1.out, R.out])
      clear hp hb hr hh
      go_wp2_with fail
      go_ret
      rw [E1.out]
      exact .bad HPX.out HBX.out
    have R2 : Hid (takeR s [48] j1 = .ok j2) := Lib.hid hr
    have HP4 := Lib.hid hp
    have HB4 := Lib.hid (HB3.out.trans (hb.mono HB3.out.size))
    clear hp hb hr hh
    go_wp2_with fail
    refine (take_any HP4.out ⟨#[48, 49, 50, 51, 52, 53, 54, 55, 56, 57, 97, 98, 99, 100, 101, 102, 65, 66, 67, 68, 69, 70]⟩ (by decide)).mono ?_
    intro e w5 hh
    obtain ⟨j3, hr, rfl, hp, hb⟩ | ⟨x, j, hr, rfl, hp, hb⟩ := hh.parts
    rotate_left
    · have HPX := Lib.hid hp
      have HBX := Lib.hid (HB4.out.trans (hb.mono HB4.out.size))
      have R : Hid (takeR s hxL j2 = .error x) := Lib.hid hr
      have E1 : Hid (escR s i = .error x) := Lib.hid (by rw [E0.out]; simp only [R1.out, R2.out, R.out])
      clear hp hb hr hh
      go_wp2_with fail
      go_ret
      rw [E1.out]
      exact .bad HPX.out HBX.out
    have R3 : Hid (takeR s hxL j2 = .ok j3) := Lib.hid hr
    have HP5 := Lib.hid hp
    have HB5 := Lib.hid (HB4.out.trans (hb.mono HB4.out.size))
    clear hp hb hr hh
    go_wp2_with fail
    refine (take_any HP5.out ⟨#[48, 49, 50, 51, 52, 53, 54, 55, 56, 57, 97, 98, 99, 100, 101, 102, 65, 66, 67, 68, 69, 70]⟩ (by decide)).mono ?_
    intro e w6 hh
    obtain ⟨j4, hr, rfl, hp, hb⟩ | ⟨x, j, hr, rfl, hp, hb⟩ := hh.parts
    rotate_left
    · have HPX := Lib.hid hp
      have HBX := Lib.hid (HB5.out.trans (hb.mono HB5.out.size))
      have R : Hid (takeR s hxL j3 = .error x) := Lib.hid hr
      have E1 : Hid (escR s i = .error x) := Lib.hid (by rw [E0.out]; simp only [R1.out, R2.out, R3.out, R.out])
      clear hp hb hr hh
      go_wp2_with fail
      go_ret
      rw [E1.out]
      exact .bad HPX.out HBX.out
    have R4 : Hid (takeR s hxL j3 = .ok j4) := Lib.hid hr
    have HP6 := Lib.hid hp
    have HB6 := Lib.hid (HB5.out.trans (hb.mono HB5.out.size))
    clear hp hb hr hh
    have E1 : Hid (escR s i = .ok j4) := Lib.hid (by rw [E0.out]; simp only [R1.out, R2.out, R3.out, R4.out])
    go_wp2_with fail
    go_ret
    rw [E1.out]
    exact .ok HP6.out HB6.out
  · have hcc : (((bt s i).toNat : Int) != 117) = true := u8_bne 117 hc
    have E0 : Hid (escR s i = takeR s seL i) := Lib.hid (by unfold escR; rw [if_pos hc])
    clear hc
    go_wp2_with fail
    refine (take_any HP1.out ⟨#[34, 92, 47, 98, 102, 110, 114, 116]⟩ (by decide)).mono ?_
    intro e w3 hh
    obtain ⟨j1, hr, rfl, hp, hb⟩ | ⟨x, j, hr, rfl, hp, hb⟩ := hh.parts
    · have E1 : Hid (escR s i = .ok j1) := Lib.hid (E0.out.trans hr)
      have HP3 := Lib.hid hp
      have HB3 := Lib.hid (HB1.out.trans (hb.mono HB1.out.size))
      clear hp hb hr hh
      go_wp2_with fail
      go_ret
      rw [E1.out]
      exact .ok HP3.out HB3.out
    · have E1 : Hid (escR s i = .error x) := Lib.hid (E0.out.trans hr)
      have HP3 := Lib.hid hp
      have HB3 := Lib.hid (HB1.out.trans (hb.mono HB1.out.size))
      clear hp hb hr hh
      go_wp2_with fail
      go_ret
      rw [E1.out]
      exact .bad HP3.out HB3.out
set_option maxRecDepth 100000 in
set_option maxHeartbeats 2000000 in
theorem character_any {w : World} {p : Nat} {s : ByteArray} {i n : Nat} (h : PS w p s i n 0 0) :
    Calls Tryz.prog 39 #[pp p] w (TakePost w p s n (chrR s i)) := by
  have HP := Lib.hid h
  clear h
  go_enter Tryz.func39, Tryz.ntmps39
  go_wp2_with fail
  refine (next_any HP.out).mono ?_
  rintro e w1 ⟨rfl, hb⟩
  have HB1 := Lib.hid (Bes.of hb : Bes p w.heap.size w w1)
  have HP1 := Lib.hid (HP.out.kept hb)
  clear hb
  obtain ⟨q0, q1, q2, q3, q4⟩ := HP1.out.box.cells
  by_cases hc : bt s i < 32 ∨ 126 < bt s i
  · have E1 : Hid (chrR s i = .error (i, 3)) := Lib.hid (by unfold chrR; rw [if_pos hc])
    rcases hc with hc | hc
    · have hcc : ((bt s i).toNat : Int) < 32 := by have := UInt8.lt_iff_toNat_lt.1 hc; change _ < 32 at this; omega
      clear hc
      go_wp2_with fail
      refine (fail_any HP1.out _ _).mono ?_
      rintro e w2 ⟨rfl, hp2, hb2⟩
      have HP2 := Lib.hid hp2
      have HB2 := Lib.hid (HB1.out.trans (hb2.mono HB1.out.size))
      clear hp2 hb2 q0 q1 q2 q3 q4
      go_wp2_with fail
      go_ret
      rw [E1.out]
      exact .bad HP2.out HB2.out
    · have hcc : ((bt s i).toNat : Int) > 126 := by have := UInt8.lt_iff_toNat_lt.1 hc; change 126 < _ at this; omega
      have hcd : ¬ ((bt s i).toNat : Int) < 32 := by omega
      clear hc
      go_wp2_with fail
      refine (fail_any HP1.out _ _).mono ?_
      rintro e w2 ⟨rfl, hp2, hb2⟩
      have HP2 := Lib.hid hp2
      have HB2 := Lib.hid (HB1.out.trans (hb2.mono HB1.out.size))
      clear hp2 hb2 q0 q1 q2 q3 q4
      go_wp2_with fail
      go_ret
      rw [E1.out]
      exact .bad HP2.out HB2.out
  · have h1 : ¬ bt s i < 32 := fun h => hc (.inl h)
    have h2 : ¬ 126 < bt s i := fun h => hc (.inr h)
    have hlt : i < s.size := lt_of_bt (fun h => h1 (by rw [h]; decide))
    have hcc : ¬ ((bt s i).toNat : Int) < 32 := by intro h; apply h1; rw [UInt8.lt_iff_toNat_lt]; change _ < 32; omega
    have hcd : ¬ ((bt s i).toNat : Int) > 126 := by intro h; apply h2; rw [UInt8.lt_iff_toNat_lt]; change 126 < _; omega
    have hs := HP1.out.hs
    have HP2 : Hid (PS (w1.setCell ⟨p, 1, none⟩ (.int .i64 ((i : Int) + 1))) p s (i + 1) n 0 0) := Lib.hid (by have := HP1.out.at1 (j := i + 1) (by omega); simpa using this)
    have HB2 : Hid (Bes p w.heap.size w (w1.setCell ⟨p, 1, none⟩ (.int .i64 ((i : Int) + 1)))) := Lib.hid (HB1.out.set 1 _)
    have f1 := HP1.out.box.frz 1
    clear h1 h2
    by_cases h9 : bt s i = 92
    · have h9' : (((bt s i).toNat : Int) != 92) = false := u8_bne' 92 h9
      have E0 : Hid (chrR s i = escR s (i + 1)) := Lib.hid (by unfold chrR; rw [if_neg hc, if_neg (by rw [h9]; simp)])
      clear hc h9
      go_wp2_with fail
      refine (escape_any HP2.out).mono ?_
      clear q0 q1 q2 q3 q4 f1
      intro e w3 hh
      obtain ⟨j1, hr, rfl, hp, hb⟩ | ⟨x, j, hr, rfl, hp, hb⟩ := hh.parts
      · have E1 : Hid (chrR s i = .ok j1) := Lib.hid (E0.out.trans hr)
        have HP3 := Lib.hid hp
        have HB3 := Lib.hid (HB2.out.trans (hb.mono HB2.out.size))
        clear hp hb hr hh
        go_wp2_with fail
        go_ret
        rw [E1.out]
        exact .ok HP3.out HB3.out
      · have E1 : Hid (chrR s i = .error x) := Lib.hid (E0.out.trans hr)
        have HP3 := Lib.hid hp
        have HB3 := Lib.hid (HB2.out.trans (hb.mono HB2.out.size))
        clear hp hb hr hh
        go_wp2_with fail
        go_ret
        rw [E1.out]
        exact .bad HP3.out HB3.out
    · have h9' : (((bt s i).toNat : Int) != 92) = true := u8_bne 92 h9
      have E1 : Hid (chrR s i = .ok (i + 1)) := Lib.hid (by unfold chrR; rw [if_neg hc, if_pos h9])
      clear hc h9
      go_wp2_with fail
      go_ret
      rw [E1.out]
      exact .ok HP2.out HB2.out
end Go.Proofs.YtcbajgcblfgmgaaGreatDoor
