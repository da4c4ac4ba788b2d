
/-
  The state of the reference's reader. The small methods of the reference's reader. Bytes of the reference's reader; escapes. String literals of the reference's reader. Integers of the reference's reader. Integers of the reference's reader: the contract.
-/
import Derived.Test.YtcbajgcblfgmgaaGreatDoorJState
import Derived.Test.YtcbajgcblfgmgaaGreatDoorJRead
import Derived.Test.YtcbajgcblfgmgaaGreatDoorJLit
import Derived.Test.YtcbajgcblfgmgaaGreatDoorQD
import Derived.Test.YtcbajgcblfgmgaaGreatDoorNumPlain
import Derived.Test.YtcbajgcblfgmgaaGreatDoorQE
namespace Go.Proofs.YtcbajgcblfgmgaaGreatDoor
open Go.RowKit
def QBox (W : World) (b : Nat) (c0 c1 c2 c3 c4 : Value) : Prop := W.heap[b]? = some (.cells #[c0, c1, c2, c3, c4] 41 (0, 0))
theorem QBox.cells {W : World} {b : Nat} {c0 c1 c2 c3 c4 : Value} (h : QBox W b c0 c1 c2 c3 c4) :
    W.cell? ⟨b, 0, none⟩ = some c0 ∧ W.cell? ⟨b, 1, none⟩ = some c1 ∧ W.cell? ⟨b, 2, none⟩ = some c2 ∧ W.cell? ⟨b, 3, none⟩ = some c3 ∧ W.cell? ⟨b, 4, none⟩ = some c4 := by
  refine ⟨?_, ?_, ?_, ?_, ?_⟩ <;> rw [cell_of_row _ _ _ _ _ _ h] <;> rfl
theorem QBox.frz {W : World} {b : Nat} {c0 c1 c2 c3 c4 : Value} (h : QBox W b c0 c1 c2 c3 c4) (i : Nat) : W.frozen? ⟨b, i, none⟩ = false := by
  unfold QBox at h; simp [World.frozen?, h]
theorem QBox.s1 {W : World} {b : Nat} {c0 c1 c2 c3 c4 : Value} (h : QBox W b c0 c1 c2 c3 c4) (u : Value) : QBox (W.setCell ⟨b, 1, none⟩ u) b c0 u c2 c3 c4 := by
  unfold QBox at h ⊢; simp [World.setCell, Array.getElem?_modify, h]
theorem QBox.s2 {W : World} {b : Nat} {c0 c1 c2 c3 c4 : Value} (h : QBox W b c0 c1 c2 c3 c4) (u : Value) : QBox (W.setCell ⟨b, 2, none⟩ u) b c0 c1 u c3 c4 := by
  unfold QBox at h ⊢; simp [World.setCell, Array.getElem?_modify, h]
theorem QBox.s3 {W : World} {b : Nat} {c0 c1 c2 c3 c4 : Value} (h : QBox W b c0 c1 c2 c3 c4) (u : Value) : QBox (W.setCell ⟨b, 3, none⟩ u) b c0 c1 c2 u c4 := by
  unfold QBox at h ⊢; simp [World.setCell, Array.getElem?_modify, h]
theorem QBox.s4 {W : World} {b : Nat} {c0 c1 c2 c3 c4 : Value} (h : QBox W b c0 c1 c2 c3 c4) (u : Value) : QBox (W.setCell ⟨b, 4, none⟩ u) b c0 c1 c2 c3 u := by
  unfold QBox at h ⊢; simp [World.setCell, Array.getElem?_modify, h]
/- The reader p stands at i, behind n values, and has noted the code c and the index x. -/
structure QS (w : World) (p : Nat) (s : ByteArray) (i n : Nat) (c x : Int) : Prop where
  box : QBox w p (.string s) (.int .i64 i) (.int .i64 n) (.int .i64 c) (.int .i64 x)
  hi : i ≤ s.size
  hs : s.size ≤ 1073741824
  hn : n ≤ 4097
section
variable {w w' : World} {p : Nat} {s : ByteArray} {i n : Nat} {c x : Int}
theorem QS.lt (h : QS w p s i n c x) : p < w.heap.size := by
  have h := h.box
  unfold QBox at h
  rcases Nat.lt_or_ge p w.heap.size with h' | h'
  · exact h'
  · rw [Array.getElem?_eq_none h'] at h; cases h
theorem QS.same (h : QS w p s i n c x) (hb : Below (p + 1) w w') : QS w' p s i n c x := ⟨(hb.block p (by omega)).trans h.box, h.hi, h.hs, h.hn⟩
theorem QS.kept (h : QS w p s i n c x) (hb : Below w.heap.size w w') : QS w' p s i n c x := h.same (hb.mono h.lt)
theorem QS.at1 (h : QS w p s i n c x) {j : Nat} (hj : j ≤ s.size) : QS (w.setCell ⟨p, 1, none⟩ (.int .i64 j)) p s j n c x := ⟨h.box.s1 _, hj, h.hs, h.hn⟩
theorem QS.at2 (h : QS w p s i n c x) {m : Nat} (hm : m ≤ 4097) : QS (w.setCell ⟨p, 2, none⟩ (.int .i64 m)) p s i m c x := ⟨h.box.s2 _, h.hi, h.hs, hm⟩
theorem QS.at34 (h : QS w p s i n c x) (c' x' : Int) : QS ((w.setCell ⟨p, 3, none⟩ (.int .i64 c')).setCell ⟨p, 4, none⟩ (.int .i64 x')) p s i n c' x' := ⟨(h.box.s3 _).s4 _, h.hi, h.hs, h.hn⟩
end
/- fail keeps the first error. -/
theorem qfail_any {w : World} {p : Nat} {s : ByteArray} {i n : Nat} {x : Int} (h : QS w p s i n 0 x) (c at1 : Int) :
    Calls Tryz.prog 13 #[pp p, .int .i64 c, .int .i64 at1] w fun e w' => e = .returned (.tuple #[]) ∧ QS w' p s i n c at1 ∧ Bes p w.heap.size w w' := by
  obtain ⟨q0, q1, q2, q3, q4⟩ := h.box.cells
  have f3 := h.box.frz 3
  have f4 := h.box.frz 4
  have HP := Lib.hid h
  clear h
  go_enter Tryz.func13, Tryz.ntmps13
  go_wp2_with fail
  exact bodyPost_end (v := .tuple #[]) (by simp [results, Tryz.results13, go_sem]) rfl ⟨rfl, HP.out.at34 c at1, ((Bes.refl _ _ _).set 3 _).set 4 _⟩
theorem qfail_no {w : World} {p : Nat} {s : ByteArray} {i n : Nat} {c x : Int} (h : QS w p s i n c x) (hc : c ≠ 0) (c1 at1 : Int) :
    Calls Tryz.prog 13 #[pp p, .int .i64 c1, .int .i64 at1] w fun e w' => e = .returned (.tuple #[]) ∧ Below w.heap.size w w' := by
  obtain ⟨q0, q1, q2, q3, q4⟩ := h.box.cells
  have hc1 : (c == 0) = false := by simpa using hc
  clear h hc
  go_enter Tryz.func13, Tryz.ntmps13
  go_wp2_with fail
  exact bodyPost_end (v := .tuple #[]) (by simp [results, Tryz.results13, go_sem]) rfl ⟨rfl, Below.refl _ _⟩
theorem qnext_any {w : World} {p : Nat} {s : ByteArray} {i n : Nat} {c x : Int} (h : QS w p s i n c x) :
    Calls Tryz.prog 24 #[pp p] w fun e w' => e = .returned (.int .u8 (bt s i).toNat) ∧ Below w.heap.size w w' := by
  obtain ⟨q0, q1, q2, q3, q4⟩ := h.box.cells
  have hi := h.hi
  have hs := h.hs
  clear h
  by_cases hlt : i < s.size
  · have h1 : (i : Int) < s.size := by omega
    have hb : Hid (bt s i = s[i]) := Lib.hid (by unfold bt; rw [List.getD_eq_getElem?_getD, List.getElem?_eq_getElem (by rw [T1.size_eq]; exact hlt)]; rfl)
    go_enter Tryz.func24, Tryz.ntmps24
    go_wp2_with fail
    go_region
    go_wp2_with fail
    go_region
    go_wp2_with fail
    go_ret
    exact ⟨by rw [hb.out]; rfl, (Below.refl _ _).drew.drew⟩
  · have h1 : ¬ (i : Int) < s.size := by omega
    have hb : Hid (bt s i = 0) := Lib.hid (bt_end s i (by omega))
    go_enter Tryz.func24, Tryz.ntmps24
    go_wp2_with fail
    go_region
    go_wp2_with fail
    go_ret
    exact ⟨by rw [hb.out]; rfl, (Below.refl _ _).drew⟩
end Go.Proofs.YtcbajgcblfgmgaaGreatDoor
namespace Go.Proofs.YtcbajgcblfgmgaaGreatDoor
open Go.RowKit
/- skip -/
def QSkip (w : World) (p : Nat) (s : ByteArray) (n j : Nat) (c x : Int) (e : Ending) (w' : World) : Prop := e = .returned (.tuple #[]) ∧ QS w' p s j n c x ∧ Bes p w.heap.size w w'
set_option maxHeartbeats 2000000 in
theorem qskip_any {w : World} {p : Nat} {s : ByteArray} {i n : Nat} {c x : Int} (h : QS w p s i n c x) :
    Calls Tryz.prog 12 #[pp p] w (QSkip w p s n (sk spL s i) c x) := by
  have HP := Lib.hid h
  clear h
  go_enter Tryz.func12, Tryz.ntmps12
  go_wp2_with fail
  go_loopw [] (fun wr => ∃ j : Nat, QS wr p s j n c x ∧ sk spL s i = sk spL s j ∧ Bes p w.heap.size w wr) (fun wr => s.size - (match wr.cell? ⟨p, 1, none⟩ with | some (.int _ k) => k.toNat | _ => 0))
  case atStart => exact ⟨i, HP.out, rfl, Bes.refl _ _ _⟩
  case round =>
    obtain ⟨j, hp, he, hb⟩ := hrel
    have HP0 := Lib.hid hp
    have HE := Lib.hid he
    have HB0 := Lib.hid hb
    clear hp he hb
    by_cases h0 : bt s j = 32
    · have e0 : (((bt s j).toNat : Int) == 32) = true := u8_beq' 32 h0
      have hin : isIn spL (bt s j) = true := by rw [h0]; decide
      have hlt := lt_of_in (by decide) hin
      have E1 := Lib.hid (HE.out.trans (sk_in (by decide) hin))
      have hs := HP0.out.hs
      have hz : Hid (wr.cell? ⟨p, 1, none⟩ = some (.int .i64 j)) := Lib.hid HP0.out.box.cells.2.1
      clear hin h0
      go_wp2_with fail
      refine (qnext_any HP0.out).mono ?_
      rintro e w1 ⟨rfl, hb⟩
      have HB1 := Lib.hid (HB0.out.trans ((Bes.of hb).mono HB0.out.size))
      have HP1 := Lib.hid (HP0.out.kept hb)
      clear hb
      obtain ⟨q0, q1, q2, q3, q4⟩ := HP1.out.box.cells
      have f1 := HP1.out.box.frz 1
      go_wp2_with fail
      go_roundw
      case rel => exact ⟨j + 1, by have := HP1.out.at1 (j := j + 1) (by omega); simpa using this, E1.out, by simpa using HB1.out.set 1 _⟩
      case measure =>
        rw [hz.out]
        have h1 := (HP1.out.at1 (j := j + 1) (by omega)).box.cells.2.1
        simp at h1
        simp [h1]
        exact Nat.sub_lt_sub_left hlt (Nat.lt_succ_self j)
    by_cases h1 : bt s j = 9
    · have e0 : (((bt s j).toNat : Int) == 32) = false := u8_beq 32 h0
      have e1 : (((bt s j).toNat : Int) == 9) = true := u8_beq' 9 h1
      have hin : isIn spL (bt s j) = true := by rw [h1]; decide
      have hlt := lt_of_in (by decide) hin
      have E1 := Lib.hid (HE.out.trans (sk_in (by decide) hin))
      have hs := HP0.out.hs
      have hz : Hid (wr.cell? ⟨p, 1, none⟩ = some (.int .i64 j)) := Lib.hid HP0.out.box.cells.2.1
      clear hin h0 h1
      go_wp2_with fail
      refine (qnext_any HP0.out).mono ?_
      rintro e w1 ⟨rfl, hb⟩
      have HB1 := Lib.hid (HB0.out.trans ((Bes.of hb).mono HB0.out.size))
      have HP1 := Lib.hid (HP0.out.kept hb)
      clear hb
      go_wp2_with fail
      refine (qnext_any HP1.out).mono ?_
      rintro e w2 ⟨rfl, hb⟩
      have HB2 := Lib.hid (HB1.out.trans ((Bes.of hb).mono HB1.out.size))
      have HP2 := Lib.hid (HP1.out.kept hb)
      clear hb
      obtain ⟨q0, q1, q2, q3, q4⟩ := HP2.out.box.cells
      have f1 := HP2.out.box.frz 1
      go_wp2_with fail
      go_roundw
      case rel => exact ⟨j + 1, by have := HP2.out.at1 (j := j + 1) (by omega); simpa using this, E1.out, by simpa using HB2.out.set 1 _⟩
      case measure =>
        rw [hz.out]
        have h1 := (HP2.out.at1 (j := j + 1) (by omega)).box.cells.2.1
        simp at h1
        simp [h1]
        exact Nat.sub_lt_sub_left hlt (Nat.lt_succ_self j)
    by_cases h2 : bt s j = 10
    · have e0 : (((bt s j).toNat : Int) == 32) = false := u8_beq 32 h0
      have e1 : (((bt s j).toNat : Int) == 9) = false := u8_beq 9 h1
      have e2 : (((bt s j).toNat : Int) == 10) = true := u8_beq' 10 h2
      have hin : isIn spL (bt s j) = true := by rw [h2]; decide
      have hlt := lt_of_in (by decide) hin
      have E1 := Lib.hid (HE.out.trans (sk_in (by decide) hin))
      have hs := HP0.out.hs
      have hz : Hid (wr.cell? ⟨p, 1, none⟩ = some (.int .i64 j)) := Lib.hid HP0.out.box.cells.2.1
      clear hin h0 h1 h2
      go_wp2_with fail
      refine (qnext_any HP0.out).mono ?_
      rintro e w1 ⟨rfl, hb⟩
      have HB1 := Lib.hid (HB0.out.trans ((Bes.of hb).mono HB0.out.size))
      have HP1 := Lib.hid (HP0.out.kept hb)
      clear hb
      go_wp2_with fail
      refine (qnext_any HP1.out).mono ?_
      rintro e w2 ⟨rfl, hb⟩
      have HB2 := Lib.hid (HB1.out.trans ((Bes.of hb).mono HB1.out.size))
      have HP2 := Lib.hid (HP1.out.kept hb)
      clear hb
      go_wp2_with fail
      refine (qnext_any HP2.out).mono ?_
      rintro e w3 ⟨rfl, hb⟩
      have HB3 := Lib.hid (HB2.out.trans ((Bes.of hb).mono HB2.out.size))
      have HP3 := Lib.hid (HP2.out.kept hb)
      clear hb
      obtain ⟨q0, q1, q2, q3, q4⟩ := HP3.out.box.cells
      have f1 := HP3.out.box.frz 1
      go_wp2_with fail
      go_roundw
      case rel => exact ⟨j + 1, by have := HP3.out.at1 (j := j + 1) (by omega); simpa using this, E1.out, by simpa using HB3.out.set 1 _⟩
      case measure =>
        rw [hz.out]
        have h1 := (HP3.out.at1 (j := j + 1) (by omega)).box.cells.2.1
        simp at h1
        simp [h1]
        exact Nat.sub_lt_sub_left hlt (Nat.lt_succ_self j)
    by_cases h3 : bt s j = 13
    · have e0 : (((bt s j).toNat : Int) == 32) = false := u8_beq 32 h0
      have e1 : (((bt s j).toNat : Int) == 9) = false := u8_beq 9 h1
      have e2 : (((bt s j).toNat : Int) == 10) = false := u8_beq 10 h2
      have e3 : (((bt s j).toNat : Int) == 13) = true := u8_beq' 13 h3
      have hin : isIn spL (bt s j) = true := by rw [h3]; decide
      have hlt := lt_of_in (by decide) hin
      have E1 := Lib.hid (HE.out.trans (sk_in (by decide) hin))
      have hs := HP0.out.hs
      have hz : Hid (wr.cell? ⟨p, 1, none⟩ = some (.int .i64 j)) := Lib.hid HP0.out.box.cells.2.1
      clear hin h0 h1 h2 h3
      go_wp2_with fail
      refine (qnext_any HP0.out).mono ?_
      rintro e w1 ⟨rfl, hb⟩
      have HB1 := Lib.hid (HB0.out.trans ((Bes.of hb).mono HB0.out.size))
      have HP1 := Lib.hid (HP0.out.kept hb)
      clear hb
      go_wp2_with fail
      refine (qnext_any HP1.out).mono ?_
      rintro e w2 ⟨rfl, hb⟩
      have HB2 := Lib.hid (HB1.out.trans ((Bes.of hb).mono HB1.out.size))
      have HP2 := Lib.hid (HP1.out.kept hb)
      clear hb
      go_wp2_with fail
      refine (qnext_any HP2.out).mono ?_
      rintro e w3 ⟨rfl, hb⟩
      have HB3 := Lib.hid (HB2.out.trans ((Bes.of hb).mono HB2.out.size))
      have HP3 := Lib.hid (HP2.out.kept hb)
      clear hb
      go_wp2_with fail
      refine (qnext_any HP3.out).mono ?_
      rintro e w4 ⟨rfl, hb⟩
      have HB4 := Lib.hid (HB3.out.trans ((Bes.of hb).mono HB3.out.size))
      have HP4 := Lib.hid (HP3.out.kept hb)
      clear hb
      obtain ⟨q0, q1, q2, q3, q4⟩ := HP4.out.box.cells
      have f1 := HP4.out.box.frz 1
      go_wp2_with fail
      go_roundw
      case rel => exact ⟨j + 1, by have := HP4.out.at1 (j := j + 1) (by omega); simpa using this, E1.out, by simpa using HB4.out.set 1 _⟩
      case measure =>
        rw [hz.out]
        have h1 := (HP4.out.at1 (j := j + 1) (by omega)).box.cells.2.1
        simp at h1
        simp [h1]
        exact Nat.sub_lt_sub_left hlt (Nat.lt_succ_self j)
    have e0 : (((bt s j).toNat : Int) == 32) = false := u8_beq 32 h0
    have e1 : (((bt s j).toNat : Int) == 9) = false := u8_beq 9 h1
    have e2 : (((bt s j).toNat : Int) == 10) = false := u8_beq 10 h2
    have e3 : (((bt s j).toNat : Int) == 13) = false := u8_beq 13 h3
    have hout : isIn spL (bt s j) = false := by
      rw [isIn_eq]
      simp only [spL, List.mem_cons, List.not_mem_nil, or_false, decide_eq_false_iff_not]
      exact fun h => by rcases h with h | h | h | h <;> contradiction
    have E1 := Lib.hid (HE.out.trans (sk_out hout))
    clear hout h0 h1 h2 h3
    go_wp2_with fail
    refine (qnext_any HP0.out).mono ?_
    rintro e w1 ⟨rfl, hb⟩
    have HB1 := Lib.hid (HB0.out.trans ((Bes.of hb).mono HB0.out.size))
    have HP1 := Lib.hid (HP0.out.kept hb)
    clear hb
    go_wp2_with fail
    refine (qnext_any HP1.out).mono ?_
    rintro e w2 ⟨rfl, hb⟩
    have HB2 := Lib.hid (HB1.out.trans ((Bes.of hb).mono HB1.out.size))
    have HP2 := Lib.hid (HP1.out.kept hb)
    clear hb
    go_wp2_with fail
    refine (qnext_any HP2.out).mono ?_
    rintro e w3 ⟨rfl, hb⟩
    have HB3 := Lib.hid (HB2.out.trans ((Bes.of hb).mono HB2.out.size))
    have HP3 := Lib.hid (HP2.out.kept hb)
    clear hb
    go_wp2_with fail
    refine (qnext_any HP3.out).mono ?_
    rintro e w4 ⟨rfl, hb⟩
    have HB4 := Lib.hid (HB3.out.trans ((Bes.of hb).mono HB3.out.size))
    have HP4 := Lib.hid (HP3.out.kept hb)
    clear hb
    go_wp2_with fail
    exact bodyPost_end (v := .tuple #[]) (by simp [results, Tryz.results12, go_sem]) rfl ⟨rfl, by rw [E1.out]; exact HP4.out, HB4.out⟩
/- word -/
def QTake (w : World) (p : Nat) (s : ByteArray) (n : Nat) (r : Except Er Nat) (e : Ending) (w' : World) : Prop :=
  e = .returned (.tuple #[]) ∧ (match r with
    | .ok j => ∃ x, QS w' p s j n 0 x
    | .error y => ∃ j, QS w' p s j n y.2 y.1 ∧ y.2 ≠ 0) ∧ Bes p w.heap.size w w'
set_option maxHeartbeats 2000000 in
theorem qword_any {w : World} {p : Nat} {s : ByteArray} {i n : Nat} {c0 : Int} (h : QS w p s i n 0 c0) (x : ByteArray) (h0 : (0 : UInt8) ∉ x.data.toList) (hx : x.size ≤ 100) :
    Calls Tryz.prog 29 #[pp p, .string x] w (QTake w p s n (wordR s x.data.toList i)) := by
  have HP := Lib.hid h
  have H0 := Lib.hid h0
  have HLEN : Hid (x.data.toList.length = x.size) := Lib.hid (T1.size_eq x)
  clear h h0
  go_enter Tryz.func29, Tryz.ntmps29
  go_wp2_with fail
  go_loopw [4] (fun v wr => ∃ (k j : Nat), k ≤ x.size ∧ v = .int .i64 k ∧ QS wr p s j n 0 c0 ∧ wordR s x.data.toList i = wordR s (x.data.toList.drop k) j ∧ Bes p w.heap.size w wr) (fun v _ => x.size - (intOf v).toNat)
  case atStart => exact ⟨0, i, Nat.zero_le _, rfl, HP.out, rfl, Bes.refl _ _ _⟩
  case round =>
    obtain ⟨k, j, hk, rfl, hp, he, hb⟩ := hrel
    have HPJ := Lib.hid hp
    have HE := Lib.hid he
    have HB := Lib.hid hb
    clear hp he hb
    obtain ⟨q0, q1, q2, q3, q4⟩ := HPJ.out.box.cells
    by_cases hlt : k < x.size
    · have hlt' : (k : Int) < x.size := by omega
      have hk1 : (k : Int) + 1 ≤ x.size := by omega
      have HD := Lib.hid (wordR_take s x.data.toList k j (by rw [HLEN.out]; exact hlt))
      have hxk : Hid (x.data.toList.getD k 0 = x[k]) := Lib.hid (by rw [List.getD_eq_getElem?_getD, List.getElem?_eq_getElem (by rw [T1.size_eq]; exact hlt)]; rfl)
      go_wp2_with fail
      refine wp_region_past (fun W => QS W p s j n 0 c0 ∧ Bes p w.heap.size w W) ⟨HPJ.out, HB.out⟩ (by kernel_rfl) ?_
      clear q0 q1 q2 q3 q4
      intro W ⟨g1, g2⟩ _
      have G1 := Lib.hid g1
      have G2 := Lib.hid g2
      clear g1 g2
      have C1 : Hid (∀ x : Past W, Calls Tryz.prog 24 #[pp p] x.w fun e w'' => e = .returned (.int .u8 (bt s j).toNat) ∧ ∃ y : Past W, w'' = y.w) := Lib.hid fun x => past_of x (qnext_any (G1.out.kept x.b))
      repeat (go_big_quiet_step (first | with_reducible exact C1.out _))
      refine wpQuiet_nil ?_
      intro _ hw'
      obtain ⟨y, rfl⟩ := hw'
      have HP2 := Lib.hid (G1.out.kept y.b)
      have HB2 := Lib.hid (G2.out.trans ((Bes.of y.b).mono G2.out.size))
      generalize y.w = w2 at *
      clear C1 G1 G2
      have hbn : Hid (x[k] ≠ 0) := Lib.hid (by
        intro e
        apply H0.out
        have h1 := hxk.out
        rw [List.getD_eq_getElem?_getD, List.getElem?_eq_getElem (by rw [T1.size_eq]; exact hlt)] at h1
        simp only [Option.getD_some] at h1
        rw [← e, ← h1]
        exact List.getElem_mem _)
      generalize x[k] = b at *
      obtain ⟨q0, q1, q2, q3, q4⟩ := HP2.out.box.cells
      by_cases hc : bt s j = b
      · have hcc : (((bt s j).toNat : Int) != (b.toNat : Int)) = false := u8_bne' b hc
        have hlt2 : j < s.size := lt_of_bt (by rw [hc]; exact hbn.out)
        have E2 : Hid (wordR s x.data.toList i = wordR s (x.data.toList.drop (k + 1)) (j + 1)) := Lib.hid (by rw [HE.out, HD.out]; unfold takeR; rw [hxk.out, isIn_eq, if_pos (by simp [hc])])
        have hs := HP2.out.hs
        have f1 := HP2.out.box.frz 1
        clear hc
        go_wp2_with fail
        go_roundw
        case rel => exact ⟨k + 1, j + 1, by omega, by go_num, by have := HP2.out.at1 (j := j + 1) (by omega); simpa using this, E2.out, by simpa using HB2.out.set 1 _⟩
        case measure => simp [intOf]; omega
      · have hcc : (((bt s j).toNat : Int) != (b.toNat : Int)) = true := u8_bne b hc
        have E2 : Hid (wordR s x.data.toList i = .error (j, 3)) := Lib.hid (by rw [HE.out, HD.out]; unfold takeR; rw [hxk.out, isIn_eq, if_neg (by simp [hc])])
        clear hc
        go_wp2_with fail
        refine (qfail_any HP2.out _ _).mono ?_
        rintro e w3 ⟨rfl, hp3, hb3⟩
        have HP3 := Lib.hid hp3
        have HB3 := Lib.hid (HB2.out.trans (hb3.mono HB2.out.size))
        clear hp3 hb3 q0 q1 q2 q3 q4
        go_wp2_with fail
        refine bodyPost_end (v := .tuple #[]) (by simp [results, Tryz.results29, go_sem]) rfl ⟨rfl, ?_, HB3.out⟩
        rw [E2.out]
        exact ⟨j, HP3.out, show (3 : Int) ≠ 0 by decide⟩
    · have hkx : k = x.size := by omega
      subst hkx
      have E1 : Hid (wordR s x.data.toList i = .ok j) := Lib.hid (by rw [HE.out, List.drop_eq_nil_of_le (by have := HLEN.out; omega)]; rfl)
      go_wp2_with fail
      refine bodyPost_end (v := .tuple #[]) (by simp [results, Tryz.results29, go_sem]) rfl ⟨rfl, ?_, HB.out⟩
      rw [E1.out]
      exact ⟨_, HPJ.out⟩
theorem qword_no {w : World} {p : Nat} {s : ByteArray} {i n : Nat} {c x0 : Int} (h : QS w p s i n c x0) (hc : c ≠ 0) (x : ByteArray) :
    Calls Tryz.prog 29 #[pp p, .string x] w fun e w' => e = .returned (.tuple #[]) ∧ Below w.heap.size w w' := by
  obtain ⟨q0, q1, q2, q3, q4⟩ := h.box.cells
  have hc1 : (c == 0) = false := by simpa using hc
  clear h hc
  by_cases hx : (0 : Int) < x.size
  · go_enter Tryz.func29, Tryz.ntmps29
    go_wp2_with fail
    go_loopw [4] (fun v wr => v = .int .i64 0 ∧ wr = w) (fun v _ => 0)
    case atStart => exact ⟨rfl, rfl⟩
    case round =>
      obtain ⟨rfl, rfl⟩ := hrel
      go_wp2_with fail
      exact bodyPost_end (v := .tuple #[]) (by simp [results, Tryz.results29, go_sem]) rfl ⟨rfl, Below.refl _ _⟩
  · go_enter Tryz.func29, Tryz.ntmps29
    go_wp2_with fail
    go_loopw [4] (fun v wr => v = .int .i64 0 ∧ wr = w) (fun v _ => 0)
    case atStart => exact ⟨rfl, rfl⟩
    case round =>
      obtain ⟨rfl, rfl⟩ := hrel
      go_wp2_with fail
      exact bodyPost_end (v := .tuple #[]) (by simp [results, Tryz.results29, go_sem]) rfl ⟨rfl, Below.refl _ _⟩
theorem qdigit_any (c : UInt8) (w : World) : Calls Tryz.prog 47 #[.int .u8 c.toNat] w fun e w' => e = .returned (.bool (isIn dgL c)) ∧ w = w' := by
  have hd : Hid (isIn dgL c = (decide (48 ≤ c.toNat) && decide (c.toNat ≤ 57))) := Lib.hid (by
    rw [isIn_eq]
    simp only [dgL, List.mem_cons, List.not_mem_nil, or_false, ← UInt8.toNat_inj]
    rw [← Bool.decide_and, decide_eq_decide]
    show c.toNat = 48 ∨ c.toNat = 49 ∨ c.toNat = 50 ∨ c.toNat = 51 ∨ c.toNat = 52 ∨ c.toNat = 53 ∨ c.toNat = 54 ∨ c.toNat = 55 ∨ c.toNat = 56 ∨ c.toNat = 57 ↔ _
    omega)
  by_cases h1 : 48 ≤ c.toNat
  · have h1' : (48 : Int) ≤ (c.toNat : Int) := by omega
    by_cases h2 : c.toNat ≤ 57
    · have h2' : (c.toNat : Int) ≤ 57 := by omega
      have e : Hid (isIn dgL c = true) := Lib.hid (by rw [hd.out]; simp [h1, h2])
      clear hd h1 h2
      go_enter Tryz.func47, Tryz.ntmps47
      go_wp2_with fail
      go_ret
      exact ⟨by rw [e.out]; rfl, rfl⟩
    · have h2' : ¬ (c.toNat : Int) ≤ 57 := by omega
      have e : Hid (isIn dgL c = false) := Lib.hid (by rw [hd.out]; simp [h2])
      clear hd h1 h2
      go_enter Tryz.func47, Tryz.ntmps47
      go_wp2_with fail
      go_ret
      exact ⟨by rw [e.out]; rfl, rfl⟩
  · have h1' : ¬ (48 : Int) ≤ (c.toNat : Int) := by omega
    have e : Hid (isIn dgL c = false) := Lib.hid (by rw [hd.out]; simp [h1])
    clear hd h1
    go_enter Tryz.func47, Tryz.ntmps47
    go_wp2_with fail
    go_ret
    exact ⟨by rw [e.out]; rfl, rfl⟩
end Go.Proofs.YtcbajgcblfgmgaaGreatDoor
namespace Go.Proofs.YtcbajgcblfgmgaaGreatDoor
open Go.RowKit
theorem qdg (c : UInt8) : isIn dgL c = decide (48 ≤ c.toNat ∧ c.toNat ≤ 57) := by
  rw [isIn_eq]
  simp only [dgL, List.mem_cons, List.not_mem_nil, or_false, ← UInt8.toNat_inj]
  rw [decide_eq_decide]
  show c.toNat = 48 ∨ c.toNat = 49 ∨ c.toNat = 50 ∨ c.toNat = 51 ∨ c.toNat = 52 ∨ c.toNat = 53 ∨ c.toNat = 54 ∨ c.toNat = 55 ∨ c.toNat = 56 ∨ c.toNat = 57 ↔ _
  omega
theorem qhx (c : UInt8) : isIn hxL c = decide ((48 ≤ c.toNat ∧ c.toNat ≤ 57) ∨ (97 ≤ c.toNat ∧ c.toNat ≤ 102) ∨ (65 ≤ c.toNat ∧ c.toNat ≤ 70)) := by
  rw [isIn_eq]
  simp only [hxL, List.mem_cons, List.not_mem_nil, or_false, ← UInt8.toNat_inj]
  rw [decide_eq_decide]
  show c.toNat = 48 ∨ c.toNat = 49 ∨ c.toNat = 50 ∨ c.toNat = 51 ∨ c.toNat = 52 ∨ c.toNat = 53 ∨ c.toNat = 54 ∨ c.toNat = 55 ∨ c.toNat = 56 ∨ c.toNat = 57 ∨ c.toNat = 97 ∨ c.toNat = 98 ∨ c.toNat = 99 ∨ c.toNat = 100 ∨ c.toNat = 101 ∨ c.toNat = 102 ∨ c.toNat = 65 ∨ c.toNat = 66 ∨ c.toNat = 67 ∨ c.toNat = 68 ∨ c.toNat = 69 ∨ c.toNat = 70 ↔ _
  omega
set_option maxHeartbeats 1000000 in
theorem qhex_any (c : UInt8) (w : World) : Calls Tryz.prog 62 #[.int .u8 c.toNat] w fun e w' => e = .returned (.bool (isIn hxL c)) ∧ w = w' := by
  have hd := Lib.hid (qdg c)
  have hx := Lib.hid (qhx c)
  have D := Lib.hid (qdigit_any c w)
  have hs : (48 ≤ c.toNat ∧ c.toNat ≤ 57) ∨ (97 ≤ c.toNat ∧ c.toNat ≤ 102) ∨ (102 < c.toNat) ∨ (65 ≤ c.toNat ∧ c.toNat ≤ 70) ∨ (70 < c.toNat ∧ c.toNat < 97) ∨ (c.toNat < 65 ∧ ¬ (48 ≤ c.toNat ∧ c.toNat ≤ 57)) := by omega
  rcases hs with hs | hs | hs | hs | hs | hs
  · have e1 : isIn dgL c = true := by rw [hd.out]; first | exact decide_eq_true (by omega) | exact decide_eq_false (by omega)
    have e : Hid (isIn hxL c = true) := Lib.hid (by rw [hx.out]; first | exact decide_eq_true (by omega) | exact decide_eq_false (by omega))
    rw [e1] at D
    have hsH := Lib.hid hs
    clear hd hx e1 hs
    go_enter Tryz.func62, Tryz.ntmps62
    go_wp2_with fail
    refine D.out.mono ?_
    rintro e2 w1 ⟨rfl, rfl⟩
    go_wp2_with fail
    go_ret
    exact ⟨by rw [e.out]; first | rfl | (have hq := hsH.out; simp; omega), rfl⟩
  · have e1 : isIn dgL c = false := by rw [hd.out]; first | exact decide_eq_true (by omega) | exact decide_eq_false (by omega)
    have e : Hid (isIn hxL c = true) := Lib.hid (by rw [hx.out]; first | exact decide_eq_true (by omega) | exact decide_eq_false (by omega))
    have a1 : (97 : Int) ≤ (c.toNat : Int) := by omega
    have a2 : (c.toNat : Int) ≤ 102 := by omega
    rw [e1] at D
    have hsH := Lib.hid hs
    clear hd hx e1 hs
    go_enter Tryz.func62, Tryz.ntmps62
    go_wp2_with fail
    refine D.out.mono ?_
    rintro e2 w1 ⟨rfl, rfl⟩
    go_wp2_with fail
    go_ret
    exact ⟨by rw [e.out]; first | rfl | (have hq := hsH.out; simp; omega), rfl⟩
  · have e1 : isIn dgL c = false := by rw [hd.out]; first | exact decide_eq_true (by omega) | exact decide_eq_false (by omega)
    have e : Hid (isIn hxL c = false) := Lib.hid (by rw [hx.out]; first | exact decide_eq_true (by omega) | exact decide_eq_false (by omega))
    have a1 : (97 : Int) ≤ (c.toNat : Int) := by omega
    have a2 : ¬ (c.toNat : Int) ≤ 102 := by omega
    have a3 : (65 : Int) ≤ (c.toNat : Int) := by omega
    have a4 : ¬ (c.toNat : Int) ≤ 70 := by omega
    rw [e1] at D
    have hsH := Lib.hid hs
    clear hd hx e1 hs
    go_enter Tryz.func62, Tryz.ntmps62
    go_wp2_with fail
    refine D.out.mono ?_
    rintro e2 w1 ⟨rfl, rfl⟩
    go_wp2_with fail
    go_ret
    exact ⟨by rw [e.out]; first | rfl | (have hq := hsH.out; simp; omega), rfl⟩
  · have e1 : isIn dgL c = false := by rw [hd.out]; first | exact decide_eq_true (by omega) | exact decide_eq_false (by omega)
    have e : Hid (isIn hxL c = true) := Lib.hid (by rw [hx.out]; first | exact decide_eq_true (by omega) | exact decide_eq_false (by omega))
    have a1 : ¬ (97 : Int) ≤ (c.toNat : Int) := by omega
    have a3 : (65 : Int) ≤ (c.toNat : Int) := by omega
    have a4 : (c.toNat : Int) ≤ 70 := by omega
    rw [e1] at D
    have hsH := Lib.hid hs
    clear hd hx e1 hs
    go_enter Tryz.func62, Tryz.ntmps62
    go_wp2_with fail
    refine D.out.mono ?_
    rintro e2 w1 ⟨rfl, rfl⟩
    go_wp2_with fail
    go_ret
    exact ⟨by rw [e.out]; first | rfl | (have hq := hsH.out; simp; omega), rfl⟩
  · have e1 : isIn dgL c = false := by rw [hd.out]; first | exact decide_eq_true (by omega) | exact decide_eq_false (by omega)
    have e : Hid (isIn hxL c = false) := Lib.hid (by rw [hx.out]; first | exact decide_eq_true (by omega) | exact decide_eq_false (by omega))
    have a1 : ¬ (97 : Int) ≤ (c.toNat : Int) := by omega
    have a3 : (65 : Int) ≤ (c.toNat : Int) := by omega
    have a4 : ¬ (c.toNat : Int) ≤ 70 := by omega
    rw [e1] at D
    have hsH := Lib.hid hs
    clear hd hx e1 hs
    go_enter Tryz.func62, Tryz.ntmps62
    go_wp2_with fail
    refine D.out.mono ?_
    rintro e2 w1 ⟨rfl, rfl⟩
    go_wp2_with fail
    go_ret
    exact ⟨by rw [e.out]; first | rfl | (have hq := hsH.out; simp; omega), rfl⟩
  · have e1 : isIn dgL c = false := by rw [hd.out]; first | exact decide_eq_true (by omega) | exact decide_eq_false (by omega)
    have e : Hid (isIn hxL c = false) := Lib.hid (by rw [hx.out]; first | exact decide_eq_true (by omega) | exact decide_eq_false (by omega))
    have a1 : ¬ (97 : Int) ≤ (c.toNat : Int) := by omega
    have a3 : ¬ (65 : Int) ≤ (c.toNat : Int) := by omega
    rw [e1] at D
    have hsH := Lib.hid hs
    clear hd hx e1 hs
    go_enter Tryz.func62, Tryz.ntmps62
    go_wp2_with fail
    refine D.out.mono ?_
    rintro e2 w1 ⟨rfl, rfl⟩
    go_wp2_with fail
    go_ret
    exact ⟨by rw [e.out]; first | rfl | (have hq := hsH.out; simp; omega), rfl⟩
set_option maxHeartbeats 2000000 in
theorem qbegins_any (c : UInt8) (w : World) : Calls Tryz.prog 25 #[.int .u8 c.toNat] w fun e w' => e = .returned (.bool (isIn vbL c)) ∧ w = w' := by
  have D := Lib.hid (qdigit_any c w)
  cases hd : isIn dgL c
  · by_cases h0 : c = 45
    · have e0 : ((c.toNat : Int) == 45) = true := u8_beq' 45 h0
      have e : Hid (isIn vbL c = true) := Lib.hid (by rw [h0]; decide)
      rw [hd] at D
      clear hd h0
      go_enter Tryz.func25, Tryz.ntmps25
      go_wp2_with fail
      refine D.out.mono ?_
      rintro e w1 ⟨rfl, rfl⟩
      go_wp2_with fail
      go_ret
      exact ⟨by rw [e.out]; rfl, rfl⟩
    · by_cases h1 : c = 34
      · have e0 : ((c.toNat : Int) == 45) = false := u8_beq 45 h0
        have e1 : ((c.toNat : Int) == 34) = true := u8_beq' 34 h1
        have e : Hid (isIn vbL c = true) := Lib.hid (by rw [h1]; decide)
        rw [hd] at D
        clear hd h0 h1
        go_enter Tryz.func25, Tryz.ntmps25
        go_wp2_with fail
        refine D.out.mono ?_
        rintro e w1 ⟨rfl, rfl⟩
        go_wp2_with fail
        go_ret
        exact ⟨by rw [e.out]; rfl, rfl⟩
      · by_cases h2 : c = 91
        · have e0 : ((c.toNat : Int) == 45) = false := u8_beq 45 h0
          have e1 : ((c.toNat : Int) == 34) = false := u8_beq 34 h1
          have e2 : ((c.toNat : Int) == 91) = true := u8_beq' 91 h2
          have e : Hid (isIn vbL c = true) := Lib.hid (by rw [h2]; decide)
          rw [hd] at D
          clear hd h0 h1 h2
          go_enter Tryz.func25, Tryz.ntmps25
          go_wp2_with fail
          refine D.out.mono ?_
          rintro e w1 ⟨rfl, rfl⟩
          go_wp2_with fail
          go_ret
          exact ⟨by rw [e.out]; rfl, rfl⟩
        · by_cases h3 : c = 123
          · have e0 : ((c.toNat : Int) == 45) = false := u8_beq 45 h0
            have e1 : ((c.toNat : Int) == 34) = false := u8_beq 34 h1
            have e2 : ((c.toNat : Int) == 91) = false := u8_beq 91 h2
            have e3 : ((c.toNat : Int) == 123) = true := u8_beq' 123 h3
            have e : Hid (isIn vbL c = true) := Lib.hid (by rw [h3]; decide)
            rw [hd] at D
            clear hd h0 h1 h2 h3
            go_enter Tryz.func25, Tryz.ntmps25
            go_wp2_with fail
            refine D.out.mono ?_
            rintro e w1 ⟨rfl, rfl⟩
            go_wp2_with fail
            go_ret
            exact ⟨by rw [e.out]; rfl, rfl⟩
          · by_cases h4 : c = 110
            · have e0 : ((c.toNat : Int) == 45) = false := u8_beq 45 h0
              have e1 : ((c.toNat : Int) == 34) = false := u8_beq 34 h1
              have e2 : ((c.toNat : Int) == 91) = false := u8_beq 91 h2
              have e3 : ((c.toNat : Int) == 123) = false := u8_beq 123 h3
              have e4 : ((c.toNat : Int) == 110) = true := u8_beq' 110 h4
              have e : Hid (isIn vbL c = true) := Lib.hid (by rw [h4]; decide)
              rw [hd] at D
              clear hd h0 h1 h2 h3 h4
              go_enter Tryz.func25, Tryz.ntmps25
              go_wp2_with fail
              refine D.out.mono ?_
              rintro e w1 ⟨rfl, rfl⟩
              go_wp2_with fail
              go_ret
              exact ⟨by rw [e.out]; rfl, rfl⟩
            · by_cases h5 : c = 116
              · have e0 : ((c.toNat : Int) == 45) = false := u8_beq 45 h0
                have e1 : ((c.toNat : Int) == 34) = false := u8_beq 34 h1
                have e2 : ((c.toNat : Int) == 91) = false := u8_beq 91 h2
                have e3 : ((c.toNat : Int) == 123) = false := u8_beq 123 h3
                have e4 : ((c.toNat : Int) == 110) = false := u8_beq 110 h4
                have e5 : ((c.toNat : Int) == 116) = true := u8_beq' 116 h5
                have e : Hid (isIn vbL c = true) := Lib.hid (by rw [h5]; decide)
                rw [hd] at D
                clear hd h0 h1 h2 h3 h4 h5
                go_enter Tryz.func25, Tryz.ntmps25
                go_wp2_with fail
                refine D.out.mono ?_
                rintro e w1 ⟨rfl, rfl⟩
                go_wp2_with fail
                go_ret
                exact ⟨by rw [e.out]; rfl, rfl⟩
              · by_cases h6 : c = 102
                · have e0 : ((c.toNat : Int) == 45) = false := u8_beq 45 h0
                  have e1 : ((c.toNat : Int) == 34) = false := u8_beq 34 h1
                  have e2 : ((c.toNat : Int) == 91) = false := u8_beq 91 h2
                  have e3 : ((c.toNat : Int) == 123) = false := u8_beq 123 h3
                  have e4 : ((c.toNat : Int) == 110) = false := u8_beq 110 h4
                  have e5 : ((c.toNat : Int) == 116) = false := u8_beq 116 h5
                  have e6 : ((c.toNat : Int) == 102) = true := u8_beq' 102 h6
                  have e : Hid (isIn vbL c = true) := Lib.hid (by rw [h6]; decide)
                  rw [hd] at D
                  clear hd h0 h1 h2 h3 h4 h5 h6
                  go_enter Tryz.func25, Tryz.ntmps25
                  go_wp2_with fail
                  refine D.out.mono ?_
                  rintro e w1 ⟨rfl, rfl⟩
                  go_wp2_with fail
                  go_ret
                  exact ⟨by rw [e.out]; rfl, rfl⟩
                · have e0 : ((c.toNat : Int) == 45) = false := u8_beq 45 h0
                  have e1 : ((c.toNat : Int) == 34) = false := u8_beq 34 h1
                  have e2 : ((c.toNat : Int) == 91) = false := u8_beq 91 h2
                  have e3 : ((c.toNat : Int) == 123) = false := u8_beq 123 h3
                  have e4 : ((c.toNat : Int) == 110) = false := u8_beq 110 h4
                  have e5 : ((c.toNat : Int) == 116) = false := u8_beq 116 h5
                  have e6 : ((c.toNat : Int) == 102) = false := u8_beq 102 h6
                  have e : Hid (isIn vbL c = false) := Lib.hid (by
                    rw [isIn_eq, decide_eq_false_iff_not] at hd ⊢
                    intro hm
                    simp only [vbL, List.mem_cons, List.not_mem_nil, or_false] at hm
                    simp only [dgL, List.mem_cons, List.not_mem_nil, or_false, not_or] at hd
                    rcases hm with hm | hm | hm | hm | hm | hm | hm | hm | hm | hm | hm | hm | hm | hm | hm | hm | hm <;> simp_all)
                  rw [hd] at D
                  clear hd h0 h1 h2 h3 h4 h5 h6
                  go_enter Tryz.func25, Tryz.ntmps25
                  go_wp2_with fail
                  refine D.out.mono ?_
                  rintro e w1 ⟨rfl, rfl⟩
                  go_wp2_with fail
                  go_ret
                  exact ⟨by rw [e.out]; rfl, rfl⟩
  · have e : Hid (isIn vbL c = true) := Lib.hid (by
      rw [isIn_eq, decide_eq_true_iff] at hd ⊢
      simp only [dgL, List.mem_cons, List.not_mem_nil, or_false] at hd
      rcases hd with hm | hm | hm | hm | hm | hm | hm | hm | hm | hm <;> (rw [hm]; decide))
    rw [hd] at D
    clear hd
    go_enter Tryz.func25, Tryz.ntmps25
    go_wp2_with fail
    refine D.out.mono ?_
    rintro e w1 ⟨rfl, rfl⟩
    go_wp2_with fail
    go_ret
    exact ⟨by rw [e.out]; rfl, rfl⟩
/- escape -/
def setsR (s : ByteArray) : List (List UInt8) → Nat → Except Er Nat
  | [], j => .ok j
  | t :: r, j => match takeR s t j with
    | .error e => .error e
    | .ok j => setsR s r j
def uSets : List (List UInt8) := [[48], [48], hxL, hxL]
theorem escR_u (s : ByteArray) (i : Nat) (h : bt s i = 117) : escR s i = setsR s uSets (i + 1) := by
  unfold escR uSets
  rw [if_neg (by rw [h]; simp)]
  simp only [setsR]
  cases takeR s [48] (i + 1) with
  | error e => rfl
  | ok j =>
    simp only
    cases takeR s [48] j with
    | error e => rfl
    | ok j =>
      simp only
      cases takeR s hxL j with
      | error e => rfl
      | ok j => simp only; cases takeR s hxL j <;> rfl
theorem uSets_step (s : ByteArray) (k j : Nat) (hk : k < 4) : setsR s (uSets.drop k) j = match takeR s (if k < 2 then [48] else hxL) j with
    | .error e => .error e
    | .ok j => setsR s (uSets.drop (k + 1)) j := by
  have : k = 0 ∨ k = 1 ∨ k = 2 ∨ k = 3 := by omega
  rcases this with rfl | rfl | rfl | rfl <;> rfl
set_option maxRecDepth 100000 in
set_option maxHeartbeats 4000000 in
theorem qescape_any {w : World} {p : Nat} {s : ByteArray} {i n : Nat} {c0 : Int} (h : QS w p s i n 0 c0) (hi : i < s.size) :
    Calls Tryz.prog 48 #[pp p] w (QTake w p s n (escR s (i + 1))) := by
  have HP := Lib.hid h
  have hs := h.hs
  obtain ⟨q0, q1, q2, q3, q4⟩ := h.box.cells
  have f1 := h.box.frz 1
  clear h
  have HPA : Hid (QS (w.setCell ⟨p, 1, none⟩ (.int .i64 ((i : Int) + 1))) p s (i + 1) n 0 c0) := Lib.hid (by have := HP.out.at1 (j := i + 1) hi; simpa using this)
  have HBA : Hid (Bes p w.heap.size w (w.setCell ⟨p, 1, none⟩ (.int .i64 ((i : Int) + 1)))) := Lib.hid ((Bes.refl _ _ _).set 1 _)
  by_cases h0 : bt s (i + 1) = 34
  · go_enter Tryz.func48, Tryz.ntmps48
    go_wp2_with fail
    refine (qnext_any HPA.out).mono ?_
    rintro e w1 ⟨rfl, hb⟩
    have HB1 := Lib.hid (HBA.out.trans ((Bes.of hb).mono HBA.out.size))
    have HP1 := Lib.hid (HPA.out.kept hb)
    clear hb q0 q1 q2 q3 q4 f1
    obtain ⟨q0, q1, q2, q3, q4⟩ := HP1.out.box.cells
    have f1 := HP1.out.box.frz 1
    have e0 : (((bt s (i + 1)).toNat : Int) == 34) = true := u8_beq' 34 h0
    have hlt : i + 1 < s.size := lt_of_bt (by rw [h0]; decide)
    have E1 : Hid (escR s (i + 1) = .ok (i + 1 + 1)) := Lib.hid (by unfold escR; rw [if_pos (by rw [h0]; decide)]; unfold takeR; rw [h0, if_pos (by decide)])
    have hs1 := HP1.out.hs
    clear h0
    go_wp2_with fail
    refine bodyPost_end (v := .tuple #[]) (by simp [results, Tryz.results48, go_sem]) rfl ⟨rfl, ?_, by simpa using HB1.out.set 1 _⟩
    rw [E1.out]
    exact ⟨c0, by have := HP1.out.at1 (j := i + 1 + 1) (by omega); simpa using this⟩
  · by_cases h1 : bt s (i + 1) = 92
    · go_enter Tryz.func48, Tryz.ntmps48
      go_wp2_with fail
      refine (qnext_any HPA.out).mono ?_
      rintro e w1 ⟨rfl, hb⟩
      have HB1 := Lib.hid (HBA.out.trans ((Bes.of hb).mono HBA.out.size))
      have HP1 := Lib.hid (HPA.out.kept hb)
      clear hb q0 q1 q2 q3 q4 f1
      obtain ⟨q0, q1, q2, q3, q4⟩ := HP1.out.box.cells
      have f1 := HP1.out.box.frz 1
      have e0 : (((bt s (i + 1)).toNat : Int) == 34) = false := u8_beq 34 h0
      have e1 : (((bt s (i + 1)).toNat : Int) == 92) = true := u8_beq' 92 h1
      have hlt : i + 1 < s.size := lt_of_bt (by rw [h1]; decide)
      have E1 : Hid (escR s (i + 1) = .ok (i + 1 + 1)) := Lib.hid (by unfold escR; rw [if_pos (by rw [h1]; decide)]; unfold takeR; rw [h1, if_pos (by decide)])
      have hs1 := HP1.out.hs
      clear h0 h1
      go_wp2_with fail
      refine bodyPost_end (v := .tuple #[]) (by simp [results, Tryz.results48, go_sem]) rfl ⟨rfl, ?_, by simpa using HB1.out.set 1 _⟩
      rw [E1.out]
      exact ⟨c0, by have := HP1.out.at1 (j := i + 1 + 1) (by omega); simpa using this⟩
    · by_cases h2 : bt s (i + 1) = 47
      · go_enter Tryz.func48, Tryz.ntmps48
        go_wp2_with fail
        refine (qnext_any HPA.out).mono ?_
        rintro e w1 ⟨rfl, hb⟩
        have HB1 := Lib.hid (HBA.out.trans ((Bes.of hb).mono HBA.out.size))
        have HP1 := Lib.hid (HPA.out.kept hb)
        clear hb q0 q1 q2 q3 q4 f1
        obtain ⟨q0, q1, q2, q3, q4⟩ := HP1.out.box.cells
        have f1 := HP1.out.box.frz 1
        have e0 : (((bt s (i + 1)).toNat : Int) == 34) = false := u8_beq 34 h0
        have e1 : (((bt s (i + 1)).toNat : Int) == 92) = false := u8_beq 92 h1
        have e2 : (((bt s (i + 1)).toNat : Int) == 47) = true := u8_beq' 47 h2
        have hlt : i + 1 < s.size := lt_of_bt (by rw [h2]; decide)
        have E1 : Hid (escR s (i + 1) = .ok (i + 1 + 1)) := Lib.hid (by unfold escR; rw [if_pos (by rw [h2]; decide)]; unfold takeR; rw [h2, if_pos (by decide)])
        have hs1 := HP1.out.hs
        clear h0 h1 h2
        go_wp2_with fail
        refine bodyPost_end (v := .tuple #[]) (by simp [results, Tryz.results48, go_sem]) rfl ⟨rfl, ?_, by simpa using HB1.out.set 1 _⟩
        rw [E1.out]
        exact ⟨c0, by have := HP1.out.at1 (j := i + 1 + 1) (by omega); simpa using this⟩
      · by_cases h3 : bt s (i + 1) = 98
        · go_enter Tryz.func48, Tryz.ntmps48
          go_wp2_with fail
          refine (qnext_any HPA.out).mono ?_
          rintro e w1 ⟨rfl, hb⟩
          have HB1 := Lib.hid (HBA.out.trans ((Bes.of hb).mono HBA.out.size))
          have HP1 := Lib.hid (HPA.out.kept hb)
          clear hb q0 q1 q2 q3 q4 f1
          obtain ⟨q0, q1, q2, q3, q4⟩ := HP1.out.box.cells
          have f1 := HP1.out.box.frz 1
          have e0 : (((bt s (i + 1)).toNat : Int) == 34) = false := u8_beq 34 h0
          have e1 : (((bt s (i + 1)).toNat : Int) == 92) = false := u8_beq 92 h1
          have e2 : (((bt s (i + 1)).toNat : Int) == 47) = false := u8_beq 47 h2
          have e3 : (((bt s (i + 1)).toNat : Int) == 98) = true := u8_beq' 98 h3
          have hlt : i + 1 < s.size := lt_of_bt (by rw [h3]; decide)
          have E1 : Hid (escR s (i + 1) = .ok (i + 1 + 1)) := Lib.hid (by unfold escR; rw [if_pos (by rw [h3]; decide)]; unfold takeR; rw [h3, if_pos (by decide)])
          have hs1 := HP1.out.hs
          clear h0 h1 h2 h3
          go_wp2_with fail
          refine bodyPost_end (v := .tuple #[]) (by simp [results, Tryz.results48, go_sem]) rfl ⟨rfl, ?_, by simpa using HB1.out.set 1 _⟩
          rw [E1.out]
          exact ⟨c0, by have := HP1.out.at1 (j := i + 1 + 1) (by omega); simpa using this⟩
        · by_cases h4 : bt s (i + 1) = 102
          · go_enter Tryz.func48, Tryz.ntmps48
            go_wp2_with fail
            refine (qnext_any HPA.out).mono ?_
            rintro e w1 ⟨rfl, hb⟩
            have HB1 := Lib.hid (HBA.out.trans ((Bes.of hb).mono HBA.out.size))
            have HP1 := Lib.hid (HPA.out.kept hb)
            clear hb q0 q1 q2 q3 q4 f1
            obtain ⟨q0, q1, q2, q3, q4⟩ := HP1.out.box.cells
            have f1 := HP1.out.box.frz 1
            have e0 : (((bt s (i + 1)).toNat : Int) == 34) = false := u8_beq 34 h0
            have e1 : (((bt s (i + 1)).toNat : Int) == 92) = false := u8_beq 92 h1
            have e2 : (((bt s (i + 1)).toNat : Int) == 47) = false := u8_beq 47 h2
            have e3 : (((bt s (i + 1)).toNat : Int) == 98) = false := u8_beq 98 h3
            have e4 : (((bt s (i + 1)).toNat : Int) == 102) = true := u8_beq' 102 h4
            have hlt : i + 1 < s.size := lt_of_bt (by rw [h4]; decide)
            have E1 : Hid (escR s (i + 1) = .ok (i + 1 + 1)) := Lib.hid (by unfold escR; rw [if_pos (by rw [h4]; decide)]; unfold takeR; rw [h4, if_pos (by decide)])
            have hs1 := HP1.out.hs
            clear h0 h1 h2 h3 h4
            go_wp2_with fail
            refine bodyPost_end (v := .tuple #[]) (by simp [results, Tryz.results48, go_sem]) rfl ⟨rfl, ?_, by simpa using HB1.out.set 1 _⟩
            rw [E1.out]
            exact ⟨c0, by have := HP1.out.at1 (j := i + 1 + 1) (by omega); simpa using this⟩
          · by_cases h5 : bt s (i + 1) = 110
            · go_enter Tryz.func48, Tryz.ntmps48
              go_wp2_with fail
              refine (qnext_any HPA.out).mono ?_
              rintro e w1 ⟨rfl, hb⟩
              have HB1 := Lib.hid (HBA.out.trans ((Bes.of hb).mono HBA.out.size))
              have HP1 := Lib.hid (HPA.out.kept hb)
              clear hb q0 q1 q2 q3 q4 f1
              obtain ⟨q0, q1, q2, q3, q4⟩ := HP1.out.box.cells
              have f1 := HP1.out.box.frz 1
              have e0 : (((bt s (i + 1)).toNat : Int) == 34) = false := u8_beq 34 h0
              have e1 : (((bt s (i + 1)).toNat : Int) == 92) = false := u8_beq 92 h1
              have e2 : (((bt s (i + 1)).toNat : Int) == 47) = false := u8_beq 47 h2
              have e3 : (((bt s (i + 1)).toNat : Int) == 98) = false := u8_beq 98 h3
              have e4 : (((bt s (i + 1)).toNat : Int) == 102) = false := u8_beq 102 h4
              have e5 : (((bt s (i + 1)).toNat : Int) == 110) = true := u8_beq' 110 h5
              have hlt : i + 1 < s.size := lt_of_bt (by rw [h5]; decide)
              have E1 : Hid (escR s (i + 1) = .ok (i + 1 + 1)) := Lib.hid (by unfold escR; rw [if_pos (by rw [h5]; decide)]; unfold takeR; rw [h5, if_pos (by decide)])
              have hs1 := HP1.out.hs
              clear h0 h1 h2 h3 h4 h5
              go_wp2_with fail
              refine bodyPost_end (v := .tuple #[]) (by simp [results, Tryz.results48, go_sem]) rfl ⟨rfl, ?_, by simpa using HB1.out.set 1 _⟩
              rw [E1.out]
              exact ⟨c0, by have := HP1.out.at1 (j := i + 1 + 1) (by omega); simpa using this⟩
            · by_cases h6 : bt s (i + 1) = 114
              · go_enter Tryz.func48, Tryz.ntmps48
                go_wp2_with fail
                refine (qnext_any HPA.out).mono ?_
                rintro e w1 ⟨rfl, hb⟩
                have HB1 := Lib.hid (HBA.out.trans ((Bes.of hb).mono HBA.out.size))
                have HP1 := Lib.hid (HPA.out.kept hb)
                clear hb q0 q1 q2 q3 q4 f1
                obtain ⟨q0, q1, q2, q3, q4⟩ := HP1.out.box.cells
                have f1 := HP1.out.box.frz 1
                have e0 : (((bt s (i + 1)).toNat : Int) == 34) = false := u8_beq 34 h0
                have e1 : (((bt s (i + 1)).toNat : Int) == 92) = false := u8_beq 92 h1
                have e2 : (((bt s (i + 1)).toNat : Int) == 47) = false := u8_beq 47 h2
                have e3 : (((bt s (i + 1)).toNat : Int) == 98) = false := u8_beq 98 h3
                have e4 : (((bt s (i + 1)).toNat : Int) == 102) = false := u8_beq 102 h4
                have e5 : (((bt s (i + 1)).toNat : Int) == 110) = false := u8_beq 110 h5
                have e6 : (((bt s (i + 1)).toNat : Int) == 114) = true := u8_beq' 114 h6
                have hlt : i + 1 < s.size := lt_of_bt (by rw [h6]; decide)
                have E1 : Hid (escR s (i + 1) = .ok (i + 1 + 1)) := Lib.hid (by unfold escR; rw [if_pos (by rw [h6]; decide)]; unfold takeR; rw [h6, if_pos (by decide)])
                have hs1 := HP1.out.hs
                clear h0 h1 h2 h3 h4 h5 h6
                go_wp2_with fail
                refine bodyPost_end (v := .tuple #[]) (by simp [results, Tryz.results48, go_sem]) rfl ⟨rfl, ?_, by simpa using HB1.out.set 1 _⟩
                rw [E1.out]
                exact ⟨c0, by have := HP1.out.at1 (j := i + 1 + 1) (by omega); simpa using this⟩
              · by_cases h7 : bt s (i + 1) = 116
                · go_enter Tryz.func48, Tryz.ntmps48
                  go_wp2_with fail
                  refine (qnext_any HPA.out).mono ?_
                  rintro e w1 ⟨rfl, hb⟩
                  have HB1 := Lib.hid (HBA.out.trans ((Bes.of hb).mono HBA.out.size))
                  have HP1 := Lib.hid (HPA.out.kept hb)
                  clear hb q0 q1 q2 q3 q4 f1
                  obtain ⟨q0, q1, q2, q3, q4⟩ := HP1.out.box.cells
                  have f1 := HP1.out.box.frz 1
                  have e0 : (((bt s (i + 1)).toNat : Int) == 34) = false := u8_beq 34 h0
                  have e1 : (((bt s (i + 1)).toNat : Int) == 92) = false := u8_beq 92 h1
                  have e2 : (((bt s (i + 1)).toNat : Int) == 47) = false := u8_beq 47 h2
                  have e3 : (((bt s (i + 1)).toNat : Int) == 98) = false := u8_beq 98 h3
                  have e4 : (((bt s (i + 1)).toNat : Int) == 102) = false := u8_beq 102 h4
                  have e5 : (((bt s (i + 1)).toNat : Int) == 110) = false := u8_beq 110 h5
                  have e6 : (((bt s (i + 1)).toNat : Int) == 114) = false := u8_beq 114 h6
                  have e7 : (((bt s (i + 1)).toNat : Int) == 116) = true := u8_beq' 116 h7
                  have hlt : i + 1 < s.size := lt_of_bt (by rw [h7]; decide)
                  have E1 : Hid (escR s (i + 1) = .ok (i + 1 + 1)) := Lib.hid (by unfold escR; rw [if_pos (by rw [h7]; decide)]; unfold takeR; rw [h7, if_pos (by decide)])
                  have hs1 := HP1.out.hs
                  clear h0 h1 h2 h3 h4 h5 h6 h7
                  go_wp2_with fail
                  refine bodyPost_end (v := .tuple #[]) (by simp [results, Tryz.results48, go_sem]) rfl ⟨rfl, ?_, by simpa using HB1.out.set 1 _⟩
                  rw [E1.out]
                  exact ⟨c0, by have := HP1.out.at1 (j := i + 1 + 1) (by omega); simpa using this⟩
                · by_cases h8 : bt s (i + 1) = 117
                  · go_enter Tryz.func48, Tryz.ntmps48
                    go_wp2_with fail
                    refine (qnext_any HPA.out).mono ?_
                    rintro e w1 ⟨rfl, hb⟩
                    have HB1 := Lib.hid (HBA.out.trans ((Bes.of hb).mono HBA.out.size))
                    have HP1 := Lib.hid (HPA.out.kept hb)
                    clear hb q0 q1 q2 q3 q4 f1
                    obtain ⟨q0, q1, q2, q3, q4⟩ := HP1.out.box.cells
                    have f1 := HP1.out.box.frz 1
                    have e0 : (((bt s (i + 1)).toNat : Int) == 34) = false := u8_beq 34 h0
                    have e1 : (((bt s (i + 1)).toNat : Int) == 92) = false := u8_beq 92 h1
                    have e2 : (((bt s (i + 1)).toNat : Int) == 47) = false := u8_beq 47 h2
                    have e3 : (((bt s (i + 1)).toNat : Int) == 98) = false := u8_beq 98 h3
                    have e4 : (((bt s (i + 1)).toNat : Int) == 102) = false := u8_beq 102 h4
                    have e5 : (((bt s (i + 1)).toNat : Int) == 110) = false := u8_beq 110 h5
                    have e6 : (((bt s (i + 1)).toNat : Int) == 114) = false := u8_beq 114 h6
                    have e7 : (((bt s (i + 1)).toNat : Int) == 116) = false := u8_beq 116 h7
                    have e8 : (((bt s (i + 1)).toNat : Int) == 117) = true := u8_beq' 117 h8
                    have hlt : i + 1 < s.size := lt_of_bt (by rw [h8]; decide)
                    have E1 := Lib.hid (escR_u s (i + 1) h8)
                    have hs1 := HP1.out.hs
                    have HP2 : Hid (QS (w1.setCell ⟨p, 1, none⟩ (.int .i64 ((i : Int) + 1 + 1))) p s (i + 1 + 1) n 0 c0) := Lib.hid (by have := HP1.out.at1 (j := i + 1 + 1) (by omega); simpa using this)
                    have HB2 : Hid (Bes p w.heap.size w (w1.setCell ⟨p, 1, none⟩ (.int .i64 ((i : Int) + 1 + 1)))) := Lib.hid (HB1.out.set 1 _)
                    clear h0 h1 h2 h3 h4 h5 h6 h7 h8
                    go_wp2_with fail
                    clear q0 q1 q2 q3 q4 f1
                    go_loopw [2] (fun v wr => ∃ (k j : Nat), k ≤ 4 ∧ v = .int .i64 k ∧ QS wr p s j n 0 c0 ∧ escR s (i + 1) = setsR s (uSets.drop k) j ∧ Bes p w.heap.size w wr) (fun v _ => 4 - (intOf v).toNat)
                    case atStart => exact ⟨0, i + 1 + 1, by omega, rfl, HP2.out, E1.out, HB2.out⟩
                    case round =>
                      obtain ⟨k, j, hk, rfl, hp, he, hb⟩ := hrel
                      have HPJ := Lib.hid hp
                      have HE := Lib.hid he
                      have HB := Lib.hid hb
                      clear hp he hb HP2 HB2 E1 HP1 HB1 HPA HBA
                      by_cases h4 : k < 4
                      · have h4' : (k : Int) < 4 := by omega
                        by_cases h2 : k < 2
                        · have h2' : (k : Int) < 2 := by omega
                          have HD := Lib.hid (uSets_step s k j h4)
                          rw [if_pos h2] at HD
                          go_wp2_with fail
                          refine (qnext_any HPJ.out).mono ?_
                          rintro e w2 ⟨rfl, hb⟩
                          have HB2 := Lib.hid (HB.out.trans ((Bes.of hb).mono HB.out.size))
                          have HP2 := Lib.hid (HPJ.out.kept hb)
                          clear hb
                          go_wp2_with fail
                          refine (qhex_any (bt s j) w2).mono ?_
                          rintro e w2' ⟨rfl, rfl⟩
                          cases hx : isIn hxL (bt s j)
                          · have HPX := HP2
                            have HBX := HB2
                            have E2 : Hid (escR s (i + 1) = .error (j, 3)) := Lib.hid (by rw [HE.out, HD.out]; unfold takeR; rw [if_neg (by rw [isIn_eq] at hx ⊢; simp only [hxL, List.mem_cons, List.not_mem_nil, or_false, decide_eq_false_iff_not, not_or] at hx; simp [hx.1])])
                            clear hx
                            obtain ⟨q0, q1, q2, q3, q4⟩ := HPX.out.box.cells
                            go_wp2_with fail
                            refine (qfail_any HPX.out _ _).mono ?_
                            rintro e w3 ⟨rfl, hp3, hb3⟩
                            have HP3 := Lib.hid hp3
                            have HB3 := Lib.hid (HBX.out.trans (hb3.mono HBX.out.size))
                            clear hp3 hb3 q0 q1 q2 q3 q4
                            go_wp2_with fail
                            refine bodyPost_end (v := .tuple #[]) (by simp [results, Tryz.results48, go_sem]) rfl ⟨rfl, ?_, HB3.out⟩
                            rw [E2.out]
                            exact ⟨j, HP3.out, show (3 : Int) ≠ 0 by decide⟩
                          · go_wp2_with fail
                            refine (qnext_any HP2.out).mono ?_
                            rintro e w3 ⟨rfl, hb⟩
                            have HBX := Lib.hid (HB2.out.trans ((Bes.of hb).mono HB2.out.size))
                            have HPX := Lib.hid (HP2.out.kept hb)
                            clear hb
                            by_cases hc : bt s j = 48
                            · have hcc : (((bt s j).toNat : Int) != 48) = false := u8_bne' 48 hc
                              have hlt : j < s.size := lt_of_in (set := hxL) (by decide) hx
                              have E2 : Hid (escR s (i + 1) = setsR s (uSets.drop (k + 1)) (j + 1)) := Lib.hid (by rw [HE.out, HD.out]; unfold takeR; rw [if_pos (by rw [hc]; decide)])
                              have hs2 := HPX.out.hs
                              clear hc hx
                              obtain ⟨q0, q1, q2, q3, q4⟩ := HPX.out.box.cells
                              have f1 := HPX.out.box.frz 1
                              go_wp2_with fail
                              go_roundw
                              case rel => exact ⟨k + 1, j + 1, by omega, by go_num, by have := HPX.out.at1 (j := j + 1) (by omega); simpa using this, E2.out, by simpa using HBX.out.set 1 _⟩
                              case measure => simp [intOf]; omega
                            · have hcc : (((bt s j).toNat : Int) != 48) = true := u8_bne 48 hc
                              have E2 : Hid (escR s (i + 1) = .error (j, 3)) := Lib.hid (by rw [HE.out, HD.out]; unfold takeR; rw [if_neg (by rw [isIn_eq]; simp [hc])])
                              clear hc hx
                              obtain ⟨q0, q1, q2, q3, q4⟩ := HPX.out.box.cells
                              go_wp2_with fail
                              refine (qfail_any HPX.out _ _).mono ?_
                              rintro e w3 ⟨rfl, hp3, hb3⟩
                              have HP3 := Lib.hid hp3
                              have HB3 := Lib.hid (HBX.out.trans (hb3.mono HBX.out.size))
                              clear hp3 hb3 q0 q1 q2 q3 q4
                              go_wp2_with fail
                              refine bodyPost_end (v := .tuple #[]) (by simp [results, Tryz.results48, go_sem]) rfl ⟨rfl, ?_, HB3.out⟩
                              rw [E2.out]
                              exact ⟨j, HP3.out, show (3 : Int) ≠ 0 by decide⟩
                        · have h2' : ¬ (k : Int) < 2 := by omega
                          have HD := Lib.hid (uSets_step s k j h4)
                          rw [if_neg h2] at HD
                          go_wp2_with fail
                          refine (qnext_any HPJ.out).mono ?_
                          rintro e w2 ⟨rfl, hb⟩
                          have HB2 := Lib.hid (HB.out.trans ((Bes.of hb).mono HB.out.size))
                          have HP2 := Lib.hid (HPJ.out.kept hb)
                          clear hb
                          go_wp2_with fail
                          refine (qhex_any (bt s j) w2).mono ?_
                          rintro e w2' ⟨rfl, rfl⟩
                          cases hx : isIn hxL (bt s j)
                          · have HPX := HP2
                            have HBX := HB2
                            have E2 : Hid (escR s (i + 1) = .error (j, 3)) := Lib.hid (by rw [HE.out, HD.out]; unfold takeR; rw [hx, if_neg (by decide)])
                            clear hx
                            obtain ⟨q0, q1, q2, q3, q4⟩ := HPX.out.box.cells
                            go_wp2_with fail
                            refine (qfail_any HPX.out _ _).mono ?_
                            rintro e w3 ⟨rfl, hp3, hb3⟩
                            have HP3 := Lib.hid hp3
                            have HB3 := Lib.hid (HBX.out.trans (hb3.mono HBX.out.size))
                            clear hp3 hb3 q0 q1 q2 q3 q4
                            go_wp2_with fail
                            refine bodyPost_end (v := .tuple #[]) (by simp [results, Tryz.results48, go_sem]) rfl ⟨rfl, ?_, HB3.out⟩
                            rw [E2.out]
                            exact ⟨j, HP3.out, show (3 : Int) ≠ 0 by decide⟩
                          · have HPX := HP2
                            have HBX := HB2
                            have hlt : j < s.size := lt_of_in (set := hxL) (by decide) hx
                            have E2 : Hid (escR s (i + 1) = setsR s (uSets.drop (k + 1)) (j + 1)) := Lib.hid (by rw [HE.out, HD.out]; unfold takeR; rw [hx, if_pos rfl])
                            have hs2 := HPX.out.hs
                            clear hx
                            obtain ⟨q0, q1, q2, q3, q4⟩ := HPX.out.box.cells
                            have f1 := HPX.out.box.frz 1
                            go_wp2_with fail
                            go_roundw
                            case rel => exact ⟨k + 1, j + 1, by omega, by go_num, by have := HPX.out.at1 (j := j + 1) (by omega); simpa using this, E2.out, by simpa using HBX.out.set 1 _⟩
                            case measure => simp [intOf]; omega
                      · have h4' : ¬ (k : Int) < 4 := by omega
                        have hk4 : k = 4 := by omega
                        have E2 : Hid (escR s (i + 1) = .ok j) := Lib.hid (by rw [HE.out, hk4]; rfl)
                        go_wp2_with fail
                        refine bodyPost_end (v := .tuple #[]) (by simp [results, Tryz.results48, go_sem]) rfl ⟨rfl, ?_, HB.out⟩
                        rw [E2.out]
                        exact ⟨_, HPJ.out⟩
                  · go_enter Tryz.func48, Tryz.ntmps48
                    go_wp2_with fail
                    refine (qnext_any HPA.out).mono ?_
                    rintro e w1 ⟨rfl, hb⟩
                    have HB1 := Lib.hid (HBA.out.trans ((Bes.of hb).mono HBA.out.size))
                    have HP1 := Lib.hid (HPA.out.kept hb)
                    clear hb q0 q1 q2 q3 q4 f1
                    obtain ⟨q0, q1, q2, q3, q4⟩ := HP1.out.box.cells
                    have f1 := HP1.out.box.frz 1
                    have e0 : (((bt s (i + 1)).toNat : Int) == 34) = false := u8_beq 34 h0
                    have e1 : (((bt s (i + 1)).toNat : Int) == 92) = false := u8_beq 92 h1
                    have e2 : (((bt s (i + 1)).toNat : Int) == 47) = false := u8_beq 47 h2
                    have e3 : (((bt s (i + 1)).toNat : Int) == 98) = false := u8_beq 98 h3
                    have e4 : (((bt s (i + 1)).toNat : Int) == 102) = false := u8_beq 102 h4
                    have e5 : (((bt s (i + 1)).toNat : Int) == 110) = false := u8_beq 110 h5
                    have e6 : (((bt s (i + 1)).toNat : Int) == 114) = false := u8_beq 114 h6
                    have e7 : (((bt s (i + 1)).toNat : Int) == 116) = false := u8_beq 116 h7
                    have e8 : (((bt s (i + 1)).toNat : Int) == 117) = false := u8_beq 117 h8
                    have E1 : Hid (escR s (i + 1) = .error (i + 1, 3)) := Lib.hid (by
                      unfold escR
                      rw [if_pos h8]
                      unfold takeR
                      rw [isIn_eq, if_neg]
                      simp only [seL, List.mem_cons, List.not_mem_nil, or_false, decide_eq_true_iff, not_or]
                      exact ⟨h0, h1, h2, h3, h4, h5, h6, h7⟩)
                    clear h0 h1 h2 h3 h4 h5 h6 h7 h8
                    go_wp2_with fail
                    refine (qfail_any HP1.out _ _).mono ?_
                    rintro e w3 ⟨rfl, hp3, hb3⟩
                    have HP3 := Lib.hid hp3
                    have HB3 := Lib.hid (HB1.out.trans (hb3.mono HB1.out.size))
                    clear hp3 hb3 q0 q1 q2 q3 q4
                    go_wp2_with fail
                    refine bodyPost_end (v := .tuple #[]) (by simp [results, Tryz.results48, go_sem]) rfl ⟨rfl, ?_, HB3.out⟩
                    rw [E1.out]
                    exact ⟨i + 1, HP3.out, show (3 : Int) ≠ 0 by decide⟩
end Go.Proofs.YtcbajgcblfgmgaaGreatDoor
namespace Go.Proofs.YtcbajgcblfgmgaaGreatDoor
open Go.RowKit
def QText (w : World) (p : Nat) (s : ByteArray) (n : Nat) (r : Except Er (ByteArray × Nat)) (e : Ending) (w' : World) : Prop :=
  (match r with
    | .ok y => e = .returned (.string y.1) ∧ ∃ c, QS w' p s y.2 n 0 c
    | .error y => e = .returned (.string ⟨#[]⟩) ∧ ∃ j, QS w' p s j n y.2 y.1 ∧ y.2 ≠ 0) ∧ Bes p w.heap.size w w'
/- Where the loop is: it reads on, or it has noted an error. -/
def QL (s : ByteArray) (p n i : Nat) (r : Except Er Nat) (wr : World) : Prop :=
  (∃ j f c0, QS wr p s j n 0 c0 ∧ r = charsF s f j ∧ s.size + 1 ≤ f + j ∧ i < j) ∨ (∃ y j, QS wr p s j n y.2 y.1 ∧ y.2 ≠ 0 ∧ r = .error y)
def qm (s : ByteArray) (p : Nat) (wr : World) : Nat := match wr.cell? ⟨p, 3, none⟩ with
  | some (.int _ c) => if c = 0 then (match wr.cell? ⟨p, 1, none⟩ with | some (.int _ k) => s.size + 1 - k.toNat | _ => 0) else 0
  | _ => 0
theorem QBox.past {W : World} {b : Nat} {c0 c1 c2 c3 c4 : Value} (h : QBox W b c0 c1 c2 c3 c4) :
    (∀ x : Past W, x.w.cell? ⟨b, 0, none⟩ = some c0) ∧ (∀ x : Past W, x.w.cell? ⟨b, 1, none⟩ = some c1) ∧ (∀ x : Past W, x.w.cell? ⟨b, 2, none⟩ = some c2) ∧ (∀ x : Past W, x.w.cell? ⟨b, 3, none⟩ = some c3) ∧ (∀ x : Past W, x.w.cell? ⟨b, 4, none⟩ = some c4) := by
  have hx : ∀ x : Past W, QBox x.w b c0 c1 c2 c3 c4 := fun x => past_block h x
  exact ⟨fun x => (hx x).cells.1, fun x => (hx x).cells.2.1, fun x => (hx x).cells.2.2.1, fun x => (hx x).cells.2.2.2.1, fun x => (hx x).cells.2.2.2.2⟩
theorem qm_on {wr : World} {p : Nat} {s : ByteArray} {j n : Nat} {c0 : Int} (h : QS wr p s j n 0 c0) : qm s p wr = s.size + 1 - j := by
  obtain ⟨q0, q1, q2, q3, q4⟩ := h.box.cells
  unfold qm; rw [q3, q1]; simp
theorem qm_off {wr : World} {p : Nat} {s : ByteArray} {j n : Nat} {c c0 : Int} (h : QS wr p s j n c c0) (hc : c ≠ 0) : qm s p wr = 0 := by
  obtain ⟨q0, q1, q2, q3, q4⟩ := h.box.cells
  unfold qm; rw [q3]; simp [hc]
set_option maxRecDepth 100000 in
set_option maxHeartbeats 4000000 in
theorem qtext_any {w : World} {p : Nat} {s : ByteArray} {i n : Nat} {c0 : Int} (h : QS w p s i n 0 c0) :
    Calls Tryz.prog 26 #[pp p] w (QText w p s n (litR s i)) := by
  have HP := Lib.hid h
  have hs := h.hs
  have hi := h.hi
  obtain ⟨q0, q1, q2, q3, q4⟩ := h.box.cells
  clear h
  by_cases h34 : bt s i = 34
  · have hcc : (((bt s i).toNat : Int) != 34) = false := u8_bne' 34 h34
    have hlt : i < s.size := lt_of_bt (by rw [h34]; decide)
    have E0 : Hid (litR s i = match charsF s (s.size + 1) (i + 1) with | .error e => .error e | .ok j => .ok (litS s i (j + 1), j + 1)) := Lib.hid (by unfold litR; rw [if_pos h34]; rfl)
    clear h34
    go_enter Tryz.func26, Tryz.ntmps26
    go_wp2_with fail
    refine (qnext_any HP.out).mono ?_
    rintro e w1 ⟨rfl, hb⟩
    have HB1 := Lib.hid (Bes.of hb : Bes p w.heap.size w w1)
    have HP1 := Lib.hid (HP.out.kept hb)
    clear hb q0 q1 q2 q3 q4
    obtain ⟨q0, q1, q2, q3, q4⟩ := HP1.out.box.cells
    have f1 := HP1.out.box.frz 1
    have HP2 : Hid (QS (w1.setCell ⟨p, 1, none⟩ (.int .i64 ((i : Int) + 1))) p s (i + 1) n 0 c0) := Lib.hid (by have := HP1.out.at1 (j := i + 1) hlt; simpa using this)
    have HB2 : Hid (Bes p w.heap.size w (w1.setCell ⟨p, 1, none⟩ (.int .i64 ((i : Int) + 1)))) := Lib.hid (HB1.out.set 1 _)
    go_wp2_with fail
    clear q0 q1 q2 q3 q4 f1
    go_loopw [4] (fun v wr => QL s p n i (charsF s (s.size + 1) (i + 1)) wr ∧ Bes p w.heap.size w wr) (fun v wr => qm s p wr)
    case atStart => exact ⟨  .inl ⟨i + 1, s.size + 1, c0, HP2.out, rfl, by omega, by omega⟩, HB2.out⟩
    case round =>
      obtain ⟨hq, hb⟩ := hrel
      have HB := Lib.hid hb
      clear hb HP2 HB2 HP1 HB1
      rcases hq with ⟨j, f, c0', hp, he, hf, hij⟩ | ⟨y, j, hp, hy, he⟩
      · have hj := hp.hi
        have hm := Lib.hid (qm_on hp)
        obtain ⟨f, rfl⟩ : ∃ g, f = g + 1 := ⟨f - 1, by omega⟩
        have HPJ := Lib.hid hp
        have HE := Lib.hid he
        clear hp he
        obtain ⟨q0, q1, q2, q3, q4⟩ := HPJ.out.box.cells
        have hlo : (bt s j < 32 ∨ 126 < bt s j) ∨ (¬ (bt s j < 32 ∨ 126 < bt s j) ∧ bt s j = 92) ∨ (¬ (bt s j < 32 ∨ 126 < bt s j) ∧ bt s j ≠ 92 ∧ bt s j = 34) ∨ (¬ (bt s j < 32 ∨ 126 < bt s j) ∧ bt s j ≠ 92 ∧ bt s j ≠ 34) := by
          by_cases a : (bt s j < 32 ∨ 126 < bt s j)
          · exact .inl a
          · by_cases b : bt s j = 92
            · exact .inr (.inl ⟨a, b⟩)
            · by_cases c : bt s j = 34
              · exact .inr (.inr (.inl ⟨a, b, c⟩))
              · exact .inr (.inr (.inr ⟨a, b, c⟩))
        rcases hlo with ha | ⟨ha, h92⟩ | ⟨ha, h92, h34⟩ | ⟨ha, h92, h34⟩
        · have hn34 : bt s j ≠ 34 := by intro e; rw [e] at ha; revert ha; decide
          have E1 : Hid (litR s i = .error (j, 3)) := Lib.hid (by rw [E0.out, HE.out]; unfold charsF; rw [if_neg hn34]; unfold chrR; rw [if_pos ha])
          clear hn34
          have hr : ((bt s j).toNat : Int) < 32 ∨ (¬ ((bt s j).toNat : Int) < 32 ∧ ((bt s j).toNat : Int) > 126) := by
            have : (bt s j).toNat < 32 ∨ 126 < (bt s j).toNat := ha
            omega
          clear ha
          rcases hr with r1 | ⟨r1, r2⟩
          all_goals
            go_wp2_with fail
            refine (qnext_any HPJ.out).mono ?_
            rintro e w2 ⟨rfl, hb⟩
            have HB2 := Lib.hid (HB.out.trans ((Bes.of hb).mono HB.out.size))
            have HP2 := Lib.hid (HPJ.out.kept hb)
            clear hb q0 q1 q2 q3 q4
            obtain ⟨q0, q1, q2, q3, q4⟩ := HP2.out.box.cells
            go_wp2_with fail
            refine (qfail_any HP2.out _ _).mono ?_
            rintro e w3 ⟨rfl, hp3, hb3⟩
            have HP3 := Lib.hid hp3
            have HB3 := Lib.hid (HB2.out.trans (hb3.mono HB2.out.size))
            clear hp3 hb3 q0 q1 q2 q3 q4
            go_wp2_with fail
            refine bodyPost_ret (v := .string ⟨#[]⟩) (by simp [results, Tryz.results26, go_sem]) rfl ⟨?_, HB3.out⟩
            rw [E1.out]
            exact ⟨rfl, j, HP3.out, show (3 : Int) ≠ 0 by decide⟩
        · have hn34 : bt s j ≠ 34 := by rw [h92]; decide
          have hlt2 : j < s.size := lt_of_bt (by rw [h92]; decide)
          have HST : Hid (charsF s (f + 1) j = match escR s (j + 1) with | .error e => .error e | .ok k => charsF s f k) := Lib.hid (by rw [charsF, if_neg hn34]; unfold chrR; rw [if_neg ha, if_neg (by simp [h92])]; rfl)
          have HCH : ∀ k, chrR s j = .ok k → j < k ∧ k ≤ s.size := fun k hk => chrR_gt hk
          have HC2 : Hid (∀ k, escR s (j + 1) = .ok k → j < k) := Lib.hid fun k hk => (HCH k (by unfold chrR; rw [if_neg ha, if_neg (by simp [h92])]; exact hk)).1
          have r1 : ¬ ((bt s j).toNat : Int) < 32 := by rw [h92]; decide
          have r2 : ¬ ((bt s j).toNat : Int) > 126 := by rw [h92]; decide
          have r3 : (((bt s j).toNat : Int) == 92) = true := u8_beq' 92 h92
          clear hn34 ha h92 HCH
          go_wp2_with fail
          refine (qnext_any HPJ.out).mono ?_
          rintro e w2 ⟨rfl, hb⟩
          have HB2 := Lib.hid (HB.out.trans ((Bes.of hb).mono HB.out.size))
          have HP2 := Lib.hid (HPJ.out.kept hb)
          clear hb q0 q1 q2 q3 q4
          go_wp2_with fail
          refine (qescape_any HP2.out hlt2).mono ?_
          intro e w3 hh
          obtain ⟨rfl, hr, hb3⟩ := hh
          have HB3 := Lib.hid (HB2.out.trans (hb3.mono HB2.out.size))
          clear hb3
          cases hx : escR s (j + 1) with
          | ok k =>
            rw [hx] at hr
            obtain ⟨c2, hp3⟩ := hr
            have hk := HC2.out k hx
            have E2 : Hid (charsF s (s.size + 1) (i + 1) = charsF s f k) := Lib.hid (by rw [HE.out, HST.out, hx])
            have HP3 := Lib.hid hp3
            have hm3 := Lib.hid (qm_on hp3)
            have hk2 := hp3.hi
            clear hp3 hx
            go_wp2_with fail
            go_roundw
            case rel => exact ⟨.inl ⟨k, f, c2, HP3.out, E2.out, by omega, by omega⟩, HB3.out⟩
            case measure => rw [hm.out, hm3.out]; omega
          | error y =>
            rw [hx] at hr
            obtain ⟨k, hp3, hy⟩ := hr
            have E2 : Hid (charsF s (s.size + 1) (i + 1) = .error y) := Lib.hid (by rw [HE.out, HST.out, hx])
            have HP3 := Lib.hid hp3
            have HY := Lib.hid hy
            have hm3 := Lib.hid (qm_off hp3 hy)
            clear hp3 hx hy
            go_wp2_with fail
            go_roundw
            case rel => exact ⟨.inr ⟨y, k, HP3.out, HY.out, E2.out⟩, HB3.out⟩
            case measure => rw [hm.out, hm3.out]; omega
        · have r1 : ¬ ((bt s j).toNat : Int) < 32 := by rw [h34]; decide
          have r2 : ¬ ((bt s j).toNat : Int) > 126 := by rw [h34]; decide
          have r3 : (((bt s j).toNat : Int) == 92) = false := u8_beq 92 h92
          have r4 : (((bt s j).toNat : Int) == 34) = true := u8_beq' 34 h34
          have hlt2 : j < s.size := lt_of_bt (by rw [h34]; decide)
          have E1 : Hid (litR s i = .ok (litS s i (j + 1), j + 1)) := Lib.hid (by rw [E0.out, HE.out]; unfold charsF; rw [if_pos h34])
          clear ha h92 h34
          go_wp2_with fail
          refine (qnext_any HPJ.out).mono ?_
          rintro e w2 ⟨rfl, hb⟩
          have HB2 := Lib.hid (HB.out.trans ((Bes.of hb).mono HB.out.size))
          have HP2 := Lib.hid (HPJ.out.kept hb)
          clear hb q0 q1 q2 q3 q4
          have HP3 : Hid (QS (w2.setCell ⟨p, 1, none⟩ (.int .i64 ((j : Int) + 1))) p s (j + 1) n 0 c0') := Lib.hid (by have := HP2.out.at1 (j := j + 1) (by omega); simpa using this)
          have HB3 : Hid (Bes p w.heap.size w (w2.setCell ⟨p, 1, none⟩ (.int .i64 ((j : Int) + 1)))) := Lib.hid (HB2.out.set 1 _)
          obtain ⟨q0, q1, q2, q3, q4⟩ := HP2.out.box.cells
          have f1 := HP2.out.box.frz 1
          go_wp2_with fail
          refine wp_region_past (fun W => QS W p s (j + 1) n 0 c0' ∧ Bes p w.heap.size w W) ⟨HP3.out, HB3.out⟩ (by kernel_rfl) ?_
          clear q0 q1 q2 q3 q4 f1 HP3 HB3
          intro W ⟨g1, g2⟩ _
          obtain ⟨p0, p1, p2, p3, p4⟩ := g1.box.past
          have G1 := Lib.hid g1
          have G2 := Lib.hid g2
          clear g1 g2
          have l1 : (i : Int) ≤ (j : Int) + 1 := by omega
          have l2 : (j : Int) + 1 ≤ (s.size : Int) := by omega
          obtain ⟨cc, hcc2⟩ := uq2_is s i (j + 1)
          have HCC := Lib.hid hcc2
          have C1 : Hid (∀ x : Past W, Calls Tryz.prog 49 #[.string (s.extract i (j + 1))] x.w fun e w'' => e = .returned (.tuple #[.string (litS s i (j + 1)), .int .i64 cc]) ∧ ∃ y : Past W, w'' = y.w) :=
            Lib.hid fun x => past_of x ((T1.runquote_any _ x.w (by rw [← T1.size_eq, sub_extract]; have := sub_len s i (j + 1); omega)).mono (fun e w' h => ⟨by rw [h.1, sub_extract]; exact congrArg _ HCC.out, h.2⟩))
          clear hcc2
          generalize hxx : litS s i (j + 1) = xx at *
          repeat (go_big_quiet_step (first | with_reducible exact C1.out _))
          refine wpQuiet_nil ?_
          intro _ hw'
          obtain ⟨x, rfl⟩ := hw'
          have HPx := Lib.hid (G1.out.kept x.b)
          have HBx := Lib.hid (G2.out.trans ((Bes.of x.b).mono G2.out.size))
          clear p0 p1 p2 p3 p4
          generalize x.w = wx at *
          go_wp2_with fail
          refine bodyPost_ret (v := .string xx) (by simp [results, Tryz.results26, go_sem]) rfl ⟨?_, HBx.out⟩
          rw [E1.out]
          exact ⟨rfl, _, HPx.out⟩
        · have r0 : Hid (¬ (bt s j < 32 ∨ 126 < bt s j)) := Lib.hid ha
          have r1 : ¬ ((bt s j).toNat : Int) < 32 := by intro h; exact ha (.inl (by show (bt s j).toNat < 32; omega))
          have r2 : ¬ ((bt s j).toNat : Int) > 126 := by intro h; exact ha (.inr (by show 126 < (bt s j).toNat; omega))
          have r3 : (((bt s j).toNat : Int) == 92) = false := u8_beq 92 h92
          have r4 : (((bt s j).toNat : Int) == 34) = false := u8_beq 34 h34
          have hlt2 : j < s.size := lt_of_bt (by intro e; apply ha; left; rw [e]; decide)
          have E2 : Hid (charsF s (s.size + 1) (i + 1) = charsF s f (j + 1)) := Lib.hid (by rw [HE.out, charsF, if_neg h34]; unfold chrR; rw [if_neg ha, if_pos h92])
          clear ha h92 h34
          go_wp2_with fail
          refine (qnext_any HPJ.out).mono ?_
          rintro e w2 ⟨rfl, hb⟩
          have HB2 := Lib.hid (HB.out.trans ((Bes.of hb).mono HB.out.size))
          have HP2 := Lib.hid (HPJ.out.kept hb)
          clear hb q0 q1 q2 q3 q4
          have HP3 : Hid (QS (w2.setCell ⟨p, 1, none⟩ (.int .i64 ((j : Int) + 1))) p s (j + 1) n 0 c0') := Lib.hid (by have := HP2.out.at1 (j := j + 1) (by omega); simpa using this)
          have HB3 : Hid (Bes p w.heap.size w (w2.setCell ⟨p, 1, none⟩ (.int .i64 ((j : Int) + 1)))) := Lib.hid (HB2.out.set 1 _)
          have hm3 := Lib.hid (qm_on HP3.out)
          obtain ⟨q0, q1, q2, q3, q4⟩ := HP2.out.box.cells
          have f1 := HP2.out.box.frz 1
          go_wp2_with fail
          go_roundw
          case rel => exact ⟨.inl ⟨j + 1, f, c0', HP3.out, E2.out, by omega, by omega⟩, HB3.out⟩
          case measure => rw [hm.out, hm3.out]; omega
      · have HPJ := Lib.hid hp
        have E1 : Hid (litR s i = .error y) := Lib.hid (by rw [E0.out, he])
        have HY := Lib.hid hy
        clear hp he
        obtain ⟨q0, q1, q2, q3, q4⟩ := HPJ.out.box.cells
        have hy1 : (y.2 == 0) = false := by simpa using hy
        have hy2 : (y.2 != 0) = true := by simpa using hy
        clear hy
        go_wp2_with fail
        refine bodyPost_ret (v := .string ⟨#[]⟩) (by simp [results, Tryz.results26, go_sem]) rfl ⟨?_, HB.out⟩
        rw [E1.out]
        exact ⟨rfl, j, HPJ.out, HY.out⟩
  · have hcc : (((bt s i).toNat : Int) != 34) = true := u8_bne 34 h34
    have E1 : Hid (litR s i = .error (i, 3)) := Lib.hid (by unfold litR; rw [if_neg h34])
    clear h34
    go_enter Tryz.func26, Tryz.ntmps26
    go_wp2_with fail
    refine (qnext_any HP.out).mono ?_
    rintro e w1 ⟨rfl, hb⟩
    have HB1 := Lib.hid (Bes.of hb : Bes p w.heap.size w w1)
    have HP1 := Lib.hid (HP.out.kept hb)
    clear hb q0 q1 q2 q3 q4
    obtain ⟨q0, q1, q2, q3, q4⟩ := HP1.out.box.cells
    go_wp2_with fail
    refine (qfail_any HP1.out _ _).mono ?_
    rintro e w3 ⟨rfl, hp3, hb3⟩
    have HP3 := Lib.hid hp3
    have HB3 := Lib.hid (HB1.out.trans (hb3.mono HB1.out.size))
    clear hp3 hb3 q0 q1 q2 q3 q4
    go_wp2_with fail
    refine bodyPost_ret (v := .string ⟨#[]⟩) (by simp [results, Tryz.results26, go_sem]) rfl ⟨?_, HB3.out⟩
    rw [E1.out]
    exact ⟨rfl, i, HP3.out, show (3 : Int) ≠ 0 by decide⟩
end Go.Proofs.YtcbajgcblfgmgaaGreatDoor
namespace Go.Proofs.YtcbajgcblfgmgaaGreatDoor
open Go.RowKit
theorem qsub_cons {s : ByteArray} {i k : Nat} (h : i < k) (hi : i < s.size) : sub s i k = bt s i :: sub s (i + 1) k := by
  unfold sub bt
  rw [List.drop_eq_getElem_cons (by rw [T1.size_eq]; exact hi), show k - i = (k - (i + 1)) + 1 by omega, List.take_succ_cons, List.getD_eq_getElem?_getD, List.getElem?_eq_getElem (by rw [T1.size_eq]; exact hi)]
  rfl
theorem qsub_nil (s : ByteArray) (i : Nat) : sub s i i = [] := by unfold sub; simp
theorem qdg_is (c : UInt8) : isIn dgL c = T1.digB (c.toNat : Int) := by
  rw [qdg]
  unfold T1.digB
  by_cases h : 48 ≤ c.toNat ∧ c.toNat ≤ 57
  · have h1 : (48 : Int) ≤ (c.toNat : Int) ∧ (c.toNat : Int) ≤ 57 := by omega
    simp [h, h1]
  · have h1 : ¬ ((48 : Int) ≤ (c.toNat : Int) ∧ (c.toNat : Int) ≤ 57) := by omega
    simp only [h, decide_false]
    symm
    simp only [Bool.and_eq_false_iff, decide_eq_false_iff_not]
    omega
theorem digs_all (s : ByteArray) : ∀ d i : Nat, s.size - i = d → T1.allDg (sub s i (sk dgL s i)) = true
  | d, i, hd => by
    cases h : isIn dgL (bt s i) with
    | false => rw [sk_out h, qsub_nil]; rfl
    | true =>
      have hlt := lt_of_in (set := dgL) (by decide) h
      have hle := sk_le dgL s (i + 1)
      rw [sk_in (by decide) h, qsub_cons (by omega) hlt, T1.allDg_cons, ← qdg_is]
      exact ⟨h, digs_all s (s.size - (i + 1)) (i + 1) rfl⟩
  termination_by d => d
theorem dec_int {s : ByteArray} {i i1 : Nat} (h : (bt s i = 45 ∧ i1 = i + 1 ∧ isIn dnL (bt s i1) = true) ∨ (bt s i ≠ 45 ∧ i1 = i ∧ isIn dgL (bt s i1) = true)) :
    T1.decL (sub s i (if bt s i1 = 48 then i1 + 1 else sk dgL s (i1 + 1))) = true := by
  have hle := sk_le dgL s (i1 + 1)
  have hall := digs_all s _ (i1 + 1) rfl
  rcases h with ⟨h45, rfl, hin⟩ | ⟨h45, rfl, hin⟩
  · have hlt := lt_of_in (set := dnL) (by decide) hin
    have hn48 : bt s (i + 1) ≠ 48 := by intro e; rw [e] at hin; revert hin; decide
    have hdg : isIn dgL (bt s (i + 1)) = true := by
      rw [isIn_eq] at hin ⊢
      simp only [dnL, dgL, List.mem_cons, List.not_mem_nil, or_false, decide_eq_true_iff] at hin ⊢
      exact .inr hin
    rw [if_neg hn48, qsub_cons (by omega) (by omega), h45, qsub_cons (by omega) hlt]
    unfold T1.decL
    rw [show Lib.trimPrefix (45 :: bt s (i + 1) :: sub s (i + 1 + 1) (sk dgL s (i + 1 + 1))) [45] = bt s (i + 1) :: sub s (i + 1 + 1) (sk dgL s (i + 1 + 1)) by simp [Lib.trimPrefix, Lib.hasPrefix]]
    simp only [List.cons_ne_nil, if_false]
    rw [if_neg (by simpa using hn48), T1.allDg_cons, ← qdg_is]
    exact ⟨hdg, hall⟩
  · have hlt := lt_of_in (set := dgL) (by decide) hin
    have h45' : ¬ 45 = bt s i1 := fun e => h45 e.symm
    have htr : ∀ r, Lib.trimPrefix (bt s i1 :: r) [45] = bt s i1 :: r := fun r => by simp [Lib.trimPrefix, Lib.hasPrefix, h45']
    by_cases h48 : bt s i1 = 48
    · rw [if_pos h48, qsub_cons (by omega) hlt, qsub_nil, h48]; decide
    · rw [if_neg h48, qsub_cons (by omega) hlt]
      unfold T1.decL
      rw [htr]
      simp only [List.cons_ne_nil, if_false]
      rw [if_neg (by simpa using h48), T1.allDg_cons, ← qdg_is]
      exact ⟨hin, hall⟩
theorem numL_four {l : List UInt8} (h : T1.decL l = true) : (T1.numL l).2 = 0 ∨ (T1.numL l).2 = 4 := by
  unfold T1.numL
  rw [if_pos h]
  split
  · exact .inl rfl
  · exact .inr rfl
def QNum (w : World) (p : Nat) (s : ByteArray) (n : Nat) (r : Except Er (VT × Nat)) (e : Ending) (w' : World) : Prop :=
  (match r with
    | .ok y => ∃ m, y.1 = intT m ∧ small m ∧ e = .returned (.int .i64 m) ∧ ∃ c, QS w' p s y.2 n 0 c
    | .error y => (∃ m, small m ∧ e = .returned (.int .i64 m)) ∧ ∃ j, QS w' p s j n y.2 y.1 ∧ y.2 ≠ 0) ∧ Bes p w.heap.size w w'
end Go.Proofs.YtcbajgcblfgmgaaGreatDoor
namespace Go.Proofs.YtcbajgcblfgmgaaGreatDoor
open Go.RowKit
theorem dn_no {c : UInt8} (h : isIn dgL c = false) : isIn dnL c = false := by
  rw [isIn_eq] at h ⊢
  simp only [dnL, dgL, List.mem_cons, List.not_mem_nil, or_false, decide_eq_false_iff_not, not_or] at h ⊢
  exact h.2
theorem dn_yes {c : UInt8} (h : isIn dgL c = true) (h48 : c ≠ 48) : isIn dnL c = true := by
  rw [isIn_eq] at h ⊢
  simp only [dnL, dgL, List.mem_cons, List.not_mem_nil, or_false, decide_eq_true_iff] at h ⊢
  exact h.resolve_left h48
set_option maxRecDepth 100000 in
set_option maxHeartbeats 4000000 in
theorem qnumber_any {w : World} {p : Nat} {s : ByteArray} {i n : Nat} {c0 : Int} (h : QS w p s i n 0 c0) :
    Calls Tryz.prog 30 #[pp p] w (QNum w p s n (intR s i)) := by
  have HP := Lib.hid h
  have hs := h.hs
  have hi := h.hi
  obtain ⟨q0, q1, q2, q3, q4⟩ := h.box.cells
  clear h
  go_enter Tryz.func30, Tryz.ntmps30
  go_wp2_with fail
  refine (qnext_any HP.out).mono ?_
  rintro e w1 ⟨rfl, hb⟩
  have HB1 := Lib.hid (Bes.of hb : Bes p w.heap.size w w1)
  have HP1 := Lib.hid (HP.out.kept hb)
  clear hb q0 q1 q2 q3 q4 HP
  obtain ⟨q0, q1, q2, q3, q4⟩ := HP1.out.box.cells
  have f1 := HP1.out.box.frz 1
  by_cases hc : bt s i = 45
  · have hcc : (((bt s i).toNat : Int) == 45) = true := u8_beq' 45 hc
    have hlt : i < s.size := lt_of_bt (by rw [hc]; decide)
    have HPA : Hid (QS (w1.setCell ⟨p, 1, none⟩ (.int .i64 ((i : Int) + 1))) p s (i + 1) n 0 c0) := Lib.hid (by have := HP1.out.at1 (j := i + 1) (by omega); simpa using this)
    have HBA : Hid (Bes p w.heap.size w (w1.setCell ⟨p, 1, none⟩ (.int .i64 ((i : Int) + 1)))) := Lib.hid (HB1.out.set 1 _)
    go_wp2_with fail
    refine (qnext_any HPA.out).mono ?_
    rintro e w2 ⟨rfl, hb⟩
    have HB2 := Lib.hid (HBA.out.trans ((Bes.of hb).mono HBA.out.size))
    have HP2 := Lib.hid (HPA.out.kept hb)
    clear hb q0 q1 q2 q3 q4 f1
    go_wp2_with fail
    refine (qdigit_any (bt s (i + 1)) w2).mono ?_
    rintro e w2' ⟨rfl, rfl⟩
    cases hd : isIn dgL (bt s (i + 1))
    · have HD : Hid (isIn dnL (bt s (i + 1)) = false) := Lib.hid (by rw [dn_no hd])
      have E1 : Hid (intR s i = .error (i + 1, 3)) := Lib.hid (by unfold intR; simp only; rw [if_pos hc, if_pos hc, if_neg (by rw [HD.out]; decide)])
      clear hd hc HD
      have HPX := HP2
      have HBX := HB2
      obtain ⟨q0, q1, q2, q3, q4⟩ := HPX.out.box.cells
      go_wp2_with fail
      refine (qfail_any HPX.out _ _).mono ?_
      rintro e w9 ⟨rfl, hp3, hb3⟩
      have HP9 := Lib.hid hp3
      have HB9 := Lib.hid (HBX.out.trans (hb3.mono HBX.out.size))
      clear hp3 hb3 q0 q1 q2 q3 q4
      go_wp2_with fail
      refine bodyPost_ret (v := .int .i64 0) (by simp [results, Tryz.results30, go_sem]) rfl ⟨?_, HB9.out⟩
      rw [E1.out]
      exact ⟨⟨0, by unfold small; omega, rfl⟩, i + 1, HP9.out, show (3 : Int) ≠ 0 by decide⟩
    · by_cases h48 : bt s (i + 1) = 48
      · have g : (((bt s (i + 1)).toNat : Int) == 48) = true := u8_beq' 48 h48
        have HD : Hid (isIn dnL (bt s (i + 1)) = false) := Lib.hid (by rw [h48]; decide)
        have E1 : Hid (intR s i = .error (i + 1, 3)) := Lib.hid (by unfold intR; simp only; rw [if_pos hc, if_pos hc, if_neg (by rw [HD.out]; decide)])
        clear hd hc h48 HD
        go_wp2_with fail
        refine (qnext_any HP2.out).mono ?_
        rintro e w3 ⟨rfl, hb⟩
        have HBX := Lib.hid (HB2.out.trans ((Bes.of hb).mono HB2.out.size))
        have HPX := Lib.hid (HP2.out.kept hb)
        clear hb HP2 HB2
        obtain ⟨q0, q1, q2, q3, q4⟩ := HPX.out.box.cells
        have hgt : (i : Int) + 1 > (i : Int) := by omega
        clear q0 q1 q2 q3 q4
        obtain ⟨q0, q1, q2, q3, q4⟩ := HPX.out.box.cells
        go_wp2_with fail
        refine (qfail_any HPX.out _ _).mono ?_
        rintro e w9 ⟨rfl, hp3, hb3⟩
        have HP9 := Lib.hid hp3
        have HB9 := Lib.hid (HBX.out.trans (hb3.mono HBX.out.size))
        clear hp3 hb3 q0 q1 q2 q3 q4
        go_wp2_with fail
        refine bodyPost_ret (v := .int .i64 0) (by simp [results, Tryz.results30, go_sem]) rfl ⟨?_, HB9.out⟩
        rw [E1.out]
        exact ⟨⟨0, by unfold small; omega, rfl⟩, i + 1, HP9.out, show (3 : Int) ≠ 0 by decide⟩
      · have g : (((bt s (i + 1)).toNat : Int) == 48) = false := u8_beq 48 h48
        have HD : Hid (isIn dnL (bt s (i + 1)) = true) := Lib.hid (dn_yes hd h48)
        have hlt1 : i + 1 < s.size := lt_of_in (set := dnL) (by decide) HD.out
        have E0 : Hid (intR s i = if (T1.numL (sub s i (if bt s (i + 1) = 48 then (i + 1) + 1 else sk dgL s ((i + 1) + 1)))).2 = 0 then .ok (intT (T1.numL (sub s i (if bt s (i + 1) = 48 then (i + 1) + 1 else sk dgL s ((i + 1) + 1)))).1, (if bt s (i + 1) = 48 then (i + 1) + 1 else sk dgL s ((i + 1) + 1))) else .error (i, (T1.numL (sub s i (if bt s (i + 1) = 48 then (i + 1) + 1 else sk dgL s ((i + 1) + 1)))).2)) := Lib.hid (by unfold intR; simp only; rw [if_pos hc, if_pos hc, if_pos HD.out])
        clear hd h48
        go_wp2_with fail
        refine (qnext_any HP2.out).mono ?_
        rintro e w3 ⟨rfl, hb⟩
        have HBX := Lib.hid (HB2.out.trans ((Bes.of hb).mono HB2.out.size))
        have HPX := Lib.hid (HP2.out.kept hb)
        clear hb HP2 HB2
        obtain ⟨q0, q1, q2, q3, q4⟩ := HPX.out.box.cells
        obtain ⟨i3, hi3⟩ : ∃ k, k = (if bt s (i + 1) = 48 then (i + 1) + 1 else sk dgL s ((i + 1) + 1)) := ⟨_, rfl⟩
        obtain ⟨num, hnum⟩ : ∃ k, k = (T1.numL (sub s i i3)).1 := ⟨_, rfl⟩
        obtain ⟨nc, hnc0⟩ : ∃ k, k = (T1.numL (sub s i i3)).2 := ⟨_, rfl⟩
        have hsm : Hid (small num) := Lib.hid (by have := T1.num_bounds (sub s i i3); rw [← hnum] at this; exact this)
        have hnc : Hid (T1.numL (sub s i i3) = (num, nc)) := Lib.hid (by rw [hnum, hnc0])
        have hfour : Hid (nc = 0 ∨ nc = 4) := Lib.hid (by rw [hnc0, hi3]; exact numL_four (dec_int (.inl ⟨hc, rfl, HD.out⟩)))
        have E3 : Hid (intR s i = if nc = 0 then .ok (intT num, i3) else .error (i, nc)) := Lib.hid (by rw [E0.out, ← hi3, hnc.out])
        have hi31 : (i + 1) + 1 ≤ i3 := by rw [hi3]; have := sk_le dgL s ((i + 1) + 1); split <;> omega
        have hi32 : i3 ≤ s.size := by rw [hi3]; have := sk_hi dgL s ((i + 1) + 1) (by omega); split <;> omega
        have H3 := Lib.hid hi3
        have hsz : (i + 1) < s.size := by omega
        clear hnum hnc0 hi3 hc HD
        go_wp2_with fail
        refine (qnext_any HPX.out).mono ?_
        rintro e w4 ⟨rfl, hb⟩
        have HB4 := Lib.hid (HBX.out.trans ((Bes.of hb).mono HBX.out.size))
        have HP4 := Lib.hid (HPX.out.kept hb)
        clear hb
        obtain ⟨q0, q1, q2, q3, q4⟩ := HP4.out.box.cells
        have f1 := HP4.out.box.frz 1
        have HPW : Hid (QS (w4.setCell ⟨p, 1, none⟩ (.int .i64 ((((i + 1) : Nat) : Int) + 1))) p s ((i + 1) + 1) n 0 c0) := Lib.hid (by have := HP4.out.at1 (j := (i + 1) + 1) (by omega); simpa using this)
        have HBW : Hid (Bes p w.heap.size w (w4.setCell ⟨p, 1, none⟩ (.int .i64 ((((i + 1) : Nat) : Int) + 1)))) := Lib.hid (HB4.out.set 1 _)
        go_wp2_with fail
        clear q0 q1 q2 q3 q4 f1
        go_loopw [] (fun wr => ∃ j : Nat, QS wr p s j n 0 c0 ∧ (i + 1) + 1 ≤ j ∧ i3 = (if bt s (i + 1) = 48 then j else sk dgL s j) ∧ Bes p w.heap.size w wr) (fun wr => qm s p wr)
        case atStart => exact ⟨(i + 1) + 1, by simpa using HPW.out, Nat.le_refl _, H3.out, by simpa using HBW.out⟩
        case round =>
          obtain ⟨j, hp, hij, he, hb⟩ := hrel
          have HPJ := Lib.hid hp
          have HB := Lib.hid hb
          have hm := Lib.hid (qm_on hp)
          clear hp hb HPW HBW HP4 HB4 HPX HBX H3
          by_cases h48 : bt s (i + 1) = 48
          · have g48 : (((bt s (i + 1)).toNat : Int) != 48) = false := u8_bne' 48 h48
            rw [if_pos h48] at he
            subst he
            have HPY := HPJ
            have HBY := HB
            obtain ⟨q0, q1, q2, q3, q4⟩ := HPJ.out.box.cells
            clear h48
            go_wp2_with fail
            refine wp_region_past (fun W => QS W p s i3 n 0 c0 ∧ Bes p w.heap.size w W) ⟨HPY.out, HBY.out⟩ (by kernel_rfl) ?_
            clear q0 q1 q2 q3 q4
            intro W ⟨g1, g2⟩ _
            obtain ⟨p0, p1, p2, p3, p4⟩ := g1.box.past
            have G1 := Lib.hid g1
            have G2 := Lib.hid g2
            clear g1 g2
            have l1 : (i : Int) ≤ (i3 : Int) := by omega
            have l2 : (i3 : Int) ≤ (s.size : Int) := by omega
            have C1 : Hid (∀ x : Past W, Calls Tryz.prog 51 #[.string (s.extract i i3)] x.w fun e w'' => e = .returned (.tuple #[.int .i64 num, .int .i64 nc]) ∧ ∃ y : Past W, w'' = y.w) :=
              Lib.hid fun x => past_same x ((T1.rnumber_any _ x.w (by unfold maxLen; rw [← T1.size_eq, sub_extract]; have := sub_len s i i3; omega)).mono (fun e w' h => ⟨by rw [h.1, sub_extract, hnc.out]; rfl, h.2⟩))
            repeat (go_big_quiet_step (first | with_reducible exact C1.out _))
            refine wpQuiet_nil ?_
            intro _ hw'
            obtain ⟨x, rfl⟩ := hw'
            have HPZ := Lib.hid (G1.out.kept x.b)
            have HBZ := Lib.hid (G2.out.trans ((Bes.of x.b).mono G2.out.size))
            clear p0 p1 p2 p3 p4 C1
            generalize x.w = wx at *
            rcases hfour.out with e0 | e4
            · have e1 : (nc != 0) = false := by rw [e0]; rfl
              have EE : Hid (intR s i = .ok (intT num, i3)) := Lib.hid (by rw [E3.out, if_pos e0])
              clear e0
              go_wp2_with fail
              refine bodyPost_ret (v := .int .i64 num) (by simp [results, Tryz.results30, go_sem]) rfl ⟨?_, HBZ.out⟩
              rw [EE.out]
              exact ⟨num, rfl, hsm.out, rfl, _, HPZ.out⟩
            · have e1 : (nc != 0) = true := by rw [e4]; rfl
              have EE : Hid (intR s i = .error (i, 4)) := Lib.hid (by rw [E3.out, if_neg (by omega), e4])
              clear e4
              go_wp2_with fail
              refine (qfail_any HPZ.out _ _).mono ?_
              rintro e w9 ⟨rfl, hp3, hb3⟩
              have HP9 := Lib.hid hp3
              have HB9 := Lib.hid (HBZ.out.trans (hb3.mono HBZ.out.size))
              clear hp3 hb3
              go_wp2_with fail
              refine bodyPost_ret (v := .int .i64 num) (by simp [results, Tryz.results30, go_sem]) rfl ⟨?_, HB9.out⟩
              rw [EE.out]
              exact ⟨⟨num, hsm.out, rfl⟩, _, HP9.out, show (4 : Int) ≠ 0 by decide⟩
          · have g48 : (((bt s (i + 1)).toNat : Int) != 48) = true := u8_bne 48 h48
            rw [if_neg h48] at he
            clear h48
            go_wp2_with fail
            refine (qnext_any HPJ.out).mono ?_
            rintro e w5 ⟨rfl, hb⟩
            have HB5 := Lib.hid (HB.out.trans ((Bes.of hb).mono HB.out.size))
            have HP5 := Lib.hid (HPJ.out.kept hb)
            clear hb
            go_wp2_with fail
            refine (qdigit_any (bt s j) w5).mono ?_
            rintro e w5' ⟨rfl, rfl⟩
            cases hdj : isIn dgL (bt s j)
            · rw [sk_out hdj] at he
              subst he
              have HPY := HP5
              have HBY := HB5
              obtain ⟨q0, q1, q2, q3, q4⟩ := HP5.out.box.cells
              clear hdj
              go_wp2_with fail
              refine wp_region_past (fun W => QS W p s i3 n 0 c0 ∧ Bes p w.heap.size w W) ⟨HPY.out, HBY.out⟩ (by kernel_rfl) ?_
              clear q0 q1 q2 q3 q4
              intro W ⟨g1, g2⟩ _
              obtain ⟨p0, p1, p2, p3, p4⟩ := g1.box.past
              have G1 := Lib.hid g1
              have G2 := Lib.hid g2
              clear g1 g2
              have l1 : (i : Int) ≤ (i3 : Int) := by omega
              have l2 : (i3 : Int) ≤ (s.size : Int) := by omega
              have C1 : Hid (∀ x : Past W, Calls Tryz.prog 51 #[.string (s.extract i i3)] x.w fun e w'' => e = .returned (.tuple #[.int .i64 num, .int .i64 nc]) ∧ ∃ y : Past W, w'' = y.w) :=
                Lib.hid fun x => past_same x ((T1.rnumber_any _ x.w (by unfold maxLen; rw [← T1.size_eq, sub_extract]; have := sub_len s i i3; omega)).mono (fun e w' h => ⟨by rw [h.1, sub_extract, hnc.out]; rfl, h.2⟩))
              repeat (go_big_quiet_step (first | with_reducible exact C1.out _))
              refine wpQuiet_nil ?_
              intro _ hw'
              obtain ⟨x, rfl⟩ := hw'
              have HPZ := Lib.hid (G1.out.kept x.b)
              have HBZ := Lib.hid (G2.out.trans ((Bes.of x.b).mono G2.out.size))
              clear p0 p1 p2 p3 p4 C1
              generalize x.w = wx at *
              rcases hfour.out with e0 | e4
              · have e1 : (nc != 0) = false := by rw [e0]; rfl
                have EE : Hid (intR s i = .ok (intT num, i3)) := Lib.hid (by rw [E3.out, if_pos e0])
                clear e0
                go_wp2_with fail
                refine bodyPost_ret (v := .int .i64 num) (by simp [results, Tryz.results30, go_sem]) rfl ⟨?_, HBZ.out⟩
                rw [EE.out]
                exact ⟨num, rfl, hsm.out, rfl, _, HPZ.out⟩
              · have e1 : (nc != 0) = true := by rw [e4]; rfl
                have EE : Hid (intR s i = .error (i, 4)) := Lib.hid (by rw [E3.out, if_neg (by omega), e4])
                clear e4
                go_wp2_with fail
                refine (qfail_any HPZ.out _ _).mono ?_
                rintro e w9 ⟨rfl, hp3, hb3⟩
                have HP9 := Lib.hid hp3
                have HB9 := Lib.hid (HBZ.out.trans (hb3.mono HBZ.out.size))
                clear hp3 hb3
                go_wp2_with fail
                refine bodyPost_ret (v := .int .i64 num) (by simp [results, Tryz.results30, go_sem]) rfl ⟨?_, HB9.out⟩
                rw [EE.out]
                exact ⟨⟨num, hsm.out, rfl⟩, _, HP9.out, show (4 : Int) ≠ 0 by decide⟩
            · rw [sk_in (by decide) hdj] at he
              have hlj := lt_of_in (set := dgL) (by decide) hdj
              have HE := Lib.hid he
              obtain ⟨q0, q1, q2, q3, q4⟩ := HP5.out.box.cells
              have f1 := HP5.out.box.frz 1
              have HPW : Hid (QS (w5.setCell ⟨p, 1, none⟩ (.int .i64 ((j : Int) + 1))) p s (j + 1) n 0 c0) := Lib.hid (by have := HP5.out.at1 (j := j + 1) (by omega); simpa using this)
              have HBW : Hid (Bes p w.heap.size w (w5.setCell ⟨p, 1, none⟩ (.int .i64 ((j : Int) + 1)))) := Lib.hid (HB5.out.set 1 _)
              have hm3 := Lib.hid (qm_on HPW.out)
              have hn48 := Lib.hid g48
              clear hdj he
              go_wp2_with fail
              go_roundw
              case rel => exact ⟨j + 1, HPW.out, by omega, by rw [if_neg (fun e => by have := hn48.out; rw [e] at this; simp at this)]; exact HE.out, HBW.out⟩
              case measure => rw [hm.out, hm3.out]; omega
  · have hcc : (((bt s i).toNat : Int) == 45) = false := u8_beq 45 hc
    go_wp2_with fail
    refine (qnext_any HP1.out).mono ?_
    rintro e w2 ⟨rfl, hb⟩
    have HB2 := Lib.hid (HB1.out.trans ((Bes.of hb).mono HB1.out.size))
    have HP2 := Lib.hid (HP1.out.kept hb)
    clear hb q0 q1 q2 q3 q4 f1
    go_wp2_with fail
    refine (qdigit_any (bt s (i)) w2).mono ?_
    rintro e w2' ⟨rfl, rfl⟩
    cases hd : isIn dgL (bt s i)
    · have HD : Hid (isIn dgL (bt s i) = false) := Lib.hid hd
      have E1 : Hid (intR s i = .error (i, 3)) := Lib.hid (by unfold intR; simp only; rw [if_neg hc, if_neg hc, if_neg (by rw [HD.out]; decide)])
      clear hd hc HD
      have HPX := HP2
      have HBX := HB2
      obtain ⟨q0, q1, q2, q3, q4⟩ := HPX.out.box.cells
      go_wp2_with fail
      refine (qfail_any HPX.out _ _).mono ?_
      rintro e w9 ⟨rfl, hp3, hb3⟩
      have HP9 := Lib.hid hp3
      have HB9 := Lib.hid (HBX.out.trans (hb3.mono HBX.out.size))
      clear hp3 hb3 q0 q1 q2 q3 q4
      go_wp2_with fail
      refine bodyPost_ret (v := .int .i64 0) (by simp [results, Tryz.results30, go_sem]) rfl ⟨?_, HB9.out⟩
      rw [E1.out]
      exact ⟨⟨0, by unfold small; omega, rfl⟩, i, HP9.out, show (3 : Int) ≠ 0 by decide⟩
    · have HD : Hid (isIn dgL (bt s i) = true) := Lib.hid hd
      have hlt : i < s.size := lt_of_in (set := dgL) (by decide) hd
      have E0 : Hid (intR s i = if (T1.numL (sub s i (if bt s i = 48 then i + 1 else sk dgL s (i + 1)))).2 = 0 then .ok (intT (T1.numL (sub s i (if bt s i = 48 then i + 1 else sk dgL s (i + 1)))).1, (if bt s i = 48 then i + 1 else sk dgL s (i + 1))) else .error (i, (T1.numL (sub s i (if bt s i = 48 then i + 1 else sk dgL s (i + 1)))).2)) := Lib.hid (by unfold intR; simp only; rw [if_neg hc, if_neg hc, if_pos HD.out])
      by_cases h48 : bt s i = 48
      · have g : (((bt s i).toNat : Int) == 48) = true := u8_beq' 48 h48
        clear hd h48
        go_wp2_with fail
        refine (qnext_any HP2.out).mono ?_
        rintro e w3 ⟨rfl, hb⟩
        have HBX := Lib.hid (HB2.out.trans ((Bes.of hb).mono HB2.out.size))
        have HPX := Lib.hid (HP2.out.kept hb)
        clear hb HP2 HB2
        obtain ⟨q0, q1, q2, q3, q4⟩ := HPX.out.box.cells
        obtain ⟨i3, hi3⟩ : ∃ k, k = (if bt s i = 48 then i + 1 else sk dgL s (i + 1)) := ⟨_, rfl⟩
        obtain ⟨num, hnum⟩ : ∃ k, k = (T1.numL (sub s i i3)).1 := ⟨_, rfl⟩
        obtain ⟨nc, hnc0⟩ : ∃ k, k = (T1.numL (sub s i i3)).2 := ⟨_, rfl⟩
        have hsm : Hid (small num) := Lib.hid (by have := T1.num_bounds (sub s i i3); rw [← hnum] at this; exact this)
        have hnc : Hid (T1.numL (sub s i i3) = (num, nc)) := Lib.hid (by rw [hnum, hnc0])
        have hfour : Hid (nc = 0 ∨ nc = 4) := Lib.hid (by rw [hnc0, hi3]; exact numL_four (dec_int (.inr ⟨hc, rfl, HD.out⟩)))
        have E3 : Hid (intR s i = if nc = 0 then .ok (intT num, i3) else .error (i, nc)) := Lib.hid (by rw [E0.out, ← hi3, hnc.out])
        have hi31 : i + 1 ≤ i3 := by rw [hi3]; have := sk_le dgL s (i + 1); split <;> omega
        have hi32 : i3 ≤ s.size := by rw [hi3]; have := sk_hi dgL s (i + 1) (by omega); split <;> omega
        have H3 := Lib.hid hi3
        have hsz : i < s.size := by omega
        clear hnum hnc0 hi3 hc HD
        go_wp2_with fail
        refine (qnext_any HPX.out).mono ?_
        rintro e w4 ⟨rfl, hb⟩
        have HB4 := Lib.hid (HBX.out.trans ((Bes.of hb).mono HBX.out.size))
        have HP4 := Lib.hid (HPX.out.kept hb)
        clear hb
        obtain ⟨q0, q1, q2, q3, q4⟩ := HP4.out.box.cells
        have f1 := HP4.out.box.frz 1
        have HPW : Hid (QS (w4.setCell ⟨p, 1, none⟩ (.int .i64 (((i : Nat) : Int) + 1))) p s (i + 1) n 0 c0) := Lib.hid (by have := HP4.out.at1 (j := i + 1) (by omega); simpa using this)
        have HBW : Hid (Bes p w.heap.size w (w4.setCell ⟨p, 1, none⟩ (.int .i64 (((i : Nat) : Int) + 1)))) := Lib.hid (HB4.out.set 1 _)
        go_wp2_with fail
        clear q0 q1 q2 q3 q4 f1
        go_loopw [] (fun wr => ∃ j : Nat, QS wr p s j n 0 c0 ∧ i + 1 ≤ j ∧ i3 = (if bt s i = 48 then j else sk dgL s j) ∧ Bes p w.heap.size w wr) (fun wr => qm s p wr)
        case atStart => exact ⟨i + 1, by simpa using HPW.out, Nat.le_refl _, H3.out, by simpa using HBW.out⟩
        case round =>
          obtain ⟨j, hp, hij, he, hb⟩ := hrel
          have HPJ := Lib.hid hp
          have HB := Lib.hid hb
          have hm := Lib.hid (qm_on hp)
          clear hp hb HPW HBW HP4 HB4 HPX HBX H3
          by_cases h48 : bt s i = 48
          · have g48 : (((bt s i).toNat : Int) != 48) = false := u8_bne' 48 h48
            rw [if_pos h48] at he
            subst he
            have HPY := HPJ
            have HBY := HB
            obtain ⟨q0, q1, q2, q3, q4⟩ := HPJ.out.box.cells
            clear h48
            go_wp2_with fail
            refine wp_region_past (fun W => QS W p s i3 n 0 c0 ∧ Bes p w.heap.size w W) ⟨HPY.out, HBY.out⟩ (by kernel_rfl) ?_
            clear q0 q1 q2 q3 q4
            intro W ⟨g1, g2⟩ _
            obtain ⟨p0, p1, p2, p3, p4⟩ := g1.box.past
            have G1 := Lib.hid g1
            have G2 := Lib.hid g2
            clear g1 g2
            have l1 : (i : Int) ≤ (i3 : Int) := by omega
            have l2 : (i3 : Int) ≤ (s.size : Int) := by omega
            have C1 : Hid (∀ x : Past W, Calls Tryz.prog 51 #[.string (s.extract i i3)] x.w fun e w'' => e = .returned (.tuple #[.int .i64 num, .int .i64 nc]) ∧ ∃ y : Past W, w'' = y.w) :=
              Lib.hid fun x => past_same x ((T1.rnumber_any _ x.w (by unfold maxLen; rw [← T1.size_eq, sub_extract]; have := sub_len s i i3; omega)).mono (fun e w' h => ⟨by rw [h.1, sub_extract, hnc.out]; rfl, h.2⟩))
            repeat (go_big_quiet_step (first | with_reducible exact C1.out _))
            refine wpQuiet_nil ?_
            intro _ hw'
            obtain ⟨x, rfl⟩ := hw'
            have HPZ := Lib.hid (G1.out.kept x.b)
            have HBZ := Lib.hid (G2.out.trans ((Bes.of x.b).mono G2.out.size))
            clear p0 p1 p2 p3 p4 C1
            generalize x.w = wx at *
            rcases hfour.out with e0 | e4
            · have e1 : (nc != 0) = false := by rw [e0]; rfl
              have EE : Hid (intR s i = .ok (intT num, i3)) := Lib.hid (by rw [E3.out, if_pos e0])
              clear e0
              go_wp2_with fail
              refine bodyPost_ret (v := .int .i64 num) (by simp [results, Tryz.results30, go_sem]) rfl ⟨?_, HBZ.out⟩
              rw [EE.out]
              exact ⟨num, rfl, hsm.out, rfl, _, HPZ.out⟩
            · have e1 : (nc != 0) = true := by rw [e4]; rfl
              have EE : Hid (intR s i = .error (i, 4)) := Lib.hid (by rw [E3.out, if_neg (by omega), e4])
              clear e4
              go_wp2_with fail
              refine (qfail_any HPZ.out _ _).mono ?_
              rintro e w9 ⟨rfl, hp3, hb3⟩
              have HP9 := Lib.hid hp3
              have HB9 := Lib.hid (HBZ.out.trans (hb3.mono HBZ.out.size))
              clear hp3 hb3
              go_wp2_with fail
              refine bodyPost_ret (v := .int .i64 num) (by simp [results, Tryz.results30, go_sem]) rfl ⟨?_, HB9.out⟩
              rw [EE.out]
              exact ⟨⟨num, hsm.out, rfl⟩, _, HP9.out, show (4 : Int) ≠ 0 by decide⟩
          · have g48 : (((bt s i).toNat : Int) != 48) = true := u8_bne 48 h48
            rw [if_neg h48] at he
            clear h48
            go_wp2_with fail
            refine (qnext_any HPJ.out).mono ?_
            rintro e w5 ⟨rfl, hb⟩
            have HB5 := Lib.hid (HB.out.trans ((Bes.of hb).mono HB.out.size))
            have HP5 := Lib.hid (HPJ.out.kept hb)
            clear hb
            go_wp2_with fail
            refine (qdigit_any (bt s j) w5).mono ?_
            rintro e w5' ⟨rfl, rfl⟩
            cases hdj : isIn dgL (bt s j)
            · rw [sk_out hdj] at he
              subst he
              have HPY := HP5
              have HBY := HB5
              obtain ⟨q0, q1, q2, q3, q4⟩ := HP5.out.box.cells
              clear hdj
              go_wp2_with fail
              refine wp_region_past (fun W => QS W p s i3 n 0 c0 ∧ Bes p w.heap.size w W) ⟨HPY.out, HBY.out⟩ (by kernel_rfl) ?_
              clear q0 q1 q2 q3 q4
              intro W ⟨g1, g2⟩ _
              obtain ⟨p0, p1, p2, p3, p4⟩ := g1.box.past
              have G1 := Lib.hid g1
              have G2 := Lib.hid g2
              clear g1 g2
              have l1 : (i : Int) ≤ (i3 : Int) := by omega
              have l2 : (i3 : Int) ≤ (s.size : Int) := by omega
              have C1 : Hid (∀ x : Past W, Calls Tryz.prog 51 #[.string (s.extract i i3)] x.w fun e w'' => e = .returned (.tuple #[.int .i64 num, .int .i64 nc]) ∧ ∃ y : Past W, w'' = y.w) :=
                Lib.hid fun x => past_same x ((T1.rnumber_any _ x.w (by unfold maxLen; rw [← T1.size_eq, sub_extract]; have := sub_len s i i3; omega)).mono (fun e w' h => ⟨by rw [h.1, sub_extract, hnc.out]; rfl, h.2⟩))
              repeat (go_big_quiet_step (first | with_reducible exact C1.out _))
              refine wpQuiet_nil ?_
              intro _ hw'
              obtain ⟨x, rfl⟩ := hw'
              have HPZ := Lib.hid (G1.out.kept x.b)
              have HBZ := Lib.hid (G2.out.trans ((Bes.of x.b).mono G2.out.size))
              clear p0 p1 p2 p3 p4 C1
              generalize x.w = wx at *
              rcases hfour.out with e0 | e4
              · have e1 : (nc != 0) = false := by rw [e0]; rfl
                have EE : Hid (intR s i = .ok (intT num, i3)) := Lib.hid (by rw [E3.out, if_pos e0])
                clear e0
                go_wp2_with fail
                refine bodyPost_ret (v := .int .i64 num) (by simp [results, Tryz.results30, go_sem]) rfl ⟨?_, HBZ.out⟩
                rw [EE.out]
                exact ⟨num, rfl, hsm.out, rfl, _, HPZ.out⟩
              · have e1 : (nc != 0) = true := by rw [e4]; rfl
                have EE : Hid (intR s i = .error (i, 4)) := Lib.hid (by rw [E3.out, if_neg (by omega), e4])
                clear e4
                go_wp2_with fail
                refine (qfail_any HPZ.out _ _).mono ?_
                rintro e w9 ⟨rfl, hp3, hb3⟩
                have HP9 := Lib.hid hp3
                have HB9 := Lib.hid (HBZ.out.trans (hb3.mono HBZ.out.size))
                clear hp3 hb3
                go_wp2_with fail
                refine bodyPost_ret (v := .int .i64 num) (by simp [results, Tryz.results30, go_sem]) rfl ⟨?_, HB9.out⟩
                rw [EE.out]
                exact ⟨⟨num, hsm.out, rfl⟩, _, HP9.out, show (4 : Int) ≠ 0 by decide⟩
            · rw [sk_in (by decide) hdj] at he
              have hlj := lt_of_in (set := dgL) (by decide) hdj
              have HE := Lib.hid he
              obtain ⟨q0, q1, q2, q3, q4⟩ := HP5.out.box.cells
              have f1 := HP5.out.box.frz 1
              have HPW : Hid (QS (w5.setCell ⟨p, 1, none⟩ (.int .i64 ((j : Int) + 1))) p s (j + 1) n 0 c0) := Lib.hid (by have := HP5.out.at1 (j := j + 1) (by omega); simpa using this)
              have HBW : Hid (Bes p w.heap.size w (w5.setCell ⟨p, 1, none⟩ (.int .i64 ((j : Int) + 1)))) := Lib.hid (HB5.out.set 1 _)
              have hm3 := Lib.hid (qm_on HPW.out)
              have hn48 := Lib.hid g48
              clear hdj he
              go_wp2_with fail
              go_roundw
              case rel => exact ⟨j + 1, HPW.out, by omega, by rw [if_neg (fun e => by have := hn48.out; rw [e] at this; simp at this)]; exact HE.out, HBW.out⟩
              case measure => rw [hm.out, hm3.out]; omega
      · have g : (((bt s i).toNat : Int) == 48) = false := u8_beq 48 h48
        clear hd h48
        go_wp2_with fail
        refine (qnext_any HP2.out).mono ?_
        rintro e w3 ⟨rfl, hb⟩
        have HBX := Lib.hid (HB2.out.trans ((Bes.of hb).mono HB2.out.size))
        have HPX := Lib.hid (HP2.out.kept hb)
        clear hb HP2 HB2
        obtain ⟨q0, q1, q2, q3, q4⟩ := HPX.out.box.cells
        obtain ⟨i3, hi3⟩ : ∃ k, k = (if bt s i = 48 then i + 1 else sk dgL s (i + 1)) := ⟨_, rfl⟩
        obtain ⟨num, hnum⟩ : ∃ k, k = (T1.numL (sub s i i3)).1 := ⟨_, rfl⟩
        obtain ⟨nc, hnc0⟩ : ∃ k, k = (T1.numL (sub s i i3)).2 := ⟨_, rfl⟩
        have hsm : Hid (small num) := Lib.hid (by have := T1.num_bounds (sub s i i3); rw [← hnum] at this; exact this)
        have hnc : Hid (T1.numL (sub s i i3) = (num, nc)) := Lib.hid (by rw [hnum, hnc0])
        have hfour : Hid (nc = 0 ∨ nc = 4) := Lib.hid (by rw [hnc0, hi3]; exact numL_four (dec_int (.inr ⟨hc, rfl, HD.out⟩)))
        have E3 : Hid (intR s i = if nc = 0 then .ok (intT num, i3) else .error (i, nc)) := Lib.hid (by rw [E0.out, ← hi3, hnc.out])
        have hi31 : i + 1 ≤ i3 := by rw [hi3]; have := sk_le dgL s (i + 1); split <;> omega
        have hi32 : i3 ≤ s.size := by rw [hi3]; have := sk_hi dgL s (i + 1) (by omega); split <;> omega
        have H3 := Lib.hid hi3
        have hsz : i < s.size := by omega
        clear hnum hnc0 hi3 hc HD
        go_wp2_with fail
        refine (qnext_any HPX.out).mono ?_
        rintro e w4 ⟨rfl, hb⟩
        have HB4 := Lib.hid (HBX.out.trans ((Bes.of hb).mono HBX.out.size))
        have HP4 := Lib.hid (HPX.out.kept hb)
        clear hb
        obtain ⟨q0, q1, q2, q3, q4⟩ := HP4.out.box.cells
        have f1 := HP4.out.box.frz 1
        have HPW : Hid (QS (w4.setCell ⟨p, 1, none⟩ (.int .i64 (((i : Nat) : Int) + 1))) p s (i + 1) n 0 c0) := Lib.hid (by have := HP4.out.at1 (j := i + 1) (by omega); simpa using this)
        have HBW : Hid (Bes p w.heap.size w (w4.setCell ⟨p, 1, none⟩ (.int .i64 (((i : Nat) : Int) + 1)))) := Lib.hid (HB4.out.set 1 _)
        go_wp2_with fail
        clear q0 q1 q2 q3 q4 f1
        go_loopw [] (fun wr => ∃ j : Nat, QS wr p s j n 0 c0 ∧ i + 1 ≤ j ∧ i3 = (if bt s i = 48 then j else sk dgL s j) ∧ Bes p w.heap.size w wr) (fun wr => qm s p wr)
        case atStart => exact ⟨i + 1, by simpa using HPW.out, Nat.le_refl _, H3.out, by simpa using HBW.out⟩
        case round =>
          obtain ⟨j, hp, hij, he, hb⟩ := hrel
          have HPJ := Lib.hid hp
          have HB := Lib.hid hb
          have hm := Lib.hid (qm_on hp)
          clear hp hb HPW HBW HP4 HB4 HPX HBX H3
          by_cases h48 : bt s i = 48
          · have g48 : (((bt s i).toNat : Int) != 48) = false := u8_bne' 48 h48
            rw [if_pos h48] at he
            subst he
            have HPY := HPJ
            have HBY := HB
            obtain ⟨q0, q1, q2, q3, q4⟩ := HPJ.out.box.cells
            clear h48
            go_wp2_with fail
            refine wp_region_past (fun W => QS W p s i3 n 0 c0 ∧ Bes p w.heap.size w W) ⟨HPY.out, HBY.out⟩ (by kernel_rfl) ?_
            clear q0 q1 q2 q3 q4
            intro W ⟨g1, g2⟩ _
            obtain ⟨p0, p1, p2, p3, p4⟩ := g1.box.past
            have G1 := Lib.hid g1
            have G2 := Lib.hid g2
            clear g1 g2
            have l1 : (i : Int) ≤ (i3 : Int) := by omega
            have l2 : (i3 : Int) ≤ (s.size : Int) := by omega
            have C1 : Hid (∀ x : Past W, Calls Tryz.prog 51 #[.string (s.extract i i3)] x.w fun e w'' => e = .returned (.tuple #[.int .i64 num, .int .i64 nc]) ∧ ∃ y : Past W, w'' = y.w) :=
              Lib.hid fun x => past_same x ((T1.rnumber_any _ x.w (by unfold maxLen; rw [← T1.size_eq, sub_extract]; have := sub_len s i i3; omega)).mono (fun e w' h => ⟨by rw [h.1, sub_extract, hnc.out]; rfl, h.2⟩))
            repeat (go_big_quiet_step (first | with_reducible exact C1.out _))
            refine wpQuiet_nil ?_
            intro _ hw'
            obtain ⟨x, rfl⟩ := hw'
            have HPZ := Lib.hid (G1.out.kept x.b)
            have HBZ := Lib.hid (G2.out.trans ((Bes.of x.b).mono G2.out.size))
            clear p0 p1 p2 p3 p4 C1
            generalize x.w = wx at *
            rcases hfour.out with e0 | e4
            · have e1 : (nc != 0) = false := by rw [e0]; rfl
              have EE : Hid (intR s i = .ok (intT num, i3)) := Lib.hid (by rw [E3.out, if_pos e0])
              clear e0
              go_wp2_with fail
              refine bodyPost_ret (v := .int .i64 num) (by simp [results, Tryz.results30, go_sem]) rfl ⟨?_, HBZ.out⟩
              rw [EE.out]
              exact ⟨num, rfl, hsm.out, rfl, _, HPZ.out⟩
            · have e1 : (nc != 0) = true := by rw [e4]; rfl
              have EE : Hid (intR s i = .error (i, 4)) := Lib.hid (by rw [E3.out, if_neg (by omega), e4])
              clear e4
              go_wp2_with fail
              refine (qfail_any HPZ.out _ _).mono ?_
              rintro e w9 ⟨rfl, hp3, hb3⟩
              have HP9 := Lib.hid hp3
              have HB9 := Lib.hid (HBZ.out.trans (hb3.mono HBZ.out.size))
              clear hp3 hb3
              go_wp2_with fail
              refine bodyPost_ret (v := .int .i64 num) (by simp [results, Tryz.results30, go_sem]) rfl ⟨?_, HB9.out⟩
              rw [EE.out]
              exact ⟨⟨num, hsm.out, rfl⟩, _, HP9.out, show (4 : Int) ≠ 0 by decide⟩
          · have g48 : (((bt s i).toNat : Int) != 48) = true := u8_bne 48 h48
            rw [if_neg h48] at he
            clear h48
            go_wp2_with fail
            refine (qnext_any HPJ.out).mono ?_
            rintro e w5 ⟨rfl, hb⟩
            have HB5 := Lib.hid (HB.out.trans ((Bes.of hb).mono HB.out.size))
            have HP5 := Lib.hid (HPJ.out.kept hb)
            clear hb
            go_wp2_with fail
            refine (qdigit_any (bt s j) w5).mono ?_
            rintro e w5' ⟨rfl, rfl⟩
            cases hdj : isIn dgL (bt s j)
            · rw [sk_out hdj] at he
              subst he
              have HPY := HP5
              have HBY := HB5
              obtain ⟨q0, q1, q2, q3, q4⟩ := HP5.out.box.cells
              clear hdj
              go_wp2_with fail
              refine wp_region_past (fun W => QS W p s i3 n 0 c0 ∧ Bes p w.heap.size w W) ⟨HPY.out, HBY.out⟩ (by kernel_rfl) ?_
              clear q0 q1 q2 q3 q4
              intro W ⟨g1, g2⟩ _
              obtain ⟨p0, p1, p2, p3, p4⟩ := g1.box.past
              have G1 := Lib.hid g1
              have G2 := Lib.hid g2
              clear g1 g2
              have l1 : (i : Int) ≤ (i3 : Int) := by omega
              have l2 : (i3 : Int) ≤ (s.size : Int) := by omega
              have C1 : Hid (∀ x : Past W, Calls Tryz.prog 51 #[.string (s.extract i i3)] x.w fun e w'' => e = .returned (.tuple #[.int .i64 num, .int .i64 nc]) ∧ ∃ y : Past W, w'' = y.w) :=
                Lib.hid fun x => past_same x ((T1.rnumber_any _ x.w (by unfold maxLen; rw [← T1.size_eq, sub_extract]; have := sub_len s i i3; omega)).mono (fun e w' h => ⟨by rw [h.1, sub_extract, hnc.out]; rfl, h.2⟩))
              repeat (go_big_quiet_step (first | with_reducible exact C1.out _))
              refine wpQuiet_nil ?_
              intro _ hw'
              obtain ⟨x, rfl⟩ := hw'
              have HPZ := Lib.hid (G1.out.kept x.b)
              have HBZ := Lib.hid (G2.out.trans ((Bes.of x.b).mono G2.out.size))
              clear p0 p1 p2 p3 p4 C1
              generalize x.w = wx at *
              rcases hfour.out with e0 | e4
              · have e1 : (nc != 0) = false := by rw [e0]; rfl
                have EE : Hid (intR s i = .ok (intT num, i3)) := Lib.hid (by rw [E3.out, if_pos e0])
                clear e0
                go_wp2_with fail
                refine bodyPost_ret (v := .int .i64 num) (by simp [results, Tryz.results30, go_sem]) rfl ⟨?_, HBZ.out⟩
                rw [EE.out]
                exact ⟨num, rfl, hsm.out, rfl, _, HPZ.out⟩
              · have e1 : (nc != 0) = true := by rw [e4]; rfl
                have EE : Hid (intR s i = .error (i, 4)) := Lib.hid (by rw [E3.out, if_neg (by omega), e4])
                clear e4
                go_wp2_with fail
                refine (qfail_any HPZ.out _ _).mono ?_
                rintro e w9 ⟨rfl, hp3, hb3⟩
                have HP9 := Lib.hid hp3
                have HB9 := Lib.hid (HBZ.out.trans (hb3.mono HBZ.out.size))
                clear hp3 hb3
                go_wp2_with fail
                refine bodyPost_ret (v := .int .i64 num) (by simp [results, Tryz.results30, go_sem]) rfl ⟨?_, HB9.out⟩
                rw [EE.out]
                exact ⟨⟨num, hsm.out, rfl⟩, _, HP9.out, show (4 : Int) ≠ 0 by decide⟩
            · rw [sk_in (by decide) hdj] at he
              have hlj := lt_of_in (set := dgL) (by decide) hdj
              have HE := Lib.hid he
              obtain ⟨q0, q1, q2, q3, q4⟩ := HP5.out.box.cells
              have f1 := HP5.out.box.frz 1
              have HPW : Hid (QS (w5.setCell ⟨p, 1, none⟩ (.int .i64 ((j : Int) + 1))) p s (j + 1) n 0 c0) := Lib.hid (by have := HP5.out.at1 (j := j + 1) (by omega); simpa using this)
              have HBW : Hid (Bes p w.heap.size w (w5.setCell ⟨p, 1, none⟩ (.int .i64 ((j : Int) + 1)))) := Lib.hid (HB5.out.set 1 _)
              have hm3 := Lib.hid (qm_on HPW.out)
              have hn48 := Lib.hid g48
              clear hdj he
              go_wp2_with fail
              go_roundw
              case rel => exact ⟨j + 1, HPW.out, by omega, by rw [if_neg (fun e => by have := hn48.out; rw [e] at this; simp at this)]; exact HE.out, HBW.out⟩
              case measure => rw [hm.out, hm3.out]; omega
end Go.Proofs.YtcbajgcblfgmgaaGreatDoor
