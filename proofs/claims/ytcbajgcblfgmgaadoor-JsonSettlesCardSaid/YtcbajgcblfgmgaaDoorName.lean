
/-
  Contracts of Name in both packages.
-/
import Derived.Test.YtcbajgcblfgmgaaDoorBase
namespace Go.Proofs.YtcbajgcblfgmgaaDoor
open Go.RowKit
def digB (n : Int) : Bool := decide (48 ≤ n) && decide (n ≤ 57)
def letB (n : Int) : Bool := (decide (97 ≤ n) && decide (n ≤ 122)) || (decide (65 ≤ n) && decide (n ≤ 90))
def nmB (n : Int) : Bool := letB n || digB n || n == 95
theorem isDigit_any (n : Int) (w : World) (h0 : 0 ≤ n) (h1 : n ≤ 255) :
    Calls Tryd.prog 55 #[.int .u8 n] w fun e w' => e = .returned (.bool (digB n)) ∧ w = w' := by
  go_enter Tryd.func55, Tryd.ntmps55
  go_wp2
  all_goals go_ret
  all_goals (simp [digB, *]; try omega)
theorem isLetter_any (n : Int) (w : World) (h0 : 0 ≤ n) (h1 : n ≤ 255) :
    Calls Tryd.prog 65 #[.int .u8 n] w fun e w' => e = .returned (.bool (letB n)) ∧ w = w' := by
  go_enter Tryd.func65, Tryd.ntmps65
  go_wp2
  all_goals go_ret
  all_goals simp [letB, *]
  all_goals omega
theorem isNamePart_any (n : Int) (w : World) (h0 : 0 ≤ n) (h1 : n ≤ 255) :
    Calls Tryd.prog 56 #[.int .u8 n] w fun e w' => e = .returned (.bool (nmB n)) ∧ w = w' := by
  go_enter Tryd.func56, Tryd.ntmps56
  go_wp2_with (first | (go_at_call 65; refine (isLetter_any _ _ (by omega) (by omega)).mono ?_; rintro e w' ⟨rfl, rfl⟩) | (go_at_call 55; refine (isDigit_any _ _ (by omega) (by omega)).mono ?_; rintro e w' ⟨rfl, rfl⟩))
  all_goals go_ret
  all_goals simp [nmB, *]
def allNm (l : List UInt8) : Bool := l.all fun c => nmB (c.toNat : Int)
def nameL (l : List UInt8) : Bool := !l.isEmpty && decide (l.length ≤ 64) && !digB ((l.getD 0 0).toNat : Int) && allNm l

theorem all_of_at (l : List UInt8) (p : UInt8 → Bool) (k : Nat) (h : k < l.length) (hp : p l[k] = false) : l.all p = false := by
  rw [List.all_eq_false]; exact ⟨l[k], List.getElem_mem h, by simp [hp]⟩
theorem all_take_succ (l : List UInt8) (p : UInt8 → Bool) (k : Nat) (h : k < l.length) (ha : (l.take k).all p = true) (hp : p l[k] = true) : (l.take (k+1)).all p = true := by
  rw [take_snoc l k h, List.all_append, ha]; simp [hp]
theorem name_empty (s : ByteArray) (w : World) (h : s.toList = []) :
    Calls Tryd.prog 38 #[.string s] w fun e w' => e = .returned (.bool false) ∧ w = w' := by
  go_enter Tryd.func38, Tryd.ntmps38
  go_wp2_with fail
  go_ret
  exact ⟨rfl, rfl⟩
theorem name_long (s : ByteArray) (w : World) (hs : s.size ≤ maxLen) (h : 64 < s.size) :
    Calls Tryd.prog 38 #[.string s] w fun e w' => e = .returned (.bool false) ∧ w = w' := by
  unfold maxLen at hs
  have h2 : s.toList.isEmpty = false := isEmpty_of (by omega)
  have h3 : s.toList ≠ [] := ne_nil_of (by omega)
  go_enter Tryd.func38, Tryd.ntmps38
  go_wp2_with fail
  go_ret
  exact ⟨rfl, rfl⟩
theorem name_digit (s : ByteArray) (w : World) (h0 : 0 < s.size) (h : s.size ≤ 64) (hd : digB s[0].toNat = true) :
    Calls Tryd.prog 38 #[.string s] w fun e w' => e = .returned (.bool false) ∧ w = w' := by
  have h2 : s.toList.isEmpty = false := isEmpty_of (by omega)
  have h3 : s.toList ≠ [] := ne_nil_of (by omega)
  have hb := byte_lt s[0]
  go_enter Tryd.func38, Tryd.ntmps38
  go_wp2_with (go_at_call 55; refine (isDigit_any _ _ (by omega) (by omega)).mono ?_; rintro e w' ⟨rfl, rfl⟩)
  go_ret
  exact ⟨rfl, rfl⟩
theorem name_loop (s : ByteArray) (w : World) (h0 : 0 < s.size) (h : s.size ≤ 64) (hd : digB s[0].toNat = false) :
    Calls Tryd.prog 38 #[.string s] w fun e w' => e = .returned (.bool (allNm s.data.toList)) ∧ w = w' := by
  have h2 : s.toList.isEmpty = false := isEmpty_of (by omega)
  have h3 : s.toList ≠ [] := ne_nil_of (by omega)
  have hb := byte_lt s[0]
  go_enter Tryd.func38, Tryd.ntmps38
  go_wp2_with (go_at_call 55; refine (isDigit_any _ _ (by omega) (by omega)).mono ?_; rintro e w' ⟨rfl, rfl⟩)
  go_loop [3] (fun i => ∃ k : Nat, k ≤ s.size ∧ i = .int .i64 k ∧ (s.data.toList.take k).all (fun c => nmB (c.toNat : Int)) = true) (fun i => s.size - (intOf i).toNat)
  case atStart => exact ⟨0, Nat.zero_le _, rfl, rfl⟩
  case round =>
    obtain ⟨k, hk, rfl, hall⟩ := hrel
    have HA := Lib.hid hall
    clear hall
    by_cases hlt : k < s.size
    · have hbk := byte_lt s[k]
      have e : s.data.toList[k]'(by simpa using hlt) = s[k] := rfl
      cases hn : nmB (s[k].toNat : Int)
      · have H1 : Hid (allNm s.data.toList = false) := Lib.hid (all_of_at s.data.toList (fun c => nmB (c.toNat : Int)) k (by simpa using hlt) hn)
        clear e
        go_wp2_with (go_at_call 56; refine (isNamePart_any _ _ (by omega) (by omega)).mono ?_; rintro e w' ⟨rfl, rfl⟩)
        go_ret
        exact ⟨by rw [H1.out]; rfl, rfl⟩
      · have H1 := Lib.hid (all_take_succ s.data.toList (fun c => nmB (c.toNat : Int)) k (by simpa using hlt) HA.out hn)
        clear e
        go_wp2_with (go_at_call 56; refine (isNamePart_any _ _ (by omega) (by omega)).mono ?_; rintro e w' ⟨rfl, rfl⟩)
        go_round
        case rel => exact ⟨k + 1, by omega, by go_num, H1.out⟩
        case measure => simp [intOf]; omega
    · have H1 : Hid (allNm s.data.toList = true) := by
        have := HA.out
        rw [List.take_of_length_le (by simp; omega)] at this
        exact Lib.hid this
      go_wp2
      go_ret
      exact ⟨by rw [H1.out]; rfl, rfl⟩
theorem name_any (s : ByteArray) (w : World) (hs : s.size ≤ maxLen) :
    Calls Tryd.prog 38 #[.string s] w fun e w' => e = .returned (.bool (nameL s.data.toList)) ∧ w = w' := by
  have hl := size_eq s
  by_cases h0 : s.size = 0
  · have e : s.data.toList = [] := List.eq_nil_of_length_eq_zero (by omega)
    rw [e]; exact name_empty s w (nil_of h0)
  have hne : s.data.toList.isEmpty = false := by
    rw [← Lib.toList_data]; exact isEmpty_of (by omega)
  by_cases h1 : 64 < s.size
  · have e : nameL s.data.toList = false := by unfold nameL; rw [hl]; simp; omega
    rw [e]; exact name_long s w hs h1
  have e0 : s.data.toList.getD 0 0 = s[0]'(by omega) := by
    rw [List.getD_eq_getElem?_getD, List.getElem?_eq_getElem (by omega)]; rfl
  cases hd : digB ((s[0]'(by omega)).toNat : Int)
  · have e : nameL s.data.toList = allNm s.data.toList := by
      unfold nameL; rw [e0, hd, hne, hl]; simp; omega
    rw [e]; exact name_loop s w (by omega) (by omega) hd
  · have e : nameL s.data.toList = false := by unfold nameL; rw [e0, hd]; simp
    rw [e]; exact name_digit s w (by omega) (by omega) hd
def letU (n : Int) : Bool := letB n || n == 95
theorem nm_of (n : Int) : nmB n = (letU n || digB n) := by unfold nmB letU; cases letB n <;> cases digB n <;> simp
def HeadOk (l : List UInt8) (k : Nat) : Prop := allNm (l.take k) = true ∧ (0 < k → digB ((l.getD 0 0).toNat : Int) = false)
theorem headOk_zero (l : List UInt8) : HeadOk l 0 := ⟨rfl, fun h => absurd h (by omega)⟩
theorem headOk_succ {l : List UInt8} {k : Nat} (h : HeadOk l k) (hk : k < l.length) (h1 : nmB (l[k].toNat : Int) = true) (h2 : k = 0 → digB (l[k].toNat : Int) = false) : HeadOk l (k + 1) := by
  refine ⟨all_take_succ l (fun c => nmB (c.toNat : Int)) k hk h.1 h1, fun _ => ?_⟩
  by_cases e : k = 0
  · subst e; rw [List.getD_eq_getElem?_getD, List.getElem?_eq_getElem hk]; exact h2 rfl
  · exact h.2 (by omega)
theorem headOk_end {l : List UInt8} (h : HeadOk l l.length) (h0 : 0 < l.length) (h1 : l.length ≤ 64) : nameL l = true := by
  unfold nameL
  have e := h.1
  rw [List.take_length] at e
  rw [h.2 h0, e]
  cases l with
  | nil => simp at h0
  | cons a l => simp at h1 ⊢; omega
theorem name_no_at {l : List UInt8} {k : Nat} (hk : k < l.length) (h : nmB (l[k].toNat : Int) = false) : nameL l = false := by
  unfold nameL
  rw [show allNm l = false from all_of_at l (fun c => nmB (c.toNat : Int)) k hk h]; simp
theorem name_no_head {l : List UInt8} (hk : 0 < l.length) (h : digB (l[0].toNat : Int) = true) : nameL l = false := by
  unfold nameL
  rw [List.getD_eq_getElem?_getD, List.getElem?_eq_getElem hk, Option.getD_some, h]; simp
end Go.Proofs.YtcbajgcblfgmgaaDoor
