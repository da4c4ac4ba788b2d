
/-
  Contracts of the reference package of layer 1: single bytes, names, literals.
-/
import Derived.Test.YtgicbmibhnnflaaGreatDoorTextQuote
namespace Go.Proofs.YtgicbmibhnnflaaGreatDoor.T1
open Go.RowKit
def letU (n : Int) : Bool := letB n || n == 95
theorem rdigit_any (n : Int) (w : World) (h0 : 0 ≤ n) (h1 : n ≤ 255) :
    Calls Tryz.prog 62 #[.int .u8 n] w fun e w' => e = .returned (.bool (digB n)) ∧ w = w' := by
  go_enter Tryz.func62, Tryz.ntmps62
  go_wp2
  all_goals go_ret
  all_goals (simp [digB, *]; try omega)
theorem rletter_any (n : Int) (w : World) (h0 : 0 ≤ n) (h1 : n ≤ 255) :
    Calls Tryz.prog 61 #[.int .u8 n] w fun e w' => e = .returned (.bool (letU n)) ∧ w = w' := by
  go_enter Tryz.func61, Tryz.ntmps61
  go_wp2
  all_goals go_ret
  all_goals refine ⟨congrArg Ending.returned (congrArg Value.bool ?_), rfl⟩
  all_goals (rw [Bool.eq_iff_iff]; simp [letU, letB, *]; try omega)
theorem rname_short (s : ByteArray) (w : World) (h : s.size = 0) :
    Calls Tryz.prog 45 #[.string s] w fun e w' => e = .returned (.bool false) ∧ w = w' := by
  have h' : (s.size : Int) < 1 := by omega
  clear h
  go_enter Tryz.func45, Tryz.ntmps45
  go_wp2_with fail
  go_ret
  exact ⟨rfl, rfl⟩
theorem rname_long (s : ByteArray) (w : World) (hs : s.size ≤ maxLen) (h : 64 < s.size) :
    Calls Tryz.prog 45 #[.string s] w fun e w' => e = .returned (.bool false) ∧ w = w' := by
  unfold maxLen at hs
  go_enter Tryz.func45, Tryz.ntmps45
  go_wp2_with fail
  go_ret
  exact ⟨rfl, rfl⟩
theorem nm_of (n : Int) : nmB n = (letU n || digB n) := by unfold nmB letU; cases letB n <;> cases digB n <;> simp
def HeadOk (l : List UInt8) (k : Nat) : Prop := allNm (l.take k) = true ∧ (0 < k → digB ((l.getD 0 0).toNat : Int) = false)
theorem headOk_zero (l : List UInt8) : HeadOk l 0 := ⟨rfl, fun h => absurd h (by omega)⟩
theorem headOk_succ {l : List UInt8} {k : Nat} (h : HeadOk l k) (hk : k < l.length) (h1 : nmB (l[k].toNat : Int) = true) (h2 : k = 0 → digB (l[k].toNat : Int) = false) : HeadOk l (k + 1) := by
  refine ⟨all_take_succ l (fun c => nmB (c.toNat : Int)) k hk h.1 h1, fun _ => ?_⟩
  by_cases e : k = 0
  · subst e; rw [List.getD_eq_getElem?_getD, List.getElem?_eq_getElem hk]; exact h2 rfl
  · exact h.2 (by omega)
theorem headOk_end {l : List UInt8} (h : HeadOk l l.length) (h0 : 0 < l.length) (h1 : l.length ≤ 64) : nameL l = true := by
  unfold nameL
  have e := h.1
  rw [List.take_length] at e
  rw [h.2 h0, e]
  cases l with
  | nil => simp at h0
  | cons a l => simp at h1 ⊢; omega
theorem name_no_at {l : List UInt8} {k : Nat} (hk : k < l.length) (h : nmB (l[k].toNat : Int) = false) : nameL l = false := by
  unfold nameL
  rw [show allNm l = false from all_of_at l (fun c => nmB (c.toNat : Int)) k hk h]; simp
theorem name_no_head {l : List UInt8} (hk : 0 < l.length) (h : digB (l[0].toNat : Int) = true) : nameL l = false := by
  unfold nameL
  rw [List.getD_eq_getElem?_getD, List.getElem?_eq_getElem hk, Option.getD_some, h]; simp
theorem rname_loop (s : ByteArray) (w : World) (h0 : 0 < s.size) (h : s.size ≤ 64) :
    Calls Tryz.prog 45 #[.string s] w fun e w' => e = .returned (.bool (nameL s.data.toList)) ∧ w = w' := by
  have hl := Lib.hid (size_eq s)
  go_enter Tryz.func45, Tryz.ntmps45
  go_wp2_with fail
  go_loop [3] (fun i => ∃ k : Nat, k ≤ s.size ∧ i = .int .i64 k ∧ HeadOk s.data.toList k) (fun i => s.size - (intOf i).toNat)
  case atStart => exact ⟨0, Nat.zero_le _, rfl, headOk_zero _⟩
  case round =>
    obtain ⟨k, hk, rfl, hH⟩ := hrel
    by_cases hlt : k < s.size
    · have hbk := byte_lt s[k]
      have hlk : k < s.data.toList.length := by rw [hl.out]; exact hlt
      cases n1 : letU (s[k].toNat : Int)
      · cases n2 : digB (s[k].toNat : Int)
        · have H2 : Hid (nameL s.data.toList = false) := Lib.hid (name_no_at hlk (by show nmB (s[k].toNat : Int) = false; rw [nm_of, n1, n2]; rfl))
          go_wp2_with (first | (go_at_call 61; refine (rletter_any _ _ (by omega) (by omega)).mono ?_; rintro e w' ⟨rfl, rfl⟩) | (go_at_call 62; refine (rdigit_any _ _ (by omega) (by omega)).mono ?_; rintro e w' ⟨rfl, rfl⟩))
          all_goals go_ret
          all_goals exact ⟨by rw [H2.out]; rfl, rfl⟩
        · by_cases hd : k = 0
          · subst hd
            have H2 : Hid (nameL s.data.toList = false) := Lib.hid (name_no_head hlk n2)
            go_wp2_with (first | (go_at_call 61; refine (rletter_any _ _ (by omega) (by omega)).mono ?_; rintro e w' ⟨rfl, rfl⟩) | (go_at_call 62; refine (rdigit_any _ _ (by omega) (by omega)).mono ?_; rintro e w' ⟨rfl, rfl⟩))
            all_goals go_ret
            all_goals exact ⟨by rw [H2.out]; rfl, rfl⟩
          · have hd' : ((k : Int) == 0) = false := by rw [beq_eq_false_iff_ne]; omega
            have H3 := Lib.hid (headOk_succ hH hlk (by show nmB (s[k].toNat : Int) = true; rw [nm_of, n1, n2]; rfl) (fun e => absurd e hd))
            clear hH
            go_wp2_with (first | (go_at_call 61; refine (rletter_any _ _ (by omega) (by omega)).mono ?_; rintro e w' ⟨rfl, rfl⟩) | (go_at_call 62; refine (rdigit_any _ _ (by omega) (by omega)).mono ?_; rintro e w' ⟨rfl, rfl⟩))
            go_round
            case rel => exact ⟨k + 1, by omega, by go_num, H3.out⟩
            case measure => simp [intOf]; omega
      · have hnd : digB (s[k].toNat : Int) = false := by
          unfold letU letB at n1; unfold digB; simp at n1 ⊢; omega
        have H3 := Lib.hid (headOk_succ hH hlk (by show nmB (s[k].toNat : Int) = true; rw [nm_of, n1]; rfl) (fun _ => hnd))
        clear hH hnd
        go_wp2_with (go_at_call 61; refine (rletter_any _ _ (by omega) (by omega)).mono ?_; rintro e w' ⟨rfl, rfl⟩)
        go_round
        case rel => exact ⟨k + 1, by omega, by go_num, H3.out⟩
        case measure => simp [intOf]; omega
    · obtain rfl : k = s.size := by omega
      have H1 : Hid (nameL s.data.toList = true) := Lib.hid (headOk_end (by rw [hl.out]; exact hH) (by rw [hl.out]; exact h0) (by rw [hl.out]; exact h))
      go_wp2
      go_ret
      exact ⟨by rw [H1.out]; rfl, rfl⟩
theorem rname_any (s : ByteArray) (w : World) (hs : s.size ≤ maxLen) :
    Calls Tryz.prog 45 #[.string s] w fun e w' => e = .returned (.bool (nameL s.data.toList)) ∧ w = w' := by
  have hl := size_eq s
  by_cases h0 : s.size = 0
  · have e : s.data.toList = [] := List.eq_nil_of_length_eq_zero (by omega)
    rw [e]; exact rname_short s w h0
  by_cases h1 : 64 < s.size
  · have e : nameL s.data.toList = false := by unfold nameL; rw [hl]; simp; omega
    rw [e]; exact rname_long s w hs h1
  exact rname_loop s w (by omega) (by omega)
theorem hp2 : ∀ (l : List UInt8) (h : 2 ≤ l.length), Lib.hasPrefix l [95, 95] = (((l[0]'(by omega)).toNat : Int) == 95 && ((l[1]'(by omega)).toNat : Int) == 95)
  | a :: b :: r, _ => by
    unfold Lib.hasPrefix
    rw [Bool.eq_iff_iff]
    simp only [List.isPrefixOf, Bool.and_true, Bool.and_eq_true, beq_iff_eq, List.getElem_cons_zero, List.getElem_cons_succ]
    constructor
    · rintro ⟨rfl, rfl⟩; exact ⟨rfl, rfl⟩
    · rintro ⟨ha, hb⟩
      exact ⟨(UInt8.toNat_inj.1 (by have : (95 : UInt8).toNat = 95 := rfl; omega)).symm, (UInt8.toNat_inj.1 (by have : (95 : UInt8).toNat = 95 := rfl; omega)).symm⟩
  | [_], h => absurd h (by simp)
  | [], h => absurd h (by simp)
theorem hp2_short : ∀ (l : List UInt8) (_ : l.length < 2), Lib.hasPrefix l [95, 95] = false
  | _ :: _ :: r, h => absurd h (by simp)
  | [_], _ => by unfold Lib.hasPrefix; simp [List.isPrefixOf]
  | [], _ => rfl
end Go.Proofs.YtgicbmibhnnflaaGreatDoor.T1
