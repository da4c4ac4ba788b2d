
/-
  Contracts of the reference package of layer 1: the string that a literal represents.
-/
import Derived.Test.YtgicbmibhnnflaaGreatDoorTextUnquote2
namespace Go.Proofs.YtgicbmibhnnflaaGreatDoor.T1
open Go.RowKit
theorem rvalue_dig (n : Int) (w : World) (a : 48 ≤ n) (b : n ≤ 57) (h0 : 0 ≤ n) (h1 : n ≤ 255) :
    Calls Tryz.prog 117 #[.int .u8 n] w fun e w' => e = .returned (.int .i64 (hexV n)) ∧ w = w' := by
  have e1 : Hid (hexV n = n - 48) := Lib.hid (by unfold hexV; omega)
  have e2 : digB n = true := by unfold digB; simp; omega
  go_enter Tryz.func117, Tryz.ntmps117
  go_wp2_with (go_at_call 62; refine (rdigit_any _ _ (by omega) (by omega)).mono ?_; rintro e w' ⟨rfl, rfl⟩)
  go_ret
  exact ⟨by rw [e1.out]; rfl, rfl⟩
theorem rvalue_lo (n : Int) (w : World) (a : 97 ≤ n) (b : n ≤ 102) (h0 : 0 ≤ n) (h1 : n ≤ 255) :
    Calls Tryz.prog 117 #[.int .u8 n] w fun e w' => e = .returned (.int .i64 (hexV n)) ∧ w = w' := by
  have e1 : Hid (hexV n = n - 87) := Lib.hid (by unfold hexV; omega)
  have e2 : digB n = false := by unfold digB; simp; omega
  go_enter Tryz.func117, Tryz.ntmps117
  go_wp2_with (go_at_call 62; refine (rdigit_any _ _ (by omega) (by omega)).mono ?_; rintro e w' ⟨rfl, rfl⟩)
  go_ret
  exact ⟨by rw [e1.out]; rfl, rfl⟩
theorem rvalue_up (n : Int) (w : World) (a : 65 ≤ n) (b : n ≤ 70) (h0 : 0 ≤ n) (h1 : n ≤ 255) :
    Calls Tryz.prog 117 #[.int .u8 n] w fun e w' => e = .returned (.int .i64 (hexV n)) ∧ w = w' := by
  have e1 : Hid (hexV n = n - 55) := Lib.hid (by unfold hexV; omega)
  have e2 : digB n = false := by unfold digB; simp; omega
  go_enter Tryz.func117, Tryz.ntmps117
  go_wp2_with (go_at_call 62; refine (rdigit_any _ _ (by omega) (by omega)).mono ?_; rintro e w' ⟨rfl, rfl⟩)
  go_ret
  exact ⟨by rw [e1.out]; rfl, rfl⟩
theorem rvalue_n1 (n : Int) (w : World) (a : n < 48) (h0 : 0 ≤ n) (h1 : n ≤ 255) :
    Calls Tryz.prog 117 #[.int .u8 n] w fun e w' => e = .returned (.int .i64 (hexV n)) ∧ w = w' := by
  have e1 : Hid (hexV n = -1) := Lib.hid (by unfold hexV; omega)
  have e2 : digB n = false := by unfold digB; simp; omega
  go_enter Tryz.func117, Tryz.ntmps117
  go_wp2_with (go_at_call 62; refine (rdigit_any _ _ (by omega) (by omega)).mono ?_; rintro e w' ⟨rfl, rfl⟩)
  go_ret
  exact ⟨by rw [e1.out]; rfl, rfl⟩
theorem rvalue_n2 (n : Int) (w : World) (a : 57 < n) (b : n < 65) (h0 : 0 ≤ n) (h1 : n ≤ 255) :
    Calls Tryz.prog 117 #[.int .u8 n] w fun e w' => e = .returned (.int .i64 (hexV n)) ∧ w = w' := by
  have e1 : Hid (hexV n = -1) := Lib.hid (by unfold hexV; omega)
  have e2 : digB n = false := by unfold digB; simp; omega
  go_enter Tryz.func117, Tryz.ntmps117
  go_wp2_with (go_at_call 62; refine (rdigit_any _ _ (by omega) (by omega)).mono ?_; rintro e w' ⟨rfl, rfl⟩)
  go_ret
  exact ⟨by rw [e1.out]; rfl, rfl⟩
theorem rvalue_n3 (n : Int) (w : World) (a : 70 < n) (b : n < 97) (h0 : 0 ≤ n) (h1 : n ≤ 255) :
    Calls Tryz.prog 117 #[.int .u8 n] w fun e w' => e = .returned (.int .i64 (hexV n)) ∧ w = w' := by
  have e1 : Hid (hexV n = -1) := Lib.hid (by unfold hexV; omega)
  have e2 : digB n = false := by unfold digB; simp; omega
  go_enter Tryz.func117, Tryz.ntmps117
  go_wp2_with (go_at_call 62; refine (rdigit_any _ _ (by omega) (by omega)).mono ?_; rintro e w' ⟨rfl, rfl⟩)
  go_ret
  exact ⟨by rw [e1.out]; rfl, rfl⟩
theorem rvalue_n4 (n : Int) (w : World) (a : 102 < n) (h0 : 0 ≤ n) (h1 : n ≤ 255) :
    Calls Tryz.prog 117 #[.int .u8 n] w fun e w' => e = .returned (.int .i64 (hexV n)) ∧ w = w' := by
  have e1 : Hid (hexV n = -1) := Lib.hid (by unfold hexV; omega)
  have e2 : digB n = false := by unfold digB; simp; omega
  go_enter Tryz.func117, Tryz.ntmps117
  go_wp2_with (go_at_call 62; refine (rdigit_any _ _ (by omega) (by omega)).mono ?_; rintro e w' ⟨rfl, rfl⟩)
  go_ret
  exact ⟨by rw [e1.out]; rfl, rfl⟩
theorem rvalue_any (n : Int) (w : World) (h0 : 0 ≤ n) (h1 : n ≤ 255) :
    Calls Tryz.prog 117 #[.int .u8 n] w fun e w' => e = .returned (.int .i64 (hexV n)) ∧ w = w' := by
  by_cases a1 : n < 48
  · exact rvalue_n1 n w a1 h0 h1
  by_cases a2 : n ≤ 57
  · exact rvalue_dig n w (by omega) a2 h0 h1
  by_cases a3 : n < 65
  · exact rvalue_n2 n w (by omega) a3 h0 h1
  by_cases a4 : n ≤ 70
  · exact rvalue_up n w (by omega) a4 h0 h1
  by_cases a5 : n < 97
  · exact rvalue_n3 n w (by omega) a5 h0 h1
  by_cases a6 : n ≤ 102
  · exact rvalue_lo n w (by omega) a6 h0 h1
  exact rvalue_n4 n w (by omega) h0 h1
def sb2 : Option UInt8 → Value
  | some b => .tuple #[.int .u8 b.toNat, .bool true]
  | none => .tuple #[.int .u8 0, .bool false]
def SbPost (o : Option UInt8) (w : World) (e : Ending) (w' : World) : Prop := e = .returned (sb2 o) ∧ w = w'
theorem rsimple_const (n : Int) (x : UInt8) (w : World) (h : (n = 34 ∧ x = 34) ∨ (n = 92 ∧ x = 92) ∨ (n = 47 ∧ x = 47) ∨ (n = 98 ∧ x = 8) ∨ (n = 102 ∧ x = 12) ∨ (n = 110 ∧ x = 10) ∨ (n = 114 ∧ x = 13) ∨ (n = 116 ∧ x = 9)) :
    Calls Tryz.prog 106 #[.int .u8 n] w (SbPost (some x) w) := by
  rcases h with ⟨rfl, rfl⟩ | ⟨rfl, rfl⟩ | ⟨rfl, rfl⟩ | ⟨rfl, rfl⟩ | ⟨rfl, rfl⟩ | ⟨rfl, rfl⟩ | ⟨rfl, rfl⟩ | ⟨rfl, rfl⟩
  all_goals
    go_enter Tryz.func106, Tryz.ntmps106
    go_wp2_with fail
    go_ret2
    exact ⟨rfl, rfl⟩
theorem rsimple_none (c : UInt8) (w : World) (h1 : c ≠ 34) (h2 : c ≠ 92) (h3 : c ≠ 47) (h4 : c ≠ 98) (h5 : c ≠ 102) (h6 : c ≠ 110) (h7 : c ≠ 114) (h8 : c ≠ 116) :
    Calls Tryz.prog 106 #[.int .u8 c.toNat] w (SbPost none w) := by
  have g1 : ((c.toNat : Int) == 34) = false := u8_ne h1
  have g2 : ((c.toNat : Int) == 92) = false := u8_ne h2
  have g3 : ((c.toNat : Int) == 47) = false := u8_ne h3
  have g4 : ((c.toNat : Int) == 98) = false := u8_ne h4
  have g5 : ((c.toNat : Int) == 102) = false := u8_ne h5
  have g6 : ((c.toNat : Int) == 110) = false := u8_ne h6
  have g7 : ((c.toNat : Int) == 114) = false := u8_ne h7
  have g8 : ((c.toNat : Int) == 116) = false := u8_ne h8
  go_enter Tryz.func106, Tryz.ntmps106
  go_wp2_with fail
  go_ret2
  exact ⟨rfl, rfl⟩
theorem rsimple_any (c : UInt8) (w : World) : Calls Tryz.prog 106 #[.int .u8 c.toNat] w (SbPost (simpleL c) w) := by
  by_cases h1 : c = 34
  · subst h1; exact rsimple_const 34 34 w (by simp)
  by_cases h2 : c = 92
  · subst h2; exact rsimple_const 92 92 w (by simp)
  by_cases h3 : c = 47
  · subst h3; exact rsimple_const 47 47 w (by simp)
  by_cases h4 : c = 98
  · subst h4; exact rsimple_const 98 8 w (by simp)
  by_cases h5 : c = 102
  · subst h5; exact rsimple_const 102 12 w (by simp)
  by_cases h6 : c = 110
  · subst h6; exact rsimple_const 110 10 w (by simp)
  by_cases h7 : c = 114
  · subst h7; exact rsimple_const 114 13 w (by simp)
  by_cases h8 : c = 116
  · subst h8; exact rsimple_const 116 9 w (by simp)
  rw [simple_none h1 h2 h3 h4 h5 h6 h7 h8]
  exact rsimple_none c w h1 h2 h3 h4 h5 h6 h7 h8
def codeV (l : List UInt8) : Int := if 0 ≤ bv l 0 ∧ 0 ≤ bv l 1 ∧ 0 ≤ bv l 2 ∧ 0 ≤ bv l 3 then cdL l 4 else -1
theorem codeV_bad {l : List UInt8} {k : Nat} (hk : k < 4) (h : bv l k < 0) : codeV l = -1 := by
  have : k = 0 ∨ k = 1 ∨ k = 2 ∨ k = 3 := by omega
  unfold codeV; rw [if_neg]
  rcases this with rfl | rfl | rfl | rfl <;> omega
theorem codeV_ok {l : List UInt8} (h : OkL l 4) : codeV l = cdL l 4 := by
  unfold codeV; rw [if_pos ⟨h 0 (by omega), h 1 (by omega), h 2 (by omega), h 3 (by omega)⟩]
theorem rcode_any (s : ByteArray) (w : World) (h : s.size = 4) :
    Calls Tryz.prog 107 #[.string s] w fun e w' => e = .returned (.int .i64 (codeV s.data.toList)) ∧ w = w' := by
  have h4 : ((s.size : Int) != 4) = false := by rw [h]; rfl
  have hs : 4 ≤ s.size := by omega
  clear h
  go_enter Tryz.func107, Tryz.ntmps107
  go_wp2_with fail
  go_loop [3, 4] (fun n i => ∃ k : Nat, k ≤ 4 ∧ i = .int .i64 k ∧ n = .int .i64 (cdL s.data.toList k) ∧ OkL s.data.toList k) (fun _ i => 4 - (intOf i).toNat)
  case atStart => exact ⟨0, by omega, rfl, rfl, okL_zero _⟩
  case round =>
    obtain ⟨k, hk, rfl, rfl, hok⟩ := hrel
    obtain ⟨c0, c1⟩ := cdL_bounds hok
    by_cases hlt : k < 4
    · have c2 : cdL s.data.toList k < 65536 := by
        have : k = 0 ∨ k = 1 ∨ k = 2 ∨ k = 3 := by omega
        rcases this with rfl | rfl | rfl | rfl <;> simp at c1 <;> omega
      clear c1
      have hks : k < s.size := by omega
      have hbk := byte_lt s[k]
      have hbv : bv s.data.toList k = hexV (s[k].toNat : Int) := by unfold bv; rw [getD_at s k hks]
      have hv := hexV_bounds (s[k].toNat : Int)
      by_cases hh : 0 ≤ hexV (s[k].toNat : Int)
      · have H1 := Lib.hid (okL_succ hok (by rw [hbv]; exact hh))
        have H2 : Hid (cdL s.data.toList (k + 1) = 16 * cdL s.data.toList k + hexV (s[k].toNat : Int)) := Lib.hid (by rw [← hbv, Int.mul_comm]; rfl)
        clear hbv hok
        go_wp2_with (go_at_call 117; refine (rvalue_any _ _ (by omega) (by omega)).mono ?_; rintro e w' ⟨rfl, rfl⟩)
        go_round
        case rel => exact ⟨k + 1, by omega, by go_num, by rw [H2.out], H1.out⟩
        case measure => simp [intOf]; omega
      · have H1 : Hid (codeV s.data.toList = -1) := Lib.hid (codeV_bad hlt (by rw [hbv]; omega))
        clear hbv hok
        go_wp2_with (go_at_call 117; refine (rvalue_any _ _ (by omega) (by omega)).mono ?_; rintro e w' ⟨rfl, rfl⟩)
        go_ret
        exact ⟨by rw [H1.out]; rfl, rfl⟩
    · obtain rfl : k = 4 := by omega
      have H1 := Lib.hid (codeV_ok hok)
      clear hok c1
      go_wp2
      go_ret
      exact ⟨by rw [H1.out]; rfl, rfl⟩
theorem bv_take (t : List UInt8) {k : Nat} (h : k < 4) : bv (t.take 4) k = bv t k := by
  unfold bv
  rw [List.getD_eq_getElem?_getD, List.getD_eq_getElem?_getD, List.getElem?_take, if_pos h]
theorem cdL_congr {a b : List UInt8} : ∀ {k : Nat}, (∀ j, j < k → bv a j = bv b j) → cdL a k = cdL b k
  | 0, _ => rfl
  | k + 1, h => by
    unfold cdL
    rw [cdL_congr (k := k) (fun j hj => h j (by omega)), h k (by omega)]
theorem codeV_take (t : List UInt8) : codeV (t.take 4) = codeV t := by
  unfold codeV
  rw [bv_take t (by omega), bv_take t (by omega), bv_take t (by omega), bv_take t (by omega), cdL_congr (fun j hj => bv_take t hj)]
theorem numL4_code {t : List UInt8} (h : 4 ≤ t.length) : numL4 t = if 0 ≤ codeV t ∧ codeV t ≤ 255 then some (UInt8.ofNat (codeV t).toNat) else none := by
  unfold numL4 okB codeV
  by_cases e : 0 ≤ bv t 0 ∧ 0 ≤ bv t 1 ∧ 0 ≤ bv t 2 ∧ 0 ≤ bv t 3
  · rw [if_pos e]
    obtain ⟨e0, e1, e2, e3⟩ := e
    have hb := (cdL_bounds (l := t) (k := 4) (fun j hj => by
      have : j = 0 ∨ j = 1 ∨ j = 2 ∨ j = 3 := by omega
      rcases this with rfl | rfl | rfl | rfl <;> assumption)).1
    simp [h, e0, e1, e2, e3, hb]
  · rw [if_neg e, if_neg (by simp; omega), if_neg (by omega)]
theorem codeV_bounds (t : List UInt8) : -1 ≤ codeV t ∧ codeV t < 65536 := by
  unfold codeV
  split
  · rename_i e
    obtain ⟨e0, e1, e2, e3⟩ := e
    have hb := (cdL_bounds (l := t) (k := 4) (fun j hj => by
      have : j = 0 ∨ j = 1 ∨ j = 2 ∨ j = 3 := by omega
      rcases this with rfl | rfl | rfl | rfl <;> assumption))
    simp at hb; omega
  · omega
end Go.Proofs.YtgicbmibhnnflaaGreatDoor.T1
