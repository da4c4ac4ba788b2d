
/-
  The reference's contracts: bytes, separators, words, literals.
-/
import Derived.Test.YtgicbmibhnnflaaGreatDoorRPure
namespace Go.Proofs.YtgicbmibhnnflaaGreatDoor
open Go.RowKit
theorem u8_bne {c d : UInt8} (h : c ≠ d) : ((c.toNat : Int) != (d.toNat : Int)) = true := by
  unfold bne; rw [T1.u8_ne h]; rfl
theorem kdigit_any (n : Int) (w : World) (h0 : 0 ≤ n) (h1 : n ≤ 255) :
    Calls Tryz.prog 91 #[.int .u8 n] w fun e w' => e = .returned (.bool (T1.digB n)) ∧ w = w' := by
  go_enter Tryz.func91, Tryz.ntmps91
  go_wp2
  all_goals go_ret
  all_goals (simp [T1.digB, *]; try omega)
theorem kletter_any (n : Int) (w : World) (h0 : 0 ≤ n) (h1 : n ≤ 255) :
    Calls Tryz.prog 89 #[.int .u8 n] w fun e w' => e = .returned (.bool (T1.letU n)) ∧ w = w' := by
  go_enter Tryz.func89, Tryz.ntmps89
  go_wp2
  all_goals go_ret
  all_goals refine ⟨congrArg Ending.returned (congrArg Value.bool ?_), rfl⟩
  all_goals (rw [Bool.eq_iff_iff]; simp [T1.letU, T1.letB, *]; try omega)
theorem kspace_any (n : Int) (w : World) (_h0 : 0 ≤ n) (_h1 : n ≤ 255) :
    Calls Tryz.prog 87 #[.int .u8 n] w fun e w' => e = .returned (.bool (spcB n)) ∧ w = w' := by
  go_enter Tryz.func87, Tryz.ntmps87
  go_wp2
  all_goals go_ret
  all_goals refine ⟨congrArg Ending.returned (congrArg Value.bool ?_), rfl⟩
  all_goals (rw [Bool.eq_iff_iff]; simp [spcB, *]; try omega)
theorem rword_any (s : ByteArray) (hs : s.size ≤ 100000) (i : Nat) (hi : i ≤ s.size) (w : World) :
    Calls Tryz.prog 90 #[.string s, .int .i64 i] w fun e w' => e = .returned (.int .i64 (i + wdN (s.data.toList.drop i) : Nat)) ∧ w = w' := by
  have hsz := T1.size_eq s
  have ST : Hid (SpAt wdS s.data.toList (i + wdN (s.data.toList.drop i)) () i) := Lib.hid (SpAt.start (by omega))
  generalize (i + wdN (s.data.toList.drop i)) = n at *
  go_enter Tryz.func90, Tryz.ntmps90
  go_wp2_with fail
  go_loop [1] (fun v => ∃ k : Nat, v = .int .i64 k ∧ SpAt wdS s.data.toList n () k) (fun v => s.size - (intOf v).toNat)
  case atStart => exact ⟨i, rfl, ST.out⟩
  case round =>
    obtain ⟨k, rfl, hat⟩ := hrel
    have HA := Lib.hid hat
    have hk := hat.1
    clear hat ST
    by_cases hlt : k < s.size
    · have hbk := T1.byte_lt s[k]
      have hlk : k < s.data.toList.length := by omega
      have HX : ∀ st2, wdS () s[k] = some st2 → Hid (SpAt wdS s.data.toList n st2 (k + 1)) := fun st2 h => Lib.hid (HA.out.next hlk h)
      have HY : wdS () s[k] = none → Hid (n = k) := fun h => Lib.hid (HA.out.stop hlk h)
      have e : wdS () s[k] = if (T1.letU (s[k].toNat : Int) || T1.digB (s[k].toNat : Int)) = true then some () else none := by unfold wdS; rw [wd_is]
      rw [e] at HX HY
      clear e
      cases n1 : T1.letU (s[k].toNat : Int)
      · cases n2 : T1.digB (s[k].toNat : Int)
        · have H2 := HY (by rw [n1, n2]; rfl)
          clear HX HY
          go_wp2_with (first | (go_at_call 89; refine (kletter_any _ _ (by omega) (by omega)).mono ?_; rintro e w' ⟨rfl, rfl⟩) | (go_at_call 91; refine (kdigit_any _ _ (by omega) (by omega)).mono ?_; rintro e w' ⟨rfl, rfl⟩))
          go_ret
          exact ⟨by rw [H2.out]; rfl, rfl⟩
        · have H2 := HX () (by rw [n1, n2]; rfl)
          clear HX HY
          go_wp2_with (first | (go_at_call 89; refine (kletter_any _ _ (by omega) (by omega)).mono ?_; rintro e w' ⟨rfl, rfl⟩) | (go_at_call 91; refine (kdigit_any _ _ (by omega) (by omega)).mono ?_; rintro e w' ⟨rfl, rfl⟩))
          go_round
          case rel => exact ⟨k + 1, by go_num, H2.out⟩
          case measure => simp [intOf]; omega
      · have H2 := HX () (by rw [n1]; rfl)
        clear HX HY
        go_wp2_with (first | (go_at_call 89; refine (kletter_any _ _ (by omega) (by omega)).mono ?_; rintro e w' ⟨rfl, rfl⟩) | (go_at_call 91; refine (kdigit_any _ _ (by omega) (by omega)).mono ?_; rintro e w' ⟨rfl, rfl⟩))
        go_round
        case rel => exact ⟨k + 1, by go_num, H2.out⟩
        case measure => simp [intOf]; omega
    · have H1 : Hid (n = k) := Lib.hid (HA.out.done (by omega))
      go_wp2_with fail
      go_ret
      exact ⟨by rw [H1.out]; rfl, rfl⟩
theorem rclosing_any (s : ByteArray) (hs : s.size ≤ 100000) (i : Nat) (hi : i < s.size) (w : World) :
    Calls Tryz.prog 93 #[.string s, .int .i64 i] w fun e w' => e = .returned (.int .i64 (clR s.data.toList i)) ∧ w = w' := by
  have hsz := T1.size_eq s
  obtain ⟨n, hn, en⟩ := clR_of s.data.toList i (by omega)
  have ST := Lib.hid hn
  have EN := Lib.hid en
  clear hn en
  generalize clR s.data.toList i = R at *
  go_enter Tryz.func93, Tryz.ntmps93
  go_wp2_with fail
  go_loop [1] (fun v => ∃ k : Nat, v = .int .i64 k ∧ k ≤ s.size + 1 ∧ LtAt s.data.toList n k) (fun v => s.size + 1 - (intOf v).toNat)
  case atStart => exact ⟨i + 1, by go_num, by omega, ST.out⟩
  case round =>
    obtain ⟨k, rfl, hk, hat⟩ := hrel
    have HA := Lib.hid hat
    clear hat ST
    by_cases hlt : k < s.size
    · have hbk := T1.byte_lt s[k]
      have hlk : k < s.data.toList.length := by omega
      by_cases h1 : s[k] = 34
      · have g1 : ((s[k].toNat : Int) == 34) = true := by rw [h1]; rfl
        have H1 : Hid (R = ((k + 1 : Nat) : Int)) := Lib.hid (by rw [EN.out, HA.out.quote hlk h1, if_pos hlk])
        go_wp2_with fail
        go_ret
        exact ⟨by rw [H1.out]; rfl, rfl⟩
      have g1 : ((s[k].toNat : Int) == 34) = false := T1.u8_ne h1
      by_cases h2 : s[k] = 92
      · have g2 : ((s[k].toNat : Int) == 92) = true := by rw [h2]; rfl
        have H1 := Lib.hid (HA.out.back hlk h2)
        clear h1 h2
        go_wp2_with fail
        go_round
        case rel => exact ⟨k + 2, by go_num, by omega, H1.out⟩
        case measure => simp [intOf]; omega
      · have g2 : ((s[k].toNat : Int) == 92) = false := T1.u8_ne h2
        have H1 := Lib.hid (HA.out.other hlk h1 h2)
        clear h1 h2
        go_wp2_with fail
        go_round
        case rel => exact ⟨k + 1, by go_num, by omega, H1.out⟩
        case measure => simp [intOf]; omega
    · have H1 : Hid (R = -1) := Lib.hid (by rw [EN.out, HA.out.done (by omega), if_neg (by omega)])
      go_wp2_with fail
      go_ret
      exact ⟨by rw [H1.out]; rfl, rfl⟩
theorem rskip_any (s : ByteArray) (hs : s.size ≤ 100000) (i : Nat) (hi : i ≤ s.size) (w : World) :
    Calls Tryz.prog 69 #[.string s, .int .i64 i] w fun e w' => e = .returned (.int .i64 (i + sepN (s.data.toList.drop i) : Nat)) ∧ w = w' := by
  have hsz := T1.size_eq s
  have ST : Hid (SpAt sepS s.data.toList (i + sepN (s.data.toList.drop i)) false i) := Lib.hid (SpAt.start (by omega))
  generalize (i + sepN (s.data.toList.drop i)) = n at *
  go_enter Tryz.func69, Tryz.ntmps69
  go_wp2_with fail
  go_loop [1] (fun v => ∃ k : Nat, v = .int .i64 k ∧ SpAt sepS s.data.toList n false k) (fun v => s.size - (intOf v).toNat)
  case atStart => exact ⟨i, rfl, ST.out⟩
  case round =>
    obtain ⟨k, rfl, hat⟩ := hrel
    have HA := Lib.hid hat
    have hk := hat.1
    clear hat ST
    by_cases hlt : k < s.size
    · have hbk := T1.byte_lt s[k]
      have hlk : k < s.data.toList.length := by omega
      by_cases h1 : s[k] = 32 ∨ s[k] = 9 ∨ s[k] = 10 ∨ s[k] = 13 ∨ s[k] = 44
      · have g1 : spcB (s[k].toNat : Int) = true := by rw [spc_is, decide_eq_true h1]
        have H1 := Lib.hid (HA.out.next hlk (sep_space _ h1))
        clear h1
        go_wp2_with (go_at_call 87; refine (kspace_any _ _ (by omega) (by omega)).mono ?_; rintro e w' ⟨rfl, rfl⟩)
        go_round
        case rel => exact ⟨k + 1, by go_num, H1.out⟩
        case measure => simp [intOf]; omega
      have g1 : spcB (s[k].toNat : Int) = false := by rw [spc_is, decide_eq_false h1]
      by_cases h2 : s[k] = 35
      · have g2 : ((s[k].toNat : Int) != 35) = false := by rw [h2]; rfl
        have H1 := Lib.hid (HA.out.swap (st2 := true) (fun _ => by show sepS false s[k] = sepS true s[k]; rw [h2]; rfl))
        have g3 := Lib.hid h2
        clear h1 h2
        go_wp2_with (go_at_call 87; refine (kspace_any _ _ (by omega) (by omega)).mono ?_; rintro e w' ⟨rfl, rfl⟩)
        go_loop [1] (fun v => ∃ j : Nat, v = .int .i64 j ∧ k ≤ j ∧ SpAt sepS s.data.toList n true j) (fun v => s.size - (intOf v).toNat)
        case atStart => exact ⟨k, rfl, Nat.le_refl _, H1.out⟩
        case round =>
          obtain ⟨j, rfl, hkj, hat⟩ := hrel
          have HA2 := Lib.hid hat
          have hj := hat.1
          clear hat H1
          by_cases hlt2 : j < s.size
          · have hbk2 := T1.byte_lt s[j]
            have hlj : j < s.data.toList.length := by omega
            by_cases c1 : s[j] = 10
            · have q1 : ((s[j].toNat : Int) != 10) = false := by rw [c1]; rfl
              have H2 := Lib.hid (HA2.out.swap (st2 := false) (fun _ => sep_line _ (.inl c1)))
              have hkj' : k < j := Nat.lt_of_le_of_ne hkj (fun e => by subst e; rw [g3.out] at c1; cases c1)
              clear c1
              go_wp2_with fail
              go_round
              case rel => exact ⟨j, rfl, H2.out⟩
              case measure => simp [intOf]; omega
            have q1 : ((s[j].toNat : Int) != 10) = true := u8_bne c1
            by_cases c2 : s[j] = 13
            · have q2 : ((s[j].toNat : Int) != 13) = false := by rw [c2]; rfl
              have H2 := Lib.hid (HA2.out.swap (st2 := false) (fun _ => sep_line _ (.inr c2)))
              have hkj' : k < j := Nat.lt_of_le_of_ne hkj (fun e => by subst e; rw [g3.out] at c2; cases c2)
              clear c1 c2
              go_wp2_with fail
              go_round
              case rel => exact ⟨j, rfl, H2.out⟩
              case measure => simp [intOf]; omega
            have q2 : ((s[j].toNat : Int) != 13) = true := u8_bne c2
            have H2 := Lib.hid (HA2.out.next hlj (sep_in_c _ c1 c2))
            clear c1 c2
            go_wp2_with fail
            go_round
            case rel => exact ⟨j + 1, by go_num, by omega, H2.out⟩
            case measure => simp [intOf]; omega
          · have H2 := Lib.hid (HA2.out.swap (st2 := false) (fun h => absurd h (by omega)))
            go_wp2_with fail
            go_round
            case rel => exact ⟨j, rfl, H2.out⟩
            case measure => simp [intOf]; omega
      · have g2 : ((s[k].toNat : Int) != 35) = true := u8_bne h2
        have H1 : Hid (n = k) := Lib.hid (HA.out.stop hlk (sep_stop _ h1 h2))
        clear h1 h2
        go_wp2_with (go_at_call 87; refine (kspace_any _ _ (by omega) (by omega)).mono ?_; rintro e w' ⟨rfl, rfl⟩)
        go_ret
        exact ⟨by rw [H1.out]; rfl, rfl⟩
    · have H1 : Hid (n = k) := Lib.hid (HA.out.done (by omega))
      go_wp2_with fail
      go_ret
      exact ⟨by rw [H1.out]; rfl, rfl⟩
end Go.Proofs.YtgicbmibhnnflaaGreatDoor
