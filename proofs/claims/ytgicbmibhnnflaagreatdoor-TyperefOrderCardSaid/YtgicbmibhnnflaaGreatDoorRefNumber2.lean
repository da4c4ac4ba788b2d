
/-
  Contract of the reference package of layer 1: Number.
-/
import Derived.Test.YtgicbmibhnnflaaGreatDoorRefNumber
import Derived.Test.YtgicbmibhnnflaaGreatDoorTextUnquote
import Derived.Deep.Cut
namespace Go.Proofs.YtgicbmibhnnflaaGreatDoor.T1
open Go.RowKit
def NumPost (p : Int × Int) (w : World) (e : Ending) (w' : World) : Prop := e = .returned (num2 p) ∧ w = w'
theorem rNum_form {neg : Bool} {t : List UInt8} (h : rForm neg t = false) : rNum neg t = (0, 3) := by unfold rNum; rw [h]; rfl
theorem rForm_empty (neg : Bool) {t : ByteArray} (h : t.size = 0) : rForm neg t.data.toList = false := by
  have e : t.data.toList = [] := List.eq_nil_of_length_eq_zero (by rw [size_eq]; exact h)
  rw [e]; rfl
theorem rForm_zero {neg : Bool} {t : ByteArray} (h : 0 < t.size) (h0 : t[0] = 48) (h1 : neg = true ∨ 1 < t.size) : rForm neg t.data.toList = false := by
  unfold rForm
  rw [get0 h, h0, size_eq]
  rcases h1 with h1 | h1
  · rw [h1]; simp
  · simp [h1]
theorem rForm_bad {neg : Bool} {t : List UInt8} (h : allDg t = false) : rForm neg t = false := by unfold rForm; rw [h]; simp
def LeadOk (neg : Bool) (t : ByteArray) : Prop := t.data.toList.getD 0 0 ≠ 48 ∨ (neg = false ∧ t.size ≤ 1)
theorem rForm_ok {neg : Bool} {t : ByteArray} (h : 0 < t.size) (h0 : LeadOk neg t) (h1 : allDg t.data.toList = true) : rForm neg t.data.toList = true := by
  have hne : t.data.toList ≠ [] := by intro e; have := size_eq t; rw [e] at this; simp at this; omega
  unfold rForm
  rw [get0 h, h1, size_eq]
  unfold LeadOk at h0
  rw [get0 h] at h0
  rcases h0 with h0 | ⟨rfl, h0⟩
  · simp [h0, hne]
  · simp [hne]; omega
def vk (t : ByteArray) (k : Nat) : Nat := val (t.data.toList.take k)
theorem vk_succ (t : ByteArray) (k : Nat) (h : k < t.size) : vk t (k + 1) = vk t k * 10 + (t[k].toNat - 48) := by
  unfold vk val
  rw [take_snoc t.data.toList k (by rw [size_eq]; exact h), valF_snoc]; rfl
theorem vk_le (t : ByteArray) (k : Nat) : vk t k ≤ val t.data.toList := by
  unfold vk val
  conv => rhs; rw [← List.take_append_drop k t.data.toList]
  unfold valF
  rw [List.foldl_append]
  exact valF_ge _ _
theorem vk_all (t : ByteArray) : vk t t.size = val t.data.toList := by
  unfold vk; rw [List.take_of_length_le (by rw [size_eq]; omega)]
theorem dg_at {t : ByteArray} (h : allDg t.data.toList = true) (k : Nat) (hk : k < t.size) : 48 ≤ t[k].toNat ∧ t[k].toNat ≤ 57 := by
  unfold allDg at h
  rw [List.all_eq_true] at h
  exact dig_range (h _ (List.getElem_mem (by rw [size_eq]; exact hk) : t.data.toList[k] ∈ t.data.toList))
theorem quo_lt {v c : Nat} (h1 : 48 ≤ c) (h2 : c ≤ 57) : (-(v : Int) < (-9223372036854775808 + ((c : Int) - 48)).tdiv 10) ↔ 9223372036854775808 < v * 10 + (c - 48) := by
  have e : (-9223372036854775808 + ((c : Int) - 48)) = -((9223372036854775808 - (c - 48) : Nat) : Int) := by omega
  rw [e, tdiv_neg]
  omega
theorem rNum_big {neg : Bool} {t : List UInt8} (h : rForm neg t = true) (hv : 9223372036854775808 < val t) : rNum neg t = (0, 4) := by
  unfold rNum; rw [h, if_pos rfl, if_pos hv]
theorem rNum_neg {t : List UInt8} (h : rForm true t = true) (hv : val t ≤ 9223372036854775808) : rNum true t = (-(val t : Int), 0) := by
  unfold rNum; rw [h, if_pos rfl, if_neg (by omega), if_pos rfl]
theorem rNum_least {t : List UInt8} (h : rForm false t = true) (hv : val t = 9223372036854775808) : rNum false t = (0, 4) := by
  unfold rNum; rw [h, if_pos rfl, if_neg (by omega)]; simp [hv]
theorem rNum_pos {t : List UInt8} (h : rForm false t = true) (hv : val t < 9223372036854775808) : rNum false t = ((val t : Int), 0) := by
  unfold rNum; rw [h, if_pos rfl, if_neg (by omega)]; simp; omega
set_option maxHeartbeats 1000000 in
theorem rnumber_plain (s : ByteArray) (w : World) (hs : s.size ≤ maxLen) (h : s.size = 0 ∨ s.data.toList.getD 0 0 ≠ 45) :
    Calls Tryz.prog 92 #[.string s] w (NumPost (rNum false s.data.toList) w) := by
  unfold maxLen at hs
  by_cases h0 : s.size = 0
  · have H := Lib.hid (rNum_form (rForm_empty false h0))
    have g0 : (s.size : Int) = 0 := by omega
    have g1 : ((s.size : Int) == 0) = true := by rw [g0]; rfl
    have g2 : ¬ (0 : Int) < s.size := by omega
    clear h h0
    go_enter Tryz.func92, Tryz.ntmps92
    go_wp2_with fail
    go_ret2
    exact ⟨by rw [H.out]; rfl, rfl⟩
  have h0' : 0 < s.size := by omega
  have g0 : (0 : Int) < s.size := by omega
  have g1 : ((s.size : Int) == 0) = false := by rw [beq_eq_false_iff_ne]; omega
  have hc : s[0] ≠ 45 := by
    rcases h with h | h
    · exact absurd h h0
    · rwa [get0 h0'] at h
  have g2 : ((s[0].toNat : Int) == 45) = false := u8_ne hc
  clear h h0 hc
  by_cases hz : s[0] = 48 ∧ 1 < s.size
  · have H := Lib.hid (rNum_form (rForm_zero (neg := false) h0' hz.1 (Or.inr hz.2)))
    have g3 : ((s[0].toNat : Int) == 48) = true := by rw [hz.1]; rfl
    have g4 : (1 : Int) < s.size := by have := hz.2; omega
    clear hz
    go_enter Tryz.func92, Tryz.ntmps92
    go_wp2_with fail
    go_ret2
    exact ⟨by rw [H.out]; rfl, rfl⟩
  have hz' : s[0] ≠ 48 ∨ (false = false ∧ s.size ≤ 1) := by
    by_cases e : s[0] = 48
    · right; by_cases e2 : 1 < s.size
      · exact absurd ⟨e, e2⟩ hz
      · exact ⟨rfl, by omega⟩
    · left; exact e
  have HZ : Hid (LeadOk false s) := Lib.hid (by unfold LeadOk; rw [get0 h0']; exact hz')
  have hcase : ((s[0].toNat : Int) == 48) = false ∨ (((s[0].toNat : Int) == 48) = true ∧ (s.size : Int) ≤ 1) := by
    by_cases e : s[0] = 48
    · right; refine ⟨by rw [e]; rfl, ?_⟩
      rcases hz' with h | h
      · exact absurd e h
      · omega
    · left; exact u8_ne e
  clear hz hz'
  rcases hcase with g3 | ⟨g3, g4⟩
  · go_enter Tryz.func92, Tryz.ntmps92
    go_wp2_with fail
    go_loop [6] (fun i => ∃ k : Nat, k ≤ s.size ∧ i = .int .i64 k ∧ allDg (s.data.toList.take k) = true) (fun i => s.size - (intOf i).toNat)
    case atStart => exact ⟨0, Nat.zero_le _, rfl, rfl⟩
    case round =>
      obtain ⟨k, hk, rfl, hall⟩ := hrel
      have HAK := Lib.hid hall
      clear hall
      by_cases hlt : k < s.size
      · have hbk := byte_lt s[k]
        have hlk : k < s.data.toList.length := by rw [size_eq]; exact hlt
        cases hn : digB (s[k].toNat : Int)
        · have H := Lib.hid (rNum_form (rForm_bad (neg := false) (all_of_at s.data.toList (fun c => digB (c.toNat : Int)) k hlk hn)))
          go_wp2_with (go_at_call 62; refine (rdigit_any _ _ (by omega) (by omega)).mono ?_; rintro e w' ⟨rfl, rfl⟩)
          go_ret2
          exact ⟨by rw [H.out]; rfl, rfl⟩
        · have H1 : Hid (allDg (s.data.toList.take (k + 1)) = true) := Lib.hid (all_take_succ s.data.toList (fun c => digB (c.toNat : Int)) k hlk HAK.out hn)
          go_wp2_with (go_at_call 62; refine (rdigit_any _ _ (by omega) (by omega)).mono ?_; rintro e w' ⟨rfl, rfl⟩)
          go_round
          case rel => exact ⟨k + 1, by omega, by go_num, H1.out⟩
          case measure => simp [intOf]; omega
      · have HA : Hid (allDg s.data.toList = true) := Lib.hid (by
          have := HAK.out
          rwa [List.take_of_length_le (by rw [size_eq]; omega)] at this)
        have HF := Lib.hid (rForm_ok (neg := false) h0' HZ.out HA.out)
        clear HAK
        go_wp2_with fail
        go_loop [7, 8] (fun n i => ∃ k : Nat, k ≤ s.size ∧ i = .int .i64 k ∧ n = .int .i64 (-(vk s k : Int)) ∧ vk s k ≤ 9223372036854775808) (fun _ i => s.size - (intOf i).toNat)
        case atStart => exact ⟨0, Nat.zero_le _, rfl, rfl, Nat.zero_le _⟩
        case round =>
          obtain ⟨j, hj, rfl, rfl, hv⟩ := hrel
          by_cases hlt2 : j < s.size
          · obtain ⟨d1, d2⟩ := dg_at HA.out j hlt2
            have hs1 := vk_succ s j hlt2
            have hq := quo_lt (v := vk s j) d1 d2
            have hle := vk_le s (j + 1)
            by_cases hb : 9223372036854775808 < vk s j * 10 + (s[j].toNat - 48)
            · have hq' := hq.2 hb
              have H := Lib.hid (rNum_big HF.out (by omega))
              clear hs1 hq hle
              go_wp2
              go_ret2
              exact ⟨by rw [H.out]; rfl, rfl⟩
            · have hq' : ¬ (-(vk s j : Int) < (-9223372036854775808 + ((s[j].toNat : Int) - 48)).tdiv 10) := fun x => hb (hq.1 x)
              have hb' : vk s j * 10 + (s[j].toNat - 48) ≤ 9223372036854775808 := by omega
              have HS1 := Lib.hid hs1
              clear hs1 hq hle hb
              go_wp2
              go_round
              case rel => exact ⟨j + 1, by omega, by go_num, by rw [HS1.out]; congr 1; omega, by rw [HS1.out]; exact hb'⟩
              case measure => simp [intOf]; omega
          · obtain rfl : j = s.size := by omega
            have hva := vk_all s
            rw [hva] at hv
            by_cases hm : val s.data.toList = 9223372036854775808
            · have H := Lib.hid (rNum_least HF.out hm)
              have hb : ((-(vk s s.size : Int)) == -9223372036854775808) = true := by rw [hva, hm]; rfl
              clear hva hm
              go_wp2
              go_ret2
              exact ⟨by rw [H.out]; rfl, rfl⟩
            · have H := Lib.hid (rNum_pos HF.out (by omega))
              have hb : ((-(vk s s.size : Int)) == -9223372036854775808) = false := by rw [hva, beq_eq_false_iff_ne]; omega
              have hlo : vk s s.size < 9223372036854775808 := by rw [hva]; omega
              have HV := Lib.hid hva
              clear hva hm
              go_wp2
              go_ret2
              exact ⟨by rw [H.out, ← HV.out]; rfl, rfl⟩
  · go_enter Tryz.func92, Tryz.ntmps92
    go_wp2_with fail
    go_loop [6] (fun i => ∃ k : Nat, k ≤ s.size ∧ i = .int .i64 k ∧ allDg (s.data.toList.take k) = true) (fun i => s.size - (intOf i).toNat)
    case atStart => exact ⟨0, Nat.zero_le _, rfl, rfl⟩
    case round =>
      obtain ⟨k, hk, rfl, hall⟩ := hrel
      have HAK := Lib.hid hall
      clear hall
      by_cases hlt : k < s.size
      · have hbk := byte_lt s[k]
        have hlk : k < s.data.toList.length := by rw [size_eq]; exact hlt
        cases hn : digB (s[k].toNat : Int)
        · have H := Lib.hid (rNum_form (rForm_bad (neg := false) (all_of_at s.data.toList (fun c => digB (c.toNat : Int)) k hlk hn)))
          go_wp2_with (go_at_call 62; refine (rdigit_any _ _ (by omega) (by omega)).mono ?_; rintro e w' ⟨rfl, rfl⟩)
          go_ret2
          exact ⟨by rw [H.out]; rfl, rfl⟩
        · have H1 : Hid (allDg (s.data.toList.take (k + 1)) = true) := Lib.hid (all_take_succ s.data.toList (fun c => digB (c.toNat : Int)) k hlk HAK.out hn)
          go_wp2_with (go_at_call 62; refine (rdigit_any _ _ (by omega) (by omega)).mono ?_; rintro e w' ⟨rfl, rfl⟩)
          go_round
          case rel => exact ⟨k + 1, by omega, by go_num, H1.out⟩
          case measure => simp [intOf]; omega
      · have HA : Hid (allDg s.data.toList = true) := Lib.hid (by
          have := HAK.out
          rwa [List.take_of_length_le (by rw [size_eq]; omega)] at this)
        have HF := Lib.hid (rForm_ok (neg := false) h0' HZ.out HA.out)
        clear HAK
        go_wp2_with fail
        go_loop [7, 8] (fun n i => ∃ k : Nat, k ≤ s.size ∧ i = .int .i64 k ∧ n = .int .i64 (-(vk s k : Int)) ∧ vk s k ≤ 9223372036854775808) (fun _ i => s.size - (intOf i).toNat)
        case atStart => exact ⟨0, Nat.zero_le _, rfl, rfl, Nat.zero_le _⟩
        case round =>
          obtain ⟨j, hj, rfl, rfl, hv⟩ := hrel
          by_cases hlt2 : j < s.size
          · obtain ⟨d1, d2⟩ := dg_at HA.out j hlt2
            have hs1 := vk_succ s j hlt2
            have hq := quo_lt (v := vk s j) d1 d2
            have hle := vk_le s (j + 1)
            by_cases hb : 9223372036854775808 < vk s j * 10 + (s[j].toNat - 48)
            · have hq' := hq.2 hb
              have H := Lib.hid (rNum_big HF.out (by omega))
              clear hs1 hq hle
              go_wp2
              go_ret2
              exact ⟨by rw [H.out]; rfl, rfl⟩
            · have hq' : ¬ (-(vk s j : Int) < (-9223372036854775808 + ((s[j].toNat : Int) - 48)).tdiv 10) := fun x => hb (hq.1 x)
              have hb' : vk s j * 10 + (s[j].toNat - 48) ≤ 9223372036854775808 := by omega
              have HS1 := Lib.hid hs1
              clear hs1 hq hle hb
              go_wp2
              go_round
              case rel => exact ⟨j + 1, by omega, by go_num, by rw [HS1.out]; congr 1; omega, by rw [HS1.out]; exact hb'⟩
              case measure => simp [intOf]; omega
          · obtain rfl : j = s.size := by omega
            have hva := vk_all s
            rw [hva] at hv
            by_cases hm : val s.data.toList = 9223372036854775808
            · have H := Lib.hid (rNum_least HF.out hm)
              have hb : ((-(vk s s.size : Int)) == -9223372036854775808) = true := by rw [hva, hm]; rfl
              clear hva hm
              go_wp2
              go_ret2
              exact ⟨by rw [H.out]; rfl, rfl⟩
            · have H := Lib.hid (rNum_pos HF.out (by omega))
              have hb : ((-(vk s s.size : Int)) == -9223372036854775808) = false := by rw [hva, beq_eq_false_iff_ne]; omega
              have hlo : vk s s.size < 9223372036854775808 := by rw [hva]; omega
              have HV := Lib.hid hva
              clear hva hm
              go_wp2
              go_ret2
              exact ⟨by rw [H.out, ← HV.out]; rfl, rfl⟩
set_option maxHeartbeats 1000000 in
theorem rnumber_minus (s : ByteArray) (w : World) (hs : s.size ≤ maxLen) (hp : 0 < s.size) (hc : s[0] = 45) :
    Calls Tryz.prog 92 #[.string s] w (NumPost (rNum true (s.data.toList.drop 1)) w) := by
  unfold maxLen at hs
  have g0 : (0 : Int) < s.size := by omega
  have g2 : ((s[0].toNat : Int) == 45) = true := by rw [hc]; rfl
  clear hc
  rw [← drop_of s 1]
  have hts : (s.extract 1 s.size).size ≤ 9223372036854775807 := by rw [← size_eq, drop_of, List.length_drop, size_eq]; omega
  go_enter Tryz.func92, Tryz.ntmps92
  go_upto_region 5 with fail
  generalize s.extract 1 s.size = t at *
  by_cases h0 : t.size = 0
  · have H := Lib.hid (rNum_form (rForm_empty true h0))
    have g3 : ((t.size : Int) == 0) = true := by rw [h0]; rfl
    clear h0
    go_wp2_with fail
    go_ret2
    exact ⟨by rw [H.out]; rfl, rfl⟩
  have h0' : 0 < t.size := by omega
  have g3 : ((t.size : Int) == 0) = false := by rw [beq_eq_false_iff_ne]; omega
  clear h0
  by_cases hz : t[0] = 48
  · have H := Lib.hid (rNum_form (rForm_zero (neg := true) h0' hz (Or.inl rfl)))
    have g4 : ((t[0].toNat : Int) == 48) = true := by rw [hz]; rfl
    clear hz
    by_cases g5 : (1 : Int) < t.size
    all_goals
      go_wp2_with fail
      go_ret2
      exact ⟨by rw [H.out]; rfl, rfl⟩
  have HZ : Hid (LeadOk true t) := Lib.hid (by unfold LeadOk; rw [get0 h0']; exact Or.inl hz)
  have g4 : ((t[0].toNat : Int) == 48) = false := u8_ne hz
  clear hz
  go_wp2_with fail
  go_loop [6] (fun i => ∃ k : Nat, k ≤ t.size ∧ i = .int .i64 k ∧ allDg (t.data.toList.take k) = true) (fun i => t.size - (intOf i).toNat)
  case atStart => exact ⟨0, Nat.zero_le _, rfl, rfl⟩
  case round =>
    obtain ⟨k, hk, rfl, hall⟩ := hrel
    have HAK := Lib.hid hall
    clear hall
    by_cases hlt : k < t.size
    · have hbk := byte_lt t[k]
      have hlk : k < t.data.toList.length := by rw [size_eq]; exact hlt
      cases hn : digB (t[k].toNat : Int)
      · have H := Lib.hid (rNum_form (rForm_bad (neg := true) (all_of_at t.data.toList (fun c => digB (c.toNat : Int)) k hlk hn)))
        go_wp2_with (go_at_call 62; refine (rdigit_any _ _ (by omega) (by omega)).mono ?_; rintro e w' ⟨rfl, rfl⟩)
        go_ret2
        exact ⟨by rw [H.out]; rfl, rfl⟩
      · have H1 : Hid (allDg (t.data.toList.take (k + 1)) = true) := Lib.hid (all_take_succ t.data.toList (fun c => digB (c.toNat : Int)) k hlk HAK.out hn)
        go_wp2_with (go_at_call 62; refine (rdigit_any _ _ (by omega) (by omega)).mono ?_; rintro e w' ⟨rfl, rfl⟩)
        go_round
        case rel => exact ⟨k + 1, by omega, by go_num, H1.out⟩
        case measure => simp [intOf]; omega
    · have HA : Hid (allDg t.data.toList = true) := Lib.hid (by
        have := HAK.out
        rwa [List.take_of_length_le (by rw [size_eq]; omega)] at this)
      have HF := Lib.hid (rForm_ok (neg := true) h0' HZ.out HA.out)
      clear HAK
      go_wp2_with fail
      go_loop [7, 8] (fun n i => ∃ k : Nat, k ≤ t.size ∧ i = .int .i64 k ∧ n = .int .i64 (-(vk t k : Int)) ∧ vk t k ≤ 9223372036854775808) (fun _ i => t.size - (intOf i).toNat)
      case atStart => exact ⟨0, Nat.zero_le _, rfl, rfl, Nat.zero_le _⟩
      case round =>
        obtain ⟨j, hj, rfl, rfl, hv⟩ := hrel
        by_cases hlt2 : j < t.size
        · obtain ⟨d1, d2⟩ := dg_at HA.out j hlt2
          have hs1 := vk_succ t j hlt2
          have hq := quo_lt (v := vk t j) d1 d2
          have hle := vk_le t (j + 1)
          by_cases hb : 9223372036854775808 < vk t j * 10 + (t[j].toNat - 48)
          · have hq' := hq.2 hb
            have H := Lib.hid (rNum_big HF.out (by omega))
            clear hs1 hq hle
            go_wp2
            go_ret2
            exact ⟨by rw [H.out]; rfl, rfl⟩
          · have hq' : ¬ (-(vk t j : Int) < (-9223372036854775808 + ((t[j].toNat : Int) - 48)).tdiv 10) := fun x => hb (hq.1 x)
            have hb' : vk t j * 10 + (t[j].toNat - 48) ≤ 9223372036854775808 := by omega
            have HS1 := Lib.hid hs1
            clear hs1 hq hle hb
            go_wp2
            go_round
            case rel => exact ⟨j + 1, by omega, by go_num, by rw [HS1.out]; congr 1; omega, by rw [HS1.out]; exact hb'⟩
            case measure => simp [intOf]; omega
        · obtain rfl : j = t.size := by omega
          have hva := vk_all t
          rw [hva] at hv
          have H := Lib.hid (rNum_neg HF.out hv)
          have HV := Lib.hid hva
          clear hva
          go_wp2
          go_ret2
          exact ⟨by rw [H.out, ← HV.out]; rfl, rfl⟩
theorem rnumber_any (s : ByteArray) (w : World) (hs : s.size ≤ maxLen) :
    Calls Tryz.prog 92 #[.string s] w (NumPost (numL s.data.toList) w) := by
  by_cases h0 : s.size = 0
  · rw [← rNum_plain (Or.inr (List.eq_nil_of_length_eq_zero (by rw [size_eq]; exact h0)))]
    exact rnumber_plain s w hs (Or.inl h0)
  have hp : 0 < s.size := by omega
  by_cases hc : s[0] = 45
  · have e : s.data.toList = 45 :: s.data.toList.drop 1 := by
      conv => lhs; rw [list_of hp, hc]
    have := rnumber_minus s w hs hp hc
    rw [rNum_minus, ← e] at this
    exact this
  · have hg : s.data.toList.getD 0 0 ≠ 45 := by rw [get0 hp]; exact hc
    rw [← rNum_plain (Or.inl hg)]
    exact rnumber_plain s w hs (Or.inr hg)
end Go.Proofs.YtgicbmibhnnflaaGreatDoor.T1
