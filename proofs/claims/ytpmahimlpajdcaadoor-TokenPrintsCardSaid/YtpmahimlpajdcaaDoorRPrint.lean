
/-
  The reference's text of tokens.
-/
import Derived.Test.YtpmahimlpajdcaaDoorOpenK
import Derived.Test.YtpmahimlpajdcaaDoorRefQuote
namespace Go.Proofs.YtpmahimlpajdcaaDoor
open Go.RowKit
theorem joinTail_snoc (ws : List (List UInt8)) (x : List UInt8) : Lib.joinTail [32] (ws ++ [x]) = Lib.joinTail [32] ws ++ ([32] ++ x) := by
  unfold Lib.joinTail; simp
theorem join_snoc (ws : List (List UInt8)) (x : List UInt8) : Lib.join (ws ++ [x]) [32] = if ws = [] then x else Lib.join ws [32] ++ [32] ++ x := by
  cases ws with
  | nil => rw [if_pos rfl]; exact Lib.join_one x [32]
  | cons y r =>
    rw [if_neg (by simp), List.cons_append, Lib.join_cons, joinTail_snoc, Lib.join_cons]
    simp [List.append_assoc]
theorem ZOk.take {zs : List Tz} (h : ZOk zs) (k : Nat) : ZOk (zs.take k) := ⟨by have := h.len; rw [List.length_take]; omega, fun p hp => h.txt p (List.mem_of_mem_take hp)⟩
set_option maxRecDepth 100000 in
set_option maxHeartbeats 4000000 in
theorem rprint_any (zs : List Tz) (hz : ZOk zs) (A : Option Addr) (c : Nat) (w : World) (h : ZAt w w.heap.size A zs) : Calls Tryd.prog 11 #[.slice A zs.length c] w fun e w' => e = .returned (.string ⟨(joinZ zs).toArray⟩) ∧ Below w.heap.size w w' := by
  have HA := Lib.hid h
  have HZ := Lib.hid hz
  have hlen := hz.len
  clear h hz
  go_enter Tryd.func11, Tryd.ntmps11
  go_wp2_with fail
  go_loopw [3, 4, 5] (fun v f i wr => ∃ (k : Nat) (a : List UInt8), i = .int .i64 k ∧ k ≤ zs.length ∧ v = .string ⟨a.toArray⟩ ∧ f = .bool (decide (wordsZ (zs.take k) = [])) ∧ a = joinZ (zs.take k) ∧ Below w.heap.size w wr) (fun _ _ i _ => zs.length - (intOf i).toNat)
  case atStart => exact ⟨0, [], rfl, Nat.zero_le _, rfl, rfl, rfl, Below.refl _ _⟩
  case round =>
    obtain ⟨k, a, rfl, hk, rfl, rfl, hja, hb⟩ := hrel
    have HB := Lib.hid hb
    have hal : a.length ≤ 100000000000 := by rw [hja]; exact (HZ.out.take k).join
    have HJA := Lib.hid hja
    clear hja
    by_cases hlt : k < zs.length
    · obtain ⟨ad, kd, t, at', rfl, hp, h0, h1, h2⟩ := z_round HA.out hb hlt
      have hlt' : (k : Int) < zs.length := by omega
      have HW := Lib.hid (wordsZ_take zs k _ hp)
      have htx : t.length ≤ 70000 := HZ.out.txt _ (List.mem_of_getElem? hp)
      clear hp hb
      by_cases h5 : kd = 5
      · subst h5
        have HW1 : Hid (wordsZ (zs.take (k + 1)) = wordsZ (zs.take k)) := Lib.hid (by rw [HW.out]; simp)
        have HJ1 : Hid (joinZ (zs.take (k + 1)) = joinZ (zs.take k)) := Lib.hid (by unfold joinZ; rw [HW1.out])
        clear HW
        obtain ⟨fb, hfb⟩ : ∃ fb, decide (wordsZ (zs.take k) = []) = fb := ⟨_, rfl⟩
        rw [hfb]
        have HFB := Lib.hid hfb
        clear hfb
        go_wp2_with fail
        go_roundw
        case rel => exact ⟨k + 1, a, by go_num, by omega, rfl, by rw [HW1.out, HFB.out], by rw [HJ1.out]; exact HJA.out, HB.out⟩
        case measure => simp [intOf]; omega
      · have n5 : (kd == 5) = false := beq_false_of_ne h5
        have HW1 : Hid (wordsZ (zs.take (k + 1)) = wordsZ (zs.take k) ++ [wordZ (kd, t, at')]) := Lib.hid (by rw [HW.out]; exact congrArg _ (if_neg h5))
        have HJ1 : Hid (joinZ (zs.take (k + 1)) = if wordsZ (zs.take k) = [] then wordZ (kd, t, at') else joinZ (zs.take k) ++ [32] ++ wordZ (kd, t, at')) := Lib.hid (by unfold joinZ; rw [HW1.out, join_snoc])
        have HF : Hid (decide (wordsZ (zs.take (k + 1)) = []) = false) := Lib.hid (decide_eq_false (by rw [HW1.out]; simp))
        have hwl := wordZ_le (kd, t, at') 70000 htx
        clear HW HW1 h5
        by_cases hf : wordsZ (zs.take k) = []
        · have d1 : decide (wordsZ (zs.take k) = []) = true := decide_eq_true hf
          have HJ2 := Lib.hid (HJ1.out.trans (if_pos hf))
          have ha0 : a = [] := by rw [HJA.out]; unfold joinZ; rw [hf]; rfl
          subst ha0
          rw [d1]
          clear HJ1 hf d1 HJA
          by_cases h4 : kd = 4
          · subst h4
            have e8 : wordZ (4, t, at') = T1.quoteL t := rfl
            rw [e8] at HJ2 hwl
            have CALL := Lib.hid (T1.rquote_any ⟨t.toArray⟩)
            have hadd := fun w => T1.add_L w [] (T1.quoteL t) (by simp; omega)
            have hts : (⟨t.toArray⟩ : ByteArray).size ≤ 137438953472 := by rw [← T1.size_eq]; show t.toArray.toList.length ≤ _; simp; omega
            go_wp2_with fail
            refine (CALL.out _ hts).mono ?_
            rintro e w1 ⟨rfl, hb1⟩
            have HB1 := Lib.hid (HB.out.trans (hb1.mono HB.out.size))
            clear hb1 hts CALL
            go_wp2_with fail
            go_roundw
            case rel => exact ⟨k + 1, T1.quoteL t, by go_num, by omega, rfl, by rw [HF.out], HJ2.out.symm, HB1.out⟩
            case measure => simp [intOf]; omega
          · have n4 : (kd == 4) = false := beq_false_of_ne h4
            have e8 : wordZ (kd, t, at') = t := if_neg h4
            rw [e8] at HJ2
            have hadd := fun w => T1.add_L w [] t (by simp; omega)
            clear h4 e8
            go_wp2_with fail
            go_roundw
            case rel => exact ⟨k + 1, t, by go_num, by omega, rfl, by rw [HF.out], HJ2.out.symm, HB.out⟩
            case measure => simp [intOf]; omega
        · have d1 : decide (wordsZ (zs.take k) = []) = false := decide_eq_false hf
          have HJ2 := Lib.hid (HJ1.out.trans (if_neg hf))
          rw [← HJA.out, List.append_assoc, List.singleton_append] at HJ2
          rw [d1]
          have hadd0 := fun w => T1.add_L w a [32] (by simp; omega)
          clear HJ1 hf d1 HJA
          by_cases h4 : kd = 4
          · subst h4
            have e8 : wordZ (4, t, at') = T1.quoteL t := rfl
            rw [e8] at HJ2 hwl
            have CALL := Lib.hid (T1.rquote_any ⟨t.toArray⟩)
            have hadd := fun w => T1.add_L w (a ++ [32]) (T1.quoteL t) (by simp; omega)
            have hts : (⟨t.toArray⟩ : ByteArray).size ≤ 137438953472 := by rw [← T1.size_eq]; show t.toArray.toList.length ≤ _; simp; omega
            go_wp2_with fail
            refine (CALL.out _ hts).mono ?_
            rintro e w1 ⟨rfl, hb1⟩
            have HB1 := Lib.hid (HB.out.trans (hb1.mono HB.out.size))
            clear hb1 hts CALL
            go_wp2_with fail
            go_roundw
            case rel => exact ⟨k + 1, a ++ 32 :: T1.quoteL t, by go_num, by omega, rfl, by rw [HF.out], HJ2.out.symm, HB1.out⟩
            case measure => simp [intOf]; omega
          · have n4 : (kd == 4) = false := beq_false_of_ne h4
            have e8 : wordZ (kd, t, at') = t := if_neg h4
            rw [e8] at HJ2
            have hadd := fun w => T1.add_L w (a ++ [32]) t (by simp; omega)
            clear h4 e8
            go_wp2_with fail
            go_roundw
            case rel => exact ⟨k + 1, a ++ 32 :: t, by go_num, by omega, rfl, by rw [HF.out], HJ2.out.symm, HB.out⟩
            case measure => simp [intOf]; omega
    · have hji : k = zs.length := by omega
      have hlt' : ¬ (k : Int) < zs.length := by omega
      have HJ1 : Hid (a = joinZ zs) := Lib.hid (by rw [HJA.out, hji, List.take_length])
      clear hji hb
      generalize decide (wordsZ (zs.take k) = []) = fb at *
      go_wp2_with fail
      go_ret
      exact ⟨by rw [HJ1.out]; rfl, HB.out⟩
end Go.Proofs.YtpmahimlpajdcaaDoor
