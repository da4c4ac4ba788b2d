
/-
  The reference's tokens of a text; two lists that are the same.
-/
import Derived.Test.YtgicbmibhnnflaaGreatDoorROne
import Derived.Test.YtgicbmibhnnflaaGreatDoorOwn
namespace Go.Proofs.YtgicbmibhnnflaaGreatDoor
open Go.RowKit
def RAns (R : Except (Nat × Int) (List Tk)) (base : Nat) (e : Ending) (w' : World) : Prop := match R with
  | .ok ts => ∃ v, e = .returned (.tuple #[v, .int .i64 0, .int .i64 0]) ∧ OwnZ 83 w' base v (tz ts)
  | .error x => e = .returned (.tuple #[.slice none 0 0, .int .i64 x.1, .int .i64 x.2]) ∧ x.2 ≠ 0
def RScanPost (R : Except (Nat × Int) (List Tk)) (w : World) (e : Ending) (w' : World) : Prop := RAns R w.heap.size e w' ∧ Below w.heap.size w w'
set_option maxHeartbeats 2000000 in
theorem rscan_long (s : ByteArray) (h : 65536 < s.size) (w : World) : Calls Tryz.prog 53 #[.string s] w (RScanPost (scR s.data.toList) w) := by
  have E1 : Hid (scR s.data.toList = .error (65536, 4)) := Lib.hid (by unfold scR; rw [T1.size_eq, if_pos h])
  have hgt : ((s.size : Int) > 65536) := by omega
  generalize scR s.data.toList = R at *
  go_enter Tryz.func53, Tryz.ntmps53
  go_wp2_with fail
  refine bodyPost_ret (v := .tuple #[.slice none 0 0, .int .i64 65536, .int .i64 4]) (by simp [results, Tryz.results53, go_sem]) rfl ⟨?_, Below.refl _ _⟩
  rw [E1.out]
  exact ⟨rfl, by decide⟩
theorem OneAns.parts {o : Except Int (Int × List UInt8 × Nat)} {i : Nat} {e : Ending} (h : OneAns o i e) : ∃ (k : Int) (t : ByteArray) (a n c : Int), e = .returned (.tuple #[tkV k t a, .int .i64 n, .int .i64 c]) := by
  cases o with
  | ok p => obtain ⟨k, t, n⟩ := p; exact ⟨_, _, _, _, _, h⟩
  | error c => obtain ⟨_, k, t, a, n, h⟩ := h; exact ⟨_, _, _, _, _, h⟩
theorem tz_snoc (ts : List Tk) (k : Int) (t : List UInt8) (i : Nat) : tz (ts ++ [(k, t, i)]) = tz ts ++ [(k, t, (i : Int))] := by unfold tz; simp
set_option maxRecDepth 100000 in
set_option maxHeartbeats 4000000 in
theorem rscan_short (s : ByteArray) (h : s.size ≤ 65536) (w : World) : Calls Tryz.prog 53 #[.string s] w (RScanPost (scR s.data.toList) w) := by
  have hsz := T1.size_eq s
  have ST := Lib.hid (ScAt.start s.data.toList (by omega))
  have hgt : ¬ ((s.size : Int) > 65536) := by omega
  have SK : Hid (Calls Tryz.prog 69 #[.string s, .int .i64 0] w fun e w' => e = .returned (.int .i64 (sepN s.data.toList : Nat)) ∧ w = w') := Lib.hid (by
    have := rskip_any s (by omega) 0 (Nat.zero_le _) w
    rw [List.drop_zero, Nat.zero_add] at this
    exact this)
  generalize scR s.data.toList = R at *
  generalize sepN s.data.toList = m at *
  go_enter Tryz.func53, Tryz.ntmps53
  go_wp2_with fail
  refine SK.out.mono ?_
  rintro e w1 ⟨rfl, rfl⟩
  go_wp2_with fail
  go_loopw [5, 6] (fun v i wr => ∃ (f k : Nat) (ts : List Tk), i = .int .i64 k ∧ OwnZ 83 wr w.heap.size v (tz ts) ∧ ScAt s.data.toList R f k ts ∧ Below w.heap.size w wr) (fun _ i _ => s.size - (intOf i).toNat)
  case atStart => exact ⟨_, m, [], rfl, OwnZ.nil _ _ _, ST.out, Below.refl _ _⟩
  case round =>
    obtain ⟨f, k, ts, rfl, hown, hat, hb⟩ := hrel
    have HO := Lib.hid hown
    have HA := Lib.hid hat
    have HB := Lib.hid hb
    clear hown hat hb ST SK
    have hkl := HA.out.hi
    by_cases hlt : k < s.size
    · have hlt' : (k : Int) < s.size := by omega
      have hle' : (k : Int) ≤ s.size := by omega
      have CALL := Lib.hid (one_any s k hlt (by omega) wr)
      go_wp2_with fail
      refine CALL.out.mono ?_
      rintro e w2 ⟨ha, hb⟩
      have HB2 := Lib.hid (HB.out.trans (hb.mono HB.out.size))
      have HO2 := Lib.hid (HO.out.stay hb)
      clear hb CALL HB HO
      cases ht : tokR (s.data.toList.drop k) with
      | error c =>
        rw [ht] at ha
        obtain ⟨hc, k1, t1, a1, n1, rfl⟩ := ha
        have E1 := Lib.hid (HA.out.bad (by omega) ht)
        have HC := Lib.hid hc
        have hc0 : (c != 0) = true := by unfold bne; rw [beq_false_of_ne hc]; rfl
        clear ht hc
        go_wp2_with fail
        refine bodyPost_ret (v := .tuple #[.slice none 0 0, .int .i64 k, .int .i64 c]) (by simp [results, Tryz.results53, go_sem]) rfl ⟨?_, HB2.out.alloc HB2.out.size _⟩
        rw [E1.out]
        exact ⟨rfl, HC.out⟩
      | ok p =>
        obtain ⟨k1, t1, n⟩ := p
        rw [ht] at ha
        have ha : e = .returned (.tuple #[tkV k1 ⟨t1.toArray⟩ k, .int .i64 (k + n : Nat), .int .i64 0]) := ha
        subst ha
        obtain ⟨hn1, hn2, f', hnx⟩ := HA.out.next (by omega) ht
        have HN := Lib.hid hnx
        have HZ := Lib.hid (tz_snoc ts k1 t1 k)
        clear ht hnx
        have hb3 := ((Below.refl w2.heap.size w2).alloc (Nat.le_refl _) (.cells #[.int .i64 k1, .string ⟨t1.toArray⟩, .int .i64 k] 83 (0, 0))).alloc (by simp) (.cells #[.int .i64 k1, .string ⟨t1.toArray⟩, .int .i64 k] 83 (0, 0))
        have HO4 := Lib.hid (HO2.out.stay hb3)
        have HB4 := Lib.hid (HB2.out.trans (hb3.mono HB2.out.size))
        have HNL := Lib.hid HA.out.len
        have HTL : Hid ((tz ts).length = ts.length) := Lib.hid (tz_len ts)
        have h00 : ((0 : Int) != 0) = false := rfl
        have hsm := hsz
        clear hb3
        generalize hzs : tz ts = zs at *
        have SK2 := Lib.hid (fun w5 => rskip_any s (by omega) (k + n) (by omega) w5)
        have hq := sepN_le (s.data.toList.drop (k + n))
        rw [List.length_drop] at hq
        generalize sepN (s.data.toList.drop (k + n)) = q at *
        generalize hkn : k + n = kn at *
        go_wp2_with (at_builtin; refine append_R rfl _ _ rfl w.heap.size _ zs rfl HO4.out _ _ (k1, t1, (k : Int)) rfl ?_ ?_ ?_ ?_)
        · intro j u hj
          have h9 := cells_L' (w2.alloc (.cells #[.int .i64 k1, .string ⟨t1.toArray⟩, .int .i64 k] 83)) #[.int .i64 k1, .string ⟨t1.toArray⟩, .int .i64 k] 83 (zC [(k1, t1, (k : Int))]) rfl j u hj
          rw [show (w2.alloc (.cells #[.int .i64 k1, .string ⟨t1.toArray⟩, .int .i64 k] 83)).heap.size = w2.heap.size + 1 by simp] at h9
          exact h9
        · have := HNL.out; have := HTL.out; omega
        · exact HB4.out.size
        · intro v' w5 h1 h2
          have HO5 := Lib.hid h1
          have HB5 := Lib.hid (HB4.out.grown h2 HB4.out.size (fun g hg => (HO4.out.lt g hg).1))
          clear h1 h2
          go_wp2_with fail
          refine (SK2.out w5).mono ?_
          rintro e w6 ⟨rfl, rfl⟩
          go_wp2_with fail
          go_roundw
          case rel => exact ⟨f', kn + q, ts ++ [(k1, t1, k)], by push_cast; rfl, by rw [HZ.out]; exact HO5.out, HN.out, HB5.out⟩
          case measure =>
            simp only [intOf]
            omega
    · have E1 := Lib.hid (HA.out.done (by omega))
      have hlt' : ¬ (k : Int) < s.size := by omega
      have hks : k = s.size := by omega
      have hb3 := (Below.refl wr.heap.size wr).alloc (Nat.le_refl _) (.cells #[.int .i64 5, .string ⟨#[]⟩, .int .i64 s.size] 83 (0, 0))
      have HO4 := Lib.hid (HO.out.stay hb3)
      have HB4 := Lib.hid (HB.out.trans (hb3.mono HB.out.size))
      have HNL := Lib.hid HA.out.len
      have HTL : Hid ((tz ts).length = ts.length) := Lib.hid (tz_len ts)
      have HZ := Lib.hid (tz_snoc ts 5 [] k)
      have HKS := Lib.hid hks
      generalize hzs : tz ts = zs at *
      clear hb3 hks
      go_wp2_with (at_builtin; refine append_R rfl _ _ rfl w.heap.size _ zs rfl HO4.out _ _ (5, [], (s.size : Int)) rfl ?_ ?_ ?_ ?_)
      · exact fun j u h => h
      · have := HNL.out; have := HTL.out; omega
      · have := HB.out.size; omega
      · intro v' w5 h1 h2
        have HO5 := Lib.hid h1
        have HB5 := Lib.hid (HB4.out.grown h2 HB4.out.size (fun g hg => (HO4.out.lt g hg).1))
        clear h1 h2
        go_wp2_with fail
        refine bodyPost_ret (v := .tuple #[v', .int .i64 0, .int .i64 0]) (by simp [results, Tryz.results53, go_sem]) rfl ⟨?_, HB5.out⟩
        rw [E1.out]
        refine ⟨_, rfl, ?_⟩
        rw [HZ.out, HKS.out]
        exact HO5.out
theorem rscan_any (s : ByteArray) (w : World) : Calls Tryz.prog 53 #[.string s] w (RScanPost (scR s.data.toList) w) := by
  rcases Nat.lt_or_ge 65536 s.size with h | h
  · exact rscan_long s h w
  · exact rscan_short s h w
end Go.Proofs.YtgicbmibhnnflaaGreatDoor
