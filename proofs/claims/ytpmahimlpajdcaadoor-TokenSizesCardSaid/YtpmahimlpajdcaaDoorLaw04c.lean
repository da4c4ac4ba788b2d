
/-
  The law TokenSizes.
-/
import Derived.Test.YtpmahimlpajdcaaDoorLaw04a
import Derived.Lib.AppendStr
namespace Go.Proofs.YtpmahimlpajdcaaDoor
open Go.RowKit
theorem scF_err : ∀ (f a : Nat) (l : List UInt8) (x : Nat × Int), l.length < f → scF f a l = .error x → x.1 < a + l.length
  | 0, _, _, _, h, _ => absurd h (Nat.not_lt_zero _)
  | f + 1, a, l, x, h, he => by
    have hsz : sepN l ≤ l.length := sepN_le l
    rw [scF_succ] at he
    by_cases hd : l.drop (sepN l) = []
    · rw [if_pos hd] at he; cases he
    · rw [if_neg hd] at he
      have hpos : 0 < (l.drop (sepN l)).length := List.length_pos_iff.2 hd
      rw [List.length_drop] at hpos
      cases ht : tokR (l.drop (sepN l)) with
      | error c => rw [ht] at he; cases he; show a + sepN l < _; omega
      | ok p =>
        obtain ⟨k, t, n⟩ := p
        rw [ht] at he
        obtain ⟨h1, h2⟩ := tokR_len hd ht
        rw [List.length_drop] at h2
        simp only at he
        cases hs : scF f (a + sepN l + n) ((l.drop (sepN l)).drop n) with
        | ok ts => rw [hs] at he; cases he
        | error e =>
          rw [hs] at he
          cases he
          have := scF_err f _ _ _ (by rw [List.length_drop, List.length_drop]; omega) hs
          rw [List.length_drop, List.length_drop] at this
          omega
theorem append_str {w : World} {ops : Array Oper} {rest : List Oper} {o : Oper} {a : Act} {Q : Exit → Act → World → Prop} (hgd : o.guard = none) (s x : Operand)
    (ho : o.op = .call { callee := .builtin .append, args := #[s, x], argTypes := #[23, 9] }) (base : Nat) (v : Value) (l : List UInt8) (hs : a.eval s = v) (hown : T1.OwnB w base v l)
    (p : ByteArray) (hx : a.eval x = .string p) (hlen : l.length + p.size ≤ 70368744177664) (hbase : base ≤ w.heap.size)
    (h : ∀ v' w', T1.OwnB w' base v' (l ++ p.data.toList) → w.grownBy w' v.ownBlock → wpList Tryd.prog ops Q rest (a.put o.dst v') w') : wpList Tryd.prog ops Q (o :: rest) a w := by
  obtain ⟨i0, hi, hz0, hz1, hz2⟩ := info_parts T1.info5
  refine Lib.wpList_append_own_string w hgd s x 23 9 ho base 5 i0 Tryd.underlying23 Tryd.underlying9 hi hz0 hz1 hz2 v l.length _ hs hown p hx (by unfold maxLen; omega) (by omega) hbase ?_
  intro v' w' h1 h2 _
  refine h v' w' ?_ h2
  unfold T1.OwnB
  rw [List.length_append, List.map_append, T1.size_eq]
  exact h1
def SizesTrue (p : ByteArray) (n : Int) (w : World) : Prop := Calls Tryd.prog 3 #[.string p, .int .i64 n] w fun e w' => e = .returned (.bool true) ∧ Below w.heap.size w w'
set_option maxRecDepth 100000 in
set_option maxHeartbeats 4000000 in
theorem sizes_early (p : ByteArray) (n : Int) (w : World) (hL : LK w) (h : p.size < 1 ∨ 100 < p.size ∨ n < 0 ∨ 65546 < n ∨ (131072 < (p.size : Int) * n ∧ 0 ≤ (p.size : Int) * n ∧ (p.size : Int) * n ≤ 6554600)) : SizesTrue p n w := by
  have EX := Lib.hid (example_any w hL)
  clear hL
  unfold SizesTrue
  have fin : ∀ w2 : World, Below w.heap.size w w2 → Hid (Below w.heap.size w w2) := fun _ h => Lib.hid h
  by_cases c1 : p.size < 1
  · have d1 : decide ((p.size : Int) < 1) = true := decide_eq_true (by omega)
    clear h
    go_enter Tryd.func3, Tryd.ntmps3
    go_wp2_with fail
    refine EX.out.mono ?_
    rintro e w2 ⟨rfl, hb⟩
    have HB := fin w2 hb
    clear hb fin
    go_wp2_with fail
    go_ret
    exact ⟨rfl, HB.out⟩
  have d1 : decide ((p.size : Int) < 1) = false := decide_eq_false (by omega)
  have g1 : ¬ (p.size : Int) < 1 := by omega
  by_cases c2 : 100 < p.size
  · have d2 : decide ((p.size : Int) > 100) = true := decide_eq_true (by omega)
    have g2 : (p.size : Int) > 100 := by omega
    clear h
    go_enter Tryd.func3, Tryd.ntmps3
    go_wp2_with fail
    refine EX.out.mono ?_
    rintro e w2 ⟨rfl, hb⟩
    have HB := fin w2 hb
    clear hb fin
    go_wp2_with fail
    go_ret
    exact ⟨rfl, HB.out⟩
  have g2 : ¬ (p.size : Int) > 100 := by omega
  by_cases c3 : n < 0
  · clear h
    go_enter Tryd.func3, Tryd.ntmps3
    go_wp2_with fail
    refine EX.out.mono ?_
    rintro e w2 ⟨rfl, hb⟩
    have HB := fin w2 hb
    clear hb fin
    go_wp2_with fail
    go_ret
    exact ⟨rfl, HB.out⟩
  by_cases c4 : n > 65546
  · clear h
    go_enter Tryd.func3, Tryd.ntmps3
    go_wp2_with fail
    refine EX.out.mono ?_
    rintro e w2 ⟨rfl, hb⟩
    have HB := fin w2 hb
    clear hb fin
    go_wp2_with fail
    go_ret
    exact ⟨rfl, HB.out⟩
  have h5 : 131072 < (p.size : Int) * n ∧ 0 ≤ (p.size : Int) * n ∧ (p.size : Int) * n ≤ 6554600 := by
    rcases h with h | h | h | h | h
    · exact absurd h c1
    · exact absurd h c2
    · exact absurd h c3
    · exact absurd h c4
    · exact h
  obtain ⟨h5, h6, h7⟩ := h5
  generalize hM : (p.size : Int) * n = M at *
  have g5 : M > 131072 := h5
  clear h
  go_enter Tryd.func3, Tryd.ntmps3
  go_wp2_with fail
  refine EX.out.mono ?_
  rintro e w2 ⟨rfl, hb⟩
  have HB := fin w2 hb
  clear hb fin
  go_wp2_with fail
  go_ret
  exact ⟨rfl, HB.out⟩
set_option maxRecDepth 1000000 in
set_option maxHeartbeats 8000000 in
theorem sizes_late (p : ByteArray) (t M : Nat) (w : World) (hL : LK w) (h1 : 1 ≤ p.size) (h2 : p.size ≤ 100) (h3 : t ≤ 65546) (hM : p.size * t = M) (h4 : M ≤ 131072) : SizesTrue p (t : Int) w := by
  have hMi : (p.size : Int) * (t : Int) = (M : Int) := by rw [← hM]; push_cast; rfl
  have HL := Lib.hid hL
  have HM := Lib.hid hM
  obtain ⟨i0, hi, hz0, hz1, hz2⟩ := info_parts T1.info5
  have g1 : ¬ (p.size : Int) < 1 := by omega
  have g2 : ¬ (p.size : Int) > 100 := by omega
  have g3 : ¬ (t : Int) < 0 := by omega
  have g4 : ¬ (t : Int) > 65546 := by omega
  have g5 : ¬ (M : Int) > 131072 := by omega
  unfold SizesTrue
  clear hL hM
  go_enter Tryd.func3, Tryd.ntmps3
  go_wp2_with (refine wpList_make_own _ rfl _ _ 23 rfl w.heap.size 5 i0 (.int .u8 0) 1 Tryd.underlying23 hi hz0 hz1 _ _ _ M rfl rfl rfl ?_ ?_ ?_ ?_)
  · omega
  · unfold maxLen; omega
  intro w1 hown1 hgr1
  have hown1 : T1.OwnB w1 w.heap.size _ [] := hown1
  have HO1 := Lib.hid hown1
  have HB1 : Hid (Below w.heap.size w w1) := Lib.hid ((Below.refl _ _).grown hgr1 (Nat.le_refl _) (by simp))
  clear hgr1 hown1
  go_wp2_with fail
  go_loopw [5, 6] (fun v i wr => ∃ k : Nat, k ≤ t ∧ i = .int .i64 k ∧ T1.OwnB wr w.heap.size v (List.replicate k p.data.toList).flatten ∧ Below w.heap.size w wr) (fun _ i _ => t - (intOf i).toNat)
  case atStart => exact ⟨0, Nat.zero_le _, rfl, HO1.out, HB1.out⟩
  case round =>
    obtain ⟨k, hk, rfl, hown, hb⟩ := hrel
    have HO := Lib.hid hown
    have HB := Lib.hid hb
    have hll : ((List.replicate k p.data.toList).flatten).length = k * p.size := by
      rw [List.length_flatten, List.map_replicate, List.sum_replicate_nat, T1.size_eq]
    have HLL := Lib.hid hll
    clear hown hb HO1 HB1 hll
    by_cases hlt : k < t
    · have hlt' : (k : Int) < (t : Int) := by omega
      have hkm : Hid (k * p.size + p.size ≤ M) := Lib.hid (by
        have h9 : (k + 1) * p.size ≤ t * p.size := Nat.mul_le_mul_right _ (by omega)
        rw [Nat.add_mul, Nat.one_mul, Nat.mul_comm t, HM.out] at h9
        exact h9)
      go_wp2_with (at_builtin; refine append_str rfl _ _ rfl w.heap.size _ _ rfl HO.out p rfl ?_ ?_ ?_)
      · rw [HLL.out]; have := hkm.out; omega
      · exact HB.out.size
      · intro v2 w2 q1 q2
        have HB2 := Lib.hid (HB.out.grown q2 HB.out.size (fun g hg => (HO.out.lt g hg).1))
        have HO2 : Hid (T1.OwnB w2 w.heap.size v2 (List.replicate (k + 1) p.data.toList).flatten) := Lib.hid (by
          have e : (List.replicate (k + 1) p.data.toList).flatten = (List.replicate k p.data.toList).flatten ++ p.data.toList := by
            rw [List.replicate_succ', List.flatten_append]; simp
          rw [e]
          exact q1)
        clear q1 q2
        go_wp2_with fail
        go_roundw
        case rel => exact ⟨k + 1, by omega, by go_num, HO2.out, HB2.out⟩
        case measure => simp [intOf]; omega
    · obtain rfl : k = t := by omega
      have hlt' : ¬ (k : Int) < (k : Int) := by omega
      generalize hl : (List.replicate k p.data.toList).flatten = l at *
      have hln : l.length = M := by rw [HLL.out, Nat.mul_comm, HM.out]
      obtain ⟨A, c, rfl, hsl⟩ : ∃ A c, u5 = .slice A M c ∧ True := by
        rcases HO.out.2 with ⟨rfl, hz⟩ | ⟨g, cap, cur, rfl, _⟩
        · have : l = [] := by simpa using hz
          subst this
          exact ⟨none, 0, by rw [← hln]; rfl, trivial⟩
        · exact ⟨_, _, by rw [hln], trivial⟩
      have hcv := HO.out.string'
      have SC0 := scan_any ⟨l.toArray⟩ wr (HL.out.below HB.out)
      have e0 : (⟨l.toArray⟩ : ByteArray).data.toList = l := by simp
      rw [e0] at SC0
      have SC := Lib.hid SC0
      have HLN := Lib.hid hln
      clear SC0 e0 hl HLL hln hsl
      go_wp2_with fail
      refine SC.out.mono ?_
      rintro e w2 ⟨ha, hb⟩
      have HB2 := Lib.hid (HB.out.trans (hb.mono HB.out.size))
      have EX := Lib.hid (example_any w2 (HL.out.below HB2.out))
      clear hb SC
      by_cases hm : 65536 < M
      · have hR : scR l = .error (65536, 4) := by unfold scR; rw [HLN.out, if_pos hm]
        rw [hR] at ha
        obtain ⟨rfl, _⟩ := ha
        have gm : (M : Int) > 65536 := by omega
        clear hR
        go_wp2_with fail
        refine EX.out.mono ?_
        rintro e w3 ⟨rfl, hb⟩
        have HB3 := Lib.hid (HB2.out.trans (hb.mono HB2.out.size))
        clear hb
        go_wp2_with fail
        go_ret
        exact ⟨rfl, HB3.out⟩
      · have gm : ¬ (M : Int) > 65536 := by omega
        cases hR : scR l with
        | ok ts =>
          rw [hR] at ha
          obtain ⟨v, rfl, _⟩ := ha
          clear hR
          go_wp2_with fail
          refine EX.out.mono ?_
          rintro e w3 ⟨rfl, hb⟩
          have HB3 := Lib.hid (HB2.out.trans (hb.mono HB2.out.size))
          clear hb
          go_wp2_with fail
          go_ret
          exact ⟨rfl, HB3.out⟩
        | error x =>
          rw [hR] at ha
          obtain ⟨j, c9⟩ := x
          obtain ⟨rfl, _⟩ := ha
          have hj : j < 65536 := by
            have h9 : scF (l.length + 1) 0 l = .error (j, c9) := by unfold scR at hR; rw [if_neg (by have := HLN.out; omega)] at hR; exact hR
            have := scF_err _ 0 l _ (Nat.lt_succ_self _) h9
            have := HLN.out
            simp at *
            omega
          have gj : (j : Int) < 65536 := by omega
          clear hj
          by_cases h4c : c9 = 4
          · subst h4c
            clear hR
            go_wp2_with fail
            refine EX.out.mono ?_
            rintro e w3 ⟨rfl, hb⟩
            have HB3 := Lib.hid (HB2.out.trans (hb.mono HB2.out.size))
            clear hb
            go_wp2_with fail
            go_ret
            exact ⟨rfl, HB3.out⟩
          · have k1 : (c9 == 4) = false := beq_false_of_ne h4c
            have k2 : (c9 != 4) = true := by simpa using h4c
            clear hR
            go_wp2_with fail
            refine EX.out.mono ?_
            rintro e w3 ⟨rfl, hb⟩
            have HB3 := Lib.hid (HB2.out.trans (hb.mono HB2.out.size))
            clear hb
            go_wp2_with fail
            go_ret
            exact ⟨rfl, HB3.out⟩
theorem sizes_row (p : ByteArray) (n : Int) (w : World) (hL : LK w) (_hs : p.size ≤ maxLen) (_wf : (Lit.int .i64 n).wf = true) : SizesTrue p n w := by
  by_cases c1 : p.size < 1
  · exact sizes_early p n w hL (.inl c1)
  by_cases c2 : 100 < p.size
  · exact sizes_early p n w hL (.inr (.inl c2))
  by_cases c3 : n < 0
  · exact sizes_early p n w hL (.inr (.inr (.inl c3)))
  by_cases c4 : 65546 < n
  · exact sizes_early p n w hL (.inr (.inr (.inr (.inl c4))))
  obtain ⟨t, rfl⟩ : ∃ t : Nat, n = t := ⟨n.toNat, by omega⟩
  have hm : p.size * t ≤ 100 * 65546 := Nat.mul_le_mul (by omega) (by omega)
  have e : (p.size : Int) * (t : Int) = ((p.size * t : Nat) : Int) := by push_cast; rfl
  by_cases c5 : 131072 < p.size * t
  · exact sizes_early p t w hL (.inr (.inr (.inr (.inr (by rw [e]; omega)))))
  · exact sizes_late p t _ w hL (by omega) (by omega) (by omega) rfl (by omega)
theorem sizes_any (p : ByteArray) (n : Int) (w : World) (hL : LK w) (hs : p.size ≤ maxLen) (wf : (Lit.int .i64 n).wf = true) :
    Calls Tryd.prog 3 #[.string p, .int .i64 n] w fun e w' => e = .returned (.bool true) ∧ Below w.heap.size w w' := sizes_row p n w hL hs wf
end Go.Proofs.YtpmahimlpajdcaaDoor
