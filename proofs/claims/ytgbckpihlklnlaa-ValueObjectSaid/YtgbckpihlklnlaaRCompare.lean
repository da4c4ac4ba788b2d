
/-
  Contract of the reference's Compare and Same.
-/
import Derived.Test.YtgbckpihlklnlaaCompare
namespace Go.Proofs.Ytgbckpihlklnlaa
open Go.RowKit
theorem cmpsAt_short {is : List VT} {ks : List ByteArray} {is' : List VT} {ks' : List ByteArray} {j : Nat} (h : j = min is.length is'.length) : cmpsAt is ks is' ks' j = Lib.compareInt is.length is'.length := by
  by_cases h1 : j < is.length ∨ j < is'.length
  · unfold cmpsAt Lib.compareInt
    by_cases h2 : j < is.length
    · rw [List.drop_eq_getElem_cons h2, List.drop_of_length_le (by omega : is'.length ≤ j), VT.cmps, if_neg (by omega), if_pos (by omega)]
    · have h3 : j < is'.length := by omega
      rw [List.drop_of_length_le (by omega : is.length ≤ j), List.drop_eq_getElem_cons h3, VT.cmps, if_pos (by omega)]
  · rw [cmpsAt_done (by omega) (by omega)]
    unfold Lib.compareInt
    rw [if_neg (by omega), if_neg (by omega)]
theorem orE_zero (y : Int) : orE 0 y = y := by unfold orE; rw [if_pos rfl]
theorem orE_one {x : Int} (y : Int) (h : x ≠ 0) : orE x y = x := by unfold orE; rw [if_neg h]
theorem orE_orE (x y z : Int) : orE (orE x y) z = orE x (orE y z) := by
  unfold orE
  by_cases h : x = 0
  · rw [if_pos h, if_pos h]
  · rw [if_neg h, if_neg h, if_neg h]
set_option maxRecDepth 100000 in
set_option maxHeartbeats 2000000 in
theorem rcompare_any (t : VT) : CmpAt 28 t := by
  induction t using VT.ind with
  | h k n s items keys ih =>
  intro t' w B v v' h h' hB
  have HRD := Lib.hid h
  have HRD' := Lib.hid h'
  have IH := Lib.hid ih
  clear ih
  cases h with
  | @mk _ _ _ A li ci K lk ck _ _ V hk hn hs hks hli hlk hbi hbk hA hr hK =>
  cases h' with
  | @mk k' n' s' A' li' ci' K' lk' ck' items' keys' V' hk' hn' hs' hks' hli' hlk' hbi' hbk' hA' hr' hK' =>
  have HA := Lib.hid hA
  have HR := Lib.hid hr
  have HL := Lib.hid hli
  have HA' := Lib.hid hA'
  have HR' := Lib.hid hr'
  have HL' := Lib.hid hli'
  clear hA hr hA' hr' hli hli' hK hK' hks hks' hk hk' hn hn' hs hs' hlk hlk' hbk hbk'
  obtain ⟨f1, f2, f3⟩ := Box.two w (.int .i64 k) (.int .i64 n) (.string s) (.slice A li ci) (.slice K lk ck) (.int .i64 k') (.int .i64 n') (.string s') (.slice A' li' ci') (.slice K' lk' ck')
  have F1 := Lib.hid f1
  have F2 := Lib.hid f2
  have F3 := Lib.hid f3
  clear f1 f2 f3
  have hlm : (li : Int) ≤ 140737488351232 := by omega
  have hlm' : (li' : Int) ≤ 140737488351232 := by omega
  have HE : Hid ((VT.mk k n s items keys).cmp (VT.mk k' n' s' items' keys') = orE (orE (Lib.compareInt k k') (orE (Lib.compareInt n n') (cmpB s s'))) (cmpsAt items keys items' keys' 0)) := Lib.hid (by unfold VT.cmp; rw [← orE_orE]; rfl)
  generalize (VT.mk k n s items keys).cmp (VT.mk k' n' s' items' keys') = res at *
  by_cases e1 : Lib.compareInt k k' = 0
  · have E1 : Hid (Lib.compareInt k k' = 0) := Lib.hid e1
    have e1' : (Lib.compareInt k k' == 0) = true := by simp [e1]
    clear e1
    by_cases e2 : Lib.compareInt n n' = 0
    · have HS : Hid (res = orE (cmpB s s') (cmpsAt items keys items' keys' 0)) := Lib.hid (by rw [HE.out, E1.out, e2, orE_zero, orE_zero])
      have e2' : (Lib.compareInt n n' == 0) = true := by simp [e2]
      clear e2
      go_enter Try.func28, Try.ntmps28
      go_wp2_with fail
      refine (ints_any _ _ _).mono ?_
      rintro e w' ⟨rfl, rfl⟩
      go_wp2_with fail
      refine (ints_any _ _ _).mono ?_
      rintro e w' ⟨rfl, rfl⟩
      go_wp2_with fail
      refine (strings_any _ _ _).mono ?_
      rintro e w' ⟨rfl, rfl⟩
      go_wp2_with fail
      go_loopw [5, 6] (fun o i wr => ∃ (j : Nat) (c : Int), j ≤ min li li' + 1 ∧ (c = 0 → j ≤ min li li') ∧ i = .int .i64 j ∧ o = .int .i64 c ∧ res = orE c (cmpsAt items keys items' keys' j) ∧ Below w.heap.size w wr ∧
        Box wr w.heap.size (.int .i64 k) (.int .i64 n) (.string s) (.slice A li ci) (.slice K lk ck) ∧ Box wr (w.heap.size + 1) (.int .i64 k') (.int .i64 n') (.string s') (.slice A' li' ci') (.slice K' lk' ck')) (fun _ i _ => min li li' + 2 - (intOf i).toNat)
      case atStart => exact ⟨0, cmpB s s', Nat.zero_le _, fun _ => Nat.zero_le _, rfl, rfl, HS.out, F3.out, F1.out, F2.out⟩
      case round =>
        obtain ⟨j, c, hj, hjc, rfl, rfl, hres, hb, hx1, hx2⟩ := hrel
        have HRES := Lib.hid hres
        have HB := Lib.hid hb
        have hl1 := hx1.lt
        have hl2 := hx2.lt
        have HX1 := Lib.hid hx1
        have HX2 := Lib.hid hx2
        obtain ⟨p0, p1, p2, p3, p4⟩ := hx1.cells
        obtain ⟨q0, q1, q2, q3, q4⟩ := hx2.cells
        clear hres hb hx1 hx2
        by_cases hc : c = 0
        · subst hc
          have hj' : j ≤ min li li' := hjc rfl
          clear hjc
          by_cases hlt : j < min li li'
          · have h1 : j < li := by omega
            have h2 : j < li' := by omega
            obtain ⟨a, t, k1, n1, s1, A1, li1, ci1, K1, lk1, ck1, rfl, ht, e, hrd, _, _, _, _, _⟩ := round_at HA.out HR.out HL.out (Below.refl _ _) h1
            obtain ⟨a', t', k1', n1', s1', A1', li1', ci1', K1', lk1', ck1', rfl, ht', e', hrd', _, _, _, _, _⟩ := round_at HA'.out HR'.out HL'.out (Below.refl _ _) h2
            have HC : Hid (C5 w (a.add (j * 5)) (V j)) := Lib.hid (by obtain ⟨_, e, _, h⟩ := HA.out (by omega); cases e; exact h j h1)
            have HC' : Hid (C5 w (a'.add (j * 5)) (V' j)) := Lib.hid (by obtain ⟨_, e, _, h⟩ := HA'.out (by omega); cases e; exact h j h2)
            have hab : (a.add (j * 5)).block < B := by obtain ⟨_, e, h, _⟩ := HA.out (by omega); cases e; rw [add_block]; exact h
            have hab' : (a'.add (j * 5)).block < B := by obtain ⟨_, e, h, _⟩ := HA'.out (by omega); cases e; rw [add_block]; exact h
            have HST : Hid (res = orE (cmpB (keyI keys j) (keyI keys' j)) (orE (t.cmp t') (cmpsAt items keys items' keys' (j + 1)))) := Lib.hid (by
              rw [HRES.out, orE_zero, cmpsAt_step (.inl (by have := HL.out; omega))]
              unfold elemCmp
              rw [ht, ht', ← orE_orE])
            have IHH := Lib.hid (IH.out j t ht t')
            have E := Lib.hid e
            have E' := Lib.hid e'
            have HT := Lib.hid hrd
            have HT' := Lib.hid hrd'
            clear e e' hrd hrd' ht ht'
            go_wp2_with fail
            refine wp_region_past (fun W => Box W w.heap.size (.int .i64 k) (.int .i64 n) (.string s) (.slice (some a) li ci) (.slice K lk ck) ∧ Box W (w.heap.size + 1) (.int .i64 k') (.int .i64 n') (.string s') (.slice (some a') li' ci') (.slice K' lk' ck') ∧ Below w.heap.size w W) ⟨HX1.out, HX2.out, HB.out⟩ (by kernel_rfl) ?_
            clear p0 p1 p2 p3 p4 q0 q1 q2 q3 q4
            intro W ⟨f1, f2, f3⟩ _
            obtain ⟨p0, p1, p2, p3, p4⟩ := f1.past
            obtain ⟨q0, q1, q2, q3, q4⟩ := f2.past
            have G1 := Lib.hid f1
            have G2 := Lib.hid f2
            have G3 := Lib.hid f3
            clear f1 f2 f3
            have C1 : Hid (∀ x : Past W, Calls Try.prog 42 #[.agg #[.int .i64 k, .int .i64 n, .string s, .slice (some a) li ci, .slice K lk ck], .int .i64 j] x.w fun e w'' => e = .returned (.string (keyI keys j)) ∧ ∃ y : Past W, w'' = y.w) :=
              Lib.hid fun x => past_of x (rkey_any _ j _ W.heap.size _ (((HRD.out.mono hB).kept G3.out).kept (x.b.mono G3.out.size) |>.mono G3.out.size) x.le (by omega))
            have C2 : Hid (∀ x : Past W, Calls Try.prog 42 #[.agg #[.int .i64 k', .int .i64 n', .string s', .slice (some a') li' ci', .slice K' lk' ck'], .int .i64 j] x.w fun e w'' => e = .returned (.string (keyI keys' j)) ∧ ∃ y : Past W, w'' = y.w) :=
              Lib.hid fun x => past_of x (rkey_any _ j _ W.heap.size _ (((HRD'.out.mono hB).kept G3.out).kept (x.b.mono G3.out.size) |>.mono G3.out.size) x.le (by omega))
            generalize keyI keys j = y at *
            generalize keyI keys' j = y' at *
            have C3 : Hid (∀ x : Past W, Calls Try.prog 41 #[.string y, .string y'] x.w fun e w'' => e = .returned (.int .i64 (cmpB y y')) ∧ ∃ y : Past W, w'' = y.w) :=
              Lib.hid fun x => past_same x (strings_any y y' x.w)
            repeat (go_big_quiet_step (first | with_reducible exact C1.out _ | with_reducible exact C2.out _ | with_reducible exact C3.out _))
            refine wpQuiet_nil ?_
            intro _ hw'
            obtain ⟨x, rfl⟩ := hw'
            have HBx := Lib.hid (G3.out.trans (x.b.mono G3.out.size))
            have HX1' := Lib.hid (G1.out.kept x.b)
            have HX2' := Lib.hid (G2.out.kept x.b)
            clear p0 p1 p2 p3 p4 q0 q1 q2 q3 q4
            generalize x.w = wx at *
            generalize cmpB y y' = c1 at *
            by_cases hc : c1 = 0
            · subst hc
              have HST2 : Hid (res = orE (t.cmp t') (cmpsAt items keys items' keys' (j + 1))) := Lib.hid (by rw [HST.out, orE_zero])
              go_wp2_with fail
              refine wp_region_past (fun W => Box W w.heap.size (.int .i64 k) (.int .i64 n) (.string s) (.slice (some a) li ci) (.slice K lk ck) ∧ Box W (w.heap.size + 1) (.int .i64 k') (.int .i64 n') (.string s') (.slice (some a') li' ci') (.slice K' lk' ck') ∧ Below w.heap.size w W) ⟨HX1'.out, HX2'.out, HBx.out⟩ (by kernel_rfl) ?_
              intro W2 ⟨f1, f2, f3⟩ _
              obtain ⟨p0, p1, p2, p3, p4⟩ := f1.past
              obtain ⟨q0, q1, q2, q3, q4⟩ := f2.past
              obtain ⟨r0, r1, r2, r3, r4⟩ := (HC.out.kept (by omega) f3).past E.out (Nat.lt_of_lt_of_le (Nat.lt_of_lt_of_le hab hB) f3.size)
              obtain ⟨u0, u1, u2, u3, u4⟩ := (HC'.out.kept (by omega) f3).past E'.out (Nat.lt_of_lt_of_le (Nat.lt_of_lt_of_le hab' hB) f3.size)
              have Z1 := Lib.hid f1
              have Z2 := Lib.hid f2
              have Z3 := Lib.hid f3
              clear f1 f2 f3
              have C4 : Hid (∀ x : Past W2, Calls Try.prog 28 #[.agg #[.int .i64 k1, .int .i64 n1, .string s1, .slice A1 li1 ci1, .slice K1 lk1 ck1], .agg #[.int .i64 k1', .int .i64 n1', .string s1', .slice A1' li1' ci1', .slice K1' lk1' ck1']] x.w fun e w'' => e = .returned (.int .i64 (t.cmp t')) ∧ ∃ y : Past W2, w'' = y.w) :=
                Lib.hid fun x => past_of x (by
                  have g := Z3.out.trans (x.b.mono Z3.out.size)
                  have := IHH.out x.w B (V j) (V' j) (HT.out.kept (g.mono hB)) (HT'.out.kept (g.mono hB)) (Nat.le_trans hB g.size)
                  rwa [E.out, E'.out] at this)
              have hi0 : (0 : Int) ≤ (j : Int) := by omega
              have hi1 : (j : Int) < (li : Int) := by omega
              have hi2 : (j : Int) < (li' : Int) := by omega
              repeat (go_big_quiet_step (with_reducible exact C4.out _))
              refine wpQuiet_nil ?_
              intro _ hw'
              obtain ⟨x, rfl⟩ := hw'
              have HBy := Lib.hid (Z3.out.trans (x.b.mono Z3.out.size))
              have HY1 := Lib.hid (Z1.out.kept x.b)
              have HY2 := Lib.hid (Z2.out.kept x.b)
              clear p0 p1 p2 p3 p4 q0 q1 q2 q3 q4 r0 r1 r2 r3 r4 u0 u1 u2 u3 u4
              generalize x.w = wy at *
              go_wp2_with fail
              go_roundw
              case rel => exact ⟨j + 1, t.cmp t', by omega, fun _ => by omega, by go_num, rfl, HST2.out, HBy.out, HY1.out, HY2.out⟩
              case measure => simp [intOf]; omega
            · have hc' : (c1 == 0) = false := by simp [hc]
              have HST2 : Hid (res = orE c1 (cmpsAt items keys items' keys' (j + 1))) := Lib.hid (by rw [HST.out, orE_one _ hc, orE_one _ hc])
              have HCN := Lib.hid hc
              clear hc
              go_wp2_with fail
              go_roundw
              case rel => exact ⟨j + 1, c1, by omega, fun h => absurd h HCN.out, by go_num, rfl, HST2.out, HBx.out, HX1'.out, HX2'.out⟩
              case measure => simp [intOf]; omega
          · have hj2 : j = min items.length items'.length := by have := HL.out; have := HL'.out; omega
            have HJ : Hid (res = Lib.compareInt li li') := Lib.hid (by rw [HRES.out, orE_zero, cmpsAt_short hj2, HL.out, HL'.out])
            clear hj2
            by_cases h1 : li ≤ j
            · have h1' : (li : Int) ≤ (j : Int) := by omega
              have hd : decide (li ≤ j) = true := by simpa using h1
              go_wp2_with fail
              refine (ints_any _ _ _).mono ?_
              rintro e w' ⟨rfl, rfl⟩
              go_wp2_with fail
              go_ret
              exact ⟨by rw [HJ.out]; rfl, HB.out⟩
            · have h2 : li' ≤ j := by omega
              have h2' : (li' : Int) ≤ (j : Int) := by omega
              have hd : decide (li ≤ j) = false := by simpa using h1
              have hd2 : decide (li' ≤ j) = true := by simpa using h2
              go_wp2_with fail
              refine (ints_any _ _ _).mono ?_
              rintro e w' ⟨rfl, rfl⟩
              go_wp2_with fail
              go_ret
              exact ⟨by rw [HJ.out]; rfl, HB.out⟩
        · have hc' : (c == 0) = false := by simp [hc]
          have HR2 : Hid (res = c) := Lib.hid (by rw [HRES.out, orE_one _ hc])
          clear hc hjc
          go_wp2_with fail
          go_ret
          exact ⟨by rw [HR2.out]; rfl, HB.out⟩
    · have HS : Hid (res = orE (Lib.compareInt n n') (cmpsAt items keys items' keys' 0)) := Lib.hid (by rw [HE.out, E1.out, orE_zero, orE_one _ e2])
      have e2' : (Lib.compareInt n n' == 0) = false := by simp [e2]
      clear e2
      go_enter Try.func28, Try.ntmps28
      go_wp2_with fail
      refine (ints_any _ _ _).mono ?_
      rintro e w' ⟨rfl, rfl⟩
      go_wp2_with fail
      refine (ints_any _ _ _).mono ?_
      rintro e w' ⟨rfl, rfl⟩
      go_wp2_with fail
      go_loopw [5, 6] (fun o i wr => ∃ (j : Nat) (c : Int), j ≤ min li li' + 1 ∧ (c = 0 → j ≤ min li li') ∧ i = .int .i64 j ∧ o = .int .i64 c ∧ res = orE c (cmpsAt items keys items' keys' j) ∧ Below w.heap.size w wr ∧
        Box wr w.heap.size (.int .i64 k) (.int .i64 n) (.string s) (.slice A li ci) (.slice K lk ck) ∧ Box wr (w.heap.size + 1) (.int .i64 k') (.int .i64 n') (.string s') (.slice A' li' ci') (.slice K' lk' ck')) (fun _ i _ => min li li' + 2 - (intOf i).toNat)
      case atStart => exact ⟨0, Lib.compareInt n n', Nat.zero_le _, fun _ => Nat.zero_le _, rfl, rfl, HS.out, F3.out, F1.out, F2.out⟩
      case round =>
        obtain ⟨j, c, hj, hjc, rfl, rfl, hres, hb, hx1, hx2⟩ := hrel
        have HRES := Lib.hid hres
        have HB := Lib.hid hb
        have hl1 := hx1.lt
        have hl2 := hx2.lt
        have HX1 := Lib.hid hx1
        have HX2 := Lib.hid hx2
        obtain ⟨p0, p1, p2, p3, p4⟩ := hx1.cells
        obtain ⟨q0, q1, q2, q3, q4⟩ := hx2.cells
        clear hres hb hx1 hx2
        by_cases hc : c = 0
        · subst hc
          have hj' : j ≤ min li li' := hjc rfl
          clear hjc
          by_cases hlt : j < min li li'
          · have h1 : j < li := by omega
            have h2 : j < li' := by omega
            obtain ⟨a, t, k1, n1, s1, A1, li1, ci1, K1, lk1, ck1, rfl, ht, e, hrd, _, _, _, _, _⟩ := round_at HA.out HR.out HL.out (Below.refl _ _) h1
            obtain ⟨a', t', k1', n1', s1', A1', li1', ci1', K1', lk1', ck1', rfl, ht', e', hrd', _, _, _, _, _⟩ := round_at HA'.out HR'.out HL'.out (Below.refl _ _) h2
            have HC : Hid (C5 w (a.add (j * 5)) (V j)) := Lib.hid (by obtain ⟨_, e, _, h⟩ := HA.out (by omega); cases e; exact h j h1)
            have HC' : Hid (C5 w (a'.add (j * 5)) (V' j)) := Lib.hid (by obtain ⟨_, e, _, h⟩ := HA'.out (by omega); cases e; exact h j h2)
            have hab : (a.add (j * 5)).block < B := by obtain ⟨_, e, h, _⟩ := HA.out (by omega); cases e; rw [add_block]; exact h
            have hab' : (a'.add (j * 5)).block < B := by obtain ⟨_, e, h, _⟩ := HA'.out (by omega); cases e; rw [add_block]; exact h
            have HST : Hid (res = orE (cmpB (keyI keys j) (keyI keys' j)) (orE (t.cmp t') (cmpsAt items keys items' keys' (j + 1)))) := Lib.hid (by
              rw [HRES.out, orE_zero, cmpsAt_step (.inl (by have := HL.out; omega))]
              unfold elemCmp
              rw [ht, ht', ← orE_orE])
            have IHH := Lib.hid (IH.out j t ht t')
            have E := Lib.hid e
            have E' := Lib.hid e'
            have HT := Lib.hid hrd
            have HT' := Lib.hid hrd'
            clear e e' hrd hrd' ht ht'
            go_wp2_with fail
            refine wp_region_past (fun W => Box W w.heap.size (.int .i64 k) (.int .i64 n) (.string s) (.slice (some a) li ci) (.slice K lk ck) ∧ Box W (w.heap.size + 1) (.int .i64 k') (.int .i64 n') (.string s') (.slice (some a') li' ci') (.slice K' lk' ck') ∧ Below w.heap.size w W) ⟨HX1.out, HX2.out, HB.out⟩ (by kernel_rfl) ?_
            clear p0 p1 p2 p3 p4 q0 q1 q2 q3 q4
            intro W ⟨f1, f2, f3⟩ _
            obtain ⟨p0, p1, p2, p3, p4⟩ := f1.past
            obtain ⟨q0, q1, q2, q3, q4⟩ := f2.past
            have G1 := Lib.hid f1
            have G2 := Lib.hid f2
            have G3 := Lib.hid f3
            clear f1 f2 f3
            have C1 : Hid (∀ x : Past W, Calls Try.prog 42 #[.agg #[.int .i64 k, .int .i64 n, .string s, .slice (some a) li ci, .slice K lk ck], .int .i64 j] x.w fun e w'' => e = .returned (.string (keyI keys j)) ∧ ∃ y : Past W, w'' = y.w) :=
              Lib.hid fun x => past_of x (rkey_any _ j _ W.heap.size _ (((HRD.out.mono hB).kept G3.out).kept (x.b.mono G3.out.size) |>.mono G3.out.size) x.le (by omega))
            have C2 : Hid (∀ x : Past W, Calls Try.prog 42 #[.agg #[.int .i64 k', .int .i64 n', .string s', .slice (some a') li' ci', .slice K' lk' ck'], .int .i64 j] x.w fun e w'' => e = .returned (.string (keyI keys' j)) ∧ ∃ y : Past W, w'' = y.w) :=
              Lib.hid fun x => past_of x (rkey_any _ j _ W.heap.size _ (((HRD'.out.mono hB).kept G3.out).kept (x.b.mono G3.out.size) |>.mono G3.out.size) x.le (by omega))
            generalize keyI keys j = y at *
            generalize keyI keys' j = y' at *
            have C3 : Hid (∀ x : Past W, Calls Try.prog 41 #[.string y, .string y'] x.w fun e w'' => e = .returned (.int .i64 (cmpB y y')) ∧ ∃ y : Past W, w'' = y.w) :=
              Lib.hid fun x => past_same x (strings_any y y' x.w)
            repeat (go_big_quiet_step (first | with_reducible exact C1.out _ | with_reducible exact C2.out _ | with_reducible exact C3.out _))
            refine wpQuiet_nil ?_
            intro _ hw'
            obtain ⟨x, rfl⟩ := hw'
            have HBx := Lib.hid (G3.out.trans (x.b.mono G3.out.size))
            have HX1' := Lib.hid (G1.out.kept x.b)
            have HX2' := Lib.hid (G2.out.kept x.b)
            clear p0 p1 p2 p3 p4 q0 q1 q2 q3 q4
            generalize x.w = wx at *
            generalize cmpB y y' = c1 at *
            by_cases hc : c1 = 0
            · subst hc
              have HST2 : Hid (res = orE (t.cmp t') (cmpsAt items keys items' keys' (j + 1))) := Lib.hid (by rw [HST.out, orE_zero])
              go_wp2_with fail
              refine wp_region_past (fun W => Box W w.heap.size (.int .i64 k) (.int .i64 n) (.string s) (.slice (some a) li ci) (.slice K lk ck) ∧ Box W (w.heap.size + 1) (.int .i64 k') (.int .i64 n') (.string s') (.slice (some a') li' ci') (.slice K' lk' ck') ∧ Below w.heap.size w W) ⟨HX1'.out, HX2'.out, HBx.out⟩ (by kernel_rfl) ?_
              intro W2 ⟨f1, f2, f3⟩ _
              obtain ⟨p0, p1, p2, p3, p4⟩ := f1.past
              obtain ⟨q0, q1, q2, q3, q4⟩ := f2.past
              obtain ⟨r0, r1, r2, r3, r4⟩ := (HC.out.kept (by omega) f3).past E.out (Nat.lt_of_lt_of_le (Nat.lt_of_lt_of_le hab hB) f3.size)
              obtain ⟨u0, u1, u2, u3, u4⟩ := (HC'.out.kept (by omega) f3).past E'.out (Nat.lt_of_lt_of_le (Nat.lt_of_lt_of_le hab' hB) f3.size)
              have Z1 := Lib.hid f1
              have Z2 := Lib.hid f2
              have Z3 := Lib.hid f3
              clear f1 f2 f3
              have C4 : Hid (∀ x : Past W2, Calls Try.prog 28 #[.agg #[.int .i64 k1, .int .i64 n1, .string s1, .slice A1 li1 ci1, .slice K1 lk1 ck1], .agg #[.int .i64 k1', .int .i64 n1', .string s1', .slice A1' li1' ci1', .slice K1' lk1' ck1']] x.w fun e w'' => e = .returned (.int .i64 (t.cmp t')) ∧ ∃ y : Past W2, w'' = y.w) :=
                Lib.hid fun x => past_of x (by
                  have g := Z3.out.trans (x.b.mono Z3.out.size)
                  have := IHH.out x.w B (V j) (V' j) (HT.out.kept (g.mono hB)) (HT'.out.kept (g.mono hB)) (Nat.le_trans hB g.size)
                  rwa [E.out, E'.out] at this)
              have hi0 : (0 : Int) ≤ (j : Int) := by omega
              have hi1 : (j : Int) < (li : Int) := by omega
              have hi2 : (j : Int) < (li' : Int) := by omega
              repeat (go_big_quiet_step (with_reducible exact C4.out _))
              refine wpQuiet_nil ?_
              intro _ hw'
              obtain ⟨x, rfl⟩ := hw'
              have HBy := Lib.hid (Z3.out.trans (x.b.mono Z3.out.size))
              have HY1 := Lib.hid (Z1.out.kept x.b)
              have HY2 := Lib.hid (Z2.out.kept x.b)
              clear p0 p1 p2 p3 p4 q0 q1 q2 q3 q4 r0 r1 r2 r3 r4 u0 u1 u2 u3 u4
              generalize x.w = wy at *
              go_wp2_with fail
              go_roundw
              case rel => exact ⟨j + 1, t.cmp t', by omega, fun _ => by omega, by go_num, rfl, HST2.out, HBy.out, HY1.out, HY2.out⟩
              case measure => simp [intOf]; omega
            · have hc' : (c1 == 0) = false := by simp [hc]
              have HST2 : Hid (res = orE c1 (cmpsAt items keys items' keys' (j + 1))) := Lib.hid (by rw [HST.out, orE_one _ hc, orE_one _ hc])
              have HCN := Lib.hid hc
              clear hc
              go_wp2_with fail
              go_roundw
              case rel => exact ⟨j + 1, c1, by omega, fun h => absurd h HCN.out, by go_num, rfl, HST2.out, HBx.out, HX1'.out, HX2'.out⟩
              case measure => simp [intOf]; omega
          · have hj2 : j = min items.length items'.length := by have := HL.out; have := HL'.out; omega
            have HJ : Hid (res = Lib.compareInt li li') := Lib.hid (by rw [HRES.out, orE_zero, cmpsAt_short hj2, HL.out, HL'.out])
            clear hj2
            by_cases h1 : li ≤ j
            · have h1' : (li : Int) ≤ (j : Int) := by omega
              have hd : decide (li ≤ j) = true := by simpa using h1
              go_wp2_with fail
              refine (ints_any _ _ _).mono ?_
              rintro e w' ⟨rfl, rfl⟩
              go_wp2_with fail
              go_ret
              exact ⟨by rw [HJ.out]; rfl, HB.out⟩
            · have h2 : li' ≤ j := by omega
              have h2' : (li' : Int) ≤ (j : Int) := by omega
              have hd : decide (li ≤ j) = false := by simpa using h1
              have hd2 : decide (li' ≤ j) = true := by simpa using h2
              go_wp2_with fail
              refine (ints_any _ _ _).mono ?_
              rintro e w' ⟨rfl, rfl⟩
              go_wp2_with fail
              go_ret
              exact ⟨by rw [HJ.out]; rfl, HB.out⟩
        · have hc' : (c == 0) = false := by simp [hc]
          have HR2 : Hid (res = c) := Lib.hid (by rw [HRES.out, orE_one _ hc])
          clear hc hjc
          go_wp2_with fail
          go_ret
          exact ⟨by rw [HR2.out]; rfl, HB.out⟩
  · have HS : Hid (res = orE (Lib.compareInt k k') (cmpsAt items keys items' keys' 0)) := Lib.hid (by rw [HE.out, orE_one _ e1])
    have e1' : (Lib.compareInt k k' == 0) = false := by simp [e1]
    clear e1
    go_enter Try.func28, Try.ntmps28
    go_wp2_with fail
    refine (ints_any _ _ _).mono ?_
    rintro e w' ⟨rfl, rfl⟩
    go_wp2_with fail
    go_loopw [5, 6] (fun o i wr => ∃ (j : Nat) (c : Int), j ≤ min li li' + 1 ∧ (c = 0 → j ≤ min li li') ∧ i = .int .i64 j ∧ o = .int .i64 c ∧ res = orE c (cmpsAt items keys items' keys' j) ∧ Below w.heap.size w wr ∧
      Box wr w.heap.size (.int .i64 k) (.int .i64 n) (.string s) (.slice A li ci) (.slice K lk ck) ∧ Box wr (w.heap.size + 1) (.int .i64 k') (.int .i64 n') (.string s') (.slice A' li' ci') (.slice K' lk' ck')) (fun _ i _ => min li li' + 2 - (intOf i).toNat)
    case atStart => exact ⟨0, Lib.compareInt k k', Nat.zero_le _, fun _ => Nat.zero_le _, rfl, rfl, HS.out, F3.out, F1.out, F2.out⟩
    case round =>
      obtain ⟨j, c, hj, hjc, rfl, rfl, hres, hb, hx1, hx2⟩ := hrel
      have HRES := Lib.hid hres
      have HB := Lib.hid hb
      have hl1 := hx1.lt
      have hl2 := hx2.lt
      have HX1 := Lib.hid hx1
      have HX2 := Lib.hid hx2
      obtain ⟨p0, p1, p2, p3, p4⟩ := hx1.cells
      obtain ⟨q0, q1, q2, q3, q4⟩ := hx2.cells
      clear hres hb hx1 hx2
      by_cases hc : c = 0
      · subst hc
        have hj' : j ≤ min li li' := hjc rfl
        clear hjc
        by_cases hlt : j < min li li'
        · have h1 : j < li := by omega
          have h2 : j < li' := by omega
          obtain ⟨a, t, k1, n1, s1, A1, li1, ci1, K1, lk1, ck1, rfl, ht, e, hrd, _, _, _, _, _⟩ := round_at HA.out HR.out HL.out (Below.refl _ _) h1
          obtain ⟨a', t', k1', n1', s1', A1', li1', ci1', K1', lk1', ck1', rfl, ht', e', hrd', _, _, _, _, _⟩ := round_at HA'.out HR'.out HL'.out (Below.refl _ _) h2
          have HC : Hid (C5 w (a.add (j * 5)) (V j)) := Lib.hid (by obtain ⟨_, e, _, h⟩ := HA.out (by omega); cases e; exact h j h1)
          have HC' : Hid (C5 w (a'.add (j * 5)) (V' j)) := Lib.hid (by obtain ⟨_, e, _, h⟩ := HA'.out (by omega); cases e; exact h j h2)
          have hab : (a.add (j * 5)).block < B := by obtain ⟨_, e, h, _⟩ := HA.out (by omega); cases e; rw [add_block]; exact h
          have hab' : (a'.add (j * 5)).block < B := by obtain ⟨_, e, h, _⟩ := HA'.out (by omega); cases e; rw [add_block]; exact h
          have HST : Hid (res = orE (cmpB (keyI keys j) (keyI keys' j)) (orE (t.cmp t') (cmpsAt items keys items' keys' (j + 1)))) := Lib.hid (by
            rw [HRES.out, orE_zero, cmpsAt_step (.inl (by have := HL.out; omega))]
            unfold elemCmp
            rw [ht, ht', ← orE_orE])
          have IHH := Lib.hid (IH.out j t ht t')
          have E := Lib.hid e
          have E' := Lib.hid e'
          have HT := Lib.hid hrd
          have HT' := Lib.hid hrd'
          clear e e' hrd hrd' ht ht'
          go_wp2_with fail
          refine wp_region_past (fun W => Box W w.heap.size (.int .i64 k) (.int .i64 n) (.string s) (.slice (some a) li ci) (.slice K lk ck) ∧ Box W (w.heap.size + 1) (.int .i64 k') (.int .i64 n') (.string s') (.slice (some a') li' ci') (.slice K' lk' ck') ∧ Below w.heap.size w W) ⟨HX1.out, HX2.out, HB.out⟩ (by kernel_rfl) ?_
          clear p0 p1 p2 p3 p4 q0 q1 q2 q3 q4
          intro W ⟨f1, f2, f3⟩ _
          obtain ⟨p0, p1, p2, p3, p4⟩ := f1.past
          obtain ⟨q0, q1, q2, q3, q4⟩ := f2.past
          have G1 := Lib.hid f1
          have G2 := Lib.hid f2
          have G3 := Lib.hid f3
          clear f1 f2 f3
          have C1 : Hid (∀ x : Past W, Calls Try.prog 42 #[.agg #[.int .i64 k, .int .i64 n, .string s, .slice (some a) li ci, .slice K lk ck], .int .i64 j] x.w fun e w'' => e = .returned (.string (keyI keys j)) ∧ ∃ y : Past W, w'' = y.w) :=
            Lib.hid fun x => past_of x (rkey_any _ j _ W.heap.size _ (((HRD.out.mono hB).kept G3.out).kept (x.b.mono G3.out.size) |>.mono G3.out.size) x.le (by omega))
          have C2 : Hid (∀ x : Past W, Calls Try.prog 42 #[.agg #[.int .i64 k', .int .i64 n', .string s', .slice (some a') li' ci', .slice K' lk' ck'], .int .i64 j] x.w fun e w'' => e = .returned (.string (keyI keys' j)) ∧ ∃ y : Past W, w'' = y.w) :=
            Lib.hid fun x => past_of x (rkey_any _ j _ W.heap.size _ (((HRD'.out.mono hB).kept G3.out).kept (x.b.mono G3.out.size) |>.mono G3.out.size) x.le (by omega))
          generalize keyI keys j = y at *
          generalize keyI keys' j = y' at *
          have C3 : Hid (∀ x : Past W, Calls Try.prog 41 #[.string y, .string y'] x.w fun e w'' => e = .returned (.int .i64 (cmpB y y')) ∧ ∃ y : Past W, w'' = y.w) :=
            Lib.hid fun x => past_same x (strings_any y y' x.w)
          repeat (go_big_quiet_step (first | with_reducible exact C1.out _ | with_reducible exact C2.out _ | with_reducible exact C3.out _))
          refine wpQuiet_nil ?_
          intro _ hw'
          obtain ⟨x, rfl⟩ := hw'
          have HBx := Lib.hid (G3.out.trans (x.b.mono G3.out.size))
          have HX1' := Lib.hid (G1.out.kept x.b)
          have HX2' := Lib.hid (G2.out.kept x.b)
          clear p0 p1 p2 p3 p4 q0 q1 q2 q3 q4
          generalize x.w = wx at *
          generalize cmpB y y' = c1 at *
          by_cases hc : c1 = 0
          · subst hc
            have HST2 : Hid (res = orE (t.cmp t') (cmpsAt items keys items' keys' (j + 1))) := Lib.hid (by rw [HST.out, orE_zero])
            go_wp2_with fail
            refine wp_region_past (fun W => Box W w.heap.size (.int .i64 k) (.int .i64 n) (.string s) (.slice (some a) li ci) (.slice K lk ck) ∧ Box W (w.heap.size + 1) (.int .i64 k') (.int .i64 n') (.string s') (.slice (some a') li' ci') (.slice K' lk' ck') ∧ Below w.heap.size w W) ⟨HX1'.out, HX2'.out, HBx.out⟩ (by kernel_rfl) ?_
            intro W2 ⟨f1, f2, f3⟩ _
            obtain ⟨p0, p1, p2, p3, p4⟩ := f1.past
            obtain ⟨q0, q1, q2, q3, q4⟩ := f2.past
            obtain ⟨r0, r1, r2, r3, r4⟩ := (HC.out.kept (by omega) f3).past E.out (Nat.lt_of_lt_of_le (Nat.lt_of_lt_of_le hab hB) f3.size)
            obtain ⟨u0, u1, u2, u3, u4⟩ := (HC'.out.kept (by omega) f3).past E'.out (Nat.lt_of_lt_of_le (Nat.lt_of_lt_of_le hab' hB) f3.size)
            have Z1 := Lib.hid f1
            have Z2 := Lib.hid f2
            have Z3 := Lib.hid f3
            clear f1 f2 f3
            have C4 : Hid (∀ x : Past W2, Calls Try.prog 28 #[.agg #[.int .i64 k1, .int .i64 n1, .string s1, .slice A1 li1 ci1, .slice K1 lk1 ck1], .agg #[.int .i64 k1', .int .i64 n1', .string s1', .slice A1' li1' ci1', .slice K1' lk1' ck1']] x.w fun e w'' => e = .returned (.int .i64 (t.cmp t')) ∧ ∃ y : Past W2, w'' = y.w) :=
              Lib.hid fun x => past_of x (by
                have g := Z3.out.trans (x.b.mono Z3.out.size)
                have := IHH.out x.w B (V j) (V' j) (HT.out.kept (g.mono hB)) (HT'.out.kept (g.mono hB)) (Nat.le_trans hB g.size)
                rwa [E.out, E'.out] at this)
            have hi0 : (0 : Int) ≤ (j : Int) := by omega
            have hi1 : (j : Int) < (li : Int) := by omega
            have hi2 : (j : Int) < (li' : Int) := by omega
            repeat (go_big_quiet_step (with_reducible exact C4.out _))
            refine wpQuiet_nil ?_
            intro _ hw'
            obtain ⟨x, rfl⟩ := hw'
            have HBy := Lib.hid (Z3.out.trans (x.b.mono Z3.out.size))
            have HY1 := Lib.hid (Z1.out.kept x.b)
            have HY2 := Lib.hid (Z2.out.kept x.b)
            clear p0 p1 p2 p3 p4 q0 q1 q2 q3 q4 r0 r1 r2 r3 r4 u0 u1 u2 u3 u4
            generalize x.w = wy at *
            go_wp2_with fail
            go_roundw
            case rel => exact ⟨j + 1, t.cmp t', by omega, fun _ => by omega, by go_num, rfl, HST2.out, HBy.out, HY1.out, HY2.out⟩
            case measure => simp [intOf]; omega
          · have hc' : (c1 == 0) = false := by simp [hc]
            have HST2 : Hid (res = orE c1 (cmpsAt items keys items' keys' (j + 1))) := Lib.hid (by rw [HST.out, orE_one _ hc, orE_one _ hc])
            have HCN := Lib.hid hc
            clear hc
            go_wp2_with fail
            go_roundw
            case rel => exact ⟨j + 1, c1, by omega, fun h => absurd h HCN.out, by go_num, rfl, HST2.out, HBx.out, HX1'.out, HX2'.out⟩
            case measure => simp [intOf]; omega
        · have hj2 : j = min items.length items'.length := by have := HL.out; have := HL'.out; omega
          have HJ : Hid (res = Lib.compareInt li li') := Lib.hid (by rw [HRES.out, orE_zero, cmpsAt_short hj2, HL.out, HL'.out])
          clear hj2
          by_cases h1 : li ≤ j
          · have h1' : (li : Int) ≤ (j : Int) := by omega
            have hd : decide (li ≤ j) = true := by simpa using h1
            go_wp2_with fail
            refine (ints_any _ _ _).mono ?_
            rintro e w' ⟨rfl, rfl⟩
            go_wp2_with fail
            go_ret
            exact ⟨by rw [HJ.out]; rfl, HB.out⟩
          · have h2 : li' ≤ j := by omega
            have h2' : (li' : Int) ≤ (j : Int) := by omega
            have hd : decide (li ≤ j) = false := by simpa using h1
            have hd2 : decide (li' ≤ j) = true := by simpa using h2
            go_wp2_with fail
            refine (ints_any _ _ _).mono ?_
            rintro e w' ⟨rfl, rfl⟩
            go_wp2_with fail
            go_ret
            exact ⟨by rw [HJ.out]; rfl, HB.out⟩
      · have hc' : (c == 0) = false := by simp [hc]
        have HR2 : Hid (res = c) := Lib.hid (by rw [HRES.out, orE_one _ hc])
        clear hc hjc
        go_wp2_with fail
        go_ret
        exact ⟨by rw [HR2.out]; rfl, HB.out⟩
end Go.Proofs.Ytgbckpihlklnlaa
