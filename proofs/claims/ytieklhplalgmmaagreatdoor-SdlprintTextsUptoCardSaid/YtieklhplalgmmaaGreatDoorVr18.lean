
/-
  Texts joined: D6 D7 NP NT10 NT11 NT12 NQ.
-/
import Derived.Test.YtieklhplalgmmaaGreatDoorVr17
import Derived.Test.YtieklhplalgmmaaGreatDoorVr14
import Derived.Test.YtieklhplalgmmaaGreatDoorVr16
import Derived.Test.YtieklhplalgmmaaGreatDoorVr2
namespace Go.Proofs.YtieklhplalgmmaaGreatDoor
open Go.RowKit
def rtailOk (x : DefT) : Bool :=
  if x.kind = 1 then rfldsOk x.fields && (decide (x.members.length = 0) && decide (x.inputs.length = 0))
  else if x.kind = 2 then decide (x.impl.length = 0) && (rfldsOk x.fields && (decide (x.members.length = 0) && decide (x.inputs.length = 0)))
  else if x.kind = 3 then decide (x.impl.length = 0) && (decide (x.fields.length = 0) && (rmemsOk true x.members && decide (x.inputs.length = 0)))
  else if x.kind = 4 then decide (x.impl.length = 0) && (decide (x.fields.length = 0) && (rmemsOk false x.members && decide (x.inputs.length = 0)))
  else if x.kind = 5 then decide (x.impl.length = 0) && (decide (x.fields.length = 0) && (decide (x.members.length = 0) && (decide (x.inputs.length ≠ 0) && rinpsOk x.inputs)))
  else false
def rdefOk (x : DefT) : Bool := nmA x.name && (rdirsOk x.dirs && (decide (x.impl.length ≤ 64) && (x.impl.all nmA && rtailOk x)))
def defsZ (l : List DefT) : Prop := ∀ x ∈ l, dirsZ x.dirs ∧ fldsZ x.fields ∧ memsZ x.members ∧ inpsZ x.inputs
set_option maxRecDepth 100000 in
set_option maxHeartbeats 16000000 in
theorem rdefRight_any (x : DefT) (f : Nat → Value) (w : World) (h : DefR w w.heap.size f x) (hz : dirsZ x.dirs ∧ fldsZ x.fields ∧ memsZ x.members ∧ inpsZ x.inputs) : Calls Tryz.prog 12 #[.agg #[f 0, f 1, f 2, f 3, f 4, f 5, f 6]] w (BP (rdefOk x) w) := by
  obtain ⟨A2, c2, e2, hc2, hb2, V2, hA2, hR2⟩ := h.impl
  obtain ⟨A3, c3, e3, _, _⟩ := h.dirs.form
  obtain ⟨A4, c4, e4, _, hb4⟩ := h.fields.form
  obtain ⟨A5, c5, e5, _, hb5⟩ := h.members.form
  obtain ⟨A6, c6, e6, _, hb6⟩ := h.inputs.form
  have H3 := h.dirs
  have H4 := h.fields
  have H5 := h.members
  have H6 := h.inputs
  rw [e3] at H3
  rw [e4] at H4
  rw [e5] at H5
  rw [e6] at H6
  rw [h.kind, h.name, e2, e3, e4, e5, e6]
  replace H3 := Lib.hid H3
  have HN := Lib.hid h.size
  have HZ := Lib.hid hz
  unfold big at hb2 hb4 hb5 hb6
  have m2 : (x.impl.length : Int) ≤ 140737488351232 := by omega
  have m4 : (x.fields.length : Int) ≤ 140737488351232 := by omega
  have m5 : (x.members.length : Int) ≤ 140737488351232 := by omega
  have m6 : (x.inputs.length : Int) ≤ 140737488351232 := by omega
  clear e2 e3 e4 e5 e6 h hz hb2 hb4 hb5 hb6 hc2
  have HV : Hid (rdefOk x = (nmA x.name && (rdirsOk x.dirs && (decide (x.impl.length ≤ 64) && (x.impl.all nmA && rtailOk x))))) := Lib.hid rfl
  have HT : Hid (rtailOk x = if x.kind = 1 then rfldsOk x.fields && (decide (x.members.length = 0) && decide (x.inputs.length = 0))
    else if x.kind = 2 then decide (x.impl.length = 0) && (rfldsOk x.fields && (decide (x.members.length = 0) && decide (x.inputs.length = 0)))
    else if x.kind = 3 then decide (x.impl.length = 0) && (decide (x.fields.length = 0) && (rmemsOk true x.members && decide (x.inputs.length = 0)))
    else if x.kind = 4 then decide (x.impl.length = 0) && (decide (x.fields.length = 0) && (rmemsOk false x.members && decide (x.inputs.length = 0)))
    else if x.kind = 5 then decide (x.impl.length = 0) && (decide (x.fields.length = 0) && (decide (x.members.length = 0) && (decide (x.inputs.length ≠ 0) && rinpsOk x.inputs)))
    else false) := Lib.hid rfl
  generalize rdefOk x = RB at *
  generalize rtailOk x = TB at *
  obtain ⟨l2, h2⟩ : ∃ l2, l2 = x.impl.length := ⟨_, rfl⟩
  obtain ⟨l4, h4⟩ : ∃ l4, l4 = x.fields.length := ⟨_, rfl⟩
  obtain ⟨l5, h5⟩ : ∃ l5, l5 = x.members.length := ⟨_, rfl⟩
  obtain ⟨l6, h6⟩ : ∃ l6, l6 = x.inputs.length := ⟨_, rfl⟩
  rw [← h2] at HV HT m2 hA2 ⊢
  rw [← h4] at HT m4 H4 ⊢
  rw [← h5] at HT m5 H5 ⊢
  rw [← h6] at HT m6 H6 ⊢
  generalize x.kind = kd at *
  replace H4 := Lib.hid H4
  replace H5 := Lib.hid H5
  replace H6 := Lib.hid H6
  have HA2 := Lib.hid hA2
  have HR2 := Lib.hid hR2
  have HL2 := Lib.hid h2
  clear h4 h5 h6 h2 hA2 hR2
  have HB0 : Hid (Below w.heap.size w (w.alloc (.cells #[.int .i64 kd, .string x.name, .slice A2 l2 c2, .slice A3 x.dirs.length c3, .slice A4 l4 c4, .slice A5 l5 c5, .slice A6 l6 c6] 35 (0, 0)))) := Lib.hid (below_new _ _)
  have HX0 : Hid (Bk (w.alloc (.cells #[.int .i64 kd, .string x.name, .slice A2 l2 c2, .slice A3 x.dirs.length c3, .slice A4 l4 c4, .slice A5 l5 c5, .slice A6 l6 c6] 35 (0, 0))) w.heap.size #[.int .i64 kd, .string x.name, .slice A2 l2 c2, .slice A3 x.dirs.length c3, .slice A4 l4 c4, .slice A5 l5 c5, .slice A6 l6 c6] 35) := Lib.hid (Bk.new _ _ _)
  go_enter Tryz.func12, Tryz.ntmps12
  go_wp2_with fail
  refine (rnm_any x.name _ HN.out).mono ?_
  rintro e w1 ⟨rfl, rfl⟩
  cases v : nmA x.name with
  | false =>
    have v0 := Lib.hid v
    clear v
    go_wp2_with fail
    go_ret
    exact ⟨by rw [HV.out, v0.out, Bool.false_and]; rfl, HB0.out⟩
  | true =>
    have v0 := Lib.hid v
    clear v
    have q0 := HX0.out.cell 0 _ rfl
    have q1 := HX0.out.cell 1 _ rfl
    have q2 := HX0.out.cell 2 _ rfl
    have q3 := HX0.out.cell 3 _ rfl
    have q4 := HX0.out.cell 4 _ rfl
    have q5 := HX0.out.cell 5 _ rfl
    have q6 := HX0.out.cell 6 _ rfl
    go_wp2_with fail
    refine (rdirsRight_any x.dirs _ _ ((H3.out.kept HB0.out).mono HB0.out.size) HZ.out.1).mono ?_
    rintro e w2 ⟨rfl, hb⟩
    clear q0 q1 q2 q3 q4 q5 q6
    have HB1 := Lib.hid (HB0.out.trans (Below.mono hb HB0.out.size))
    have HX1 := Lib.hid (HX0.out.stay hb)
    clear hb
    have q0 := HX1.out.cell 0 _ rfl
    have q1 := HX1.out.cell 1 _ rfl
    have q2 := HX1.out.cell 2 _ rfl
    have q3 := HX1.out.cell 3 _ rfl
    have q4 := HX1.out.cell 4 _ rfl
    have q5 := HX1.out.cell 5 _ rfl
    have q6 := HX1.out.cell 6 _ rfl
    cases v : rdirsOk x.dirs with
    | false =>
      have v1 := Lib.hid v
      clear v
      go_wp2_with fail
      go_ret
      exact ⟨by rw [HV.out, v0.out, Bool.true_and, v1.out, Bool.false_and]; rfl, HB1.out⟩
    | true =>
      have v1 := Lib.hid v
      clear v
      by_cases hg1 : 64 < l2
      · have hg3 : (l2 : Int) > 64 := by omega
        have v2 : Hid (decide (l2 ≤ 64) = false) := Lib.hid (decide_eq_false (by omega))
        clear hg1
        go_wp2_with fail
        go_ret
        exact ⟨by rw [HV.out, v0.out, Bool.true_and, v1.out, Bool.true_and, v2.out, Bool.false_and]; rfl, HB1.out⟩
      have hg3 : ¬ (l2 : Int) > 64 := by omega
      have v2 : Hid (decide (l2 ≤ 64) = true) := Lib.hid (decide_eq_true (by omega))
      clear hg1
      go_wp2_with fail
      clear hg3
      clear q0 q1 q2 q3 q4 q5 q6
      go_loopw [3] (fun u wr => ∃ i : Nat, i ≤ l2 ∧ u = .int .i64 i ∧ Hid ((∀ (j : Nat) (y : ByteArray), j < i → x.impl[j]? = some y → nmA y = true) ∧ Below w.heap.size w wr ∧ Bk wr w.heap.size #[.int .i64 kd, .string x.name, .slice A2 l2 c2, .slice A3 x.dirs.length c3, .slice A4 l4 c4, .slice A5 l5 c5, .slice A6 l6 c6] 35)) (fun u _ => l2 - (intOf u).toNat)
      case atStart => exact ⟨0, Nat.zero_le _, rfl, Lib.hid ⟨fun _ _ h => absurd h (Nat.not_lt_zero _), HB1.out, HX1.out⟩⟩
      case round =>
        obtain ⟨i, hi, rfl, hr⟩ := hrel
        have HB2 := Lib.hid hr.out.2.1
        have HX2 := Lib.hid hr.out.2.2
        have q0 := HX2.out.cell 0 _ rfl
        have q1 := HX2.out.cell 1 _ rfl
        have q2 := HX2.out.cell 2 _ rfl
        have q3 := HX2.out.cell 3 _ rfl
        have q4 := HX2.out.cell 4 _ rfl
        have q5 := HX2.out.cell 5 _ rfl
        have q6 := HX2.out.cell 6 _ rfl
        by_cases hlt : i < l2
        · have hlt' : (i : Int) < l2 := by omega
          obtain ⟨a, ea, ha, hcell⟩ := HA2.out (by omega)
          subst ea
          obtain ⟨y, hy⟩ : ∃ y, x.impl[i]? = some y := ⟨_, List.getElem?_eq_getElem (by have := HL2.out; omega)⟩
          have hry := HR2.out i y hy
          have k0 : wr.cell? (a.add i) = some (.string y) := by
            have h1 := ((HB2.out.cell (by rw [at_block, add_block]; exact ha)).trans (hcell i hlt 0 (by omega))).trans (congrArg some hry.1)
            simpa [at_] using h1
          have HNY := Lib.hid hry.2
          have HY := Lib.hid hy
          clear hcell hry hy
          go_wp2_with fail
          refine (rnm_any y _ HNY.out).mono ?_
          rintro e w1 ⟨rfl, rfl⟩
          cases v : nmA y with
          | false =>
            have v3 := Lib.hid v
            clear v
            go_wp2_with fail
            go_ret
            exact ⟨by rw [HV.out, v0.out, Bool.true_and, v1.out, Bool.true_and, v2.out, Bool.true_and, all_false HY.out v3.out, Bool.false_and]; rfl, HB2.out⟩
          | true =>
            have v3 := Lib.hid v
            clear v
            go_wp2_with fail
            go_roundw
            case rel => exact ⟨i + 1, by omega, by simp, Lib.hid ⟨snoc_true hr.out.1 HY.out v3.out, HB2.out, HX2.out⟩⟩
            case measure => simp [intOf]; omega
        · have : i = l2 := by omega
          subst this
          have HV2 : Hid (RB = TB) := Lib.hid (by rw [HV.out, v0.out, Bool.true_and, v1.out, Bool.true_and, v2.out, Bool.true_and, all_true fun j y h1 h2 => hr.out.1 j y (by have := HL2.out; omega) h2, Bool.true_and])
          clear hi
          by_cases k1 : kd = 1
          · skip
            have HT2 : Hid (TB = _) := Lib.hid (HT.out.trans (by rw [if_pos k1]))
            subst k1
            go_wp2_with fail
            go_quiet (fail)
            have HB3 : Hid (Below w.heap.size w (wr.drewN nq)) := Lib.hid (_root_.Go.below_drewN HB2.out nq)
            have HX3 : Hid (Bk (wr.drewN nq) w.heap.size #[.int .i64 1, .string x.name, .slice A2 i c2, .slice A3 x.dirs.length c3, .slice A4 l4 c4, .slice A5 l5 c5, .slice A6 l6 c6] 35) := Lib.hid HX2.out
            go_wp2_with fail
            refine (rfieldsRight_any x.fields _ _ ((H4.out.kept HB3.out).mono HB3.out.size) HZ.out.2.1).mono ?_
            rintro e w6 ⟨rfl, hb⟩
            clear q0 q1 q2 q3 q4 q5 q6
            have HB4 := Lib.hid (HB3.out.trans (Below.mono hb HB3.out.size))
            have HX4 := Lib.hid (HX3.out.stay hb)
            clear hb
            have q0 := HX4.out.cell 0 _ rfl
            have q1 := HX4.out.cell 1 _ rfl
            have q2 := HX4.out.cell 2 _ rfl
            have q3 := HX4.out.cell 3 _ rfl
            have q4 := HX4.out.cell 4 _ rfl
            have q5 := HX4.out.cell 5 _ rfl
            have q6 := HX4.out.cell 6 _ rfl
            cases v : rfldsOk x.fields with
            | false =>
              have u4 := Lib.hid v
              clear v
              go_wp2_with fail
              go_ret
              exact ⟨by rw [HV2.out, HT2.out, u4.out, Bool.false_and]; rfl, HB4.out⟩
            | true =>
              have u4 := Lib.hid v
              clear v
              by_cases z5 : l5 = 0
              · skip
                have u5 : Hid (decide (l5 = 0) = true) := Lib.hid (by simp [z5])
                have y5 : ((l5 : Int) == 0) = true := by rw [z5]; rfl
                have y5' : decide (l5 = 0) = true := by rw [z5]; rfl
                clear z5
                by_cases z6 : l6 = 0
                · skip
                  have u6 : Hid (decide (l6 = 0) = true) := Lib.hid (by simp [z6])
                  have y6 : ((l6 : Int) == 0) = true := by rw [z6]; rfl
                  have y6' : decide (l6 = 0) = true := by rw [z6]; rfl
                  clear z6
                  go_wp2_with fail
                  go_ret
                  exact ⟨by rw [HV2.out, HT2.out, u4.out, Bool.true_and, u5.out, Bool.true_and, u6.out]; rfl, HB4.out⟩
                · skip
                  have u6 : Hid (decide (l6 = 0) = false) := Lib.hid (by simp [z6])
                  have y6 : ((l6 : Int) == 0) = false := by rw [beq_eq_false_iff_ne]; omega
                  have y6' : decide (l6 = 0) = false := decide_eq_false z6
                  clear z6
                  go_wp2_with fail
                  go_ret
                  exact ⟨by rw [HV2.out, HT2.out, u4.out, Bool.true_and, u5.out, Bool.true_and, u6.out]; rfl, HB4.out⟩
              · skip
                have u5 : Hid (decide (l5 = 0) = false) := Lib.hid (by simp [z5])
                have y5 : ((l5 : Int) == 0) = false := by rw [beq_eq_false_iff_ne]; omega
                have y5' : decide (l5 = 0) = false := decide_eq_false z5
                clear z5
                go_wp2_with fail
                go_ret
                exact ⟨by rw [HV2.out, HT2.out, u4.out, Bool.true_and, u5.out, Bool.false_and]; rfl, HB4.out⟩
          by_cases k2 : kd = 2
          · skip
            have HT2 : Hid (TB = _) := Lib.hid (HT.out.trans (by rw [if_neg k1, if_pos k2]))
            subst k2
            clear k1
            by_cases z4 : i = 0
            · skip
              have u4 : Hid (decide (i = 0) = true) := Lib.hid (by simp [z4])
              have y4 : ((i : Int) == 0) = true := by rw [z4]; rfl
              have y4' : decide (i = 0) = true := by rw [z4]; rfl
              clear z4
              go_wp2_with fail
              go_quiet (fail)
              have HB3 : Hid (Below w.heap.size w (wr.drewN nq)) := Lib.hid (_root_.Go.below_drewN HB2.out nq)
              have HX3 : Hid (Bk (wr.drewN nq) w.heap.size #[.int .i64 2, .string x.name, .slice A2 i c2, .slice A3 x.dirs.length c3, .slice A4 l4 c4, .slice A5 l5 c5, .slice A6 l6 c6] 35) := Lib.hid HX2.out
              go_wp2_with fail
              refine (rfieldsRight_any x.fields _ _ ((H4.out.kept HB3.out).mono HB3.out.size) HZ.out.2.1).mono ?_
              rintro e w6 ⟨rfl, hb⟩
              clear q0 q1 q2 q3 q4 q5 q6
              have HB4 := Lib.hid (HB3.out.trans (Below.mono hb HB3.out.size))
              have HX4 := Lib.hid (HX3.out.stay hb)
              clear hb
              have q0 := HX4.out.cell 0 _ rfl
              have q1 := HX4.out.cell 1 _ rfl
              have q2 := HX4.out.cell 2 _ rfl
              have q3 := HX4.out.cell 3 _ rfl
              have q4 := HX4.out.cell 4 _ rfl
              have q5 := HX4.out.cell 5 _ rfl
              have q6 := HX4.out.cell 6 _ rfl
              cases v : rfldsOk x.fields with
              | false =>
                have u5 := Lib.hid v
                clear v
                go_wp2_with fail
                go_ret
                exact ⟨by rw [HV2.out, HT2.out, u4.out, Bool.true_and, u5.out, Bool.false_and]; rfl, HB4.out⟩
              | true =>
                have u5 := Lib.hid v
                clear v
                by_cases z6 : l5 = 0
                · skip
                  have u6 : Hid (decide (l5 = 0) = true) := Lib.hid (by simp [z6])
                  have y6 : ((l5 : Int) == 0) = true := by rw [z6]; rfl
                  have y6' : decide (l5 = 0) = true := by rw [z6]; rfl
                  clear z6
                  by_cases z7 : l6 = 0
                  · skip
                    have u7 : Hid (decide (l6 = 0) = true) := Lib.hid (by simp [z7])
                    have y7 : ((l6 : Int) == 0) = true := by rw [z7]; rfl
                    have y7' : decide (l6 = 0) = true := by rw [z7]; rfl
                    clear z7
                    go_wp2_with fail
                    go_ret
                    exact ⟨by rw [HV2.out, HT2.out, u4.out, Bool.true_and, u5.out, Bool.true_and, u6.out, Bool.true_and, u7.out]; rfl, HB4.out⟩
                  · skip
                    have u7 : Hid (decide (l6 = 0) = false) := Lib.hid (by simp [z7])
                    have y7 : ((l6 : Int) == 0) = false := by rw [beq_eq_false_iff_ne]; omega
                    have y7' : decide (l6 = 0) = false := decide_eq_false z7
                    clear z7
                    go_wp2_with fail
                    go_ret
                    exact ⟨by rw [HV2.out, HT2.out, u4.out, Bool.true_and, u5.out, Bool.true_and, u6.out, Bool.true_and, u7.out]; rfl, HB4.out⟩
                · skip
                  have u6 : Hid (decide (l5 = 0) = false) := Lib.hid (by simp [z6])
                  have y6 : ((l5 : Int) == 0) = false := by rw [beq_eq_false_iff_ne]; omega
                  have y6' : decide (l5 = 0) = false := decide_eq_false z6
                  clear z6
                  go_wp2_with fail
                  go_ret
                  exact ⟨by rw [HV2.out, HT2.out, u4.out, Bool.true_and, u5.out, Bool.true_and, u6.out, Bool.false_and]; rfl, HB4.out⟩
            · skip
              have u4 : Hid (decide (i = 0) = false) := Lib.hid (by simp [z4])
              have y4 : ((i : Int) == 0) = false := by rw [beq_eq_false_iff_ne]; omega
              have y4' : decide (i = 0) = false := decide_eq_false z4
              clear z4
              go_wp2_with fail
              go_quiet (fail)
              have HB3 : Hid (Below w.heap.size w (wr.drewN nq)) := Lib.hid (_root_.Go.below_drewN HB2.out nq)
              have HX3 : Hid (Bk (wr.drewN nq) w.heap.size #[.int .i64 2, .string x.name, .slice A2 i c2, .slice A3 x.dirs.length c3, .slice A4 l4 c4, .slice A5 l5 c5, .slice A6 l6 c6] 35) := Lib.hid HX2.out
              go_wp2_with fail
              go_ret
              exact ⟨by rw [HV2.out, HT2.out, u4.out, Bool.false_and]; rfl, HB3.out⟩
          by_cases k3 : kd = 3
          · skip
            have HT2 : Hid (TB = _) := Lib.hid (HT.out.trans (by rw [if_neg k1, if_neg k2, if_pos k3]))
            subst k3
            clear k1 k2
            by_cases z4 : i = 0
            · skip
              have u4 : Hid (decide (i = 0) = true) := Lib.hid (by simp [z4])
              have y4 : ((i : Int) == 0) = true := by rw [z4]; rfl
              have y4' : decide (i = 0) = true := by rw [z4]; rfl
              clear z4
              by_cases z5 : l4 = 0
              · skip
                have u5 : Hid (decide (l4 = 0) = true) := Lib.hid (by simp [z5])
                have y5 : ((l4 : Int) == 0) = true := by rw [z5]; rfl
                have y5' : decide (l4 = 0) = true := by rw [z5]; rfl
                clear z5
                go_wp2_with fail
                go_quiet (fail)
                have HB3 : Hid (Below w.heap.size w (wr.drewN nq)) := Lib.hid (_root_.Go.below_drewN HB2.out nq)
                have HX3 : Hid (Bk (wr.drewN nq) w.heap.size #[.int .i64 3, .string x.name, .slice A2 i c2, .slice A3 x.dirs.length c3, .slice A4 l4 c4, .slice A5 l5 c5, .slice A6 l6 c6] 35) := Lib.hid HX2.out
                go_wp2_with fail
                refine (rmembersRightP_any x.members _ _ ((H5.out.kept HB3.out).mono HB3.out.size) HZ.out.2.2.1).mono ?_
                rintro e w6 ⟨rfl, hb⟩
                clear q0 q1 q2 q3 q4 q5 q6
                have HB4 := Lib.hid (HB3.out.trans (Below.mono hb HB3.out.size))
                have HX4 := Lib.hid (HX3.out.stay hb)
                clear hb
                have q0 := HX4.out.cell 0 _ rfl
                have q1 := HX4.out.cell 1 _ rfl
                have q2 := HX4.out.cell 2 _ rfl
                have q3 := HX4.out.cell 3 _ rfl
                have q4 := HX4.out.cell 4 _ rfl
                have q5 := HX4.out.cell 5 _ rfl
                have q6 := HX4.out.cell 6 _ rfl
                cases v : rmemsOk true x.members with
                | false =>
                  have u6 := Lib.hid v
                  clear v
                  go_wp2_with fail
                  go_ret
                  exact ⟨by rw [HV2.out, HT2.out, u4.out, Bool.true_and, u5.out, Bool.true_and, u6.out, Bool.false_and]; rfl, HB4.out⟩
                | true =>
                  have u6 := Lib.hid v
                  clear v
                  by_cases z7 : l6 = 0
                  · skip
                    have u7 : Hid (decide (l6 = 0) = true) := Lib.hid (by simp [z7])
                    have y7 : ((l6 : Int) == 0) = true := by rw [z7]; rfl
                    have y7' : decide (l6 = 0) = true := by rw [z7]; rfl
                    clear z7
                    go_wp2_with fail
                    go_ret
                    exact ⟨by rw [HV2.out, HT2.out, u4.out, Bool.true_and, u5.out, Bool.true_and, u6.out, Bool.true_and, u7.out]; rfl, HB4.out⟩
                  · skip
                    have u7 : Hid (decide (l6 = 0) = false) := Lib.hid (by simp [z7])
                    have y7 : ((l6 : Int) == 0) = false := by rw [beq_eq_false_iff_ne]; omega
                    have y7' : decide (l6 = 0) = false := decide_eq_false z7
                    clear z7
                    go_wp2_with fail
                    go_ret
                    exact ⟨by rw [HV2.out, HT2.out, u4.out, Bool.true_and, u5.out, Bool.true_and, u6.out, Bool.true_and, u7.out]; rfl, HB4.out⟩
              · skip
                have u5 : Hid (decide (l4 = 0) = false) := Lib.hid (by simp [z5])
                have y5 : ((l4 : Int) == 0) = false := by rw [beq_eq_false_iff_ne]; omega
                have y5' : decide (l4 = 0) = false := decide_eq_false z5
                clear z5
                go_wp2_with fail
                go_quiet (fail)
                have HB3 : Hid (Below w.heap.size w (wr.drewN nq)) := Lib.hid (_root_.Go.below_drewN HB2.out nq)
                have HX3 : Hid (Bk (wr.drewN nq) w.heap.size #[.int .i64 3, .string x.name, .slice A2 i c2, .slice A3 x.dirs.length c3, .slice A4 l4 c4, .slice A5 l5 c5, .slice A6 l6 c6] 35) := Lib.hid HX2.out
                go_wp2_with fail
                go_ret
                exact ⟨by rw [HV2.out, HT2.out, u4.out, Bool.true_and, u5.out, Bool.false_and]; rfl, HB3.out⟩
            · skip
              have u4 : Hid (decide (i = 0) = false) := Lib.hid (by simp [z4])
              have y4 : ((i : Int) == 0) = false := by rw [beq_eq_false_iff_ne]; omega
              have y4' : decide (i = 0) = false := decide_eq_false z4
              clear z4
              go_wp2_with fail
              go_quiet (fail)
              have HB3 : Hid (Below w.heap.size w (wr.drewN nq)) := Lib.hid (_root_.Go.below_drewN HB2.out nq)
              have HX3 : Hid (Bk (wr.drewN nq) w.heap.size #[.int .i64 3, .string x.name, .slice A2 i c2, .slice A3 x.dirs.length c3, .slice A4 l4 c4, .slice A5 l5 c5, .slice A6 l6 c6] 35) := Lib.hid HX2.out
              go_wp2_with fail
              go_ret
              exact ⟨by rw [HV2.out, HT2.out, u4.out, Bool.false_and]; rfl, HB3.out⟩
          by_cases k4 : kd = 4
          · skip
            have HT2 : Hid (TB = _) := Lib.hid (HT.out.trans (by rw [if_neg k1, if_neg k2, if_neg k3, if_pos k4]))
            subst k4
            clear k1 k2 k3
            by_cases z4 : i = 0
            · skip
              have u4 : Hid (decide (i = 0) = true) := Lib.hid (by simp [z4])
              have y4 : ((i : Int) == 0) = true := by rw [z4]; rfl
              have y4' : decide (i = 0) = true := by rw [z4]; rfl
              clear z4
              by_cases z5 : l4 = 0
              · skip
                have u5 : Hid (decide (l4 = 0) = true) := Lib.hid (by simp [z5])
                have y5 : ((l4 : Int) == 0) = true := by rw [z5]; rfl
                have y5' : decide (l4 = 0) = true := by rw [z5]; rfl
                clear z5
                go_wp2_with fail
                go_quiet (fail)
                have HB3 : Hid (Below w.heap.size w (wr.drewN nq)) := Lib.hid (_root_.Go.below_drewN HB2.out nq)
                have HX3 : Hid (Bk (wr.drewN nq) w.heap.size #[.int .i64 4, .string x.name, .slice A2 i c2, .slice A3 x.dirs.length c3, .slice A4 l4 c4, .slice A5 l5 c5, .slice A6 l6 c6] 35) := Lib.hid HX2.out
                go_wp2_with fail
                refine (rmembersRightE_any x.members _ _ ((H5.out.kept HB3.out).mono HB3.out.size) HZ.out.2.2.1).mono ?_
                rintro e w6 ⟨rfl, hb⟩
                clear q0 q1 q2 q3 q4 q5 q6
                have HB4 := Lib.hid (HB3.out.trans (Below.mono hb HB3.out.size))
                have HX4 := Lib.hid (HX3.out.stay hb)
                clear hb
                have q0 := HX4.out.cell 0 _ rfl
                have q1 := HX4.out.cell 1 _ rfl
                have q2 := HX4.out.cell 2 _ rfl
                have q3 := HX4.out.cell 3 _ rfl
                have q4 := HX4.out.cell 4 _ rfl
                have q5 := HX4.out.cell 5 _ rfl
                have q6 := HX4.out.cell 6 _ rfl
                cases v : rmemsOk false x.members with
                | false =>
                  have u6 := Lib.hid v
                  clear v
                  go_wp2_with fail
                  go_ret
                  exact ⟨by rw [HV2.out, HT2.out, u4.out, Bool.true_and, u5.out, Bool.true_and, u6.out, Bool.false_and]; rfl, HB4.out⟩
                | true =>
                  have u6 := Lib.hid v
                  clear v
                  by_cases z7 : l6 = 0
                  · skip
                    have u7 : Hid (decide (l6 = 0) = true) := Lib.hid (by simp [z7])
                    have y7 : ((l6 : Int) == 0) = true := by rw [z7]; rfl
                    have y7' : decide (l6 = 0) = true := by rw [z7]; rfl
                    clear z7
                    go_wp2_with fail
                    go_ret
                    exact ⟨by rw [HV2.out, HT2.out, u4.out, Bool.true_and, u5.out, Bool.true_and, u6.out, Bool.true_and, u7.out]; rfl, HB4.out⟩
                  · skip
                    have u7 : Hid (decide (l6 = 0) = false) := Lib.hid (by simp [z7])
                    have y7 : ((l6 : Int) == 0) = false := by rw [beq_eq_false_iff_ne]; omega
                    have y7' : decide (l6 = 0) = false := decide_eq_false z7
                    clear z7
                    go_wp2_with fail
                    go_ret
                    exact ⟨by rw [HV2.out, HT2.out, u4.out, Bool.true_and, u5.out, Bool.true_and, u6.out, Bool.true_and, u7.out]; rfl, HB4.out⟩
              · skip
                have u5 : Hid (decide (l4 = 0) = false) := Lib.hid (by simp [z5])
                have y5 : ((l4 : Int) == 0) = false := by rw [beq_eq_false_iff_ne]; omega
                have y5' : decide (l4 = 0) = false := decide_eq_false z5
                clear z5
                go_wp2_with fail
                go_quiet (fail)
                have HB3 : Hid (Below w.heap.size w (wr.drewN nq)) := Lib.hid (_root_.Go.below_drewN HB2.out nq)
                have HX3 : Hid (Bk (wr.drewN nq) w.heap.size #[.int .i64 4, .string x.name, .slice A2 i c2, .slice A3 x.dirs.length c3, .slice A4 l4 c4, .slice A5 l5 c5, .slice A6 l6 c6] 35) := Lib.hid HX2.out
                go_wp2_with fail
                go_ret
                exact ⟨by rw [HV2.out, HT2.out, u4.out, Bool.true_and, u5.out, Bool.false_and]; rfl, HB3.out⟩
            · skip
              have u4 : Hid (decide (i = 0) = false) := Lib.hid (by simp [z4])
              have y4 : ((i : Int) == 0) = false := by rw [beq_eq_false_iff_ne]; omega
              have y4' : decide (i = 0) = false := decide_eq_false z4
              clear z4
              go_wp2_with fail
              go_quiet (fail)
              have HB3 : Hid (Below w.heap.size w (wr.drewN nq)) := Lib.hid (_root_.Go.below_drewN HB2.out nq)
              have HX3 : Hid (Bk (wr.drewN nq) w.heap.size #[.int .i64 4, .string x.name, .slice A2 i c2, .slice A3 x.dirs.length c3, .slice A4 l4 c4, .slice A5 l5 c5, .slice A6 l6 c6] 35) := Lib.hid HX2.out
              go_wp2_with fail
              go_ret
              exact ⟨by rw [HV2.out, HT2.out, u4.out, Bool.false_and]; rfl, HB3.out⟩
          by_cases k5 : kd = 5
          · skip
            have HT2 : Hid (TB = _) := Lib.hid (HT.out.trans (by rw [if_neg k1, if_neg k2, if_neg k3, if_neg k4, if_pos k5]))
            subst k5
            clear k1 k2 k3 k4
            by_cases z4 : i = 0
            · skip
              have u4 : Hid (decide (i = 0) = true) := Lib.hid (by simp [z4])
              have y4 : ((i : Int) == 0) = true := by rw [z4]; rfl
              have y4' : decide (i = 0) = true := by rw [z4]; rfl
              clear z4
              by_cases z5 : l4 = 0
              · skip
                have u5 : Hid (decide (l4 = 0) = true) := Lib.hid (by simp [z5])
                have y5 : ((l4 : Int) == 0) = true := by rw [z5]; rfl
                have y5' : decide (l4 = 0) = true := by rw [z5]; rfl
                clear z5
                by_cases z6 : l5 = 0
                · skip
                  have u6 : Hid (decide (l5 = 0) = true) := Lib.hid (by simp [z6])
                  have y6 : ((l5 : Int) == 0) = true := by rw [z6]; rfl
                  have y6' : decide (l5 = 0) = true := by rw [z6]; rfl
                  clear z6
                  by_cases z7 : l6 = 0
                  · skip
                    have u7 : Hid (decide (l6 ≠ 0) = false) := Lib.hid (by simp [z7])
                    have y7 : ((l6 : Int) == 0) = true := by rw [z7]; rfl
                    have y7' : decide (l6 = 0) = true := by rw [z7]; rfl
                    have yy7 : ¬ (l6 : Int) > 0 := by omega
                    clear z7
                    go_wp2_with fail
                    go_quiet (fail)
                    have HB3 : Hid (Below w.heap.size w (wr.drewN nq)) := Lib.hid (_root_.Go.below_drewN HB2.out nq)
                    have HX3 : Hid (Bk (wr.drewN nq) w.heap.size #[.int .i64 5, .string x.name, .slice A2 i c2, .slice A3 x.dirs.length c3, .slice A4 l4 c4, .slice A5 l5 c5, .slice A6 l6 c6] 35) := Lib.hid HX2.out
                    go_wp2_with fail
                    go_ret
                    exact ⟨by rw [HV2.out, HT2.out, u4.out, Bool.true_and, u5.out, Bool.true_and, u6.out, Bool.true_and, u7.out, Bool.false_and]; rfl, HB3.out⟩
                  · skip
                    have u7 : Hid (decide (l6 ≠ 0) = true) := Lib.hid (by simp [z7])
                    have y7 : ((l6 : Int) == 0) = false := by rw [beq_eq_false_iff_ne]; omega
                    have y7' : decide (l6 = 0) = false := decide_eq_false z7
                    have yy7 : (l6 : Int) > 0 := by omega
                    clear z7
                    go_wp2_with fail
                    go_quiet (fail)
                    have HB3 : Hid (Below w.heap.size w (wr.drewN nq)) := Lib.hid (_root_.Go.below_drewN HB2.out nq)
                    have HX3 : Hid (Bk (wr.drewN nq) w.heap.size #[.int .i64 5, .string x.name, .slice A2 i c2, .slice A3 x.dirs.length c3, .slice A4 l4 c4, .slice A5 l5 c5, .slice A6 l6 c6] 35) := Lib.hid HX2.out
                    go_wp2_with fail
                    refine (rinputsRight_any x.inputs _ _ ((H6.out.kept HB3.out).mono HB3.out.size) HZ.out.2.2.2).mono ?_
                    rintro e w6 ⟨rfl, hb⟩
                    clear q0 q1 q2 q3 q4 q5 q6
                    have HB4 := Lib.hid (HB3.out.trans (Below.mono hb HB3.out.size))
                    have HX4 := Lib.hid (HX3.out.stay hb)
                    clear hb
                    have q0 := HX4.out.cell 0 _ rfl
                    have q1 := HX4.out.cell 1 _ rfl
                    have q2 := HX4.out.cell 2 _ rfl
                    have q3 := HX4.out.cell 3 _ rfl
                    have q4 := HX4.out.cell 4 _ rfl
                    have q5 := HX4.out.cell 5 _ rfl
                    have q6 := HX4.out.cell 6 _ rfl
                    cases v : rinpsOk x.inputs with
                    | false =>
                      have u8 := Lib.hid v
                      clear v
                      go_wp2_with fail
                      go_ret
                      exact ⟨by rw [HV2.out, HT2.out, u4.out, Bool.true_and, u5.out, Bool.true_and, u6.out, Bool.true_and, u7.out, Bool.true_and, u8.out]; rfl, HB4.out⟩
                    | true =>
                      have u8 := Lib.hid v
                      clear v
                      go_wp2_with fail
                      go_ret
                      exact ⟨by rw [HV2.out, HT2.out, u4.out, Bool.true_and, u5.out, Bool.true_and, u6.out, Bool.true_and, u7.out, Bool.true_and, u8.out]; rfl, HB4.out⟩
                · skip
                  have u6 : Hid (decide (l5 = 0) = false) := Lib.hid (by simp [z6])
                  have y6 : ((l5 : Int) == 0) = false := by rw [beq_eq_false_iff_ne]; omega
                  have y6' : decide (l5 = 0) = false := decide_eq_false z6
                  clear z6
                  go_wp2_with fail
                  go_quiet (fail)
                  have HB3 : Hid (Below w.heap.size w (wr.drewN nq)) := Lib.hid (_root_.Go.below_drewN HB2.out nq)
                  have HX3 : Hid (Bk (wr.drewN nq) w.heap.size #[.int .i64 5, .string x.name, .slice A2 i c2, .slice A3 x.dirs.length c3, .slice A4 l4 c4, .slice A5 l5 c5, .slice A6 l6 c6] 35) := Lib.hid HX2.out
                  go_wp2_with fail
                  go_ret
                  exact ⟨by rw [HV2.out, HT2.out, u4.out, Bool.true_and, u5.out, Bool.true_and, u6.out, Bool.false_and]; rfl, HB3.out⟩
              · skip
                have u5 : Hid (decide (l4 = 0) = false) := Lib.hid (by simp [z5])
                have y5 : ((l4 : Int) == 0) = false := by rw [beq_eq_false_iff_ne]; omega
                have y5' : decide (l4 = 0) = false := decide_eq_false z5
                clear z5
                go_wp2_with fail
                go_quiet (fail)
                have HB3 : Hid (Below w.heap.size w (wr.drewN nq)) := Lib.hid (_root_.Go.below_drewN HB2.out nq)
                have HX3 : Hid (Bk (wr.drewN nq) w.heap.size #[.int .i64 5, .string x.name, .slice A2 i c2, .slice A3 x.dirs.length c3, .slice A4 l4 c4, .slice A5 l5 c5, .slice A6 l6 c6] 35) := Lib.hid HX2.out
                go_wp2_with fail
                go_ret
                exact ⟨by rw [HV2.out, HT2.out, u4.out, Bool.true_and, u5.out, Bool.false_and]; rfl, HB3.out⟩
            · skip
              have u4 : Hid (decide (i = 0) = false) := Lib.hid (by simp [z4])
              have y4 : ((i : Int) == 0) = false := by rw [beq_eq_false_iff_ne]; omega
              have y4' : decide (i = 0) = false := decide_eq_false z4
              clear z4
              go_wp2_with fail
              go_quiet (fail)
              have HB3 : Hid (Below w.heap.size w (wr.drewN nq)) := Lib.hid (_root_.Go.below_drewN HB2.out nq)
              have HX3 : Hid (Bk (wr.drewN nq) w.heap.size #[.int .i64 5, .string x.name, .slice A2 i c2, .slice A3 x.dirs.length c3, .slice A4 l4 c4, .slice A5 l5 c5, .slice A6 l6 c6] 35) := Lib.hid HX2.out
              go_wp2_with fail
              go_ret
              exact ⟨by rw [HV2.out, HT2.out, u4.out, Bool.false_and]; rfl, HB3.out⟩
          have HT2 : Hid (TB = false) := Lib.hid (HT.out.trans (by rw [if_neg k1, if_neg k2, if_neg k3, if_neg k4, if_neg k5]))
          have j1 : (kd == 1) = false := by rw [beq_eq_false_iff_ne]; exact k1
          have j2 : (kd == 2) = false := by rw [beq_eq_false_iff_ne]; exact k2
          have j3 : (kd == 3) = false := by rw [beq_eq_false_iff_ne]; exact k3
          have j4 : (kd == 4) = false := by rw [beq_eq_false_iff_ne]; exact k4
          have j5 : (kd == 5) = false := by rw [beq_eq_false_iff_ne]; exact k5
          clear k1 k2 k3 k4 k5
          go_wp2_with fail
          go_quiet (fail)
          have HB3 : Hid (Below w.heap.size w (wr.drewN nq)) := Lib.hid (_root_.Go.below_drewN HB2.out nq)
          go_wp2_with fail
          go_ret
          exact ⟨by rw [HV2.out, HT2.out]; rfl, HB3.out⟩
theorem rdefRight_c (x : DefT) (f : Nat → Value) (w : World) (h : DefR w w.heap.size f x) (hz : dirsZ x.dirs ∧ fldsZ x.fields ∧ memsZ x.members ∧ inpsZ x.inputs) (cs : Array Value) (hc : #[f 0, f 1, f 2, f 3, f 4, f 5, f 6] = cs) : Calls Tryz.prog 12 #[.agg cs] w (BP (rdefOk x) w) := by
  subst hc
  exact rdefRight_any x f w h hz
end Go.Proofs.YtieklhplalgmmaaGreatDoor
namespace Go.Proofs.YtieklhplalgmmaaGreatDoor
open Go.RowKit
set_option maxRecDepth 100000 in
set_option maxHeartbeats 8000000 in
theorem rright_doc (xs : List DefT) (v : Value) (w : World) (h : DefsR w w.heap.size v xs) (hz : defsZ xs) : Calls Tryz.prog 6 #[.agg #[v]] w (BP (ltB 1 64 xs rdefOk) w) := by
  have HZ := Lib.hid hz
  clear hz
  have HV : Hid (ltB 1 64 xs rdefOk = (decide (1 ≤ xs.length) && (decide (xs.length ≤ 64) && xs.all rdefOk))) := Lib.hid rfl
  generalize ltB 1 64 xs rdefOk = RB at *
  obtain ⟨A, c, rfl, hc, hb, V, hA, hr⟩ := h
  have HA := Lib.hid hA
  have HR := Lib.hid hr
  unfold big at hb
  obtain ⟨len, hlen⟩ : ∃ len, len = xs.length := ⟨_, rfl⟩
  rw [← hlen] at HV HA hb ⊢
  have HL := Lib.hid hlen
  clear hA hr hc hlen
  have hlm : (len : Int) ≤ 140737488351232 := by omega
  clear hb
  by_cases hz1 : len < 1
  · have hz2 : (len : Int) < 1 := by omega
    have HV2 : Hid (RB = false) := Lib.hid (by rw [HV.out, decide_eq_false (by omega)]; rfl)
    clear hz1
    go_enter Tryz.func6, Tryz.ntmps6
    go_wp2_with fail
    go_ret
    exact ⟨by rw [HV2.out]; rfl, below_new _ _⟩
  have hz2 : ¬ (len : Int) < 1 := by omega
  by_cases hg : 64 < len
  · have hg2 : (len : Int) > 64 := by omega
    have HV2 : Hid (RB = false) := Lib.hid (by rw [HV.out, decide_eq_false (by omega : ¬ len ≤ 64)]; simp)
    clear hg
    go_enter Tryz.func6, Tryz.ntmps6
    go_wp2_with fail
    go_ret
    exact ⟨by rw [HV2.out]; rfl, below_new _ _⟩
  have hg2 : ¬ (len : Int) > 64 := by omega
  have HV2 : Hid (RB = xs.all rdefOk) := Lib.hid (by rw [HV.out, decide_eq_true (by omega : 1 ≤ len), decide_eq_true (by omega : len ≤ 64)]; rfl)
  have HBD : Hid (Below w.heap.size w (w.alloc (.cells #[.slice A len c] 24 (0, 0)))) := Lib.hid (below_new _ _)
  have HXD : Hid (Bk (w.alloc (.cells #[.slice A len c] 24 (0, 0))) w.heap.size #[.slice A len c] 24) := Lib.hid (Bk.new _ _ _)
  go_enter Tryz.func6, Tryz.ntmps6
  go_wp2_with fail
  clear hg hg2 hz1 hz2
  go_loopw [3] (fun u wr => ∃ i : Nat, i ≤ len ∧ u = .int .i64 i ∧ Hid ((∀ (j : Nat) (y : DefT), j < i → xs[j]? = some y → rdefOk y = true) ∧ Below w.heap.size w wr ∧ Bk wr w.heap.size #[.slice A len c] 24)) (fun u _ => len - (intOf u).toNat)
  case atStart => exact ⟨0, Nat.zero_le _, rfl, Lib.hid ⟨fun _ _ h => absurd h (Nat.not_lt_zero _), HBD.out, HXD.out⟩⟩
  case round =>
    obtain ⟨i, hi, rfl, hr⟩ := hrel
    have qd := hr.out.2.2.cell 0 _ rfl
    by_cases hlt : i < len
    · skip
      have hlt' : (i : Int) < len := by omega
      obtain ⟨a, rfl, ha, hcell⟩ := HA.out (by omega)
      have hcell := hcell i hlt
      obtain ⟨x, hx⟩ : ∃ x, xs[i]? = some x := ⟨_, List.getElem?_eq_getElem (by have := HL.out; omega)⟩
      have hrx := HR.out i x hx
      obtain ⟨A2, c2, e2, _, _⟩ := hrx.impl.form
      obtain ⟨A3, c3, e3, _, _⟩ := hrx.dirs.form
      obtain ⟨A4, c4, e4, _, _⟩ := hrx.fields.form
      obtain ⟨A5, c5, e5, _, _⟩ := hrx.members.form
      obtain ⟨A6, c6, e6, _, _⟩ := hrx.inputs.form
      have e0 := hrx.kind
      have e1 := hrx.name
      have HCE : Hid (∀ W : World, Below w.heap.size w W → W.cell? (a.add (i * 7)) = some (.int .i64 x.kind) ∧ W.cell? ⟨(a.add (i * 7)).block, (a.add (i * 7)).off + 1, none⟩ = some (.string x.name) ∧ W.cell? ⟨(a.add (i * 7)).block, (a.add (i * 7)).off + 2, none⟩ = some (.slice A2 x.impl.length c2) ∧ W.cell? ⟨(a.add (i * 7)).block, (a.add (i * 7)).off + 3, none⟩ = some (.slice A3 x.dirs.length c3) ∧ W.cell? ⟨(a.add (i * 7)).block, (a.add (i * 7)).off + 4, none⟩ = some (.slice A4 x.fields.length c4) ∧ W.cell? ⟨(a.add (i * 7)).block, (a.add (i * 7)).off + 5, none⟩ = some (.slice A5 x.members.length c5) ∧ W.cell? ⟨(a.add (i * 7)).block, (a.add (i * 7)).off + 6, none⟩ = some (.slice A6 x.inputs.length c6)) := Lib.hid fun W hW => by
        have hh : ∀ j, j < 7 → W.cell? (at_ (a.add (i * 7)) j) = some (V i j) := fun j hj => (hW.cell (by rw [at_block, add_block]; exact ha)).trans (hcell j hj)
        exact ⟨(hh 0 (by omega)).trans (congrArg some e0), (hh 1 (by omega)).trans (congrArg some e1), (hh 2 (by omega)).trans (congrArg some e2), (hh 3 (by omega)).trans (congrArg some e3), (hh 4 (by omega)).trans (congrArg some e4), (hh 5 (by omega)).trans (congrArg some e5), (hh 6 (by omega)).trans (congrArg some e6)⟩
      have HF := Lib.hid hrx
      have hff : #[V i 0, V i 1, V i 2, V i 3, V i 4, V i 5, V i 6] = #[.int .i64 x.kind, .string x.name, .slice A2 x.impl.length c2, .slice A3 x.dirs.length c3, .slice A4 x.fields.length c4, .slice A5 x.members.length c5, .slice A6 x.inputs.length c6] := by rw [e0, e1, e2, e3, e4, e5, e6]
      replace hff := Lib.hid hff
      have HZX := Lib.hid (HZ.out x (List.mem_of_getElem? hx))
      have HPX : Hid (rdefOk x = (rdefOk x && true)) := Lib.hid (Bool.and_true _).symm
      have HX := Lib.hid hx
      have HB0 := Lib.hid hr.out.2.1
      clear hcell hrx hx e0 e1 e2 e3 e4 e5 e6
      obtain ⟨k0, k1, k2, k3, k4, k5, k6⟩ := HCE.out _ HB0.out
      go_wp2_with fail
      refine (rdefRight_c x (V i) _ (DefR.stays.mono (DefR.stays.kept HF.out HB0.out) HB0.out.size) HZX.out _ hff.out).mono ?_
      rintro e w2 ⟨rfl, hb⟩
      clear k0 k1 k2 k3 k4 k5 k6
      have HB1 := Lib.hid (HB0.out.trans (Below.mono hb HB0.out.size))
      have HXX := Lib.hid (hr.out.2.2.stay hb)
      clear hb qd
      cases v : rdefOk x with
      | false =>
        have v0 := Lib.hid v
        clear v
        go_wp2_with fail
        go_ret
        exact ⟨by rw [HV2.out, all_false HX.out (by rw [HPX.out, v0.out, Bool.false_and])]; rfl, HB1.out⟩
      | true =>
        have v0 := Lib.hid v
        clear v
        go_wp2_with fail
        go_roundw
        case rel => exact ⟨i + 1, by omega, by simp, Lib.hid ⟨snoc_true hr.out.1 HX.out (by rw [HPX.out, v0.out, Bool.true_and]), HB1.out, HXX.out⟩⟩
        case measure => simp [intOf]; omega
    · have : i = len := by omega
      subst this
      have HVT : Hid (RB = true) := Lib.hid (by rw [HV2.out]; exact all_true fun j y h1 h2 => hr.out.1 j y (by have := HL.out; omega) h2)
      go_wp2_with fail
      go_ret
      exact ⟨by rw [HVT.out]; rfl, hr.out.2.1⟩
end Go.Proofs.YtieklhplalgmmaaGreatDoor
namespace Go.Proofs.YtieklhplalgmmaaGreatDoor
open Go.RowKit
theorem nm_le {s : ByteArray} (h : nmA s = true) : s.size ≤ 64 := by
  unfold nmA nameL at h
  simp only [Bool.and_eq_true, decide_eq_true_eq] at h
  have := h.1.1.2
  rw [← bL_len]; exact this
theorem ltB_le {α : Type} {a b : Nat} {xs : List α} {p : α → Bool} (h : ltB a b xs p = true) : xs.length ≤ b ∧ ∀ x ∈ xs, p x = true := by
  unfold ltB at h
  simp only [Bool.and_eq_true, decide_eq_true_eq] at h
  exact ⟨h.2.1, fun x hx => List.all_eq_true.1 h.2.2 x hx⟩
theorem arg_fit {y : ByteArray × VT} (hs : y.2.bw ≤ 1048576) (h : rargOk y = true) : y.2.fit ∧ y.1.size ≤ 64 := by
  unfold rargOk rightB at h
  simp only [Bool.and_eq_true] at h
  exact ⟨fit_whole _ h.2.1.2 hs, nm_le h.1⟩
theorem dirs_fit {l : List DirT} (hs : dirsS l) (h : rdirsOk l = true) : dirsFit l := fun d hd y hy => by
  have h1 := (ltB_le h).2 d hd
  unfold rdirOk at h1
  simp only [Bool.and_eq_true] at h1
  exact (arg_fit (hs d hd y hy) (List.all_eq_true.1 h1.2.2 y hy)).1
theorem sum_bound {α : Type} (f : α → Nat) (M : Nat) : ∀ (l : List α), (∀ x ∈ l, f x ≤ M) → (l.map f).sum ≤ l.length * M
  | [], _ => by simp
  | x :: r, h => by
    have h1 := h x (by simp)
    have h2 := sum_bound f M r fun y hy => h y (by simp [hy])
    rw [List.map_cons, List.sum_cons, List.length_cons, Nat.succ_mul]
    omega
theorem jn_bound (sep : List UInt8) (xs : List (List UInt8)) (M n : Nat) (hx : ∀ x ∈ xs, x.length ≤ M) (hn : xs.length ≤ n) : (jn sep xs).length ≤ n * (M + sep.length) := by
  have h1 := jn_len sep xs
  have h2 := sum_bound (fun x : List UInt8 => x.length + sep.length) (M + sep.length) xs fun x hx' => by have := hx x hx'; omega
  exact Nat.le_trans h1 (Nat.le_trans h2 (Nat.mul_le_mul_right _ hn))
theorem dirs_len {l : List DirT} {w : World} {B : Nat} {v : Value} (hr : DirsR w B v l) (hs : dirsS l) (h : rdirsOk l = true) : (dirsTxt l).length ≤ 10000000000 := by
  have h0 := ltB_le h
  have h1 : ∀ x ∈ l.map dirTxt, x.length ≤ 503318600 := by
    intro x hx
    obtain ⟨d, hd, rfl⟩ := List.mem_map.1 hx
    have hk := h0.2 d hd
    unfold rdirOk at hk
    simp only [Bool.and_eq_true, decide_eq_true_eq] at hk
    have hnm := nm_le hk.1
    obtain ⟨A, c, _, _, _, V, _, hel⟩ := hr
    obtain ⟨i, hi⟩ := List.mem_iff_getElem?.1 hd
    obtain ⟨A1, c1, _, _, _, V1, _, hel1⟩ := (hel i d hi).args
    have ha : ∀ z ∈ d.args.map argTxt, z.length ≤ 31457400 := by
      intro z hz
      obtain ⟨y, hy, rfl⟩ := List.mem_map.1 hz
      obtain ⟨q, hq⟩ := List.mem_iff_getElem?.1 hy
      have hsl := src_len y.2 w B _ (hel1 q y hq).val
      have hb := hs d hd y hy
      have hn := (arg_fit hb (List.all_eq_true.1 hk.2.2 y hy)).2
      unfold argTxt
      simp only [List.length_append, List.length_cons, List.length_nil, bL_len]
      omega
    have hj := jn_bound [44, 32] _ _ 16 ha (by rw [List.length_map]; exact hk.2.1)
    unfold dirTxt
    split
    · simp only [List.length_append, List.length_cons, List.length_nil, bL_len]; omega
    · simp only [List.length_append, List.length_cons, List.length_nil, bL_len] at hj ⊢
      omega
  have hj := jn_bound [32] _ _ 16 h1 (by rw [List.length_map]; exact h0.1)
  unfold dirsTxt
  simp only [List.length_cons, List.length_nil] at hj
  omega
theorem dirsS_Z {l : List DirT} (h : dirsS l) : dirsZ l := fun d hd y hy => by
  have h1 := h d hd y hy
  have h2 := size_bw y.2
  omega
theorem inpsS_Z {l : List InpT} (h : inpsS l) : inpsZ l := fun x hx => ⟨by have h1 := (h x hx).1; have h2 := size_bw x.dflt; omega, dirsS_Z (h x hx).2.1⟩
theorem defsS_Z {l : List DefT} (h : defsS l) : defsZ l := fun x hx =>
  ⟨dirsS_Z (h x hx).1, fun y hy => ⟨inpsS_Z ((h x hx).2.2.1 y hy).1, dirsS_Z ((h x hx).2.2.1 y hy).2.1⟩, fun y hy => dirsS_Z ((h x hx).2.2.2.1 y hy), inpsS_Z (h x hx).2.1⟩
end Go.Proofs.YtieklhplalgmmaaGreatDoor
namespace Go.Proofs.YtieklhplalgmmaaGreatDoor
open Go.RowKit
theorem rf_ok {n : ByteArray} {ws : List Int} (h : K.okB n ws = true) : rfFit n ws ∧ (refTxt n ws).length ≤ 200 := by
  obtain ⟨h1, h2, _⟩ := K.ok_len h
  have h3 : n.size ≤ 64 := nm_le h1
  have h4 := K.pr_len n.data.toList ws
  have h5 : n.data.toList.length = n.size := bL_len n
  unfold rfFit refTxt
  exact ⟨⟨by omega, by omega⟩, by omega⟩
theorem tail_len {l : List DirT} {w : World} {B : Nat} {v : Value} (hr : DirsR w B v l) (hs : dirsS l) (h : rdirsOk l = true) : (tailTxt l).length ≤ 10000000001 := by
  have h1 := dirs_len hr hs h
  unfold tailTxt
  split
  · simp
  · simp only [List.length_append, List.length_cons, List.length_nil]; omega
theorem inp_ok {x : InpT} (hd : x.dflt.bw ≤ 1048576) (hs : dirsS x.dirs) (h : rinpOk x = true) : inpFit x ∧ x.name.size ≤ 64 := by
  unfold rinpOk at h
  simp only [Bool.and_eq_true] at h
  refine ⟨⟨(rf_ok h.2.1).1, fun hh => ?_, dirs_fit hs h.2.2.1⟩, nm_le h.1⟩
  have h1 := h.2.2.2
  rw [if_pos hh] at h1
  unfold rightB at h1
  simp only [Bool.and_eq_true] at h1
  exact fit_whole _ h1.1.2 hd
theorem inp_len {x : InpT} {w : World} {B : Nat} {f : Nat → Value} (hr : InpR w B f x) (hd : x.dflt.bw ≤ 1048576) (hs : dirsS x.dirs) (h : rinpOk x = true) : (inpTxt x).length ≤ 10040000000 := by
  have hn := (inp_ok hd hs h).2
  unfold rinpOk at h
  simp only [Bool.and_eq_true] at h
  have h1 := (rf_ok h.2.1).2
  have h2 := tail_len hr.dirs hs h.2.2.1
  have h3 := src_len x.dflt w B _ hr.val
  unfold inpTxt
  simp only [List.length_append, List.length_cons, List.length_nil, bL_len]
  split
  · simp only [List.length_append, List.length_cons, List.length_nil]; omega
  · simp only [List.length_nil]; omega
theorem fld_ok {x : FldT} (hs : inpsS x.args ∧ dirsS x.dirs ∧ x.tw.length ≤ 17592186044416) (h : rfldOk x = true) : fldFit x ∧ x.args.length ≤ 16 ∧ x.dirs.length ≤ 16 := by
  unfold rfldOk at h
  simp only [Bool.and_eq_true] at h
  have h1 := ltB_le h.2.1
  exact ⟨⟨(rf_ok h.2.2.1).1, fun y hy => (inp_ok (hs.1 y hy).1 (hs.1 y hy).2.1 (h1.2 y hy)).1, dirs_fit hs.2.1 h.2.2.2⟩, h1.1, (ltB_le h.2.2.2).1⟩
theorem fld_len {x : FldT} {w : World} {B : Nat} {f : Nat → Value} (hr : FldR w B f x) (hs : inpsS x.args ∧ dirsS x.dirs ∧ x.tw.length ≤ 17592186044416) (h : rfldOk x = true) : (fldTxt x).length + 3 ≤ 10100000000 * (1 + cntF x) := by
  unfold rfldOk at h
  simp only [Bool.and_eq_true] at h
  have h1 := ltB_le h.2.1
  have hn := nm_le h.1
  have h2 := (rf_ok h.2.2.1).2
  have h3 := tail_len hr.dirs hs.2.1 h.2.2.2
  obtain ⟨A1, c1, _, _, _, V1, _, hel1⟩ := hr.args
  have ha : ∀ z ∈ x.args.map inpTxt, z.length ≤ 10040000000 := by
    intro z hz
    obtain ⟨y, hy, rfl⟩ := List.mem_map.1 hz
    obtain ⟨q, hq⟩ := List.mem_iff_getElem?.1 hy
    exact inp_len (hel1 q y hq) (hs.1 y hy).1 (hs.1 y hy).2.1 (h1.2 y hy)
  have hj := jn_bound [44, 32] _ _ x.args.length ha (by rw [List.length_map]; exact Nat.le_refl _)
  simp only [List.length_cons, List.length_nil] at hj
  unfold fldTxt cntF
  split
  · simp only [List.length_append, List.length_cons, List.length_nil, bL_len]; omega
  · simp only [List.length_append, List.length_cons, List.length_nil, bL_len]; omega
end Go.Proofs.YtieklhplalgmmaaGreatDoor
namespace Go.Proofs.YtieklhplalgmmaaGreatDoor
open Go.RowKit
theorem lines_bound {α : Type} (txt : α → List UInt8) (g : α → Nat) (M : Nat) : ∀ (l : List α), (∀ x ∈ l, (txt x).length + 3 ≤ M * g x) → (((l.map txt).map lineTxt).flatten).length ≤ M * (l.map g).sum
  | [], _ => by simp
  | x :: r, h => by
    have h1 := h x (by simp)
    have h2 := lines_bound txt g M r fun y hy => h y (by simp [hy])
    have h3 : (lineTxt (txt x)).length = (txt x).length + 3 := by unfold lineTxt; simp only [List.length_append, List.length_cons, List.length_nil]; omega
    rw [List.map_cons, List.map_cons, List.flatten_cons, List.length_append, List.map_cons, List.sum_cons, Nat.mul_add, h3]
    omega
theorem ones_sum {α : Type} (l : List α) : (l.map fun _ => 1).sum = l.length := by
  induction l with
  | nil => rfl
  | cons x r ih => rw [List.map_cons, List.sum_cons, ih, List.length_cons]; omega
theorem plus_sum {α : Type} (g : α → Nat) (l : List α) : (l.map fun y => 1 + g y).sum = l.length + (l.map g).sum := by
  induction l with
  | nil => rfl
  | cons x r ih => rw [List.map_cons, List.sum_cons, ih, List.length_cons, List.map_cons, List.sum_cons]; omega
theorem def_ok {x : DefT} (hs : dirsS x.dirs ∧ inpsS x.inputs ∧ fldsS x.fields ∧ memsS x.members ∧ x.impl.length ≤ 17592186044416) (h : rdefOk x = true) (hk : 1 ≤ x.kind ∧ x.kind ≤ 5)
    (hF : rfldsOk x.fields = true ∨ x.fields.length = 0) (hM : (∃ p, rmemsOk p x.members = true ∧ (x.kind = 3 → p = true)) ∨ x.members.length = 0) (hI : rinpsOk x.inputs = true ∨ x.inputs.length = 0) :
    (defFit x ∧ (x.kind = 3 → ∀ y ∈ x.members, y.dirs = []) ∧ x.impl.length ≤ 64) ∧ smallD x := by
  unfold rdefOk at h
  simp only [Bool.and_eq_true, decide_eq_true_eq] at h
  have hf : x.fields.length ≤ 64 ∧ ∀ y ∈ x.fields, rfldOk y = true := by
    rcases hF with hF | hF
    · exact ltB_le hF
    · exact ⟨by omega, fun y hy => by rw [List.length_eq_zero_iff.1 hF] at hy; cases hy⟩
  have hm : x.members.length ≤ 64 ∧ ∀ y ∈ x.members, rdirsOk y.dirs = true ∧ (x.kind = 3 → y.dirs = []) := by
    rcases hM with ⟨p, hM, hp⟩ | hM
    · refine ⟨(ltB_le hM).1, fun y hy => ?_⟩
      have h1 := (ltB_le hM).2 y hy
      unfold rmemOk at h1
      simp only [Bool.and_eq_true] at h1
      refine ⟨h1.2.1, fun h3 => ?_⟩
      have h2 := h1.2.2
      rw [hp h3] at h2
      simp at h2
      exact h2
    · exact ⟨by omega, fun y hy => by rw [List.length_eq_zero_iff.1 hM] at hy; cases hy⟩
  have hi : x.inputs.length ≤ 16 ∧ ∀ y ∈ x.inputs, rinpOk y = true := by
    rcases hI with hI | hI
    · exact ltB_le hI
    · exact ⟨by omega, fun y hy => by rw [List.length_eq_zero_iff.1 hI] at hy; cases hy⟩
  have hd := ltB_le h.2.1
  refine ⟨⟨⟨hk, dirs_fit hs.1 h.2.1, fun y hy => (fld_ok (hs.2.2.1 y hy) (hf.2 y hy)).1, fun y hy => dirs_fit (hs.2.2.2.1 y hy) (hm.2 y hy).1, fun y hy => (inp_ok (hs.2.1 y hy).1 (hs.2.1 y hy).2.1 (hi.2 y hy)).1⟩, fun h3 y hy => (hm.2 y hy).2 h3, h.2.2.1⟩, h.2.2.1, by omega, hm.1, by omega, hf.1, fun y hy => ?_⟩
  have h1 := (fld_ok (hs.2.2.1 y hy) (hf.2 y hy)).2
  exact ⟨by omega, by omega⟩
theorem def_parts {x : DefT} (h : rdefOk x = true) : (1 ≤ x.kind ∧ x.kind ≤ 5) ∧ (rfldsOk x.fields = true ∨ x.fields.length = 0) ∧ ((∃ p, rmemsOk p x.members = true ∧ (x.kind = 3 → p = true)) ∨ x.members.length = 0) ∧ (rinpsOk x.inputs = true ∨ x.inputs.length = 0) := by
  unfold rdefOk at h
  simp only [Bool.and_eq_true] at h
  have h1 := h.2.2.2.2
  unfold rtailOk at h1
  split at h1
  · simp only [Bool.and_eq_true, decide_eq_true_eq] at h1; exact ⟨by omega, .inl h1.1, .inr h1.2.1, .inr h1.2.2⟩
  split at h1
  · simp only [Bool.and_eq_true, decide_eq_true_eq] at h1; exact ⟨by omega, .inl h1.2.1, .inr h1.2.2.1, .inr h1.2.2.2⟩
  split at h1
  · simp only [Bool.and_eq_true, decide_eq_true_eq] at h1; exact ⟨by omega, .inr h1.2.1, .inl ⟨true, h1.2.2.1, fun _ => rfl⟩, .inr h1.2.2.2⟩
  split at h1
  · simp only [Bool.and_eq_true, decide_eq_true_eq] at h1; exact ⟨by omega, .inr h1.2.1, .inl ⟨false, h1.2.2.1, fun _ => by omega⟩, .inr h1.2.2.2⟩
  split at h1
  · simp only [Bool.and_eq_true, decide_eq_true_eq] at h1; exact ⟨by omega, .inr h1.2.1, .inr h1.2.2.1, .inl h1.2.2.2.2⟩
  · cases h1
end Go.Proofs.YtieklhplalgmmaaGreatDoor
namespace Go.Proofs.YtieklhplalgmmaaGreatDoor
open Go.RowKit
theorem blk_len (ds : List DirT) (ls : List (List UInt8)) : (blkTxt ds ls).length = (tailTxt ds).length + ((ls.map lineTxt).flatten).length + 5 := by
  unfold blkTxt; simp only [List.length_append, List.length_cons, List.length_nil]; omega
theorem def_len {x : DefT} {w : World} {B : Nat} {f : Nat → Value} (hr : DefR w B f x) (hs : dirsS x.dirs ∧ inpsS x.inputs ∧ fldsS x.fields ∧ memsS x.members ∧ x.impl.length ≤ 17592186044416) (h : rdefOk x = true) : (defTxt x).length + 1 ≤ 10300000000 * cntD x := by
  obtain ⟨hk, hF, hM, hI⟩ := def_parts h
  unfold rdefOk at h
  simp only [Bool.and_eq_true, decide_eq_true_eq] at h
  have hn := nm_le h.1
  have ht := tail_len hr.dirs hs.1 h.2.1
  have hfl : (((x.fields.map fldTxt).map lineTxt).flatten).length ≤ 10100000000 * (x.fields.length + (x.fields.map cntF).sum) := by
    rw [← plus_sum]
    refine lines_bound fldTxt (fun y => 1 + cntF y) 10100000000 x.fields fun y hy => ?_
    rcases hF with hF | hF
    · obtain ⟨A1, c1, _, _, _, V1, _, hel1⟩ := hr.fields
      obtain ⟨q, hq⟩ := List.mem_iff_getElem?.1 hy
      exact fld_len (hel1 q y hq) (hs.2.2.1 y hy) ((ltB_le hF).2 y hy)
    · rw [List.length_eq_zero_iff.1 hF] at hy; cases hy
  have hme : ∀ y ∈ x.members, (memTxt y).length + 3 ≤ 10100000000 * 1 := fun y hy => by
    rcases hM with ⟨p, hM, _⟩ | hM
    · obtain ⟨A1, c1, _, _, _, V1, _, hel1⟩ := hr.members
      obtain ⟨q, hq⟩ := List.mem_iff_getElem?.1 hy
      have h1 := (ltB_le hM).2 y hy
      unfold rmemOk at h1
      simp only [Bool.and_eq_true] at h1
      have h2 := tail_len (hel1 q y hq).dirs (hs.2.2.2.1 y hy) h1.2.1
      have h3 := nm_le h1.1
      unfold memTxt
      simp only [List.length_append, bL_len]; omega
    · rw [List.length_eq_zero_iff.1 hM] at hy; cases hy
  have hml : (((x.members.map memTxt).map lineTxt).flatten).length ≤ 10100000000 * x.members.length := by
    have h1 := lines_bound memTxt (fun _ => 1) 10100000000 x.members hme
    rwa [ones_sum] at h1
  have hmj : (jn [32, 124, 32] (x.members.map memTxt)).length ≤ x.members.length * (10100000000 + 3) := by
    have h1 := jn_bound [32, 124, 32] (x.members.map memTxt) 10100000000 x.members.length (by
      intro z hz
      obtain ⟨y, hy, rfl⟩ := List.mem_map.1 hz
      have := hme y hy; omega) (by rw [List.length_map]; exact Nat.le_refl _)
    exact h1
  have hil : (((x.inputs.map inpTxt).map lineTxt).flatten).length ≤ 10100000000 * x.inputs.length := by
    have h1 := lines_bound inpTxt (fun _ => 1) 10100000000 x.inputs fun y hy => by
      rcases hI with hI | hI
      · obtain ⟨A1, c1, _, _, _, V1, _, hel1⟩ := hr.inputs
        obtain ⟨q, hq⟩ := List.mem_iff_getElem?.1 hy
        have h2 := inp_len (hel1 q y hq) (hs.2.1 y hy).1 (hs.2.1 y hy).2.1 ((ltB_le hI).2 y hy)
        omega
      · rw [List.length_eq_zero_iff.1 hI] at hy; cases hy
    rwa [ones_sum] at h1
  have him : (implTxt x.impl).length ≤ 12 + x.impl.length * 67 := by
    have h1 := jn_bound [32, 38, 32] (x.impl.map bL) 64 x.impl.length (by
      intro z hz
      obtain ⟨y, hy, rfl⟩ := List.mem_map.1 hz
      rw [bL_len]; exact nm_le (List.all_eq_true.1 h.2.2.2.1 y hy)) (by rw [List.length_map]; exact Nat.le_refl _)
    simp only [List.length_cons, List.length_nil] at h1
    unfold implTxt
    split
    · simp
    · simp only [List.length_append, List.length_cons, List.length_nil]; omega
  have e1 : wType.length = 5 := rfl
  have e2 : wInterface.length = 10 := rfl
  have e3 : wUnion.length = 6 := rfl
  have e4 : wEnum.length = 5 := rfl
  have e5 : wInput.length = 6 := rfl
  unfold defTxt uniTxt cntD
  split
  · simp only [List.length_append, bL_len, blk_len]; omega
  split
  · simp only [List.length_append, bL_len, blk_len]; omega
  split
  · simp only [List.length_append, List.length_cons, List.length_nil, bL_len]; omega
  split
  · simp only [List.length_append, bL_len, blk_len]; omega
  split
  · simp only [List.length_append, bL_len, blk_len]; omega
  · simp only [List.length_nil]; omega
theorem doc_len {xs : List DefT} (h : ∀ x ∈ xs, (defTxt x).length + 1 ≤ 10300000000 * cntD x) : (docTxt xs).length ≤ 10300000000 * (xs.map cntD).sum := by
  refine Nat.le_trans (jn_len [10] (xs.map defTxt)) ?_
  induction xs with
  | nil => simp
  | cons x r ih =>
    have h1 := h x (by simp)
    have h2 := ih fun y hy => h y (by simp [hy])
    rw [List.map_cons, List.map_cons, List.sum_cons, List.map_cons, List.sum_cons, Nat.mul_add]
    simp only [List.length_cons, List.length_nil] at h2 ⊢
    omega
end Go.Proofs.YtieklhplalgmmaaGreatDoor
namespace Go.Proofs.YtieklhplalgmmaaGreatDoor
open Go.RowKit
end Go.Proofs.YtieklhplalgmmaaGreatDoor
