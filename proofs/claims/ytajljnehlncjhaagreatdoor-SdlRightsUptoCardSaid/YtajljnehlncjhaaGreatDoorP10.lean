
/-
  Texts joined: D4 Twice RNodeD.
-/
import Derived.Test.YtajljnehlncjhaaGreatDoorP9
import Derived.Test.YtajljnehlncjhaaGreatDoorP4
import Derived.Test.YtajljnehlncjhaaGreatDoorP5
namespace Go.Proofs.YtajljnehlncjhaaGreatDoor
open Go.RowKit
set_option maxHeartbeats 2000000 in
theorem isDefault_any (b : Bool) (t : VT) (v : Value) (w : World) (h : Rd w w.heap.size v t) : Calls Tryz.prog 148 #[.bool b, v] w (BP (dflOk b t) w) := by
  have HR := Lib.hid h
  obtain ⟨k, n, s, is, ks⟩ := t
  cases h with
  | @mk _ _ _ A li ci K lk ck _ _ V hk hn hs hks hli hlk hbi hbk hA hr hK =>
  have HB0 : Hid (Below w.heap.size w (w.alloc (.cells #[.int .i64 k, .int .i64 n, .string s, .slice A li ci, .slice K lk ck] 53 (0, 0)))) := Lib.hid (below_new _ _)
  have HV : Hid (dflOk b (.mk k n s is ks) = if b then litOk (.mk k n s is ks) else decide (k = 0) && rightB false (.mk k n s is ks)) := Lib.hid rfl
  generalize dflOk b (.mk k n s is ks) = RB at *
  have HC1 := Lib.hid (isConstant_any (.mk k n s is ks) _ _ ((HR.out.kept HB0.out).mono HB0.out.size))
  have HC2 := Lib.hid (right_any (.mk k n s is ks) _ w.heap.size _ (HR.out.kept HB0.out) HB0.out.size)
  clear hk hn hs hks hli hlk hbi hbk hA hr hK HR
  cases b with
  | true =>
    go_enter Tryz.func148, Tryz.ntmps148
    go_wp2_with fail
    refine HC1.out.mono ?_
    rintro e w1 ⟨rfl, hb⟩
    have HB := Lib.hid (HB0.out.trans (Below.mono hb HB0.out.size))
    clear hb
    go_wp2_with fail
    go_ret
    exact ⟨by rw [HV.out]; rfl, HB.out⟩
  | false =>
    by_cases hz : k = 0
    · subst hz
      go_enter Tryz.func148, Tryz.ntmps148
      go_wp2_with fail
      refine HC2.out.mono ?_
      rintro e w1 ⟨rfl, hb⟩
      have HB := Lib.hid (HB0.out.trans (Below.mono hb HB0.out.size))
      clear hb
      go_wp2_with fail
      go_ret
      exact ⟨by rw [HV.out]; rfl, HB.out⟩
    · have hz' : (k == 0) = false := by rw [beq_eq_false_iff_ne]; exact hz
      have HV2 : Hid (RB = false) := Lib.hid (by rw [HV.out]; simp [hz])
      clear hz
      go_enter Tryz.func148, Tryz.ntmps148
      go_wp2_with fail
      go_ret
      exact ⟨by rw [HV2.out]; rfl, HB0.out⟩
set_option maxHeartbeats 2000000 in
theorem isInput_any (x : InpT) (f : Nat → Value) (w : World) (h : InpR w w.heap.size f x) : Calls Tryz.prog 114 #[.agg #[f 0, f 1, f 2, f 3, f 4, f 5, f 6, f 7, f 8, f 9]] w (BP (inpOk x) w) := by
  obtain ⟨k, n, s, A, li, ci, KA, lk, ck, e4, e5, e6, e7, e8⟩ := Rd.form h.val
  obtain ⟨A2, c2, e2, _, _⟩ := h.type.wraps.form
  obtain ⟨A9, c9, e9, _, _⟩ := h.dirs.form
  have HR := h.val
  have HT := h.type
  have HD := h.dirs
  have HN := Lib.hid h.size
  rw [e4, e5, e6, e7, e8] at HR
  rw [h.type.name, e2] at HT
  rw [e9] at HD
  rw [h.name, h.type.name, e2, h.has, e4, e5, e6, e7, e8, e9]
  clear e2 e4 e5 e6 e7 e8 e9 h
  replace HR := Lib.hid HR
  replace HT := Lib.hid HT
  replace HD := Lib.hid HD
  have HV : Hid (inpOk x = (nmA x.name && (K.okB x.tn x.tw && (dflOk x.has x.dflt && (dirsOk x.dirs))))) := Lib.hid rfl
  generalize inpOk x = RB at *
  have HB0 : Hid (Below w.heap.size w (w.alloc (.cells #[.string x.name, .string x.tn, .slice A2 x.tw.length c2, .bool x.has, .int .i64 k, .int .i64 n, .string s, .slice A li ci, .slice KA lk ck, .slice A9 x.dirs.length c9] 55 (0, 0)))) := Lib.hid (below_new _ _)
  have HX0 : Hid (Bk (w.alloc (.cells #[.string x.name, .string x.tn, .slice A2 x.tw.length c2, .bool x.has, .int .i64 k, .int .i64 n, .string s, .slice A li ci, .slice KA lk ck, .slice A9 x.dirs.length c9] 55 (0, 0))) w.heap.size #[.string x.name, .string x.tn, .slice A2 x.tw.length c2, .bool x.has, .int .i64 k, .int .i64 n, .string s, .slice A li ci, .slice KA lk ck, .slice A9 x.dirs.length c9] 55) := Lib.hid (Bk.new _ _ _)
  go_enter Tryz.func114, Tryz.ntmps114
  go_wp2_with fail
  refine (nm_any x.name _ HN.out).mono ?_
  rintro e w1 ⟨rfl, rfl⟩
  cases v : nmA x.name with
  | false =>
    have v0 := Lib.hid v
    clear v
    go_wp2_with fail
    go_ret
    exact ⟨by rw [HV.out, v0.out, Bool.false_and]; rfl, HB0.out⟩
  | true =>
    have v0 := Lib.hid v
    clear v
    have q0 := HX0.out.cell 0 _ rfl
    have q1 := HX0.out.cell 1 _ rfl
    have q2 := HX0.out.cell 2 _ rfl
    have q3 := HX0.out.cell 3 _ rfl
    have q4 := HX0.out.cell 4 _ rfl
    have q5 := HX0.out.cell 5 _ rfl
    have q6 := HX0.out.cell 6 _ rfl
    have q7 := HX0.out.cell 7 _ rfl
    have q8 := HX0.out.cell 8 _ rfl
    have q9 := HX0.out.cell 9 _ rfl
    go_wp2_with fail
    refine (K.tright_any x.tn x.tw _ _ (ref_of ((HT.out.kept HB0.out).mono HB0.out.size)) (by have := HT.out.size; unfold maxLen; unfold big at this; omega)).mono ?_
    rintro e w2 ⟨rfl, hb⟩
    clear q0 q1 q2 q3 q4 q5 q6 q7 q8 q9
    have HB1 := Lib.hid (HB0.out.trans (Below.mono hb HB0.out.size))
    have HX1 := Lib.hid (HX0.out.stay hb)
    clear hb
    cases v : K.okB x.tn x.tw with
    | false =>
      have v1 := Lib.hid v
      clear v
      go_wp2_with fail
      go_ret
      exact ⟨by rw [HV.out, v0.out, Bool.true_and, v1.out, Bool.false_and]; rfl, HB1.out⟩
    | true =>
      have v1 := Lib.hid v
      clear v
      have q0 := HX1.out.cell 0 _ rfl
      have q1 := HX1.out.cell 1 _ rfl
      have q2 := HX1.out.cell 2 _ rfl
      have q3 := HX1.out.cell 3 _ rfl
      have q4 := HX1.out.cell 4 _ rfl
      have q5 := HX1.out.cell 5 _ rfl
      have q6 := HX1.out.cell 6 _ rfl
      have q7 := HX1.out.cell 7 _ rfl
      have q8 := HX1.out.cell 8 _ rfl
      have q9 := HX1.out.cell 9 _ rfl
      go_wp2_with fail
      refine (isDefault_any x.has x.dflt _ _ ((HR.out.kept HB1.out).mono HB1.out.size)).mono ?_
      rintro e w3 ⟨rfl, hb⟩
      clear q0 q1 q2 q3 q4 q5 q6 q7 q8 q9
      have HB2 := Lib.hid (HB1.out.trans (Below.mono hb HB1.out.size))
      have HX2 := Lib.hid (HX1.out.stay hb)
      clear hb
      cases v : dflOk x.has x.dflt with
      | false =>
        have v2 := Lib.hid v
        clear v
        go_wp2_with fail
        go_ret
        exact ⟨by rw [HV.out, v0.out, Bool.true_and, v1.out, Bool.true_and, v2.out, Bool.false_and]; rfl, HB2.out⟩
      | true =>
        have v2 := Lib.hid v
        clear v
        have q0 := HX2.out.cell 0 _ rfl
        have q1 := HX2.out.cell 1 _ rfl
        have q2 := HX2.out.cell 2 _ rfl
        have q3 := HX2.out.cell 3 _ rfl
        have q4 := HX2.out.cell 4 _ rfl
        have q5 := HX2.out.cell 5 _ rfl
        have q6 := HX2.out.cell 6 _ rfl
        have q7 := HX2.out.cell 7 _ rfl
        have q8 := HX2.out.cell 8 _ rfl
        have q9 := HX2.out.cell 9 _ rfl
        go_wp2_with fail
        refine (areDirectives_any x.dirs _ _ ((HD.out.kept HB2.out).mono HB2.out.size)).mono ?_
        rintro e w4 ⟨rfl, hb⟩
        clear q0 q1 q2 q3 q4 q5 q6 q7 q8 q9
        have HB3 := Lib.hid (HB2.out.trans (Below.mono hb HB2.out.size))
        have HX3 := Lib.hid (HX2.out.stay hb)
        clear hb
        go_wp2_with fail
        go_ret
        exact ⟨by rw [HV.out, v0.out, Bool.true_and, v1.out, Bool.true_and, v2.out, Bool.true_and]; rfl, HB3.out⟩
set_option maxHeartbeats 2000000 in
theorem isField_any (x : FldT) (f : Nat → Value) (w : World) (h : FldR w w.heap.size f x) : Calls Tryz.prog 111 #[.agg #[f 0, f 1, f 2, f 3, f 4]] w (BP (fldOk x) w) := by
  obtain ⟨A1, c1, e1, _, _⟩ := h.args.form
  obtain ⟨A3, c3, e3, _, _⟩ := h.type.wraps.form
  obtain ⟨A4, c4, e4, _, _⟩ := h.dirs.form
  have HR := h.args
  have HT := h.type
  have HD := h.dirs
  have HN := Lib.hid h.size
  rw [e1] at HR
  rw [h.type.name, e3] at HT
  rw [e4] at HD
  rw [h.name, e1, h.type.name, e3, e4]
  clear e1 e3 e4 h
  replace HR := Lib.hid HR
  replace HT := Lib.hid HT
  replace HD := Lib.hid HD
  have HV : Hid (fldOk x = (nmA x.name && (inpsOk x.args && (K.okB x.tn x.tw && (dirsOk x.dirs))))) := Lib.hid rfl
  generalize fldOk x = RB at *
  have HB0 : Hid (Below w.heap.size w (w.alloc (.cells #[.string x.name, .slice A1 x.args.length c1, .string x.tn, .slice A3 x.tw.length c3, .slice A4 x.dirs.length c4] 50 (0, 0)))) := Lib.hid (below_new _ _)
  have HX0 : Hid (Bk (w.alloc (.cells #[.string x.name, .slice A1 x.args.length c1, .string x.tn, .slice A3 x.tw.length c3, .slice A4 x.dirs.length c4] 50 (0, 0))) w.heap.size #[.string x.name, .slice A1 x.args.length c1, .string x.tn, .slice A3 x.tw.length c3, .slice A4 x.dirs.length c4] 50) := Lib.hid (Bk.new _ _ _)
  go_enter Tryz.func111, Tryz.ntmps111
  go_wp2_with fail
  refine (nm_any x.name _ HN.out).mono ?_
  rintro e w1 ⟨rfl, rfl⟩
  cases v : nmA x.name with
  | false =>
    have v0 := Lib.hid v
    clear v
    go_wp2_with fail
    go_ret
    exact ⟨by rw [HV.out, v0.out, Bool.false_and]; rfl, HB0.out⟩
  | true =>
    have v0 := Lib.hid v
    clear v
    have q0 := HX0.out.cell 0 _ rfl
    have q1 := HX0.out.cell 1 _ rfl
    have q2 := HX0.out.cell 2 _ rfl
    have q3 := HX0.out.cell 3 _ rfl
    have q4 := HX0.out.cell 4 _ rfl
    go_wp2_with fail
    refine (withinInp_t x.args _ _ 0 16 ((HR.out.kept HB0.out).mono HB0.out.size) inpOk (fun W f y hy => isInput_any y f W hy)).mono ?_
    rintro e w2 ⟨rfl, hb⟩
    clear q0 q1 q2 q3 q4
    have HB1 := Lib.hid (HB0.out.trans (Below.mono hb HB0.out.size))
    have HX1 := Lib.hid (HX0.out.stay hb)
    clear hb
    rw [show inB 0 16 x.args inpOk = inpsOk x.args from rfl]
    cases v : inpsOk x.args with
    | false =>
      have v1 := Lib.hid v
      clear v
      go_wp2_with fail
      go_ret
      exact ⟨by rw [HV.out, v0.out, Bool.true_and, v1.out, Bool.false_and]; rfl, HB1.out⟩
    | true =>
      have v1 := Lib.hid v
      clear v
      have q0 := HX1.out.cell 0 _ rfl
      have q1 := HX1.out.cell 1 _ rfl
      have q2 := HX1.out.cell 2 _ rfl
      have q3 := HX1.out.cell 3 _ rfl
      have q4 := HX1.out.cell 4 _ rfl
      go_wp2_with fail
      refine (K.tright_any x.tn x.tw _ _ (ref_of ((HT.out.kept HB1.out).mono HB1.out.size)) (by have := HT.out.size; unfold maxLen; unfold big at this; omega)).mono ?_
      rintro e w3 ⟨rfl, hb⟩
      clear q0 q1 q2 q3 q4
      have HB2 := Lib.hid (HB1.out.trans (Below.mono hb HB1.out.size))
      have HX2 := Lib.hid (HX1.out.stay hb)
      clear hb
      cases v : K.okB x.tn x.tw with
      | false =>
        have v2 := Lib.hid v
        clear v
        go_wp2_with fail
        go_ret
        exact ⟨by rw [HV.out, v0.out, Bool.true_and, v1.out, Bool.true_and, v2.out, Bool.false_and]; rfl, HB2.out⟩
      | true =>
        have v2 := Lib.hid v
        clear v
        have q0 := HX2.out.cell 0 _ rfl
        have q1 := HX2.out.cell 1 _ rfl
        have q2 := HX2.out.cell 2 _ rfl
        have q3 := HX2.out.cell 3 _ rfl
        have q4 := HX2.out.cell 4 _ rfl
        go_wp2_with fail
        refine (areDirectives_any x.dirs _ _ ((HD.out.kept HB2.out).mono HB2.out.size)).mono ?_
        rintro e w4 ⟨rfl, hb⟩
        clear q0 q1 q2 q3 q4
        have HB3 := Lib.hid (HB2.out.trans (Below.mono hb HB2.out.size))
        have HX3 := Lib.hid (HX2.out.stay hb)
        clear hb
        go_wp2_with fail
        go_ret
        exact ⟨by rw [HV.out, v0.out, Bool.true_and, v1.out, Bool.true_and, v2.out, Bool.true_and]; rfl, HB3.out⟩
def partsB (im f m i : Int) (mf mm mi : Int) (pm : MemT → Bool) (d : DefT) : Bool := inB 0 im d.impl nmA && (inB mf f d.fields fldOk && (inB mm m d.members pm && inB mi i d.inputs inpOk))
def partsOk (d : DefT) : Bool :=
  if d.kind = 1 then partsB 64 64 0 0 1 0 0 memUOk d
  else if d.kind = 2 then partsB 0 64 0 0 1 0 0 memUOk d
  else if d.kind = 3 then partsB 0 0 64 0 0 1 0 memUOk d
  else if d.kind = 4 then partsB 0 0 64 0 0 1 0 memEOk d
  else if d.kind = 5 then partsB 0 0 0 16 0 0 1 memUOk d
  else false
set_option maxHeartbeats 2000000 in
theorem hasParts1_any (x : DefT) (f : Nat → Value) (w : World) (h : DefR w w.heap.size f x) (hkd : x.kind = 1) : Calls Tryz.prog 58 #[.agg #[f 0, f 1, f 2, f 3, f 4, f 5, f 6]] w (BP (partsOk x) w) := by
  obtain ⟨A2, c2, e2, _, _⟩ := h.impl.form
  obtain ⟨A3, c3, e3, _, _⟩ := h.dirs.form
  obtain ⟨A4, c4, e4, _, _⟩ := h.fields.form
  obtain ⟨A5, c5, e5, _, _⟩ := h.members.form
  obtain ⟨A6, c6, e6, _, _⟩ := h.inputs.form
  have H2 := h.impl
  have H3 := h.dirs
  have H4 := h.fields
  have H5 := h.members
  have H6 := h.inputs
  rw [e2] at H2
  rw [e3] at H3
  rw [e4] at H4
  rw [e5] at H5
  rw [e6] at H6
  rw [h.kind, h.name, e2, e3, e4, e5, e6]
  replace H2 := Lib.hid H2
  replace H3 := Lib.hid H3
  replace H4 := Lib.hid H4
  replace H5 := Lib.hid H5
  replace H6 := Lib.hid H6
  clear e2 e3 e4 e5 e6 h H3
  rw [hkd]
  have HV : Hid (partsOk x = (inB 0 64 x.impl nmA && (inB 1 64 x.fields fldOk && (inB 0 0 x.members memUOk && (inB 0 0 x.inputs inpOk))))) := Lib.hid (by unfold partsOk; rw [hkd]; rfl)
  generalize partsOk x = RB at *
  have HB0 : Hid (Below w.heap.size w (w.alloc (.cells #[.int .i64 1, .string x.name, .slice A2 x.impl.length c2, .slice A3 x.dirs.length c3, .slice A4 x.fields.length c4, .slice A5 x.members.length c5, .slice A6 x.inputs.length c6] 45 (0, 0)))) := Lib.hid (below_new _ _)
  have HX0 : Hid (Bk (w.alloc (.cells #[.int .i64 1, .string x.name, .slice A2 x.impl.length c2, .slice A3 x.dirs.length c3, .slice A4 x.fields.length c4, .slice A5 x.members.length c5, .slice A6 x.inputs.length c6] 45 (0, 0))) w.heap.size #[.int .i64 1, .string x.name, .slice A2 x.impl.length c2, .slice A3 x.dirs.length c3, .slice A4 x.fields.length c4, .slice A5 x.members.length c5, .slice A6 x.inputs.length c6] 45) := Lib.hid (Bk.new _ _ _)
  go_enter Tryz.func58, Tryz.ntmps58
  go_wp2_with fail
  refine (withinStr_t x.impl _ _ 0 64 ((H2.out.kept HB0.out).mono HB0.out.size) nmA (fun W f y hy => by rw [hy.1]; exact (nm_any y W hy.2).mono fun e w1 he => ⟨he.1, by rw [← he.2]; exact Below.refl _ _⟩)).mono ?_
  rintro e w2 ⟨rfl, hb⟩
  have HB1 := Lib.hid (HB0.out.trans (Below.mono hb HB0.out.size))
  have HX1 := Lib.hid (HX0.out.stay hb)
  clear hb
  cases v : inB 0 64 x.impl nmA with
  | false =>
    have v0 := Lib.hid v
    clear v
    go_wp2_with fail
    go_ret
    exact ⟨by rw [HV.out, v0.out, Bool.false_and]; rfl, HB1.out⟩
  | true =>
    have v0 := Lib.hid v
    clear v
    have q0 := HX1.out.cell 0 _ rfl
    have q1 := HX1.out.cell 1 _ rfl
    have q2 := HX1.out.cell 2 _ rfl
    have q3 := HX1.out.cell 3 _ rfl
    have q4 := HX1.out.cell 4 _ rfl
    have q5 := HX1.out.cell 5 _ rfl
    have q6 := HX1.out.cell 6 _ rfl
    go_wp2_with fail
    refine (withinFld_t x.fields _ _ 1 64 ((H4.out.kept HB1.out).mono HB1.out.size) fldOk (fun W f y hy => isField_any y f W hy)).mono ?_
    rintro e w3 ⟨rfl, hb⟩
    clear q0 q1 q2 q3 q4 q5 q6
    have HB2 := Lib.hid (HB1.out.trans (Below.mono hb HB1.out.size))
    have HX2 := Lib.hid (HX1.out.stay hb)
    clear hb
    cases v : inB 1 64 x.fields fldOk with
    | false =>
      have v1 := Lib.hid v
      clear v
      go_wp2_with fail
      go_ret
      exact ⟨by rw [HV.out, v0.out, Bool.true_and, v1.out, Bool.false_and]; rfl, HB2.out⟩
    | true =>
      have v1 := Lib.hid v
      clear v
      have q0 := HX2.out.cell 0 _ rfl
      have q1 := HX2.out.cell 1 _ rfl
      have q2 := HX2.out.cell 2 _ rfl
      have q3 := HX2.out.cell 3 _ rfl
      have q4 := HX2.out.cell 4 _ rfl
      have q5 := HX2.out.cell 5 _ rfl
      have q6 := HX2.out.cell 6 _ rfl
      go_wp2_with fail
      refine (withinMemU_t x.members _ _ 0 0 ((H5.out.kept HB2.out).mono HB2.out.size) memUOk (fun W f y hy => isUnionMember_any y f W hy)).mono ?_
      rintro e w4 ⟨rfl, hb⟩
      clear q0 q1 q2 q3 q4 q5 q6
      have HB3 := Lib.hid (HB2.out.trans (Below.mono hb HB2.out.size))
      have HX3 := Lib.hid (HX2.out.stay hb)
      clear hb
      cases v : inB 0 0 x.members memUOk with
      | false =>
        have v2 := Lib.hid v
        clear v
        go_wp2_with fail
        go_ret
        exact ⟨by rw [HV.out, v0.out, Bool.true_and, v1.out, Bool.true_and, v2.out, Bool.false_and]; rfl, HB3.out⟩
      | true =>
        have v2 := Lib.hid v
        clear v
        have q0 := HX3.out.cell 0 _ rfl
        have q1 := HX3.out.cell 1 _ rfl
        have q2 := HX3.out.cell 2 _ rfl
        have q3 := HX3.out.cell 3 _ rfl
        have q4 := HX3.out.cell 4 _ rfl
        have q5 := HX3.out.cell 5 _ rfl
        have q6 := HX3.out.cell 6 _ rfl
        go_wp2_with fail
        refine (withinInp_t x.inputs _ _ 0 0 ((H6.out.kept HB3.out).mono HB3.out.size) inpOk (fun W f y hy => isInput_any y f W hy)).mono ?_
        rintro e w5 ⟨rfl, hb⟩
        clear q0 q1 q2 q3 q4 q5 q6
        have HB4 := Lib.hid (HB3.out.trans (Below.mono hb HB3.out.size))
        have HX4 := Lib.hid (HX3.out.stay hb)
        clear hb
        go_wp2_with fail
        go_ret
        exact ⟨by rw [HV.out, v0.out, Bool.true_and, v1.out, Bool.true_and, v2.out, Bool.true_and]; rfl, HB4.out⟩
set_option maxHeartbeats 2000000 in
theorem hasParts2_any (x : DefT) (f : Nat → Value) (w : World) (h : DefR w w.heap.size f x) (hkd : x.kind = 2) : Calls Tryz.prog 58 #[.agg #[f 0, f 1, f 2, f 3, f 4, f 5, f 6]] w (BP (partsOk x) w) := by
  obtain ⟨A2, c2, e2, _, _⟩ := h.impl.form
  obtain ⟨A3, c3, e3, _, _⟩ := h.dirs.form
  obtain ⟨A4, c4, e4, _, _⟩ := h.fields.form
  obtain ⟨A5, c5, e5, _, _⟩ := h.members.form
  obtain ⟨A6, c6, e6, _, _⟩ := h.inputs.form
  have H2 := h.impl
  have H3 := h.dirs
  have H4 := h.fields
  have H5 := h.members
  have H6 := h.inputs
  rw [e2] at H2
  rw [e3] at H3
  rw [e4] at H4
  rw [e5] at H5
  rw [e6] at H6
  rw [h.kind, h.name, e2, e3, e4, e5, e6]
  replace H2 := Lib.hid H2
  replace H3 := Lib.hid H3
  replace H4 := Lib.hid H4
  replace H5 := Lib.hid H5
  replace H6 := Lib.hid H6
  clear e2 e3 e4 e5 e6 h H3
  rw [hkd]
  have HV : Hid (partsOk x = (inB 0 0 x.impl nmA && (inB 1 64 x.fields fldOk && (inB 0 0 x.members memUOk && (inB 0 0 x.inputs inpOk))))) := Lib.hid (by unfold partsOk; rw [hkd]; rfl)
  generalize partsOk x = RB at *
  have HB0 : Hid (Below w.heap.size w (w.alloc (.cells #[.int .i64 2, .string x.name, .slice A2 x.impl.length c2, .slice A3 x.dirs.length c3, .slice A4 x.fields.length c4, .slice A5 x.members.length c5, .slice A6 x.inputs.length c6] 45 (0, 0)))) := Lib.hid (below_new _ _)
  have HX0 : Hid (Bk (w.alloc (.cells #[.int .i64 2, .string x.name, .slice A2 x.impl.length c2, .slice A3 x.dirs.length c3, .slice A4 x.fields.length c4, .slice A5 x.members.length c5, .slice A6 x.inputs.length c6] 45 (0, 0))) w.heap.size #[.int .i64 2, .string x.name, .slice A2 x.impl.length c2, .slice A3 x.dirs.length c3, .slice A4 x.fields.length c4, .slice A5 x.members.length c5, .slice A6 x.inputs.length c6] 45) := Lib.hid (Bk.new _ _ _)
  go_enter Tryz.func58, Tryz.ntmps58
  go_wp2_with fail
  refine (withinStr_t x.impl _ _ 0 0 ((H2.out.kept HB0.out).mono HB0.out.size) nmA (fun W f y hy => by rw [hy.1]; exact (nm_any y W hy.2).mono fun e w1 he => ⟨he.1, by rw [← he.2]; exact Below.refl _ _⟩)).mono ?_
  rintro e w2 ⟨rfl, hb⟩
  have HB1 := Lib.hid (HB0.out.trans (Below.mono hb HB0.out.size))
  have HX1 := Lib.hid (HX0.out.stay hb)
  clear hb
  cases v : inB 0 0 x.impl nmA with
  | false =>
    have v0 := Lib.hid v
    clear v
    go_wp2_with fail
    go_ret
    exact ⟨by rw [HV.out, v0.out, Bool.false_and]; rfl, HB1.out⟩
  | true =>
    have v0 := Lib.hid v
    clear v
    have q0 := HX1.out.cell 0 _ rfl
    have q1 := HX1.out.cell 1 _ rfl
    have q2 := HX1.out.cell 2 _ rfl
    have q3 := HX1.out.cell 3 _ rfl
    have q4 := HX1.out.cell 4 _ rfl
    have q5 := HX1.out.cell 5 _ rfl
    have q6 := HX1.out.cell 6 _ rfl
    go_wp2_with fail
    refine (withinFld_t x.fields _ _ 1 64 ((H4.out.kept HB1.out).mono HB1.out.size) fldOk (fun W f y hy => isField_any y f W hy)).mono ?_
    rintro e w3 ⟨rfl, hb⟩
    clear q0 q1 q2 q3 q4 q5 q6
    have HB2 := Lib.hid (HB1.out.trans (Below.mono hb HB1.out.size))
    have HX2 := Lib.hid (HX1.out.stay hb)
    clear hb
    cases v : inB 1 64 x.fields fldOk with
    | false =>
      have v1 := Lib.hid v
      clear v
      go_wp2_with fail
      go_ret
      exact ⟨by rw [HV.out, v0.out, Bool.true_and, v1.out, Bool.false_and]; rfl, HB2.out⟩
    | true =>
      have v1 := Lib.hid v
      clear v
      have q0 := HX2.out.cell 0 _ rfl
      have q1 := HX2.out.cell 1 _ rfl
      have q2 := HX2.out.cell 2 _ rfl
      have q3 := HX2.out.cell 3 _ rfl
      have q4 := HX2.out.cell 4 _ rfl
      have q5 := HX2.out.cell 5 _ rfl
      have q6 := HX2.out.cell 6 _ rfl
      go_wp2_with fail
      refine (withinMemU_t x.members _ _ 0 0 ((H5.out.kept HB2.out).mono HB2.out.size) memUOk (fun W f y hy => isUnionMember_any y f W hy)).mono ?_
      rintro e w4 ⟨rfl, hb⟩
      clear q0 q1 q2 q3 q4 q5 q6
      have HB3 := Lib.hid (HB2.out.trans (Below.mono hb HB2.out.size))
      have HX3 := Lib.hid (HX2.out.stay hb)
      clear hb
      cases v : inB 0 0 x.members memUOk with
      | false =>
        have v2 := Lib.hid v
        clear v
        go_wp2_with fail
        go_ret
        exact ⟨by rw [HV.out, v0.out, Bool.true_and, v1.out, Bool.true_and, v2.out, Bool.false_and]; rfl, HB3.out⟩
      | true =>
        have v2 := Lib.hid v
        clear v
        have q0 := HX3.out.cell 0 _ rfl
        have q1 := HX3.out.cell 1 _ rfl
        have q2 := HX3.out.cell 2 _ rfl
        have q3 := HX3.out.cell 3 _ rfl
        have q4 := HX3.out.cell 4 _ rfl
        have q5 := HX3.out.cell 5 _ rfl
        have q6 := HX3.out.cell 6 _ rfl
        go_wp2_with fail
        refine (withinInp_t x.inputs _ _ 0 0 ((H6.out.kept HB3.out).mono HB3.out.size) inpOk (fun W f y hy => isInput_any y f W hy)).mono ?_
        rintro e w5 ⟨rfl, hb⟩
        clear q0 q1 q2 q3 q4 q5 q6
        have HB4 := Lib.hid (HB3.out.trans (Below.mono hb HB3.out.size))
        have HX4 := Lib.hid (HX3.out.stay hb)
        clear hb
        go_wp2_with fail
        go_ret
        exact ⟨by rw [HV.out, v0.out, Bool.true_and, v1.out, Bool.true_and, v2.out, Bool.true_and]; rfl, HB4.out⟩
set_option maxHeartbeats 2000000 in
theorem hasParts3_any (x : DefT) (f : Nat → Value) (w : World) (h : DefR w w.heap.size f x) (hkd : x.kind = 3) : Calls Tryz.prog 58 #[.agg #[f 0, f 1, f 2, f 3, f 4, f 5, f 6]] w (BP (partsOk x) w) := by
  obtain ⟨A2, c2, e2, _, _⟩ := h.impl.form
  obtain ⟨A3, c3, e3, _, _⟩ := h.dirs.form
  obtain ⟨A4, c4, e4, _, _⟩ := h.fields.form
  obtain ⟨A5, c5, e5, _, _⟩ := h.members.form
  obtain ⟨A6, c6, e6, _, _⟩ := h.inputs.form
  have H2 := h.impl
  have H3 := h.dirs
  have H4 := h.fields
  have H5 := h.members
  have H6 := h.inputs
  rw [e2] at H2
  rw [e3] at H3
  rw [e4] at H4
  rw [e5] at H5
  rw [e6] at H6
  rw [h.kind, h.name, e2, e3, e4, e5, e6]
  replace H2 := Lib.hid H2
  replace H3 := Lib.hid H3
  replace H4 := Lib.hid H4
  replace H5 := Lib.hid H5
  replace H6 := Lib.hid H6
  clear e2 e3 e4 e5 e6 h H3
  rw [hkd]
  have HV : Hid (partsOk x = (inB 0 0 x.impl nmA && (inB 0 0 x.fields fldOk && (inB 1 64 x.members memUOk && (inB 0 0 x.inputs inpOk))))) := Lib.hid (by unfold partsOk; rw [hkd]; rfl)
  generalize partsOk x = RB at *
  have HB0 : Hid (Below w.heap.size w (w.alloc (.cells #[.int .i64 3, .string x.name, .slice A2 x.impl.length c2, .slice A3 x.dirs.length c3, .slice A4 x.fields.length c4, .slice A5 x.members.length c5, .slice A6 x.inputs.length c6] 45 (0, 0)))) := Lib.hid (below_new _ _)
  have HX0 : Hid (Bk (w.alloc (.cells #[.int .i64 3, .string x.name, .slice A2 x.impl.length c2, .slice A3 x.dirs.length c3, .slice A4 x.fields.length c4, .slice A5 x.members.length c5, .slice A6 x.inputs.length c6] 45 (0, 0))) w.heap.size #[.int .i64 3, .string x.name, .slice A2 x.impl.length c2, .slice A3 x.dirs.length c3, .slice A4 x.fields.length c4, .slice A5 x.members.length c5, .slice A6 x.inputs.length c6] 45) := Lib.hid (Bk.new _ _ _)
  go_enter Tryz.func58, Tryz.ntmps58
  go_wp2_with fail
  refine (withinStr_t x.impl _ _ 0 0 ((H2.out.kept HB0.out).mono HB0.out.size) nmA (fun W f y hy => by rw [hy.1]; exact (nm_any y W hy.2).mono fun e w1 he => ⟨he.1, by rw [← he.2]; exact Below.refl _ _⟩)).mono ?_
  rintro e w2 ⟨rfl, hb⟩
  have HB1 := Lib.hid (HB0.out.trans (Below.mono hb HB0.out.size))
  have HX1 := Lib.hid (HX0.out.stay hb)
  clear hb
  cases v : inB 0 0 x.impl nmA with
  | false =>
    have v0 := Lib.hid v
    clear v
    go_wp2_with fail
    go_ret
    exact ⟨by rw [HV.out, v0.out, Bool.false_and]; rfl, HB1.out⟩
  | true =>
    have v0 := Lib.hid v
    clear v
    have q0 := HX1.out.cell 0 _ rfl
    have q1 := HX1.out.cell 1 _ rfl
    have q2 := HX1.out.cell 2 _ rfl
    have q3 := HX1.out.cell 3 _ rfl
    have q4 := HX1.out.cell 4 _ rfl
    have q5 := HX1.out.cell 5 _ rfl
    have q6 := HX1.out.cell 6 _ rfl
    go_wp2_with fail
    refine (withinFld_t x.fields _ _ 0 0 ((H4.out.kept HB1.out).mono HB1.out.size) fldOk (fun W f y hy => isField_any y f W hy)).mono ?_
    rintro e w3 ⟨rfl, hb⟩
    clear q0 q1 q2 q3 q4 q5 q6
    have HB2 := Lib.hid (HB1.out.trans (Below.mono hb HB1.out.size))
    have HX2 := Lib.hid (HX1.out.stay hb)
    clear hb
    cases v : inB 0 0 x.fields fldOk with
    | false =>
      have v1 := Lib.hid v
      clear v
      go_wp2_with fail
      go_ret
      exact ⟨by rw [HV.out, v0.out, Bool.true_and, v1.out, Bool.false_and]; rfl, HB2.out⟩
    | true =>
      have v1 := Lib.hid v
      clear v
      have q0 := HX2.out.cell 0 _ rfl
      have q1 := HX2.out.cell 1 _ rfl
      have q2 := HX2.out.cell 2 _ rfl
      have q3 := HX2.out.cell 3 _ rfl
      have q4 := HX2.out.cell 4 _ rfl
      have q5 := HX2.out.cell 5 _ rfl
      have q6 := HX2.out.cell 6 _ rfl
      go_wp2_with fail
      refine (withinMemU_t x.members _ _ 1 64 ((H5.out.kept HB2.out).mono HB2.out.size) memUOk (fun W f y hy => isUnionMember_any y f W hy)).mono ?_
      rintro e w4 ⟨rfl, hb⟩
      clear q0 q1 q2 q3 q4 q5 q6
      have HB3 := Lib.hid (HB2.out.trans (Below.mono hb HB2.out.size))
      have HX3 := Lib.hid (HX2.out.stay hb)
      clear hb
      cases v : inB 1 64 x.members memUOk with
      | false =>
        have v2 := Lib.hid v
        clear v
        go_wp2_with fail
        go_ret
        exact ⟨by rw [HV.out, v0.out, Bool.true_and, v1.out, Bool.true_and, v2.out, Bool.false_and]; rfl, HB3.out⟩
      | true =>
        have v2 := Lib.hid v
        clear v
        have q0 := HX3.out.cell 0 _ rfl
        have q1 := HX3.out.cell 1 _ rfl
        have q2 := HX3.out.cell 2 _ rfl
        have q3 := HX3.out.cell 3 _ rfl
        have q4 := HX3.out.cell 4 _ rfl
        have q5 := HX3.out.cell 5 _ rfl
        have q6 := HX3.out.cell 6 _ rfl
        go_wp2_with fail
        refine (withinInp_t x.inputs _ _ 0 0 ((H6.out.kept HB3.out).mono HB3.out.size) inpOk (fun W f y hy => isInput_any y f W hy)).mono ?_
        rintro e w5 ⟨rfl, hb⟩
        clear q0 q1 q2 q3 q4 q5 q6
        have HB4 := Lib.hid (HB3.out.trans (Below.mono hb HB3.out.size))
        have HX4 := Lib.hid (HX3.out.stay hb)
        clear hb
        go_wp2_with fail
        go_ret
        exact ⟨by rw [HV.out, v0.out, Bool.true_and, v1.out, Bool.true_and, v2.out, Bool.true_and]; rfl, HB4.out⟩
set_option maxHeartbeats 2000000 in
theorem hasParts4_any (x : DefT) (f : Nat → Value) (w : World) (h : DefR w w.heap.size f x) (hkd : x.kind = 4) : Calls Tryz.prog 58 #[.agg #[f 0, f 1, f 2, f 3, f 4, f 5, f 6]] w (BP (partsOk x) w) := by
  obtain ⟨A2, c2, e2, _, _⟩ := h.impl.form
  obtain ⟨A3, c3, e3, _, _⟩ := h.dirs.form
  obtain ⟨A4, c4, e4, _, _⟩ := h.fields.form
  obtain ⟨A5, c5, e5, _, _⟩ := h.members.form
  obtain ⟨A6, c6, e6, _, _⟩ := h.inputs.form
  have H2 := h.impl
  have H3 := h.dirs
  have H4 := h.fields
  have H5 := h.members
  have H6 := h.inputs
  rw [e2] at H2
  rw [e3] at H3
  rw [e4] at H4
  rw [e5] at H5
  rw [e6] at H6
  rw [h.kind, h.name, e2, e3, e4, e5, e6]
  replace H2 := Lib.hid H2
  replace H3 := Lib.hid H3
  replace H4 := Lib.hid H4
  replace H5 := Lib.hid H5
  replace H6 := Lib.hid H6
  clear e2 e3 e4 e5 e6 h H3
  rw [hkd]
  have HV : Hid (partsOk x = (inB 0 0 x.impl nmA && (inB 0 0 x.fields fldOk && (inB 1 64 x.members memEOk && (inB 0 0 x.inputs inpOk))))) := Lib.hid (by unfold partsOk; rw [hkd]; rfl)
  generalize partsOk x = RB at *
  have HB0 : Hid (Below w.heap.size w (w.alloc (.cells #[.int .i64 4, .string x.name, .slice A2 x.impl.length c2, .slice A3 x.dirs.length c3, .slice A4 x.fields.length c4, .slice A5 x.members.length c5, .slice A6 x.inputs.length c6] 45 (0, 0)))) := Lib.hid (below_new _ _)
  have HX0 : Hid (Bk (w.alloc (.cells #[.int .i64 4, .string x.name, .slice A2 x.impl.length c2, .slice A3 x.dirs.length c3, .slice A4 x.fields.length c4, .slice A5 x.members.length c5, .slice A6 x.inputs.length c6] 45 (0, 0))) w.heap.size #[.int .i64 4, .string x.name, .slice A2 x.impl.length c2, .slice A3 x.dirs.length c3, .slice A4 x.fields.length c4, .slice A5 x.members.length c5, .slice A6 x.inputs.length c6] 45) := Lib.hid (Bk.new _ _ _)
  go_enter Tryz.func58, Tryz.ntmps58
  go_wp2_with fail
  refine (withinStr_t x.impl _ _ 0 0 ((H2.out.kept HB0.out).mono HB0.out.size) nmA (fun W f y hy => by rw [hy.1]; exact (nm_any y W hy.2).mono fun e w1 he => ⟨he.1, by rw [← he.2]; exact Below.refl _ _⟩)).mono ?_
  rintro e w2 ⟨rfl, hb⟩
  have HB1 := Lib.hid (HB0.out.trans (Below.mono hb HB0.out.size))
  have HX1 := Lib.hid (HX0.out.stay hb)
  clear hb
  cases v : inB 0 0 x.impl nmA with
  | false =>
    have v0 := Lib.hid v
    clear v
    go_wp2_with fail
    go_ret
    exact ⟨by rw [HV.out, v0.out, Bool.false_and]; rfl, HB1.out⟩
  | true =>
    have v0 := Lib.hid v
    clear v
    have q0 := HX1.out.cell 0 _ rfl
    have q1 := HX1.out.cell 1 _ rfl
    have q2 := HX1.out.cell 2 _ rfl
    have q3 := HX1.out.cell 3 _ rfl
    have q4 := HX1.out.cell 4 _ rfl
    have q5 := HX1.out.cell 5 _ rfl
    have q6 := HX1.out.cell 6 _ rfl
    go_wp2_with fail
    refine (withinFld_t x.fields _ _ 0 0 ((H4.out.kept HB1.out).mono HB1.out.size) fldOk (fun W f y hy => isField_any y f W hy)).mono ?_
    rintro e w3 ⟨rfl, hb⟩
    clear q0 q1 q2 q3 q4 q5 q6
    have HB2 := Lib.hid (HB1.out.trans (Below.mono hb HB1.out.size))
    have HX2 := Lib.hid (HX1.out.stay hb)
    clear hb
    cases v : inB 0 0 x.fields fldOk with
    | false =>
      have v1 := Lib.hid v
      clear v
      go_wp2_with fail
      go_ret
      exact ⟨by rw [HV.out, v0.out, Bool.true_and, v1.out, Bool.false_and]; rfl, HB2.out⟩
    | true =>
      have v1 := Lib.hid v
      clear v
      have q0 := HX2.out.cell 0 _ rfl
      have q1 := HX2.out.cell 1 _ rfl
      have q2 := HX2.out.cell 2 _ rfl
      have q3 := HX2.out.cell 3 _ rfl
      have q4 := HX2.out.cell 4 _ rfl
      have q5 := HX2.out.cell 5 _ rfl
      have q6 := HX2.out.cell 6 _ rfl
      go_wp2_with fail
      refine (withinMemE_t x.members _ _ 1 64 ((H5.out.kept HB2.out).mono HB2.out.size) memEOk (fun W f y hy => isEnumMember_any y f W hy)).mono ?_
      rintro e w4 ⟨rfl, hb⟩
      clear q0 q1 q2 q3 q4 q5 q6
      have HB3 := Lib.hid (HB2.out.trans (Below.mono hb HB2.out.size))
      have HX3 := Lib.hid (HX2.out.stay hb)
      clear hb
      cases v : inB 1 64 x.members memEOk with
      | false =>
        have v2 := Lib.hid v
        clear v
        go_wp2_with fail
        go_ret
        exact ⟨by rw [HV.out, v0.out, Bool.true_and, v1.out, Bool.true_and, v2.out, Bool.false_and]; rfl, HB3.out⟩
      | true =>
        have v2 := Lib.hid v
        clear v
        have q0 := HX3.out.cell 0 _ rfl
        have q1 := HX3.out.cell 1 _ rfl
        have q2 := HX3.out.cell 2 _ rfl
        have q3 := HX3.out.cell 3 _ rfl
        have q4 := HX3.out.cell 4 _ rfl
        have q5 := HX3.out.cell 5 _ rfl
        have q6 := HX3.out.cell 6 _ rfl
        go_wp2_with fail
        refine (withinInp_t x.inputs _ _ 0 0 ((H6.out.kept HB3.out).mono HB3.out.size) inpOk (fun W f y hy => isInput_any y f W hy)).mono ?_
        rintro e w5 ⟨rfl, hb⟩
        clear q0 q1 q2 q3 q4 q5 q6
        have HB4 := Lib.hid (HB3.out.trans (Below.mono hb HB3.out.size))
        have HX4 := Lib.hid (HX3.out.stay hb)
        clear hb
        go_wp2_with fail
        go_ret
        exact ⟨by rw [HV.out, v0.out, Bool.true_and, v1.out, Bool.true_and, v2.out, Bool.true_and]; rfl, HB4.out⟩
set_option maxHeartbeats 2000000 in
theorem hasParts5_any (x : DefT) (f : Nat → Value) (w : World) (h : DefR w w.heap.size f x) (hkd : x.kind = 5) : Calls Tryz.prog 58 #[.agg #[f 0, f 1, f 2, f 3, f 4, f 5, f 6]] w (BP (partsOk x) w) := by
  obtain ⟨A2, c2, e2, _, _⟩ := h.impl.form
  obtain ⟨A3, c3, e3, _, _⟩ := h.dirs.form
  obtain ⟨A4, c4, e4, _, _⟩ := h.fields.form
  obtain ⟨A5, c5, e5, _, _⟩ := h.members.form
  obtain ⟨A6, c6, e6, _, _⟩ := h.inputs.form
  have H2 := h.impl
  have H3 := h.dirs
  have H4 := h.fields
  have H5 := h.members
  have H6 := h.inputs
  rw [e2] at H2
  rw [e3] at H3
  rw [e4] at H4
  rw [e5] at H5
  rw [e6] at H6
  rw [h.kind, h.name, e2, e3, e4, e5, e6]
  replace H2 := Lib.hid H2
  replace H3 := Lib.hid H3
  replace H4 := Lib.hid H4
  replace H5 := Lib.hid H5
  replace H6 := Lib.hid H6
  clear e2 e3 e4 e5 e6 h H3
  rw [hkd]
  have HV : Hid (partsOk x = (inB 0 0 x.impl nmA && (inB 0 0 x.fields fldOk && (inB 0 0 x.members memUOk && (inB 1 16 x.inputs inpOk))))) := Lib.hid (by unfold partsOk; rw [hkd]; rfl)
  generalize partsOk x = RB at *
  have HB0 : Hid (Below w.heap.size w (w.alloc (.cells #[.int .i64 5, .string x.name, .slice A2 x.impl.length c2, .slice A3 x.dirs.length c3, .slice A4 x.fields.length c4, .slice A5 x.members.length c5, .slice A6 x.inputs.length c6] 45 (0, 0)))) := Lib.hid (below_new _ _)
  have HX0 : Hid (Bk (w.alloc (.cells #[.int .i64 5, .string x.name, .slice A2 x.impl.length c2, .slice A3 x.dirs.length c3, .slice A4 x.fields.length c4, .slice A5 x.members.length c5, .slice A6 x.inputs.length c6] 45 (0, 0))) w.heap.size #[.int .i64 5, .string x.name, .slice A2 x.impl.length c2, .slice A3 x.dirs.length c3, .slice A4 x.fields.length c4, .slice A5 x.members.length c5, .slice A6 x.inputs.length c6] 45) := Lib.hid (Bk.new _ _ _)
  go_enter Tryz.func58, Tryz.ntmps58
  go_wp2_with fail
  refine (withinStr_t x.impl _ _ 0 0 ((H2.out.kept HB0.out).mono HB0.out.size) nmA (fun W f y hy => by rw [hy.1]; exact (nm_any y W hy.2).mono fun e w1 he => ⟨he.1, by rw [← he.2]; exact Below.refl _ _⟩)).mono ?_
  rintro e w2 ⟨rfl, hb⟩
  have HB1 := Lib.hid (HB0.out.trans (Below.mono hb HB0.out.size))
  have HX1 := Lib.hid (HX0.out.stay hb)
  clear hb
  cases v : inB 0 0 x.impl nmA with
  | false =>
    have v0 := Lib.hid v
    clear v
    go_wp2_with fail
    go_ret
    exact ⟨by rw [HV.out, v0.out, Bool.false_and]; rfl, HB1.out⟩
  | true =>
    have v0 := Lib.hid v
    clear v
    have q0 := HX1.out.cell 0 _ rfl
    have q1 := HX1.out.cell 1 _ rfl
    have q2 := HX1.out.cell 2 _ rfl
    have q3 := HX1.out.cell 3 _ rfl
    have q4 := HX1.out.cell 4 _ rfl
    have q5 := HX1.out.cell 5 _ rfl
    have q6 := HX1.out.cell 6 _ rfl
    go_wp2_with fail
    refine (withinFld_t x.fields _ _ 0 0 ((H4.out.kept HB1.out).mono HB1.out.size) fldOk (fun W f y hy => isField_any y f W hy)).mono ?_
    rintro e w3 ⟨rfl, hb⟩
    clear q0 q1 q2 q3 q4 q5 q6
    have HB2 := Lib.hid (HB1.out.trans (Below.mono hb HB1.out.size))
    have HX2 := Lib.hid (HX1.out.stay hb)
    clear hb
    cases v : inB 0 0 x.fields fldOk with
    | false =>
      have v1 := Lib.hid v
      clear v
      go_wp2_with fail
      go_ret
      exact ⟨by rw [HV.out, v0.out, Bool.true_and, v1.out, Bool.false_and]; rfl, HB2.out⟩
    | true =>
      have v1 := Lib.hid v
      clear v
      have q0 := HX2.out.cell 0 _ rfl
      have q1 := HX2.out.cell 1 _ rfl
      have q2 := HX2.out.cell 2 _ rfl
      have q3 := HX2.out.cell 3 _ rfl
      have q4 := HX2.out.cell 4 _ rfl
      have q5 := HX2.out.cell 5 _ rfl
      have q6 := HX2.out.cell 6 _ rfl
      go_wp2_with fail
      refine (withinMemU_t x.members _ _ 0 0 ((H5.out.kept HB2.out).mono HB2.out.size) memUOk (fun W f y hy => isUnionMember_any y f W hy)).mono ?_
      rintro e w4 ⟨rfl, hb⟩
      clear q0 q1 q2 q3 q4 q5 q6
      have HB3 := Lib.hid (HB2.out.trans (Below.mono hb HB2.out.size))
      have HX3 := Lib.hid (HX2.out.stay hb)
      clear hb
      cases v : inB 0 0 x.members memUOk with
      | false =>
        have v2 := Lib.hid v
        clear v
        go_wp2_with fail
        go_ret
        exact ⟨by rw [HV.out, v0.out, Bool.true_and, v1.out, Bool.true_and, v2.out, Bool.false_and]; rfl, HB3.out⟩
      | true =>
        have v2 := Lib.hid v
        clear v
        have q0 := HX3.out.cell 0 _ rfl
        have q1 := HX3.out.cell 1 _ rfl
        have q2 := HX3.out.cell 2 _ rfl
        have q3 := HX3.out.cell 3 _ rfl
        have q4 := HX3.out.cell 4 _ rfl
        have q5 := HX3.out.cell 5 _ rfl
        have q6 := HX3.out.cell 6 _ rfl
        go_wp2_with fail
        refine (withinInp_t x.inputs _ _ 1 16 ((H6.out.kept HB3.out).mono HB3.out.size) inpOk (fun W f y hy => isInput_any y f W hy)).mono ?_
        rintro e w5 ⟨rfl, hb⟩
        clear q0 q1 q2 q3 q4 q5 q6
        have HB4 := Lib.hid (HB3.out.trans (Below.mono hb HB3.out.size))
        have HX4 := Lib.hid (HX3.out.stay hb)
        clear hb
        go_wp2_with fail
        go_ret
        exact ⟨by rw [HV.out, v0.out, Bool.true_and, v1.out, Bool.true_and, v2.out, Bool.true_and]; rfl, HB4.out⟩
set_option maxHeartbeats 2000000 in
theorem hasParts_any (x : DefT) (f : Nat → Value) (w : World) (h : DefR w w.heap.size f x) : Calls Tryz.prog 58 #[.agg #[f 0, f 1, f 2, f 3, f 4, f 5, f 6]] w (BP (partsOk x) w) := by
  by_cases k1 : x.kind = 1
  · exact hasParts1_any x f w h k1
  by_cases k2 : x.kind = 2
  · exact hasParts2_any x f w h k2
  by_cases k3 : x.kind = 3
  · exact hasParts3_any x f w h k3
  by_cases k4 : x.kind = 4
  · exact hasParts4_any x f w h k4
  by_cases k5 : x.kind = 5
  · exact hasParts5_any x f w h k5
  have HV : Hid (partsOk x = false) := Lib.hid (by unfold partsOk; rw [if_neg k1, if_neg k2, if_neg k3, if_neg k4, if_neg k5])
  generalize partsOk x = RB at *
  obtain ⟨A2, c2, e2, _, _⟩ := h.impl.form
  obtain ⟨A3, c3, e3, _, _⟩ := h.dirs.form
  obtain ⟨A4, c4, e4, _, _⟩ := h.fields.form
  obtain ⟨A5, c5, e5, _, _⟩ := h.members.form
  obtain ⟨A6, c6, e6, _, _⟩ := h.inputs.form
  rw [h.kind, h.name, e2, e3, e4, e5, e6]
  clear e2 e3 e4 e5 e6 h
  generalize x.kind = kd at *
  have j1 : (kd == 1) = false := by rw [beq_eq_false_iff_ne]; exact k1
  have j2 : (kd == 2) = false := by rw [beq_eq_false_iff_ne]; exact k2
  have j3 : (kd == 3) = false := by rw [beq_eq_false_iff_ne]; exact k3
  have j4 : (kd == 4) = false := by rw [beq_eq_false_iff_ne]; exact k4
  have j5 : (kd == 5) = false := by rw [beq_eq_false_iff_ne]; exact k5
  have HB0 : Hid (Below w.heap.size w (w.alloc (.cells #[.int .i64 kd, .string x.name, .slice A2 x.impl.length c2, .slice A3 x.dirs.length c3, .slice A4 x.fields.length c4, .slice A5 x.members.length c5, .slice A6 x.inputs.length c6] 45 (0, 0)))) := Lib.hid (below_new _ _)
  clear k1 k2 k3 k4 k5
  go_enter Tryz.func58, Tryz.ntmps58
  go_wp2_with fail
  go_ret
  exact ⟨by rw [HV.out]; rfl, HB0.out⟩
theorem hasParts_c (x : DefT) (f : Nat → Value) (w : World) (h : DefR w w.heap.size f x) (cs : Array Value) (hc : #[f 0, f 1, f 2, f 3, f 4, f 5, f 6] = cs) : Calls Tryz.prog 58 #[.agg cs] w (BP (partsOk x) w) := by
  subst hc
  exact hasParts_any x f w h
def defOk (x : DefT) : Bool := nmA x.name && (dirsOk x.dirs && partsOk x)
def docOk (l : List DefT) : Bool := inB 1 64 l defOk
set_option maxHeartbeats 2000000 in
theorem isDefinition_any (x : DefT) (f : Nat → Value) (w : World) (h : DefR w w.heap.size f x) : Calls Tryz.prog 30 #[.agg #[f 0, f 1, f 2, f 3, f 4, f 5, f 6]] w (BP (defOk x) w) := by
  have HF := h
  have HN := Lib.hid h.size
  obtain ⟨A2, c2, e2, _, _⟩ := h.impl.form
  obtain ⟨A3, c3, e3, _, _⟩ := h.dirs.form
  obtain ⟨A4, c4, e4, _, _⟩ := h.fields.form
  obtain ⟨A5, c5, e5, _, _⟩ := h.members.form
  obtain ⟨A6, c6, e6, _, _⟩ := h.inputs.form
  have H2 := h.impl
  have H3 := h.dirs
  have H4 := h.fields
  have H5 := h.members
  have H6 := h.inputs
  rw [e2] at H2
  rw [e3] at H3
  rw [e4] at H4
  rw [e5] at H5
  rw [e6] at H6
  rw [h.kind, h.name, e2, e3, e4, e5, e6]
  replace H2 := Lib.hid H2
  replace H3 := Lib.hid H3
  replace H4 := Lib.hid H4
  replace H5 := Lib.hid H5
  replace H6 := Lib.hid H6
  have hff : #[f 0, f 1, f 2, f 3, f 4, f 5, f 6] = #[.int .i64 x.kind, .string x.name, .slice A2 x.impl.length c2, .slice A3 x.dirs.length c3, .slice A4 x.fields.length c4, .slice A5 x.members.length c5, .slice A6 x.inputs.length c6] := by rw [h.kind, h.name, e2, e3, e4, e5, e6]
  replace hff := Lib.hid hff
  clear e2 e3 e4 e5 e6 h H2 H4 H5 H6
  replace HF := Lib.hid HF
  have HV : Hid (defOk x = (nmA x.name && (dirsOk x.dirs && (partsOk x)))) := Lib.hid rfl
  generalize defOk x = RB at *
  have HB0 : Hid (Below w.heap.size w (w.alloc (.cells #[.int .i64 x.kind, .string x.name, .slice A2 x.impl.length c2, .slice A3 x.dirs.length c3, .slice A4 x.fields.length c4, .slice A5 x.members.length c5, .slice A6 x.inputs.length c6] 45 (0, 0)))) := Lib.hid (below_new _ _)
  have HX0 : Hid (Bk (w.alloc (.cells #[.int .i64 x.kind, .string x.name, .slice A2 x.impl.length c2, .slice A3 x.dirs.length c3, .slice A4 x.fields.length c4, .slice A5 x.members.length c5, .slice A6 x.inputs.length c6] 45 (0, 0))) w.heap.size #[.int .i64 x.kind, .string x.name, .slice A2 x.impl.length c2, .slice A3 x.dirs.length c3, .slice A4 x.fields.length c4, .slice A5 x.members.length c5, .slice A6 x.inputs.length c6] 45) := Lib.hid (Bk.new _ _ _)
  go_enter Tryz.func30, Tryz.ntmps30
  go_wp2_with fail
  refine (nm_any x.name _ HN.out).mono ?_
  rintro e w1 ⟨rfl, rfl⟩
  cases v : nmA x.name with
  | false =>
    have v0 := Lib.hid v
    clear v
    go_wp2_with fail
    go_ret
    exact ⟨by rw [HV.out, v0.out, Bool.false_and]; rfl, HB0.out⟩
  | true =>
    have v0 := Lib.hid v
    clear v
    have q0 := HX0.out.cell 0 _ rfl
    have q1 := HX0.out.cell 1 _ rfl
    have q2 := HX0.out.cell 2 _ rfl
    have q3 := HX0.out.cell 3 _ rfl
    have q4 := HX0.out.cell 4 _ rfl
    have q5 := HX0.out.cell 5 _ rfl
    have q6 := HX0.out.cell 6 _ rfl
    go_wp2_with fail
    refine (areDirectives_any x.dirs _ _ ((H3.out.kept HB0.out).mono HB0.out.size)).mono ?_
    rintro e w2 ⟨rfl, hb⟩
    clear q0 q1 q2 q3 q4 q5 q6
    have HB1 := Lib.hid (HB0.out.trans (Below.mono hb HB0.out.size))
    have HX1 := Lib.hid (HX0.out.stay hb)
    clear hb
    cases v : dirsOk x.dirs with
    | false =>
      have v1 := Lib.hid v
      clear v
      go_wp2_with fail
      go_ret
      exact ⟨by rw [HV.out, v0.out, Bool.true_and, v1.out, Bool.false_and]; rfl, HB1.out⟩
    | true =>
      have v1 := Lib.hid v
      clear v
      have q0 := HX1.out.cell 0 _ rfl
      have q1 := HX1.out.cell 1 _ rfl
      have q2 := HX1.out.cell 2 _ rfl
      have q3 := HX1.out.cell 3 _ rfl
      have q4 := HX1.out.cell 4 _ rfl
      have q5 := HX1.out.cell 5 _ rfl
      have q6 := HX1.out.cell 6 _ rfl
      go_wp2_with fail
      refine (hasParts_c x f _ (DefR.stays.mono (DefR.stays.kept HF.out HB1.out) HB1.out.size) _ hff.out).mono ?_
      rintro e w3 ⟨rfl, hb⟩
      clear q0 q1 q2 q3 q4 q5 q6
      have HB2 := Lib.hid (HB1.out.trans (Below.mono hb HB1.out.size))
      have HX2 := Lib.hid (HX1.out.stay hb)
      clear hb
      go_wp2_with fail
      go_ret
      exact ⟨by rw [HV.out, v0.out, Bool.true_and, v1.out, Bool.true_and]; rfl, HB2.out⟩
theorem sright_any (l : List DefT) (v : Value) (w : World) (h : DefsR w w.heap.size v l) : Calls Tryz.prog 13 #[.agg #[v]] w (BP (docOk l) w) := by
  have HR := Lib.hid h
  have HV : Hid (docOk l = inB 1 64 l defOk) := Lib.hid rfl
  generalize docOk l = RB at *
  obtain ⟨A, c, rfl, _, _⟩ := h.form
  clear h
  have HB0 : Hid (Below w.heap.size w (w.alloc (.cells #[.slice A l.length c] 25 (0, 0)))) := Lib.hid (below_new _ _)
  go_enter Tryz.func13, Tryz.ntmps13
  go_wp2_with fail
  refine (withinDef_t l _ _ 1 64 ((HR.out.kept HB0.out).mono HB0.out.size) defOk fun W f y hy => isDefinition_any y f W hy).mono ?_
  rintro e w1 ⟨rfl, hb⟩
  have HB := Lib.hid (HB0.out.trans (Below.mono hb HB0.out.size))
  clear hb
  go_wp2_with fail
  go_ret
  exact ⟨by rw [HV.out]; rfl, HB.out⟩
end Go.Proofs.YtajljnehlncjhaaGreatDoor
namespace Go.Proofs.YtajljnehlncjhaaGreatDoor
open Go.RowKit
set_option maxHeartbeats 1000000 in
theorem rtwice_any (K : Option Addr) (lk ck : Nat) (keys : List ByteArray) (w : World) (B : Nat) (hlk : keys.length = lk) (hbk : lk * 16 ≤ 140737488351232) (hK : KeysAt w B K keys) (hB : B ≤ w.heap.size) :
    Calls Tryz.prog 193 #[.slice K lk ck] w fun e w' => e = .returned (.bool (!decide keys.Nodup)) ∧ Below w.heap.size w w' := by
  have HL := Lib.hid hlk
  have HK : Hid (0 < lk → ∃ a, K = some a ∧ ∀ W, Below w.heap.size w W → ∀ i s, keys[i]? = some s → W.cell? (a.add i) = some (.string s)) := Lib.hid (fun h0 => by
    obtain ⟨a, e, hab, hc⟩ := hK (by omega)
    exact ⟨a, e, fun W hb i s hi => (hb.cell (p := a.add i) (by rw [add_block]; omega)).trans (hc i s hi)⟩)
  have hlm : (lk : Int) ≤ 140737488351232 := by omega
  clear hlk hK
  go_enter Tryz.func193, Tryz.ntmps193
  go_wp2_with fail
  go_loopw [3] (fun i wr => ∃ j : Nat, j ≤ lk ∧ i = .int .i64 j ∧ (keys.take j).Nodup ∧ Below w.heap.size w wr) (fun i _ => lk - (intOf i).toNat)
  case atStart => exact ⟨0, Nat.zero_le _, rfl, List.nodup_nil, Below.refl _ _⟩
  case round =>
    obtain ⟨j, hj, rfl, hnd, hb⟩ := hrel
    have HND := Lib.hid hnd
    have HB := Lib.hid hb
    clear hnd hb
    by_cases hlt : j < lk
    · obtain ⟨a, rfl, hc⟩ := HK.out (by omega)
      have hjl : j < keys.length := by have := HL.out; omega
      have HC := Lib.hid hc
      have HSN := Lib.hid (nodup_snoc hjl)
      have HJ : Hid (∀ W, Below w.heap.size w W → W.cell? (a.add j) = some (.string keys[j])) := Lib.hid fun W hb => hc W hb j _ (List.getElem?_eq_getElem hjl)
      clear hc
      generalize hs : keys[j] = s at *
      clear hs
      go_wp2_with fail
      go_loopw [4] (fun k wr => ∃ m : Nat, m ≤ j ∧ k = .int .i64 m ∧ s ∉ keys.take m ∧ Below w.heap.size w wr) (fun k _ => j - (intOf k).toNat)
      case atStart => exact ⟨0, Nat.zero_le _, rfl, by simp, HB.out⟩
      case round =>
        obtain ⟨m, hm, rfl, hni, hb2⟩ := hrel
        have HNI := Lib.hid hni
        have HB2 := Lib.hid hb2
        clear hni hb2
        by_cases hmj : m < j
        · have hml : m < keys.length := by omega
          have HM : Hid (∀ W, Below w.heap.size w W → W.cell? (a.add m) = some (.string keys[m])) := Lib.hid fun W hb => HC.out W hb m _ (List.getElem?_eq_getElem hml)
          have HTK : Hid (keys.take (m + 1) = keys.take m ++ [keys[m]]) := Lib.hid (List.take_succ_eq_append_getElem hml)
          have HME : Hid (keys[m] ∈ keys.take j) := Lib.hid (List.mem_take_iff_getElem.2 ⟨m, by omega, rfl⟩)
          generalize keys[m] = u at *
          go_wp2_with fail
          refine wp_region_past (fun W => Below w.heap.size w W) HB2.out (by kernel_rfl) ?_
          intro W hbW _
          have hcj : ∀ x : Past W, x.w.cell? (a.add j) = some (.string s) := fun x => HJ.out x.w (hbW.trans (x.b.mono hbW.size))
          have hcm : ∀ x : Past W, x.w.cell? (a.add m) = some (.string u) := fun x => HM.out x.w (hbW.trans (x.b.mono hbW.size))
          have HW := Lib.hid hbW
          clear hbW
          repeat (go_big_quiet_step (fail))
          refine wpQuiet_nil ?_
          intro _ hw'
          obtain ⟨x, rfl⟩ := hw'
          have HX := Lib.hid (HW.out.trans (x.b.mono HW.out.size))
          by_cases he : s = u
          · have heq : (s.toList == u.toList) = true := by rw [he]; simp
            rw [heq]
            subst he
            clear heq
            have HNO : Hid (decide keys.Nodup = false) := Lib.hid (by
              simp only [decide_eq_false_iff_not]
              intro h
              exact (HSN.out.1 (nodup_take h)).2 HME.out)
            go_wp2_with fail
            go_ret
            exact ⟨by rw [HNO.out]; rfl, HX.out⟩
          · have hne : (s.toList == u.toList) = false := by
              rw [Lib.toList_data, Lib.toList_data, beq_eq_false_iff_ne]
              intro h
              exact he (by cases s; cases u; simp only [ByteArray.mk.injEq]; exact Array.toList_inj.1 h)
            have HNI2 : Hid (s ∉ keys.take (m + 1)) := Lib.hid (by
              rw [HTK.out, List.mem_append]
              rintro (h | h)
              · exact HNI.out h
              · exact he (by simpa using h))
            clear he
            rw [hne]
            go_wp2_with fail
            go_roundw
            case rel => exact ⟨m + 1, by omega, by go_num, HNI2.out, HX.out⟩
            case measure => simp [intOf]; omega
        · have hmj' : m = j := by omega
          subst hmj'
          go_wp2_with fail
          trace_state
          go_roundw
          case rel => exact ⟨m + 1, by omega, by go_num, HSN.out.2 ⟨HND.out, HNI.out⟩, HB2.out⟩
          case measure => simp [intOf]; omega
    · have HJ : Hid (decide keys.Nodup = true) := Lib.hid (by
        have := HND.out
        rw [List.take_of_length_le (by have := HL.out; omega)] at this
        simpa using this)
      go_wp2_with fail
      go_ret
      exact ⟨by rw [HJ.out]; rfl, HB.out⟩
end Go.Proofs.YtajljnehlncjhaaGreatDoor
namespace Go.Proofs.YtajljnehlncjhaaGreatDoor
open Go.RowKit
def rnodeB (lit : Bool) : VT → Bool
  | .mk k n s is ks =>
    if k = 0 then decide (n = 0) && decide (s.size = 0) && leafB is ks
    else if k = 1 then (decide (n = 0) || decide (n = 1)) && decide (s.size = 0) && leafB is ks
    else if k = 2 then decide (s.size = 0) && leafB is ks
    else if k = 3 then decide (n = 0) && leafB is ks
    else if k = 4 then decide (n = 0) && leafB is ks && enumB s
    else if k = 5 then decide (n = 0) && decide (s.size = 0) && decide (ks.length = 0)
    else if k = 6 then decide (n = 0) && decide (s.size = 0) && decide (ks.length = is.length) && decide ks.Nodup
    else if k = 7 then lit && decide (n = 0) && leafB is ks && nmA s
    else false
end Go.Proofs.YtajljnehlncjhaaGreatDoor
