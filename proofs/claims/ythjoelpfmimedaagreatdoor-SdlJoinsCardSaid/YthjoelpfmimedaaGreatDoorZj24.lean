
/-
  Texts joined: R5 D4.
-/
import Derived.Test.YthjoelpfmimedaaGreatDoorZj20
import Derived.Test.YthjoelpfmimedaaGreatDoorZj23
import Derived.Test.YthjoelpfmimedaaGreatDoorZj22
namespace Go.Proofs.YthjoelpfmimedaaGreatDoor
open Go.RowKit
theorem tok_nz {l : List UInt8} {c : Int} (h : K.tokR l = .error c) : c ≠ 0 := by
  unfold K.tokR at h
  simp only at h
  split at h
  · cases h
  split at h
  · cases h
  split at h
  · split at h
    · cases h
    · cases h; decide
  split at h
  · split at h
    · cases h
    · next hz => cases h; exact hz
  split at h
  · split at h
    · cases h; decide
    split at h
    · cases h; decide
    · cases h
  · cases h; decide
theorem scF_nz : ∀ (f a : Nat) (l : List UInt8) (x : Er), K.scF f a l = .error x → x.2 ≠ 0
  | 0, _, _, _, h => by cases h; decide
  | f + 1, a, l, x, h => by
    rw [K.scF_succ] at h
    split at h
    · cases h
    · split at h
      · next hk => cases h; exact tok_nz hk
      · split at h
        · next hk => cases h; exact scF_nz f _ _ _ hk
        · cases h
theorem doc_nz {e : Tk} (he : e.1 = 5) : ∀ (f : Nat) (l : List DefT) (ts : List Tk) (x : Er), docP defX f l ts = .error x → Lk [e] ts ts → x.2 ≠ 0
  | 0, _, _, _, h, _ => by cases h; decide
  | f + 1, l, ts, x, h, hl => by
    have hE : En [e] := ⟨e, rfl, he⟩
    rw [docP_succ] at h
    split at h
    · cases h
    · cases hb : bgR (decide (kdR (hd ts) ≠ 0)) l.length 64 ts with
      | error y =>
        rw [hb] at h
        cases h
        unfold bgR at hb
        split at hb
        · split at hb
          · cases hb; show (4 : Int) ≠ 0; decide
          · cases hb
        · cases hb; show (3 : Int) ≠ 0; decide
      | ok u =>
        rw [hb] at h
        have hk : kdR (hd ts) ≠ 0 := by simpa using (bg_ok hb).1
        have hq := def_q (tl := [e]) (.inl hE) (kdR (hd ts)) hl hk
        rw [exB_ok rfl] at h
        cases hd' : defX (kdR (hd ts)) ts with
        | error y =>
          rw [hd'] at h hq
          cases h
          obtain ⟨z, _, _, h3⟩ := hq hE
          exact h3
        | ok q =>
          rw [hd'] at h hq
          obtain ⟨q', h1, h2⟩ := hq
          cases h1
          exact doc_nz he f _ _ _ h h2.2
theorem sdl_nz {s : List UInt8} {x : Er} (h : sdlR s = .error x) : x.2 ≠ 0 := by
  unfold sdlR sdlF at h
  split at h
  · next y hk =>
    cases h
    unfold K.scR at hk
    split at hk
    · cases hk; decide
    · exact scF_nz _ _ _ _ hk
  · next ts hk =>
    cases hd' : docR defX ts with
    | ok q => rw [hd'] at h; cases h
    | error y =>
      rw [hd'] at h
      cases h
      unfold K.scR at hk
      split at hk
      · cases hk
      · obtain ⟨us, e, h1, h2, h3⟩ := scF_like _ _ 0 0 _ _ hk (Nat.le_refl _)
        rw [hk] at h1
        cases h1
        exact doc_nz h2 _ _ _ _ hd' h3
theorem sdl_pos {s : List UInt8} {l : List DefT} (h : sdlR s = .ok l) : 0 < l.length := by
  unfold sdlR sdlF at h
  split at h
  · cases h
  · obtain ⟨q, h1, h⟩ := exB_get h
    cases h
    unfold docR at h1
    rw [docP_succ, if_neg (by simp)] at h1
    obtain ⟨_, _, h1⟩ := exB_get h1
    obtain ⟨r, _, h1⟩ := exB_get h1
    have := doc_len _ _ _ _ _ (show docP defX _ _ _ = .ok (q.1, q.2) from h1)
    rw [List.length_append, List.length_singleton] at this
    omega
theorem DefC.one {w : World} {S : Nat → Prop} {f : Nat → Value} {x : DefT} (h : DefC w S f x) (j : Nat) (hj : j < 7) : (f j).oneCell' = true := by
  obtain ⟨_, _, e2, _⟩ := SlS.form h.impl
  obtain ⟨_, _, e3, _⟩ := SlS.form h.dirs
  obtain ⟨_, _, e4, _⟩ := SlS.form h.fields
  obtain ⟨_, _, e5, _⟩ := SlS.form h.members
  obtain ⟨_, _, e6, _⟩ := SlS.form h.inputs
  rcases (by omega : j = 0 ∨ j = 1 ∨ j = 2 ∨ j = 3 ∨ j = 4 ∨ j = 5 ∨ j = 6) with rfl | rfl | rfl | rfl | rfl | rfl | rfl
  · rw [h.kind]; rfl
  · rw [h.name]; rfl
  · rw [e2]; rfl
  · rw [e3]; rfl
  · rw [e4]; rfl
  · rw [e5]; rfl
  · rw [e6]; rfl
theorem DefC.cong {W : World} {S : Nat → Prop} {g g' : Nat → Value} {y : DefT} (h : ∀ j, j < 7 → g j = g' j) (hg : DefC W S g y) : DefC W S g' y := by
  rcases hg with ⟨a, b, c, d, e, f, g, h1, i⟩
  exact ⟨(h 0 (by decide)) ▸ a, b, (h 1 (by decide)) ▸ c, d, (h 2 (by decide)) ▸ e, (h 3 (by decide)) ▸ f, (h 4 (by decide)) ▸ g, (h 5 (by decide)) ▸ h1, (h 6 (by decide)) ▸ i⟩
structure RowOf (w : World) (S : Nat → Prop) (a : Addr) (news : List Value) (xs : List DefT) : Prop where
  blk : S a.block
  len : news.length = xs.length * 7
  at_ : ∀ (j : Nat) (u : Value), news[j]? = some u → w.cell? (a.add j) = some u
  one : ∀ u ∈ news, u.oneCell' = true
  els : ∀ i x, xs[i]? = some x → DefC w S (fun j => news.getD (i * 7 + j) undef) x
theorem at_eq (b : Addr) (j : Nat) : at_ b j = b.add j := by cases j <;> rfl
theorem DefsC.row {w : World} {S : Nat → Prop} {v : Value} {xs : List DefT} (h : DefsC w S v xs) (h0 : 0 < xs.length) : ∃ a c news, v = .slice (some a) xs.length c ∧ RowOf w S a news xs := by
  obtain ⟨A, c, e, hc, hz, V, hA, hr⟩ := h
  obtain ⟨a, rfl, ha, hx⟩ := hA h0
  have hnl : ((List.range (xs.length * 7)).map fun q => V (q / 7) (q % 7)).length = xs.length * 7 := by simp
  have hnj : ∀ (j : Nat) (u : Value), ((List.range (xs.length * 7)).map fun q => V (q / 7) (q % 7))[j]? = some u → j < xs.length * 7 ∧ u = V (j / 7) (j % 7) := by
    intro j u hu
    have hlt := (List.getElem?_eq_some_iff.1 hu).1
    rw [hnl] at hlt
    refine ⟨hlt, ?_⟩
    simp [hlt] at hu
    exact hu.symm
  refine ⟨a, c, (List.range (xs.length * 7)).map fun q => V (q / 7) (q % 7), e, ha, hnl, fun j u hu => ?_, fun u hu => ?_, fun i x hi => ?_⟩
  · obtain ⟨hlt, rfl⟩ := hnj j u hu
    have := hx (j / 7) (by omega) (j % 7) (by omega)
    rw [at_eq, Addr.add_add, show j / 7 * 7 + j % 7 = j by omega] at this
    exact this
  · obtain ⟨q, hq, rfl⟩ := List.mem_map.1 hu
    have hlt := List.mem_range.1 hq
    have hi : q / 7 < xs.length := by omega
    exact (hr (q / 7) _ (List.getElem?_eq_getElem hi)).one (q % 7) (by omega)
  · refine DefC.cong (fun j hj => ?_) (hr i x hi)
    have hi2 := (List.getElem?_eq_some_iff.1 hi).1
    have hlt : i * 7 + j < xs.length * 7 := by omega
    simp [List.getD_eq_getElem?_getD, hlt, show (i * 7 + j) / 7 = i by omega, show (i * 7 + j) % 7 = j by omega]
theorem rows_two {W : World} {base : Nat} {v : Value} {S : Nat → Prop} {a b : List DefT} {nA nB : List Value} (hown : W.ownsRow base 45 7 v (a.length + b.length) (nA ++ nB)) (hA : nA.length = a.length * 7) (hS : ∀ b, S b → b < W.heap.size)
    (ha : ∀ i x, a[i]? = some x → DefC W S (fun j => nA.getD (i * 7 + j) undef) x) (hb : ∀ i x, b[i]? = some x → DefC W S (fun j => nB.getD (i * 7 + j) undef) x) (hab : (a.length + b.length) * 144 ≤ big) : DefsR W W.heap.size v (a ++ b) := by
  have hl := hown.1
  have hels : ∀ i x, (a ++ b)[i]? = some x → DefC W (fun b => b < W.heap.size) (fun j => (nA ++ nB).getD (i * 7 + j) undef) x := by
    intro i x hx
    rcases Nat.lt_or_ge i a.length with hi | hi
    · rw [List.getElem?_append_left hi] at hx
      refine DefC.cong (fun j hj => ?_) (DefC.stays.kept (ha i x hx) (fun _ _ => rfl) hS)
      simp only [List.getD_eq_getElem?_getD]
      rw [List.getElem?_append_left (by omega)]
    · rw [List.getElem?_append_right hi] at hx
      refine DefC.cong (fun j hj => ?_) (DefC.stays.kept (hb _ x hx) (fun _ _ => rfl) hS)
      simp only [List.getD_eq_getElem?_getD]
      rw [List.getElem?_append_right (by omega), show i * 7 + j - nA.length = (i - a.length) * 7 + j by omega]
  refine DefsC.toR (S := fun b => b < W.heap.size) (fun b hb => hb) ?_
  rcases hown.2 with ⟨rfl, hz⟩ | ⟨g, cap, cur, rfl, hg1, hg2, hn, r⟩
  · refine ⟨none, 0, by rw [List.length_append, hz], by rw [List.length_append]; omega, by rw [List.length_append]; omega, fun i j => (nA ++ nB).getD (i * 7 + j) undef, fun h0 => by rw [List.length_append] at h0; omega, hels⟩
  · have hlt := (own_lt hown (g := g) rfl).2
    refine ⟨_, cap, by rw [List.length_append], by rw [List.length_append]; exact hn, by rw [List.length_append]; exact hab, fun i j => (nA ++ nB).getD (i * 7 + j) undef, fun _ => ⟨_, rfl, hlt, fun i hi j hj => ?_⟩, hels⟩
    rw [List.length_append] at hi
    have hlt2 : i * 7 + j < (nA ++ nB).length := by rw [hl]; omega
    have hc := World.ownsRow.cells hown (g := g) rfl (i * 7 + j) ((nA ++ nB).getD (i * 7 + j) undef) (by rw [List.getD_eq_getElem?_getD, List.getElem?_eq_getElem hlt2]; rfl)
    rw [Addr.add_mid, Nat.zero_add] at hc ⊢
    cases j with
    | zero => exact hc
    | succ j => exact hc
end Go.Proofs.YthjoelpfmimedaaGreatDoor
namespace Go.Proofs.YthjoelpfmimedaaGreatDoor
open Go.RowKit
set_option maxHeartbeats 2000000 in
theorem isDefault_any (b : Bool) (t : VT) (v : Value) (w : World) (h : Rd w w.heap.size v t) : Calls Tryz.prog 161 #[.bool b, v] w (BP (dflOk b t) w) := by
  have HR := Lib.hid h
  obtain ⟨k, n, s, is, ks⟩ := t
  cases h with
  | @mk _ _ _ A li ci K lk ck _ _ V hk hn hs hks hli hlk hbi hbk hA hr hK =>
  have HB0 : Hid (Below w.heap.size w (w.alloc (.cells #[.int .i64 k, .int .i64 n, .string s, .slice A li ci, .slice K lk ck] 59 (0, 0)))) := Lib.hid (below_new _ _)
  have HV : Hid (dflOk b (.mk k n s is ks) = if b then litOk (.mk k n s is ks) else decide (k = 0) && rightB false (.mk k n s is ks)) := Lib.hid rfl
  generalize dflOk b (.mk k n s is ks) = RB at *
  have HC1 := Lib.hid (isConstant_any (.mk k n s is ks) _ _ ((HR.out.kept HB0.out).mono HB0.out.size))
  have HC2 := Lib.hid (right_any (.mk k n s is ks) _ w.heap.size _ (HR.out.kept HB0.out) HB0.out.size)
  clear hk hn hs hks hli hlk hbi hbk hA hr hK HR
  cases b with
  | true =>
    go_enter Tryz.func161, Tryz.ntmps161
    go_wp2_with fail
    refine HC1.out.mono ?_
    rintro e w1 ⟨rfl, hb⟩
    have HB := Lib.hid (HB0.out.trans (Below.mono hb HB0.out.size))
    clear hb
    go_wp2_with fail
    go_ret
    exact ⟨by rw [HV.out]; rfl, HB.out⟩
  | false =>
    by_cases hz : k = 0
    · subst hz
      go_enter Tryz.func161, Tryz.ntmps161
      go_wp2_with fail
      refine HC2.out.mono ?_
      rintro e w1 ⟨rfl, hb⟩
      have HB := Lib.hid (HB0.out.trans (Below.mono hb HB0.out.size))
      clear hb
      go_wp2_with fail
      go_ret
      exact ⟨by rw [HV.out]; rfl, HB.out⟩
    · have hz' : (k == 0) = false := by rw [beq_eq_false_iff_ne]; exact hz
      have HV2 : Hid (RB = false) := Lib.hid (by rw [HV.out]; simp [hz])
      clear hz
      go_enter Tryz.func161, Tryz.ntmps161
      go_wp2_with fail
      go_ret
      exact ⟨by rw [HV2.out]; rfl, HB0.out⟩
set_option maxHeartbeats 2000000 in
theorem isInput_any (x : InpT) (f : Nat → Value) (w : World) (h : InpR w w.heap.size f x) : Calls Tryz.prog 99 #[.agg #[f 0, f 1, f 2, f 3, f 4, f 5, f 6, f 7, f 8, f 9]] w (BP (inpOk x) w) := by
  obtain ⟨k, n, s, A, li, ci, KA, lk, ck, e4, e5, e6, e7, e8⟩ := Rd.form h.val
  obtain ⟨A2, c2, e2, _, _⟩ := h.type.wraps.form
  obtain ⟨A9, c9, e9, _, _⟩ := h.dirs.form
  have HR := h.val
  have HT := h.type
  have HD := h.dirs
  have HN := Lib.hid h.size
  rw [e4, e5, e6, e7, e8] at HR
  rw [h.type.name, e2] at HT
  rw [e9] at HD
  rw [h.name, h.type.name, e2, h.has, e4, e5, e6, e7, e8, e9]
  clear e2 e4 e5 e6 e7 e8 e9 h
  replace HR := Lib.hid HR
  replace HT := Lib.hid HT
  replace HD := Lib.hid HD
  have HV : Hid (inpOk x = (nmA x.name && (K.okB x.tn x.tw && (dflOk x.has x.dflt && (dirsOk x.dirs))))) := Lib.hid rfl
  generalize inpOk x = RB at *
  have HB0 : Hid (Below w.heap.size w (w.alloc (.cells #[.string x.name, .string x.tn, .slice A2 x.tw.length c2, .bool x.has, .int .i64 k, .int .i64 n, .string s, .slice A li ci, .slice KA lk ck, .slice A9 x.dirs.length c9] 61 (0, 0)))) := Lib.hid (below_new _ _)
  have HX0 : Hid (Bk (w.alloc (.cells #[.string x.name, .string x.tn, .slice A2 x.tw.length c2, .bool x.has, .int .i64 k, .int .i64 n, .string s, .slice A li ci, .slice KA lk ck, .slice A9 x.dirs.length c9] 61 (0, 0))) w.heap.size #[.string x.name, .string x.tn, .slice A2 x.tw.length c2, .bool x.has, .int .i64 k, .int .i64 n, .string s, .slice A li ci, .slice KA lk ck, .slice A9 x.dirs.length c9] 61) := Lib.hid (Bk.new _ _ _)
  go_enter Tryz.func99, Tryz.ntmps99
  go_wp2_with fail
  refine (nm_any x.name _ HN.out).mono ?_
  rintro e w1 ⟨rfl, rfl⟩
  cases v : nmA x.name with
  | false =>
    have v0 := Lib.hid v
    clear v
    go_wp2_with fail
    go_ret
    exact ⟨by rw [HV.out, v0.out, Bool.false_and]; rfl, HB0.out⟩
  | true =>
    have v0 := Lib.hid v
    clear v
    have q0 := HX0.out.cell 0 _ rfl
    have q1 := HX0.out.cell 1 _ rfl
    have q2 := HX0.out.cell 2 _ rfl
    have q3 := HX0.out.cell 3 _ rfl
    have q4 := HX0.out.cell 4 _ rfl
    have q5 := HX0.out.cell 5 _ rfl
    have q6 := HX0.out.cell 6 _ rfl
    have q7 := HX0.out.cell 7 _ rfl
    have q8 := HX0.out.cell 8 _ rfl
    have q9 := HX0.out.cell 9 _ rfl
    go_wp2_with fail
    refine (K.tright_any x.tn x.tw _ _ (ref_of ((HT.out.kept HB0.out).mono HB0.out.size)) (by have := HT.out.size; unfold maxLen; unfold big at this; omega)).mono ?_
    rintro e w2 ⟨rfl, hb⟩
    clear q0 q1 q2 q3 q4 q5 q6 q7 q8 q9
    have HB1 := Lib.hid (HB0.out.trans (Below.mono hb HB0.out.size))
    have HX1 := Lib.hid (HX0.out.stay hb)
    clear hb
    cases v : K.okB x.tn x.tw with
    | false =>
      have v1 := Lib.hid v
      clear v
      go_wp2_with fail
      go_ret
      exact ⟨by rw [HV.out, v0.out, Bool.true_and, v1.out, Bool.false_and]; rfl, HB1.out⟩
    | true =>
      have v1 := Lib.hid v
      clear v
      have q0 := HX1.out.cell 0 _ rfl
      have q1 := HX1.out.cell 1 _ rfl
      have q2 := HX1.out.cell 2 _ rfl
      have q3 := HX1.out.cell 3 _ rfl
      have q4 := HX1.out.cell 4 _ rfl
      have q5 := HX1.out.cell 5 _ rfl
      have q6 := HX1.out.cell 6 _ rfl
      have q7 := HX1.out.cell 7 _ rfl
      have q8 := HX1.out.cell 8 _ rfl
      have q9 := HX1.out.cell 9 _ rfl
      go_wp2_with fail
      refine (isDefault_any x.has x.dflt _ _ ((HR.out.kept HB1.out).mono HB1.out.size)).mono ?_
      rintro e w3 ⟨rfl, hb⟩
      clear q0 q1 q2 q3 q4 q5 q6 q7 q8 q9
      have HB2 := Lib.hid (HB1.out.trans (Below.mono hb HB1.out.size))
      have HX2 := Lib.hid (HX1.out.stay hb)
      clear hb
      cases v : dflOk x.has x.dflt with
      | false =>
        have v2 := Lib.hid v
        clear v
        go_wp2_with fail
        go_ret
        exact ⟨by rw [HV.out, v0.out, Bool.true_and, v1.out, Bool.true_and, v2.out, Bool.false_and]; rfl, HB2.out⟩
      | true =>
        have v2 := Lib.hid v
        clear v
        have q0 := HX2.out.cell 0 _ rfl
        have q1 := HX2.out.cell 1 _ rfl
        have q2 := HX2.out.cell 2 _ rfl
        have q3 := HX2.out.cell 3 _ rfl
        have q4 := HX2.out.cell 4 _ rfl
        have q5 := HX2.out.cell 5 _ rfl
        have q6 := HX2.out.cell 6 _ rfl
        have q7 := HX2.out.cell 7 _ rfl
        have q8 := HX2.out.cell 8 _ rfl
        have q9 := HX2.out.cell 9 _ rfl
        go_wp2_with fail
        refine (areDirectives_any x.dirs _ _ ((HD.out.kept HB2.out).mono HB2.out.size)).mono ?_
        rintro e w4 ⟨rfl, hb⟩
        clear q0 q1 q2 q3 q4 q5 q6 q7 q8 q9
        have HB3 := Lib.hid (HB2.out.trans (Below.mono hb HB2.out.size))
        have HX3 := Lib.hid (HX2.out.stay hb)
        clear hb
        go_wp2_with fail
        go_ret
        exact ⟨by rw [HV.out, v0.out, Bool.true_and, v1.out, Bool.true_and, v2.out, Bool.true_and]; rfl, HB3.out⟩
set_option maxHeartbeats 2000000 in
theorem isField_any (x : FldT) (f : Nat → Value) (w : World) (h : FldR w w.heap.size f x) : Calls Tryz.prog 96 #[.agg #[f 0, f 1, f 2, f 3, f 4]] w (BP (fldOk x) w) := by
  obtain ⟨A1, c1, e1, _, _⟩ := h.args.form
  obtain ⟨A3, c3, e3, _, _⟩ := h.type.wraps.form
  obtain ⟨A4, c4, e4, _, _⟩ := h.dirs.form
  have HR := h.args
  have HT := h.type
  have HD := h.dirs
  have HN := Lib.hid h.size
  rw [e1] at HR
  rw [h.type.name, e3] at HT
  rw [e4] at HD
  rw [h.name, e1, h.type.name, e3, e4]
  clear e1 e3 e4 h
  replace HR := Lib.hid HR
  replace HT := Lib.hid HT
  replace HD := Lib.hid HD
  have HV : Hid (fldOk x = (nmA x.name && (inpsOk x.args && (K.okB x.tn x.tw && (dirsOk x.dirs))))) := Lib.hid rfl
  generalize fldOk x = RB at *
  have HB0 : Hid (Below w.heap.size w (w.alloc (.cells #[.string x.name, .slice A1 x.args.length c1, .string x.tn, .slice A3 x.tw.length c3, .slice A4 x.dirs.length c4] 52 (0, 0)))) := Lib.hid (below_new _ _)
  have HX0 : Hid (Bk (w.alloc (.cells #[.string x.name, .slice A1 x.args.length c1, .string x.tn, .slice A3 x.tw.length c3, .slice A4 x.dirs.length c4] 52 (0, 0))) w.heap.size #[.string x.name, .slice A1 x.args.length c1, .string x.tn, .slice A3 x.tw.length c3, .slice A4 x.dirs.length c4] 52) := Lib.hid (Bk.new _ _ _)
  go_enter Tryz.func96, Tryz.ntmps96
  go_wp2_with fail
  refine (nm_any x.name _ HN.out).mono ?_
  rintro e w1 ⟨rfl, rfl⟩
  cases v : nmA x.name with
  | false =>
    have v0 := Lib.hid v
    clear v
    go_wp2_with fail
    go_ret
    exact ⟨by rw [HV.out, v0.out, Bool.false_and]; rfl, HB0.out⟩
  | true =>
    have v0 := Lib.hid v
    clear v
    have q0 := HX0.out.cell 0 _ rfl
    have q1 := HX0.out.cell 1 _ rfl
    have q2 := HX0.out.cell 2 _ rfl
    have q3 := HX0.out.cell 3 _ rfl
    have q4 := HX0.out.cell 4 _ rfl
    go_wp2_with fail
    refine (withinInp_t x.args _ _ 0 16 ((HR.out.kept HB0.out).mono HB0.out.size) inpOk (fun W f y hy => isInput_any y f W hy)).mono ?_
    rintro e w2 ⟨rfl, hb⟩
    clear q0 q1 q2 q3 q4
    have HB1 := Lib.hid (HB0.out.trans (Below.mono hb HB0.out.size))
    have HX1 := Lib.hid (HX0.out.stay hb)
    clear hb
    rw [show inB 0 16 x.args inpOk = inpsOk x.args from rfl]
    cases v : inpsOk x.args with
    | false =>
      have v1 := Lib.hid v
      clear v
      go_wp2_with fail
      go_ret
      exact ⟨by rw [HV.out, v0.out, Bool.true_and, v1.out, Bool.false_and]; rfl, HB1.out⟩
    | true =>
      have v1 := Lib.hid v
      clear v
      have q0 := HX1.out.cell 0 _ rfl
      have q1 := HX1.out.cell 1 _ rfl
      have q2 := HX1.out.cell 2 _ rfl
      have q3 := HX1.out.cell 3 _ rfl
      have q4 := HX1.out.cell 4 _ rfl
      go_wp2_with fail
      refine (K.tright_any x.tn x.tw _ _ (ref_of ((HT.out.kept HB1.out).mono HB1.out.size)) (by have := HT.out.size; unfold maxLen; unfold big at this; omega)).mono ?_
      rintro e w3 ⟨rfl, hb⟩
      clear q0 q1 q2 q3 q4
      have HB2 := Lib.hid (HB1.out.trans (Below.mono hb HB1.out.size))
      have HX2 := Lib.hid (HX1.out.stay hb)
      clear hb
      cases v : K.okB x.tn x.tw with
      | false =>
        have v2 := Lib.hid v
        clear v
        go_wp2_with fail
        go_ret
        exact ⟨by rw [HV.out, v0.out, Bool.true_and, v1.out, Bool.true_and, v2.out, Bool.false_and]; rfl, HB2.out⟩
      | true =>
        have v2 := Lib.hid v
        clear v
        have q0 := HX2.out.cell 0 _ rfl
        have q1 := HX2.out.cell 1 _ rfl
        have q2 := HX2.out.cell 2 _ rfl
        have q3 := HX2.out.cell 3 _ rfl
        have q4 := HX2.out.cell 4 _ rfl
        go_wp2_with fail
        refine (areDirectives_any x.dirs _ _ ((HD.out.kept HB2.out).mono HB2.out.size)).mono ?_
        rintro e w4 ⟨rfl, hb⟩
        clear q0 q1 q2 q3 q4
        have HB3 := Lib.hid (HB2.out.trans (Below.mono hb HB2.out.size))
        have HX3 := Lib.hid (HX2.out.stay hb)
        clear hb
        go_wp2_with fail
        go_ret
        exact ⟨by rw [HV.out, v0.out, Bool.true_and, v1.out, Bool.true_and, v2.out, Bool.true_and]; rfl, HB3.out⟩
def partsB (im f m i : Int) (mf mm mi : Int) (pm : MemT → Bool) (d : DefT) : Bool := inB 0 im d.impl nmA && (inB mf f d.fields fldOk && (inB mm m d.members pm && inB mi i d.inputs inpOk))
def partsOk (d : DefT) : Bool :=
  if d.kind = 1 then partsB 64 64 0 0 1 0 0 memUOk d
  else if d.kind = 2 then partsB 0 64 0 0 1 0 0 memUOk d
  else if d.kind = 3 then partsB 0 0 64 0 0 1 0 memUOk d
  else if d.kind = 4 then partsB 0 0 64 0 0 1 0 memEOk d
  else if d.kind = 5 then partsB 0 0 0 16 0 0 1 memUOk d
  else false
set_option maxHeartbeats 2000000 in
theorem hasParts1_any (x : DefT) (f : Nat → Value) (w : World) (h : DefR w w.heap.size f x) (hkd : x.kind = 1) : Calls Tryz.prog 45 #[.agg #[f 0, f 1, f 2, f 3, f 4, f 5, f 6]] w (BP (partsOk x) w) := by
  obtain ⟨A2, c2, e2, _, _⟩ := h.impl.form
  obtain ⟨A3, c3, e3, _, _⟩ := h.dirs.form
  obtain ⟨A4, c4, e4, _, _⟩ := h.fields.form
  obtain ⟨A5, c5, e5, _, _⟩ := h.members.form
  obtain ⟨A6, c6, e6, _, _⟩ := h.inputs.form
  have H2 := h.impl
  have H3 := h.dirs
  have H4 := h.fields
  have H5 := h.members
  have H6 := h.inputs
  rw [e2] at H2
  rw [e3] at H3
  rw [e4] at H4
  rw [e5] at H5
  rw [e6] at H6
  rw [h.kind, h.name, e2, e3, e4, e5, e6]
  replace H2 := Lib.hid H2
  replace H3 := Lib.hid H3
  replace H4 := Lib.hid H4
  replace H5 := Lib.hid H5
  replace H6 := Lib.hid H6
  clear e2 e3 e4 e5 e6 h H3
  rw [hkd]
  have HV : Hid (partsOk x = (inB 0 64 x.impl nmA && (inB 1 64 x.fields fldOk && (inB 0 0 x.members memUOk && (inB 0 0 x.inputs inpOk))))) := Lib.hid (by unfold partsOk; rw [hkd]; rfl)
  generalize partsOk x = RB at *
  have HB0 : Hid (Below w.heap.size w (w.alloc (.cells #[.int .i64 1, .string x.name, .slice A2 x.impl.length c2, .slice A3 x.dirs.length c3, .slice A4 x.fields.length c4, .slice A5 x.members.length c5, .slice A6 x.inputs.length c6] 45 (0, 0)))) := Lib.hid (below_new _ _)
  have HX0 : Hid (Bk (w.alloc (.cells #[.int .i64 1, .string x.name, .slice A2 x.impl.length c2, .slice A3 x.dirs.length c3, .slice A4 x.fields.length c4, .slice A5 x.members.length c5, .slice A6 x.inputs.length c6] 45 (0, 0))) w.heap.size #[.int .i64 1, .string x.name, .slice A2 x.impl.length c2, .slice A3 x.dirs.length c3, .slice A4 x.fields.length c4, .slice A5 x.members.length c5, .slice A6 x.inputs.length c6] 45) := Lib.hid (Bk.new _ _ _)
  go_enter Tryz.func45, Tryz.ntmps45
  go_wp2_with fail
  refine (withinStr_t x.impl _ _ 0 64 ((H2.out.kept HB0.out).mono HB0.out.size) nmA (fun W f y hy => by rw [hy.1]; exact (nm_any y W hy.2).mono fun e w1 he => ⟨he.1, by rw [← he.2]; exact Below.refl _ _⟩)).mono ?_
  rintro e w2 ⟨rfl, hb⟩
  have HB1 := Lib.hid (HB0.out.trans (Below.mono hb HB0.out.size))
  have HX1 := Lib.hid (HX0.out.stay hb)
  clear hb
  cases v : inB 0 64 x.impl nmA with
  | false =>
    have v0 := Lib.hid v
    clear v
    go_wp2_with fail
    go_ret
    exact ⟨by rw [HV.out, v0.out, Bool.false_and]; rfl, HB1.out⟩
  | true =>
    have v0 := Lib.hid v
    clear v
    have q0 := HX1.out.cell 0 _ rfl
    have q1 := HX1.out.cell 1 _ rfl
    have q2 := HX1.out.cell 2 _ rfl
    have q3 := HX1.out.cell 3 _ rfl
    have q4 := HX1.out.cell 4 _ rfl
    have q5 := HX1.out.cell 5 _ rfl
    have q6 := HX1.out.cell 6 _ rfl
    go_wp2_with fail
    refine (withinFld_t x.fields _ _ 1 64 ((H4.out.kept HB1.out).mono HB1.out.size) fldOk (fun W f y hy => isField_any y f W hy)).mono ?_
    rintro e w3 ⟨rfl, hb⟩
    clear q0 q1 q2 q3 q4 q5 q6
    have HB2 := Lib.hid (HB1.out.trans (Below.mono hb HB1.out.size))
    have HX2 := Lib.hid (HX1.out.stay hb)
    clear hb
    cases v : inB 1 64 x.fields fldOk with
    | false =>
      have v1 := Lib.hid v
      clear v
      go_wp2_with fail
      go_ret
      exact ⟨by rw [HV.out, v0.out, Bool.true_and, v1.out, Bool.false_and]; rfl, HB2.out⟩
    | true =>
      have v1 := Lib.hid v
      clear v
      have q0 := HX2.out.cell 0 _ rfl
      have q1 := HX2.out.cell 1 _ rfl
      have q2 := HX2.out.cell 2 _ rfl
      have q3 := HX2.out.cell 3 _ rfl
      have q4 := HX2.out.cell 4 _ rfl
      have q5 := HX2.out.cell 5 _ rfl
      have q6 := HX2.out.cell 6 _ rfl
      go_wp2_with fail
      refine (withinMemU_t x.members _ _ 0 0 ((H5.out.kept HB2.out).mono HB2.out.size) memUOk (fun W f y hy => isUnionMember_any y f W hy)).mono ?_
      rintro e w4 ⟨rfl, hb⟩
      clear q0 q1 q2 q3 q4 q5 q6
      have HB3 := Lib.hid (HB2.out.trans (Below.mono hb HB2.out.size))
      have HX3 := Lib.hid (HX2.out.stay hb)
      clear hb
      cases v : inB 0 0 x.members memUOk with
      | false =>
        have v2 := Lib.hid v
        clear v
        go_wp2_with fail
        go_ret
        exact ⟨by rw [HV.out, v0.out, Bool.true_and, v1.out, Bool.true_and, v2.out, Bool.false_and]; rfl, HB3.out⟩
      | true =>
        have v2 := Lib.hid v
        clear v
        have q0 := HX3.out.cell 0 _ rfl
        have q1 := HX3.out.cell 1 _ rfl
        have q2 := HX3.out.cell 2 _ rfl
        have q3 := HX3.out.cell 3 _ rfl
        have q4 := HX3.out.cell 4 _ rfl
        have q5 := HX3.out.cell 5 _ rfl
        have q6 := HX3.out.cell 6 _ rfl
        go_wp2_with fail
        refine (withinInp_t x.inputs _ _ 0 0 ((H6.out.kept HB3.out).mono HB3.out.size) inpOk (fun W f y hy => isInput_any y f W hy)).mono ?_
        rintro e w5 ⟨rfl, hb⟩
        clear q0 q1 q2 q3 q4 q5 q6
        have HB4 := Lib.hid (HB3.out.trans (Below.mono hb HB3.out.size))
        have HX4 := Lib.hid (HX3.out.stay hb)
        clear hb
        go_wp2_with fail
        go_ret
        exact ⟨by rw [HV.out, v0.out, Bool.true_and, v1.out, Bool.true_and, v2.out, Bool.true_and]; rfl, HB4.out⟩
set_option maxHeartbeats 2000000 in
theorem hasParts2_any (x : DefT) (f : Nat → Value) (w : World) (h : DefR w w.heap.size f x) (hkd : x.kind = 2) : Calls Tryz.prog 45 #[.agg #[f 0, f 1, f 2, f 3, f 4, f 5, f 6]] w (BP (partsOk x) w) := by
  obtain ⟨A2, c2, e2, _, _⟩ := h.impl.form
  obtain ⟨A3, c3, e3, _, _⟩ := h.dirs.form
  obtain ⟨A4, c4, e4, _, _⟩ := h.fields.form
  obtain ⟨A5, c5, e5, _, _⟩ := h.members.form
  obtain ⟨A6, c6, e6, _, _⟩ := h.inputs.form
  have H2 := h.impl
  have H3 := h.dirs
  have H4 := h.fields
  have H5 := h.members
  have H6 := h.inputs
  rw [e2] at H2
  rw [e3] at H3
  rw [e4] at H4
  rw [e5] at H5
  rw [e6] at H6
  rw [h.kind, h.name, e2, e3, e4, e5, e6]
  replace H2 := Lib.hid H2
  replace H3 := Lib.hid H3
  replace H4 := Lib.hid H4
  replace H5 := Lib.hid H5
  replace H6 := Lib.hid H6
  clear e2 e3 e4 e5 e6 h H3
  rw [hkd]
  have HV : Hid (partsOk x = (inB 0 0 x.impl nmA && (inB 1 64 x.fields fldOk && (inB 0 0 x.members memUOk && (inB 0 0 x.inputs inpOk))))) := Lib.hid (by unfold partsOk; rw [hkd]; rfl)
  generalize partsOk x = RB at *
  have HB0 : Hid (Below w.heap.size w (w.alloc (.cells #[.int .i64 2, .string x.name, .slice A2 x.impl.length c2, .slice A3 x.dirs.length c3, .slice A4 x.fields.length c4, .slice A5 x.members.length c5, .slice A6 x.inputs.length c6] 45 (0, 0)))) := Lib.hid (below_new _ _)
  have HX0 : Hid (Bk (w.alloc (.cells #[.int .i64 2, .string x.name, .slice A2 x.impl.length c2, .slice A3 x.dirs.length c3, .slice A4 x.fields.length c4, .slice A5 x.members.length c5, .slice A6 x.inputs.length c6] 45 (0, 0))) w.heap.size #[.int .i64 2, .string x.name, .slice A2 x.impl.length c2, .slice A3 x.dirs.length c3, .slice A4 x.fields.length c4, .slice A5 x.members.length c5, .slice A6 x.inputs.length c6] 45) := Lib.hid (Bk.new _ _ _)
  go_enter Tryz.func45, Tryz.ntmps45
  go_wp2_with fail
  refine (withinStr_t x.impl _ _ 0 0 ((H2.out.kept HB0.out).mono HB0.out.size) nmA (fun W f y hy => by rw [hy.1]; exact (nm_any y W hy.2).mono fun e w1 he => ⟨he.1, by rw [← he.2]; exact Below.refl _ _⟩)).mono ?_
  rintro e w2 ⟨rfl, hb⟩
  have HB1 := Lib.hid (HB0.out.trans (Below.mono hb HB0.out.size))
  have HX1 := Lib.hid (HX0.out.stay hb)
  clear hb
  cases v : inB 0 0 x.impl nmA with
  | false =>
    have v0 := Lib.hid v
    clear v
    go_wp2_with fail
    go_ret
    exact ⟨by rw [HV.out, v0.out, Bool.false_and]; rfl, HB1.out⟩
  | true =>
    have v0 := Lib.hid v
    clear v
    have q0 := HX1.out.cell 0 _ rfl
    have q1 := HX1.out.cell 1 _ rfl
    have q2 := HX1.out.cell 2 _ rfl
    have q3 := HX1.out.cell 3 _ rfl
    have q4 := HX1.out.cell 4 _ rfl
    have q5 := HX1.out.cell 5 _ rfl
    have q6 := HX1.out.cell 6 _ rfl
    go_wp2_with fail
    refine (withinFld_t x.fields _ _ 1 64 ((H4.out.kept HB1.out).mono HB1.out.size) fldOk (fun W f y hy => isField_any y f W hy)).mono ?_
    rintro e w3 ⟨rfl, hb⟩
    clear q0 q1 q2 q3 q4 q5 q6
    have HB2 := Lib.hid (HB1.out.trans (Below.mono hb HB1.out.size))
    have HX2 := Lib.hid (HX1.out.stay hb)
    clear hb
    cases v : inB 1 64 x.fields fldOk with
    | false =>
      have v1 := Lib.hid v
      clear v
      go_wp2_with fail
      go_ret
      exact ⟨by rw [HV.out, v0.out, Bool.true_and, v1.out, Bool.false_and]; rfl, HB2.out⟩
    | true =>
      have v1 := Lib.hid v
      clear v
      have q0 := HX2.out.cell 0 _ rfl
      have q1 := HX2.out.cell 1 _ rfl
      have q2 := HX2.out.cell 2 _ rfl
      have q3 := HX2.out.cell 3 _ rfl
      have q4 := HX2.out.cell 4 _ rfl
      have q5 := HX2.out.cell 5 _ rfl
      have q6 := HX2.out.cell 6 _ rfl
      go_wp2_with fail
      refine (withinMemU_t x.members _ _ 0 0 ((H5.out.kept HB2.out).mono HB2.out.size) memUOk (fun W f y hy => isUnionMember_any y f W hy)).mono ?_
      rintro e w4 ⟨rfl, hb⟩
      clear q0 q1 q2 q3 q4 q5 q6
      have HB3 := Lib.hid (HB2.out.trans (Below.mono hb HB2.out.size))
      have HX3 := Lib.hid (HX2.out.stay hb)
      clear hb
      cases v : inB 0 0 x.members memUOk with
      | false =>
        have v2 := Lib.hid v
        clear v
        go_wp2_with fail
        go_ret
        exact ⟨by rw [HV.out, v0.out, Bool.true_and, v1.out, Bool.true_and, v2.out, Bool.false_and]; rfl, HB3.out⟩
      | true =>
        have v2 := Lib.hid v
        clear v
        have q0 := HX3.out.cell 0 _ rfl
        have q1 := HX3.out.cell 1 _ rfl
        have q2 := HX3.out.cell 2 _ rfl
        have q3 := HX3.out.cell 3 _ rfl
        have q4 := HX3.out.cell 4 _ rfl
        have q5 := HX3.out.cell 5 _ rfl
        have q6 := HX3.out.cell 6 _ rfl
        go_wp2_with fail
        refine (withinInp_t x.inputs _ _ 0 0 ((H6.out.kept HB3.out).mono HB3.out.size) inpOk (fun W f y hy => isInput_any y f W hy)).mono ?_
        rintro e w5 ⟨rfl, hb⟩
        clear q0 q1 q2 q3 q4 q5 q6
        have HB4 := Lib.hid (HB3.out.trans (Below.mono hb HB3.out.size))
        have HX4 := Lib.hid (HX3.out.stay hb)
        clear hb
        go_wp2_with fail
        go_ret
        exact ⟨by rw [HV.out, v0.out, Bool.true_and, v1.out, Bool.true_and, v2.out, Bool.true_and]; rfl, HB4.out⟩
set_option maxHeartbeats 2000000 in
theorem hasParts3_any (x : DefT) (f : Nat → Value) (w : World) (h : DefR w w.heap.size f x) (hkd : x.kind = 3) : Calls Tryz.prog 45 #[.agg #[f 0, f 1, f 2, f 3, f 4, f 5, f 6]] w (BP (partsOk x) w) := by
  obtain ⟨A2, c2, e2, _, _⟩ := h.impl.form
  obtain ⟨A3, c3, e3, _, _⟩ := h.dirs.form
  obtain ⟨A4, c4, e4, _, _⟩ := h.fields.form
  obtain ⟨A5, c5, e5, _, _⟩ := h.members.form
  obtain ⟨A6, c6, e6, _, _⟩ := h.inputs.form
  have H2 := h.impl
  have H3 := h.dirs
  have H4 := h.fields
  have H5 := h.members
  have H6 := h.inputs
  rw [e2] at H2
  rw [e3] at H3
  rw [e4] at H4
  rw [e5] at H5
  rw [e6] at H6
  rw [h.kind, h.name, e2, e3, e4, e5, e6]
  replace H2 := Lib.hid H2
  replace H3 := Lib.hid H3
  replace H4 := Lib.hid H4
  replace H5 := Lib.hid H5
  replace H6 := Lib.hid H6
  clear e2 e3 e4 e5 e6 h H3
  rw [hkd]
  have HV : Hid (partsOk x = (inB 0 0 x.impl nmA && (inB 0 0 x.fields fldOk && (inB 1 64 x.members memUOk && (inB 0 0 x.inputs inpOk))))) := Lib.hid (by unfold partsOk; rw [hkd]; rfl)
  generalize partsOk x = RB at *
  have HB0 : Hid (Below w.heap.size w (w.alloc (.cells #[.int .i64 3, .string x.name, .slice A2 x.impl.length c2, .slice A3 x.dirs.length c3, .slice A4 x.fields.length c4, .slice A5 x.members.length c5, .slice A6 x.inputs.length c6] 45 (0, 0)))) := Lib.hid (below_new _ _)
  have HX0 : Hid (Bk (w.alloc (.cells #[.int .i64 3, .string x.name, .slice A2 x.impl.length c2, .slice A3 x.dirs.length c3, .slice A4 x.fields.length c4, .slice A5 x.members.length c5, .slice A6 x.inputs.length c6] 45 (0, 0))) w.heap.size #[.int .i64 3, .string x.name, .slice A2 x.impl.length c2, .slice A3 x.dirs.length c3, .slice A4 x.fields.length c4, .slice A5 x.members.length c5, .slice A6 x.inputs.length c6] 45) := Lib.hid (Bk.new _ _ _)
  go_enter Tryz.func45, Tryz.ntmps45
  go_wp2_with fail
  refine (withinStr_t x.impl _ _ 0 0 ((H2.out.kept HB0.out).mono HB0.out.size) nmA (fun W f y hy => by rw [hy.1]; exact (nm_any y W hy.2).mono fun e w1 he => ⟨he.1, by rw [← he.2]; exact Below.refl _ _⟩)).mono ?_
  rintro e w2 ⟨rfl, hb⟩
  have HB1 := Lib.hid (HB0.out.trans (Below.mono hb HB0.out.size))
  have HX1 := Lib.hid (HX0.out.stay hb)
  clear hb
  cases v : inB 0 0 x.impl nmA with
  | false =>
    have v0 := Lib.hid v
    clear v
    go_wp2_with fail
    go_ret
    exact ⟨by rw [HV.out, v0.out, Bool.false_and]; rfl, HB1.out⟩
  | true =>
    have v0 := Lib.hid v
    clear v
    have q0 := HX1.out.cell 0 _ rfl
    have q1 := HX1.out.cell 1 _ rfl
    have q2 := HX1.out.cell 2 _ rfl
    have q3 := HX1.out.cell 3 _ rfl
    have q4 := HX1.out.cell 4 _ rfl
    have q5 := HX1.out.cell 5 _ rfl
    have q6 := HX1.out.cell 6 _ rfl
    go_wp2_with fail
    refine (withinFld_t x.fields _ _ 0 0 ((H4.out.kept HB1.out).mono HB1.out.size) fldOk (fun W f y hy => isField_any y f W hy)).mono ?_
    rintro e w3 ⟨rfl, hb⟩
    clear q0 q1 q2 q3 q4 q5 q6
    have HB2 := Lib.hid (HB1.out.trans (Below.mono hb HB1.out.size))
    have HX2 := Lib.hid (HX1.out.stay hb)
    clear hb
    cases v : inB 0 0 x.fields fldOk with
    | false =>
      have v1 := Lib.hid v
      clear v
      go_wp2_with fail
      go_ret
      exact ⟨by rw [HV.out, v0.out, Bool.true_and, v1.out, Bool.false_and]; rfl, HB2.out⟩
    | true =>
      have v1 := Lib.hid v
      clear v
      have q0 := HX2.out.cell 0 _ rfl
      have q1 := HX2.out.cell 1 _ rfl
      have q2 := HX2.out.cell 2 _ rfl
      have q3 := HX2.out.cell 3 _ rfl
      have q4 := HX2.out.cell 4 _ rfl
      have q5 := HX2.out.cell 5 _ rfl
      have q6 := HX2.out.cell 6 _ rfl
      go_wp2_with fail
      refine (withinMemU_t x.members _ _ 1 64 ((H5.out.kept HB2.out).mono HB2.out.size) memUOk (fun W f y hy => isUnionMember_any y f W hy)).mono ?_
      rintro e w4 ⟨rfl, hb⟩
      clear q0 q1 q2 q3 q4 q5 q6
      have HB3 := Lib.hid (HB2.out.trans (Below.mono hb HB2.out.size))
      have HX3 := Lib.hid (HX2.out.stay hb)
      clear hb
      cases v : inB 1 64 x.members memUOk with
      | false =>
        have v2 := Lib.hid v
        clear v
        go_wp2_with fail
        go_ret
        exact ⟨by rw [HV.out, v0.out, Bool.true_and, v1.out, Bool.true_and, v2.out, Bool.false_and]; rfl, HB3.out⟩
      | true =>
        have v2 := Lib.hid v
        clear v
        have q0 := HX3.out.cell 0 _ rfl
        have q1 := HX3.out.cell 1 _ rfl
        have q2 := HX3.out.cell 2 _ rfl
        have q3 := HX3.out.cell 3 _ rfl
        have q4 := HX3.out.cell 4 _ rfl
        have q5 := HX3.out.cell 5 _ rfl
        have q6 := HX3.out.cell 6 _ rfl
        go_wp2_with fail
        refine (withinInp_t x.inputs _ _ 0 0 ((H6.out.kept HB3.out).mono HB3.out.size) inpOk (fun W f y hy => isInput_any y f W hy)).mono ?_
        rintro e w5 ⟨rfl, hb⟩
        clear q0 q1 q2 q3 q4 q5 q6
        have HB4 := Lib.hid (HB3.out.trans (Below.mono hb HB3.out.size))
        have HX4 := Lib.hid (HX3.out.stay hb)
        clear hb
        go_wp2_with fail
        go_ret
        exact ⟨by rw [HV.out, v0.out, Bool.true_and, v1.out, Bool.true_and, v2.out, Bool.true_and]; rfl, HB4.out⟩
set_option maxHeartbeats 2000000 in
theorem hasParts4_any (x : DefT) (f : Nat → Value) (w : World) (h : DefR w w.heap.size f x) (hkd : x.kind = 4) : Calls Tryz.prog 45 #[.agg #[f 0, f 1, f 2, f 3, f 4, f 5, f 6]] w (BP (partsOk x) w) := by
  obtain ⟨A2, c2, e2, _, _⟩ := h.impl.form
  obtain ⟨A3, c3, e3, _, _⟩ := h.dirs.form
  obtain ⟨A4, c4, e4, _, _⟩ := h.fields.form
  obtain ⟨A5, c5, e5, _, _⟩ := h.members.form
  obtain ⟨A6, c6, e6, _, _⟩ := h.inputs.form
  have H2 := h.impl
  have H3 := h.dirs
  have H4 := h.fields
  have H5 := h.members
  have H6 := h.inputs
  rw [e2] at H2
  rw [e3] at H3
  rw [e4] at H4
  rw [e5] at H5
  rw [e6] at H6
  rw [h.kind, h.name, e2, e3, e4, e5, e6]
  replace H2 := Lib.hid H2
  replace H3 := Lib.hid H3
  replace H4 := Lib.hid H4
  replace H5 := Lib.hid H5
  replace H6 := Lib.hid H6
  clear e2 e3 e4 e5 e6 h H3
  rw [hkd]
  have HV : Hid (partsOk x = (inB 0 0 x.impl nmA && (inB 0 0 x.fields fldOk && (inB 1 64 x.members memEOk && (inB 0 0 x.inputs inpOk))))) := Lib.hid (by unfold partsOk; rw [hkd]; rfl)
  generalize partsOk x = RB at *
  have HB0 : Hid (Below w.heap.size w (w.alloc (.cells #[.int .i64 4, .string x.name, .slice A2 x.impl.length c2, .slice A3 x.dirs.length c3, .slice A4 x.fields.length c4, .slice A5 x.members.length c5, .slice A6 x.inputs.length c6] 45 (0, 0)))) := Lib.hid (below_new _ _)
  have HX0 : Hid (Bk (w.alloc (.cells #[.int .i64 4, .string x.name, .slice A2 x.impl.length c2, .slice A3 x.dirs.length c3, .slice A4 x.fields.length c4, .slice A5 x.members.length c5, .slice A6 x.inputs.length c6] 45 (0, 0))) w.heap.size #[.int .i64 4, .string x.name, .slice A2 x.impl.length c2, .slice A3 x.dirs.length c3, .slice A4 x.fields.length c4, .slice A5 x.members.length c5, .slice A6 x.inputs.length c6] 45) := Lib.hid (Bk.new _ _ _)
  go_enter Tryz.func45, Tryz.ntmps45
  go_wp2_with fail
  refine (withinStr_t x.impl _ _ 0 0 ((H2.out.kept HB0.out).mono HB0.out.size) nmA (fun W f y hy => by rw [hy.1]; exact (nm_any y W hy.2).mono fun e w1 he => ⟨he.1, by rw [← he.2]; exact Below.refl _ _⟩)).mono ?_
  rintro e w2 ⟨rfl, hb⟩
  have HB1 := Lib.hid (HB0.out.trans (Below.mono hb HB0.out.size))
  have HX1 := Lib.hid (HX0.out.stay hb)
  clear hb
  cases v : inB 0 0 x.impl nmA with
  | false =>
    have v0 := Lib.hid v
    clear v
    go_wp2_with fail
    go_ret
    exact ⟨by rw [HV.out, v0.out, Bool.false_and]; rfl, HB1.out⟩
  | true =>
    have v0 := Lib.hid v
    clear v
    have q0 := HX1.out.cell 0 _ rfl
    have q1 := HX1.out.cell 1 _ rfl
    have q2 := HX1.out.cell 2 _ rfl
    have q3 := HX1.out.cell 3 _ rfl
    have q4 := HX1.out.cell 4 _ rfl
    have q5 := HX1.out.cell 5 _ rfl
    have q6 := HX1.out.cell 6 _ rfl
    go_wp2_with fail
    refine (withinFld_t x.fields _ _ 0 0 ((H4.out.kept HB1.out).mono HB1.out.size) fldOk (fun W f y hy => isField_any y f W hy)).mono ?_
    rintro e w3 ⟨rfl, hb⟩
    clear q0 q1 q2 q3 q4 q5 q6
    have HB2 := Lib.hid (HB1.out.trans (Below.mono hb HB1.out.size))
    have HX2 := Lib.hid (HX1.out.stay hb)
    clear hb
    cases v : inB 0 0 x.fields fldOk with
    | false =>
      have v1 := Lib.hid v
      clear v
      go_wp2_with fail
      go_ret
      exact ⟨by rw [HV.out, v0.out, Bool.true_and, v1.out, Bool.false_and]; rfl, HB2.out⟩
    | true =>
      have v1 := Lib.hid v
      clear v
      have q0 := HX2.out.cell 0 _ rfl
      have q1 := HX2.out.cell 1 _ rfl
      have q2 := HX2.out.cell 2 _ rfl
      have q3 := HX2.out.cell 3 _ rfl
      have q4 := HX2.out.cell 4 _ rfl
      have q5 := HX2.out.cell 5 _ rfl
      have q6 := HX2.out.cell 6 _ rfl
      go_wp2_with fail
      refine (withinMemE_t x.members _ _ 1 64 ((H5.out.kept HB2.out).mono HB2.out.size) memEOk (fun W f y hy => isEnumMember_any y f W hy)).mono ?_
      rintro e w4 ⟨rfl, hb⟩
      clear q0 q1 q2 q3 q4 q5 q6
      have HB3 := Lib.hid (HB2.out.trans (Below.mono hb HB2.out.size))
      have HX3 := Lib.hid (HX2.out.stay hb)
      clear hb
      cases v : inB 1 64 x.members memEOk with
      | false =>
        have v2 := Lib.hid v
        clear v
        go_wp2_with fail
        go_ret
        exact ⟨by rw [HV.out, v0.out, Bool.true_and, v1.out, Bool.true_and, v2.out, Bool.false_and]; rfl, HB3.out⟩
      | true =>
        have v2 := Lib.hid v
        clear v
        have q0 := HX3.out.cell 0 _ rfl
        have q1 := HX3.out.cell 1 _ rfl
        have q2 := HX3.out.cell 2 _ rfl
        have q3 := HX3.out.cell 3 _ rfl
        have q4 := HX3.out.cell 4 _ rfl
        have q5 := HX3.out.cell 5 _ rfl
        have q6 := HX3.out.cell 6 _ rfl
        go_wp2_with fail
        refine (withinInp_t x.inputs _ _ 0 0 ((H6.out.kept HB3.out).mono HB3.out.size) inpOk (fun W f y hy => isInput_any y f W hy)).mono ?_
        rintro e w5 ⟨rfl, hb⟩
        clear q0 q1 q2 q3 q4 q5 q6
        have HB4 := Lib.hid (HB3.out.trans (Below.mono hb HB3.out.size))
        have HX4 := Lib.hid (HX3.out.stay hb)
        clear hb
        go_wp2_with fail
        go_ret
        exact ⟨by rw [HV.out, v0.out, Bool.true_and, v1.out, Bool.true_and, v2.out, Bool.true_and]; rfl, HB4.out⟩
set_option maxHeartbeats 2000000 in
theorem hasParts5_any (x : DefT) (f : Nat → Value) (w : World) (h : DefR w w.heap.size f x) (hkd : x.kind = 5) : Calls Tryz.prog 45 #[.agg #[f 0, f 1, f 2, f 3, f 4, f 5, f 6]] w (BP (partsOk x) w) := by
  obtain ⟨A2, c2, e2, _, _⟩ := h.impl.form
  obtain ⟨A3, c3, e3, _, _⟩ := h.dirs.form
  obtain ⟨A4, c4, e4, _, _⟩ := h.fields.form
  obtain ⟨A5, c5, e5, _, _⟩ := h.members.form
  obtain ⟨A6, c6, e6, _, _⟩ := h.inputs.form
  have H2 := h.impl
  have H3 := h.dirs
  have H4 := h.fields
  have H5 := h.members
  have H6 := h.inputs
  rw [e2] at H2
  rw [e3] at H3
  rw [e4] at H4
  rw [e5] at H5
  rw [e6] at H6
  rw [h.kind, h.name, e2, e3, e4, e5, e6]
  replace H2 := Lib.hid H2
  replace H3 := Lib.hid H3
  replace H4 := Lib.hid H4
  replace H5 := Lib.hid H5
  replace H6 := Lib.hid H6
  clear e2 e3 e4 e5 e6 h H3
  rw [hkd]
  have HV : Hid (partsOk x = (inB 0 0 x.impl nmA && (inB 0 0 x.fields fldOk && (inB 0 0 x.members memUOk && (inB 1 16 x.inputs inpOk))))) := Lib.hid (by unfold partsOk; rw [hkd]; rfl)
  generalize partsOk x = RB at *
  have HB0 : Hid (Below w.heap.size w (w.alloc (.cells #[.int .i64 5, .string x.name, .slice A2 x.impl.length c2, .slice A3 x.dirs.length c3, .slice A4 x.fields.length c4, .slice A5 x.members.length c5, .slice A6 x.inputs.length c6] 45 (0, 0)))) := Lib.hid (below_new _ _)
  have HX0 : Hid (Bk (w.alloc (.cells #[.int .i64 5, .string x.name, .slice A2 x.impl.length c2, .slice A3 x.dirs.length c3, .slice A4 x.fields.length c4, .slice A5 x.members.length c5, .slice A6 x.inputs.length c6] 45 (0, 0))) w.heap.size #[.int .i64 5, .string x.name, .slice A2 x.impl.length c2, .slice A3 x.dirs.length c3, .slice A4 x.fields.length c4, .slice A5 x.members.length c5, .slice A6 x.inputs.length c6] 45) := Lib.hid (Bk.new _ _ _)
  go_enter Tryz.func45, Tryz.ntmps45
  go_wp2_with fail
  refine (withinStr_t x.impl _ _ 0 0 ((H2.out.kept HB0.out).mono HB0.out.size) nmA (fun W f y hy => by rw [hy.1]; exact (nm_any y W hy.2).mono fun e w1 he => ⟨he.1, by rw [← he.2]; exact Below.refl _ _⟩)).mono ?_
  rintro e w2 ⟨rfl, hb⟩
  have HB1 := Lib.hid (HB0.out.trans (Below.mono hb HB0.out.size))
  have HX1 := Lib.hid (HX0.out.stay hb)
  clear hb
  cases v : inB 0 0 x.impl nmA with
  | false =>
    have v0 := Lib.hid v
    clear v
    go_wp2_with fail
    go_ret
    exact ⟨by rw [HV.out, v0.out, Bool.false_and]; rfl, HB1.out⟩
  | true =>
    have v0 := Lib.hid v
    clear v
    have q0 := HX1.out.cell 0 _ rfl
    have q1 := HX1.out.cell 1 _ rfl
    have q2 := HX1.out.cell 2 _ rfl
    have q3 := HX1.out.cell 3 _ rfl
    have q4 := HX1.out.cell 4 _ rfl
    have q5 := HX1.out.cell 5 _ rfl
    have q6 := HX1.out.cell 6 _ rfl
    go_wp2_with fail
    refine (withinFld_t x.fields _ _ 0 0 ((H4.out.kept HB1.out).mono HB1.out.size) fldOk (fun W f y hy => isField_any y f W hy)).mono ?_
    rintro e w3 ⟨rfl, hb⟩
    clear q0 q1 q2 q3 q4 q5 q6
    have HB2 := Lib.hid (HB1.out.trans (Below.mono hb HB1.out.size))
    have HX2 := Lib.hid (HX1.out.stay hb)
    clear hb
    cases v : inB 0 0 x.fields fldOk with
    | false =>
      have v1 := Lib.hid v
      clear v
      go_wp2_with fail
      go_ret
      exact ⟨by rw [HV.out, v0.out, Bool.true_and, v1.out, Bool.false_and]; rfl, HB2.out⟩
    | true =>
      have v1 := Lib.hid v
      clear v
      have q0 := HX2.out.cell 0 _ rfl
      have q1 := HX2.out.cell 1 _ rfl
      have q2 := HX2.out.cell 2 _ rfl
      have q3 := HX2.out.cell 3 _ rfl
      have q4 := HX2.out.cell 4 _ rfl
      have q5 := HX2.out.cell 5 _ rfl
      have q6 := HX2.out.cell 6 _ rfl
      go_wp2_with fail
      refine (withinMemU_t x.members _ _ 0 0 ((H5.out.kept HB2.out).mono HB2.out.size) memUOk (fun W f y hy => isUnionMember_any y f W hy)).mono ?_
      rintro e w4 ⟨rfl, hb⟩
      clear q0 q1 q2 q3 q4 q5 q6
      have HB3 := Lib.hid (HB2.out.trans (Below.mono hb HB2.out.size))
      have HX3 := Lib.hid (HX2.out.stay hb)
      clear hb
      cases v : inB 0 0 x.members memUOk with
      | false =>
        have v2 := Lib.hid v
        clear v
        go_wp2_with fail
        go_ret
        exact ⟨by rw [HV.out, v0.out, Bool.true_and, v1.out, Bool.true_and, v2.out, Bool.false_and]; rfl, HB3.out⟩
      | true =>
        have v2 := Lib.hid v
        clear v
        have q0 := HX3.out.cell 0 _ rfl
        have q1 := HX3.out.cell 1 _ rfl
        have q2 := HX3.out.cell 2 _ rfl
        have q3 := HX3.out.cell 3 _ rfl
        have q4 := HX3.out.cell 4 _ rfl
        have q5 := HX3.out.cell 5 _ rfl
        have q6 := HX3.out.cell 6 _ rfl
        go_wp2_with fail
        refine (withinInp_t x.inputs _ _ 1 16 ((H6.out.kept HB3.out).mono HB3.out.size) inpOk (fun W f y hy => isInput_any y f W hy)).mono ?_
        rintro e w5 ⟨rfl, hb⟩
        clear q0 q1 q2 q3 q4 q5 q6
        have HB4 := Lib.hid (HB3.out.trans (Below.mono hb HB3.out.size))
        have HX4 := Lib.hid (HX3.out.stay hb)
        clear hb
        go_wp2_with fail
        go_ret
        exact ⟨by rw [HV.out, v0.out, Bool.true_and, v1.out, Bool.true_and, v2.out, Bool.true_and]; rfl, HB4.out⟩
set_option maxHeartbeats 2000000 in
theorem hasParts_any (x : DefT) (f : Nat → Value) (w : World) (h : DefR w w.heap.size f x) : Calls Tryz.prog 45 #[.agg #[f 0, f 1, f 2, f 3, f 4, f 5, f 6]] w (BP (partsOk x) w) := by
  by_cases k1 : x.kind = 1
  · exact hasParts1_any x f w h k1
  by_cases k2 : x.kind = 2
  · exact hasParts2_any x f w h k2
  by_cases k3 : x.kind = 3
  · exact hasParts3_any x f w h k3
  by_cases k4 : x.kind = 4
  · exact hasParts4_any x f w h k4
  by_cases k5 : x.kind = 5
  · exact hasParts5_any x f w h k5
  have HV : Hid (partsOk x = false) := Lib.hid (by unfold partsOk; rw [if_neg k1, if_neg k2, if_neg k3, if_neg k4, if_neg k5])
  generalize partsOk x = RB at *
  obtain ⟨A2, c2, e2, _, _⟩ := h.impl.form
  obtain ⟨A3, c3, e3, _, _⟩ := h.dirs.form
  obtain ⟨A4, c4, e4, _, _⟩ := h.fields.form
  obtain ⟨A5, c5, e5, _, _⟩ := h.members.form
  obtain ⟨A6, c6, e6, _, _⟩ := h.inputs.form
  rw [h.kind, h.name, e2, e3, e4, e5, e6]
  clear e2 e3 e4 e5 e6 h
  generalize x.kind = kd at *
  have j1 : (kd == 1) = false := by rw [beq_eq_false_iff_ne]; exact k1
  have j2 : (kd == 2) = false := by rw [beq_eq_false_iff_ne]; exact k2
  have j3 : (kd == 3) = false := by rw [beq_eq_false_iff_ne]; exact k3
  have j4 : (kd == 4) = false := by rw [beq_eq_false_iff_ne]; exact k4
  have j5 : (kd == 5) = false := by rw [beq_eq_false_iff_ne]; exact k5
  have HB0 : Hid (Below w.heap.size w (w.alloc (.cells #[.int .i64 kd, .string x.name, .slice A2 x.impl.length c2, .slice A3 x.dirs.length c3, .slice A4 x.fields.length c4, .slice A5 x.members.length c5, .slice A6 x.inputs.length c6] 45 (0, 0)))) := Lib.hid (below_new _ _)
  clear k1 k2 k3 k4 k5
  go_enter Tryz.func45, Tryz.ntmps45
  go_wp2_with fail
  go_ret
  exact ⟨by rw [HV.out]; rfl, HB0.out⟩
theorem hasParts_c (x : DefT) (f : Nat → Value) (w : World) (h : DefR w w.heap.size f x) (cs : Array Value) (hc : #[f 0, f 1, f 2, f 3, f 4, f 5, f 6] = cs) : Calls Tryz.prog 45 #[.agg cs] w (BP (partsOk x) w) := by
  subst hc
  exact hasParts_any x f w h
def defOk (x : DefT) : Bool := nmA x.name && (dirsOk x.dirs && partsOk x)
def docOk (l : List DefT) : Bool := inB 1 64 l defOk
set_option maxHeartbeats 2000000 in
theorem isDefinition_any (x : DefT) (f : Nat → Value) (w : World) (h : DefR w w.heap.size f x) : Calls Tryz.prog 24 #[.agg #[f 0, f 1, f 2, f 3, f 4, f 5, f 6]] w (BP (defOk x) w) := by
  have HF := h
  have HN := Lib.hid h.size
  obtain ⟨A2, c2, e2, _, _⟩ := h.impl.form
  obtain ⟨A3, c3, e3, _, _⟩ := h.dirs.form
  obtain ⟨A4, c4, e4, _, _⟩ := h.fields.form
  obtain ⟨A5, c5, e5, _, _⟩ := h.members.form
  obtain ⟨A6, c6, e6, _, _⟩ := h.inputs.form
  have H2 := h.impl
  have H3 := h.dirs
  have H4 := h.fields
  have H5 := h.members
  have H6 := h.inputs
  rw [e2] at H2
  rw [e3] at H3
  rw [e4] at H4
  rw [e5] at H5
  rw [e6] at H6
  rw [h.kind, h.name, e2, e3, e4, e5, e6]
  replace H2 := Lib.hid H2
  replace H3 := Lib.hid H3
  replace H4 := Lib.hid H4
  replace H5 := Lib.hid H5
  replace H6 := Lib.hid H6
  have hff : #[f 0, f 1, f 2, f 3, f 4, f 5, f 6] = #[.int .i64 x.kind, .string x.name, .slice A2 x.impl.length c2, .slice A3 x.dirs.length c3, .slice A4 x.fields.length c4, .slice A5 x.members.length c5, .slice A6 x.inputs.length c6] := by rw [h.kind, h.name, e2, e3, e4, e5, e6]
  replace hff := Lib.hid hff
  clear e2 e3 e4 e5 e6 h H2 H4 H5 H6
  replace HF := Lib.hid HF
  have HV : Hid (defOk x = (nmA x.name && (dirsOk x.dirs && (partsOk x)))) := Lib.hid rfl
  generalize defOk x = RB at *
  have HB0 : Hid (Below w.heap.size w (w.alloc (.cells #[.int .i64 x.kind, .string x.name, .slice A2 x.impl.length c2, .slice A3 x.dirs.length c3, .slice A4 x.fields.length c4, .slice A5 x.members.length c5, .slice A6 x.inputs.length c6] 45 (0, 0)))) := Lib.hid (below_new _ _)
  have HX0 : Hid (Bk (w.alloc (.cells #[.int .i64 x.kind, .string x.name, .slice A2 x.impl.length c2, .slice A3 x.dirs.length c3, .slice A4 x.fields.length c4, .slice A5 x.members.length c5, .slice A6 x.inputs.length c6] 45 (0, 0))) w.heap.size #[.int .i64 x.kind, .string x.name, .slice A2 x.impl.length c2, .slice A3 x.dirs.length c3, .slice A4 x.fields.length c4, .slice A5 x.members.length c5, .slice A6 x.inputs.length c6] 45) := Lib.hid (Bk.new _ _ _)
  go_enter Tryz.func24, Tryz.ntmps24
  go_wp2_with fail
  refine (nm_any x.name _ HN.out).mono ?_
  rintro e w1 ⟨rfl, rfl⟩
  cases v : nmA x.name with
  | false =>
    have v0 := Lib.hid v
    clear v
    go_wp2_with fail
    go_ret
    exact ⟨by rw [HV.out, v0.out, Bool.false_and]; rfl, HB0.out⟩
  | true =>
    have v0 := Lib.hid v
    clear v
    have q0 := HX0.out.cell 0 _ rfl
    have q1 := HX0.out.cell 1 _ rfl
    have q2 := HX0.out.cell 2 _ rfl
    have q3 := HX0.out.cell 3 _ rfl
    have q4 := HX0.out.cell 4 _ rfl
    have q5 := HX0.out.cell 5 _ rfl
    have q6 := HX0.out.cell 6 _ rfl
    go_wp2_with fail
    refine (areDirectives_any x.dirs _ _ ((H3.out.kept HB0.out).mono HB0.out.size)).mono ?_
    rintro e w2 ⟨rfl, hb⟩
    clear q0 q1 q2 q3 q4 q5 q6
    have HB1 := Lib.hid (HB0.out.trans (Below.mono hb HB0.out.size))
    have HX1 := Lib.hid (HX0.out.stay hb)
    clear hb
    cases v : dirsOk x.dirs with
    | false =>
      have v1 := Lib.hid v
      clear v
      go_wp2_with fail
      go_ret
      exact ⟨by rw [HV.out, v0.out, Bool.true_and, v1.out, Bool.false_and]; rfl, HB1.out⟩
    | true =>
      have v1 := Lib.hid v
      clear v
      have q0 := HX1.out.cell 0 _ rfl
      have q1 := HX1.out.cell 1 _ rfl
      have q2 := HX1.out.cell 2 _ rfl
      have q3 := HX1.out.cell 3 _ rfl
      have q4 := HX1.out.cell 4 _ rfl
      have q5 := HX1.out.cell 5 _ rfl
      have q6 := HX1.out.cell 6 _ rfl
      go_wp2_with fail
      refine (hasParts_c x f _ (DefR.stays.mono (DefR.stays.kept HF.out HB1.out) HB1.out.size) _ hff.out).mono ?_
      rintro e w3 ⟨rfl, hb⟩
      clear q0 q1 q2 q3 q4 q5 q6
      have HB2 := Lib.hid (HB1.out.trans (Below.mono hb HB1.out.size))
      have HX2 := Lib.hid (HX1.out.stay hb)
      clear hb
      go_wp2_with fail
      go_ret
      exact ⟨by rw [HV.out, v0.out, Bool.true_and, v1.out, Bool.true_and]; rfl, HB2.out⟩
theorem sright_any (l : List DefT) (v : Value) (w : World) (h : DefsR w w.heap.size v l) : Calls Tryz.prog 9 #[.agg #[v]] w (BP (docOk l) w) := by
  have HR := Lib.hid h
  have HV : Hid (docOk l = inB 1 64 l defOk) := Lib.hid rfl
  generalize docOk l = RB at *
  obtain ⟨A, c, rfl, _, _⟩ := h.form
  clear h
  have HB0 : Hid (Below w.heap.size w (w.alloc (.cells #[.slice A l.length c] 24 (0, 0)))) := Lib.hid (below_new _ _)
  go_enter Tryz.func9, Tryz.ntmps9
  go_wp2_with fail
  refine (withinDef_t l _ _ 1 64 ((HR.out.kept HB0.out).mono HB0.out.size) defOk fun W f y hy => isDefinition_any y f W hy).mono ?_
  rintro e w1 ⟨rfl, hb⟩
  have HB := Lib.hid (HB0.out.trans (Below.mono hb HB0.out.size))
  clear hb
  go_wp2_with fail
  go_ret
  exact ⟨by rw [HV.out]; rfl, HB.out⟩
end Go.Proofs.YthjoelpfmimedaaGreatDoor
