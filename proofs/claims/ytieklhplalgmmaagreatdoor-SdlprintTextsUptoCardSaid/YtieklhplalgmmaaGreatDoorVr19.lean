
/-
  Texts joined: NT13 NT14.
-/
import Derived.Test.YtieklhplalgmmaaGreatDoorVr18
import Derived.Test.YtieklhplalgmmaaGreatDoorVr1
import Derived.Test.YtieklhplalgmmaaGreatDoorVr3
namespace Go.Proofs.YtieklhplalgmmaaGreatDoor
open Go.RowKit
theorem doc_ne (x : DefT) (r : List DefT) (hf : defFit x) : docTxt (x :: r) ≠ [] := by
  intro h
  have h1 : (defTxt x).length ≤ (docTxt (x :: r)).length := by
    have := jn_step_le [10] (xs := (x :: r).map defTxt) (j := 0) (a := defTxt x) rfl
    unfold docTxt; omega
  rw [h] at h1
  have hk := hf.1
  have e1 : wType.length = 5 := rfl
  have e2 : wInterface.length = 10 := rfl
  have e3 : wUnion.length = 6 := rfl
  have e4 : wEnum.length = 5 := rfl
  have e5 : wInput.length = 6 := rfl
  unfold defTxt at h1
  split at h1
  · simp only [List.length_append, List.length_nil] at h1; omega
  split at h1
  · simp only [List.length_append, List.length_nil] at h1; omega
  split at h1
  · simp only [List.length_append, List.length_nil] at h1; omega
  split at h1
  · simp only [List.length_append, List.length_nil] at h1; omega
  split at h1
  · simp only [List.length_append, List.length_nil] at h1; omega
  · omega
set_option maxRecDepth 100000 in
set_option maxHeartbeats 8000000 in
theorem texts_row (u : Value) (xs : List DefT) (w : World) (h : DefsR w w.heap.size u xs) (hs : defsS xs) (hL : LaidB w.heap.size w) : Calls Tryz.prog 3 #[.agg #[u]] w fun e w' => e = .returned (.bool true) ∧ Below w.heap.size w w' := by
  have HRD := Lib.hid h
  obtain ⟨A, c, rfl, hc, hbg, V, hA, hr⟩ := h
  unfold big at hbg
  have hall : ltB 1 64 xs rdefOk = true → ∀ x ∈ xs, ((defFit x ∧ (x.kind = 3 → ∀ y ∈ x.members, y.dirs = []) ∧ x.impl.length ≤ 64) ∧ smallD x) ∧ (defTxt x).length + 1 ≤ 10300000000 * cntD x := fun h1 x hx => by
    have h2 := (ltB_le h1).2 x hx
    obtain ⟨hk, hF, hM, hI⟩ := def_parts h2
    obtain ⟨q, hq⟩ := List.mem_iff_getElem?.1 hx
    exact ⟨def_ok (hs x hx) h2 hk hF hM hI, def_len (hr q x hq) (hs x hx) h2⟩
  have CLG : Hid (∀ (W : World), Below w.heap.size w W → Calls Tryz.prog 5 #[.agg #[.slice A xs.length c]] W fun e w' => (∃ b, e = .returned (.bool b) ∧ (b = false → ltB 1 64 xs rdefOk = true → xs.length ≤ 70 ∧ (xs.map cntD).sum ≤ 1000)) ∧ Below W.heap.size W w') := Lib.hid (fun (W : World) (hW : Below w.heap.size w W) => by
    cases h1 : ltB 1 64 xs rdefOk with
    | false => exact (large_any xs (.slice A xs.length c) W w.heap.size (HRD.out.kept hW) hW.size).mono fun e w' ⟨⟨b, he⟩, hb⟩ => ⟨⟨b, he, fun _ h => by cases h⟩, hb⟩
    | true => exact (large_ok xs (fun x hx => (hall h1 x hx).1.2) (.slice A xs.length c) W w.heap.size (HRD.out.kept hW) hW.size).mono fun e w' ⟨⟨b, he, h3⟩, hb⟩ => ⟨⟨b, he, fun h _ => h3 h⟩, hb⟩)
  have CPR : Hid (ltB 1 64 xs rdefOk = true → (xs.map cntD).sum ≤ 1000 → ∃ o : ByteArray, (∀ W, Below w.heap.size w W → Calls Tryz.prog 8 #[.agg #[.slice A xs.length c]] W fun e w' => e = .returned (.string o) ∧ Below W.heap.size W w') ∧ (∀ W, Below w.heap.size w W → Calls Tryz.prog 9 #[.agg #[.slice A xs.length c]] W fun e w' => e = .returned (.string o) ∧ Below W.heap.size W w')) := Lib.hid fun h1 h2 => by
    have h3 := doc_len (xs := xs) fun x hx => (hall h1 x hx).2
    refine ⟨⟨(docTxt xs).toArray⟩, fun W hW => ?_, fun W hW => ?_⟩
    · refine print_any xs (fun x hx => (hall h1 x hx).1.1.1) (.slice A xs.length c) W ((HRD.out.kept hW).mono hW.size) ((hL.kept hW).mono hW.size) (by omega) ?_
      have h4 : 0 < xs.length := by unfold ltB at h1; simp at h1; omega
      cases xs with
      | nil => simp at h4
      | cons x r => exact doc_ne x r (hall h1 x (by simp)).1.1.1
    · refine (rprintdoc_any xs (fun x hx => (hall h1 x hx).1.1) (.slice A xs.length c) W w.heap.size (HRD.out.kept hW) hW.size (by omega)).mono ?_
      rintro e w' ⟨⟨o', rfl, ho'⟩, hb⟩
      exact ⟨by rw [bL_inj (ho'.trans (bL_mk _).symm)], hb⟩
  have CRT := Lib.hid (fun (W : World) (hW : Below w.heap.size w W) => rright_doc xs (.slice A xs.length c) W ((HRD.out.kept hW).mono hW.size) (defsS_Z hs))
  have CE := Lib.hid (fun (W : World) (hW : Below w.heap.size w W) => example_any W ((hL.kept hW).mono hW.size))
  obtain ⟨n, hn⟩ : ∃ n, xs.length = n := ⟨_, rfl⟩
  obtain ⟨rb, hrb⟩ : ∃ rb, ltB 1 64 xs rdefOk = rb := ⟨_, rfl⟩
  rw [hn] at hA hbg CLG CRT CPR ⊢
  rw [hrb] at CRT CLG CPR
  clear hall
  have hnm : (n : Int) ≤ 140737488351232 := by omega
  have HN := Lib.hid hn
  have HA := Lib.hid hA
  have HR := Lib.hid hr
  have HS := Lib.hid hs
  have HL := Lib.hid hL
  have HRB := Lib.hid hrb
  have HB0 := Lib.hid (below_new w (.cells #[.slice A n c] 24 (0, 0)))
  have HK0 := Lib.hid (Bk.new w #[.slice A n c] 24)
  clear hn hA hr hc hbg hs hL hrb HRD
  have y0 := HK0.out.cell 0 _ rfl
  go_enter Tryz.func3, Tryz.ntmps3
  go_wp2_with fail
  refine (CLG.out _ HB0.out).mono ?_
  rintro e w1 ⟨⟨b, rfl, hbf⟩, hb⟩
  have HBF := Lib.hid hbf
  clear hbf
  have HB1 := Lib.hid (HB0.out.trans (hb.mono HB0.out.size))
  have hk1 := HK0.out.stay hb
  have HK1 := Lib.hid hk1
  clear hb y0 CLG
  have y0 := hk1.cell 0 _ rfl
  clear hk1
  cases b with
  | true =>
    go_wp2_with fail
    refine (CE.out _ HB1.out).mono ?_
    rintro e w2 ⟨rfl, hb⟩
    have HB2 := Lib.hid (HB1.out.trans (hb.mono HB1.out.size))
    clear hb
    go_wp2_with fail
    go_ret
    exact ⟨rfl, HB2.out⟩
  | false =>
  go_wp2_with fail
  refine (CRT.out _ HB1.out).mono ?_
  rintro e w2 ⟨rfl, hb⟩
  have HB2 := Lib.hid (HB1.out.trans (hb.mono HB1.out.size))
  have HK2 := Lib.hid (HK1.out.stay hb)
  clear hb y0 CRT
  cases rb with
  | false =>
    go_wp2_with fail
    refine (CE.out _ HB2.out).mono ?_
    rintro e w3 ⟨rfl, hb⟩
    have HB3 := Lib.hid (HB2.out.trans (hb.mono HB2.out.size))
    clear hb
    go_wp2_with fail
    go_ret
    exact ⟨rfl, HB3.out⟩
  | true =>
  obtain ⟨o, hp1, hp2⟩ := CPR.out rfl (by simpa using HBF.out : _ ∧ _).2
  have HP1 := Lib.hid hp1
  have HP2 := Lib.hid hp2
  clear hp1 hp2 CPR
  have hoo : decide (o = o) = true := by simp
  go_wp2_with fail
  refine K.wp_region_past (fun W => Bk W w.heap.size #[.slice A n c] 24 ∧ Below w.heap.size w W) ⟨HK2.out, HB2.out⟩ (by kernel_rfl) ?_
  rintro W ⟨hbk, hbw⟩ _
  have HBK := Lib.hid hbk
  have HBW := Lib.hid hbw
  have p0 : ∀ y : K.Past W, y.w.cell? ⟨w.heap.size, 0, none⟩ = some (.slice A n c) := fun y => (HBK.out.stay y.b).cell 0 _ rfl
  have k1 : Hid (∀ y : K.Past W, Calls Tryz.prog 8 #[.agg #[.slice A n c]] y.w fun e w'' => e = .returned (.string o) ∧ ∃ z : K.Past W, w'' = z.w) := Lib.hid fun y => K.past_of y (HP1.out _ (HBW.out.trans (y.b.mono HBW.out.size)))
  have k2 : Hid (∀ y : K.Past W, Calls Tryz.prog 9 #[.agg #[.slice A n c]] y.w fun e w'' => e = .returned (.string o) ∧ ∃ z : K.Past W, w'' = z.w) := Lib.hid fun y => K.past_of y (HP2.out _ (HBW.out.trans (y.b.mono HBW.out.size)))
  have k3 : Hid (∀ y : K.Past W, Calls Tryz.prog 7 #[] y.w fun e w'' => e = .returned (.bool true) ∧ ∃ z : K.Past W, w'' = z.w) := Lib.hid fun y => K.past_of y (CE.out _ (HBW.out.trans (y.b.mono HBW.out.size)))
  clear hbk hbw
  repeat (go_big_quiet_step (first | with_reducible exact k1.out _ | with_reducible exact k2.out _ | with_reducible exact k3.out _))
  refine wpQuiet_nil ?_
  intro _ hw'
  obtain ⟨y, rfl⟩ := hw'
  have HB5 : Hid (Below w.heap.size w y.w) := Lib.hid (HBW.out.trans (y.b.mono HBW.out.size))
  go_wp2_with fail
  go_ret
  exact ⟨rfl, HB5.out⟩
end Go.Proofs.YtieklhplalgmmaaGreatDoor
namespace Go.Proofs.YtieklhplalgmmaaGreatDoor.sdlprintTexts
open Go.ChangeShapes Go.WideShapes Go.ChangeAt Go.RowKit
set_option maxRecDepth 100000 in
theorem open_doc {H : Type} {enc : TypeId × Value → H} {W : World} {spare : Nat → Bool} {held : Bool} {base : Nat} {v : Value} {d : DataW H} {p : List MemPlace} (hok : Value.okWide Tryz.prog W .any base 24 v) (h : DataW.Trod enc Tryz.prog W 0 spare held 24 v d p)
    (hw : ∀ n ∈ d.weights Tryz.prog 24, n ≤ reachBytes) : ∃ u l, v = .agg #[u] ∧ DefsR W W.heap.size u l ∧ (Rows.uptoBulk d ≤ 1048576 → defsS l) := by
  obtain ⟨cs0, rfl, _⟩ := okWide_struct Tryz.underlying24 hok
  obtain ⟨fuel, hf0⟩ := h
  obtain ⟨xs, n, rfl, hx, hl, hxl, hf⟩ := DataW.trod_struct Tryz.underlying24 hf0
  rw [show Tryz.prog.cellsOf 24 = 1 by kernel_rfl] at hl
  obtain ⟨c0, e0⟩ : ∃ c0, cs0 = #[c0] := by
    have : cs0.toList.length = 1 := by simpa [Value.cells] using hl
    match hq : cs0.toList, this with
    | [c0], _ => exact ⟨c0, Array.toList_inj.1 hq⟩
  subst e0
  match xs, hxl with
  | [x0], _ =>
  have f0 : DataW.trod enc Tryz.prog W 0 spare held n 22 [c0] = some x0 := by
    have this : DataW.trod enc Tryz.prog W 0 spare held n 22 ((([c0] : List Value).drop 0).take (Tryz.prog.cellsOf 22)) = some x0 := hf 0 _ rfl
    rw [show Tryz.prog.cellsOf 22 = 1 by kernel_rfl] at this; exact this
  simp only [Prod.mk.injEq] at hx
  obtain ⟨rfl, _⟩ := hx
  have hw' : ∀ q ∈ (x0.1.weights Tryz.prog 22 ++ []), q ≤ reachBytes := by
    intro q hq
    refine hw q ?_
    simpa only [DataW.weights, Tryz.underlying24, DataW.weightsEach, List.map_cons, List.map_nil] using hq
  obtain ⟨A, l, c, ys, e1, hsl, hS⟩ := open_rows (enc := enc) (spare := spare) (held := held) 35 22 7 144 DefR (fun x => dirsS x.dirs ∧ inpsS x.inputs ∧ fldsS x.fields ∧ memsS x.members ∧ x.impl.length ≤ 17592186044416) Tryz.underlying22 (by kernel_rfl) (by decide) (by kernel_rfl) DefT0 open_Def f0 (fun q hq => hw' q (by simp [hq]))
  simp only [List.cons.injEq, and_true] at e1
  subst e1
  exact ⟨_, ys, rfl, hsl, fun hB => hS (by simp only [Rows.uptoBulk, Rows.uptoBulkAll, List.map_cons, List.map_nil] at hB; omega)⟩
set_option maxRecDepth 1000000 in
set_option maxHeartbeats 2000000 in
theorem contract (H : Type) (enc : TypeId × Value → H) (W : World) (base : Nat) (args : Array Value) (ds gs : List (DataW H)) (before : List MemPlace)
    (hval : ∀ (j : Nat) t v, Tryz.f3.params[j]? = some t → args[j]? = some v → Value.okWide Tryz.prog W .any base t v)
    (hW : DataW.Whole enc Tryz.prog Tryz.f3.params.toList Rows.sdlprintTextsSpec.vars false W args.toList ds gs before)
    (hz : (DataW.weightsEach Tryz.prog (Tryz.f3.params.toList ++ (OpenSpec.ofChange Rows.sdlprintTextsSpec).bare.plain.varTypes Tryz.prog) (ds ++ gs)).all (· ≤ reachBytes) = true) (hk : Rows.uptoSmall H (ds ++ gs) = true) (hL : laidMetH Tryz.prog Rows.sdlprintTextsUptoRow.laid W) :
    Calls Tryz.prog 3 args W fun e W' => ∃ v, e = .returned v ∧ Rows.sdlprintTextsSpec.post enc Tryz.prog Tryz.f3 false true false false W args v W' := by
  have hW' := hW
  have hlt : ∀ x ∈ before, x.block < W.heap.size := fun x hx => by simpa using hW.lt x hx
  obtain ⟨p, q, hA0, hV, rfl, hfz, hnd⟩ := hW
  have hA : DataW.TrodAll enc Tryz.prog W 0 (fun _ => true) true Tryz.f3.params.toList args.toList ds p := hA0
  rw [Tryz.params3] at hA hval hz
  obtain ⟨v0, vs0, d0, ds0, p0, q0, hargs, rfl, rfl, h0, r0⟩ := trodAll_cons hA
  obtain ⟨rfl, rfl, rfl⟩ := trodAll_nil r0
  obtain rfl : args = #[v0] := by cases args; simp_all
  obtain ⟨rfl, rfl⟩ := trodVars_none hV
  have k0 := h0
  have hz' : (DataW.weightsEach Tryz.prog ((#[24] : Array TypeId).toList ++ []) ([d0] ++ [])).all (· ≤ reachBytes) = true := hz
  simp only [List.append_nil] at hz'
  obtain ⟨u0, l0, rfl, m0, s0⟩ := open_doc (hval 0 24 v0 rfl rfl) h0 (fun n hn => by have := List.all_eq_true.1 hz' n (DataW.weights_mem_each (j := 0) (t := 24) rfl rfl n hn); simpa using this)
  clear hA0
  simp only [List.append_nil] at hW' hlt
  have hLL : T1.Laid W := T1.laid_of hL
  have hbk := of_decide_eq_true hk
  simp only [List.append_nil, Rows.uptoBulkAll] at hbk
  refine (texts_row u0 l0 W m0 (s0 (by omega)) (fun w' hb' => hLL.below hb')).mono fun e W' ⟨he, hb⟩ => ?_
  subst he
  exact ⟨_, rfl, _, _, _, [], _, [], hW', trodAll_cons_mk (shut_bool Tryz.underlying4 _) trodAll_mk0, trodAll_cons_mk (Below.trod laidOut (by kernel_rfl) (of_decide_eq_true (by kernel_rfl)) k0 hb (fun x hx => hlt x (by simp [hx]))) (trodAll_mk0), rfl, hb.frame _, fun h => by cases h⟩
set_option maxRecDepth 1000000 in
theorem lifted (os : Os) (started : os.Started) (H : Type) (enc : TypeId × Value → H) (F : Stop.Interp) :
    ReturnsInHanded {} Tryz.checked os 3 .any ((Rows.OpenSpec.upto Rows.sdlprintTextsSpec).preRow enc Tryz.prog Tryz.f3 Rows.sdlprintTextsUptoRow.domain false Rows.sdlprintTextsUptoRow.laid) (((Rows.OpenSpec.upto Rows.sdlprintTextsSpec).at F).post enc Tryz.prog Tryz.f3 false true false false) := by
  have hx : DataW.whole enc Tryz.prog ((T1.laidWorld os).forCall (fun _ _ => 0) ⟨#[], #[.agg #[.slice none 0 0]], []⟩).memory Tryz.f3.params.toList Rows.sdlprintTextsSpec.vars false (#[.agg #[.slice none 0 0]] : Array Value).toList 8 = some ([.agg [.nil]], [], []) := by kernel_rfl
  refine returnsInHanded_of_row (C := Tryz.checked) (s := Rows.OpenSpec.upto Rows.sdlprintTextsSpec) own started (by kernel_rfl) Tryz.func3
    (witness_row_atRef (enc := enc) (C := Tryz.checked) false (T1.laidWorld os) #[.agg #[.slice none 0 0]] (T1.laid_os os) (by kernel_rfl) (by kernel_rfl) (by kernel_rfl)
      (OpenSpec.preRow_of_cond 8 hx (by kernel_rfl) (fun k hk => by cases hk; kernel_rfl) (by kernel_rfl) (T1.laid_met os _))) ?_
  intro W base args ds gs before hval hW _ hcond hz hL _ _
  exact contract H enc W base args ds gs before hval hW hz (hcond _ rfl) hL
end Go.Proofs.YtieklhplalgmmaaGreatDoor.sdlprintTexts
