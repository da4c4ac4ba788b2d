
/-
  For every document of bulk at most 1048576 the law SdlRights returns true: Right reports whether any document is right; conditions: the bulk, and the values that the listed package variables start with.
-/
import Derived.Test.YtajljnehlncjhaaGreatDoorP3
import Derived.Test.YtajljnehlncjhaaGreatDoorP7
import Derived.Test.YtajljnehlncjhaaGreatDoorP25
namespace Go.Proofs.YtajljnehlncjhaaGreatDoor.sdlRights
open Go.ChangeShapes Go.WideShapes Go.ChangeAt Go.RowKit
set_option maxRecDepth 100000 in
theorem open_doc {H : Type} {enc : TypeId × Value → H} {W : World} {spare : Nat → Bool} {held : Bool} {base : Nat} {v : Value} {d : DataW H} {p : List MemPlace} (hok : Value.okWide Tryz.prog W .any base 25 v) (h : DataW.Trod enc Tryz.prog W 0 spare held 25 v d p)
    (hw : ∀ n ∈ d.weights Tryz.prog 25, n ≤ reachBytes) : ∃ u l, v = .agg #[u] ∧ DefsR W W.heap.size u l ∧ (Rows.uptoBulk d ≤ 1099511627776 → defsS l) := by
  obtain ⟨cs0, rfl, _⟩ := okWide_struct Tryz.underlying25 hok
  obtain ⟨fuel, hf0⟩ := h
  obtain ⟨xs, n, rfl, hx, hl, hxl, hf⟩ := DataW.trod_struct Tryz.underlying25 hf0
  rw [show Tryz.prog.cellsOf 25 = 1 by kernel_rfl] at hl
  obtain ⟨c0, e0⟩ : ∃ c0, cs0 = #[c0] := by
    have : cs0.toList.length = 1 := by simpa [Value.cells] using hl
    match hq : cs0.toList, this with
    | [c0], _ => exact ⟨c0, Array.toList_inj.1 hq⟩
  subst e0
  match xs, hxl with
  | [x0], _ =>
  have f0 : DataW.trod enc Tryz.prog W 0 spare held n 23 [c0] = some x0 := by
    have this : DataW.trod enc Tryz.prog W 0 spare held n 23 ((([c0] : List Value).drop 0).take (Tryz.prog.cellsOf 23)) = some x0 := hf 0 _ rfl
    rw [show Tryz.prog.cellsOf 23 = 1 by kernel_rfl] at this; exact this
  simp only [Prod.mk.injEq] at hx
  obtain ⟨rfl, _⟩ := hx
  have hw' : ∀ q ∈ (x0.1.weights Tryz.prog 23 ++ []), q ≤ reachBytes := by
    intro q hq
    refine hw q ?_
    simpa only [DataW.weights, Tryz.underlying25, DataW.weightsEach, List.map_cons, List.map_nil] using hq
  obtain ⟨A, l, c, ys, e1, hsl, hS⟩ := open_rows (enc := enc) (spare := spare) (held := held) 45 23 7 144 DefR (fun x => dirsS x.dirs ∧ inpsS x.inputs ∧ fldsS x.fields ∧ memsS x.members ∧ x.impl.length ≤ 17592186044416) Tryz.underlying23 (by kernel_rfl) (by decide) (by kernel_rfl) DefT0 open_Def f0 (fun q hq => hw' q (by simp [hq]))
  simp only [List.cons.injEq, and_true] at e1
  subst e1
  exact ⟨_, ys, rfl, hsl, fun hB => hS (by simp only [Rows.uptoBulk, Rows.uptoBulkAll, List.map_cons, List.map_nil] at hB; omega)⟩
set_option maxRecDepth 1000000 in
set_option maxHeartbeats 2000000 in
theorem contract (H : Type) (enc : TypeId × Value → H) (W : World) (base : Nat) (args : Array Value) (ds gs : List (DataW H)) (before : List MemPlace)
    (hval : ∀ (j : Nat) t v, Tryz.f4.params[j]? = some t → args[j]? = some v → Value.okWide Tryz.prog W .any base t v)
    (hW : DataW.Whole enc Tryz.prog Tryz.f4.params.toList Rows.sdlRightsSpec.vars false W args.toList ds gs before)
    (hz : (DataW.weightsEach Tryz.prog (Tryz.f4.params.toList ++ (OpenSpec.ofChange Rows.sdlRightsSpec).bare.plain.varTypes Tryz.prog) (ds ++ gs)).all (· ≤ reachBytes) = true) (hk : Rows.uptoSmall H (ds ++ gs) = true) (hL : laidMetH Tryz.prog Rows.sdlRightsUptoRow.laid W) :
    Calls Tryz.prog 4 args W fun e W' => ∃ v, e = .returned v ∧ Rows.sdlRightsSpec.post enc Tryz.prog Tryz.f4 false true false false W args v W' := by
  have hW' := hW
  have hlt : ∀ x ∈ before, x.block < W.heap.size := fun x hx => by simpa using hW.lt x hx
  obtain ⟨p, q, hA0, hV, rfl, hfz, hnd⟩ := hW
  have hA : DataW.TrodAll enc Tryz.prog W 0 (fun _ => true) true Tryz.f4.params.toList args.toList ds p := hA0
  rw [Tryz.params4] at hA hval hz
  obtain ⟨v0, vs0, d0, ds0, p0, q0, hargs, rfl, rfl, h0, r0⟩ := trodAll_cons hA
  obtain ⟨rfl, rfl, rfl⟩ := trodAll_nil r0
  obtain rfl : args = #[v0] := by cases args; simp_all
  obtain ⟨rfl, rfl⟩ := trodVars_none hV
  have k0 := h0
  have hz' : (DataW.weightsEach Tryz.prog ((#[25] : Array TypeId).toList ++ []) ([d0] ++ [])).all (· ≤ reachBytes) = true := hz
  simp only [List.append_nil] at hz'
  obtain ⟨u0, l0, rfl, m0, s0⟩ := open_doc (hval 0 25 v0 rfl rfl) h0 (fun n hn => by have := List.all_eq_true.1 hz' n (DataW.weights_mem_each (j := 0) (t := 25) rfl rfl n hn); simpa using this)
  clear hA0
  simp only [List.append_nil] at hW' hlt
  have hLL : K.LK W := K.laid_of hL
  have hbk := of_decide_eq_true hk
  simp only [List.append_nil, Rows.uptoBulkAll] at hbk
  refine (rights_row u0 l0 W m0 (s0 (by omega)) hLL).mono fun e W' ⟨he, hb⟩ => ?_
  subst he
  exact ⟨_, rfl, _, _, _, [], _, [], hW', trodAll_cons_mk (shut_bool Tryz.underlying4 _) trodAll_mk0, trodAll_cons_mk (Below.trod laidOut (by kernel_rfl) (of_decide_eq_true (by kernel_rfl)) k0 hb (fun x hx => hlt x (by simp [hx]))) (trodAll_mk0), rfl, hb.frame _, fun h => by cases h⟩
set_option maxRecDepth 1000000 in
theorem lifted (os : Os) (started : os.Started) (H : Type) (enc : TypeId × Value → H) (F : Stop.Interp) :
    ReturnsInHanded {} Tryz.checked os 4 .any ((Rows.OpenSpec.upto Rows.sdlRightsSpec).preRow enc Tryz.prog Tryz.f4 Rows.sdlRightsUptoRow.domain false Rows.sdlRightsUptoRow.laid) (((Rows.OpenSpec.upto Rows.sdlRightsSpec).at F).post enc Tryz.prog Tryz.f4 false true false false) := by
  have hx : DataW.whole enc Tryz.prog ((K.laidWorld os).forCall (fun _ _ => 0) ⟨#[], #[.agg #[.slice none 0 0]], []⟩).memory Tryz.f4.params.toList Rows.sdlRightsSpec.vars false (#[.agg #[.slice none 0 0]] : Array Value).toList 8 = some ([.agg [.nil]], [], []) := by kernel_rfl
  refine returnsInHanded_of_row (C := Tryz.checked) (s := Rows.OpenSpec.upto Rows.sdlRightsSpec) K.own started (by kernel_rfl) Tryz.func4
    (witness_row_atRef (enc := enc) (C := Tryz.checked) false (K.laidWorld os) #[.agg #[.slice none 0 0]] (K.laid_os os) (by kernel_rfl) (by kernel_rfl) (by kernel_rfl)
      (OpenSpec.preRow_of_cond 8 hx (by kernel_rfl) (fun k hk => by cases hk; kernel_rfl) (by kernel_rfl) (K.laid_met os _))) ?_
  intro W base args ds gs before hval hW _ hcond hz hL _ _
  exact contract H enc W base args ds gs before hval hW hz (hcond _ rfl) hL
set_option maxRecDepth 1000000 in
theorem said : Rows.SdlRightsUptoSaid :=
  OpenClaim.holds_of_cond 4 Tryz.f4 rfl rfl rfl rfl rfl rfl rfl ⟨rfl, rfl, rfl, rfl, rfl⟩ rfl rfl rfl rfl rfl (by kernel_rfl) Tryz.func4 (by kernel_rfl)
    (of_decide_eq_true (by kernel_rfl)) (by unfold Func.isWrapper; first | (rw [if_pos (by decide +kernel)]; kernel_rfl) | (rw [if_neg (by decide +kernel)]; exact ⟨rfl, rfl⟩))
    (fun os started H enc _ F => by rw [OpenClaim.pre_eq_preRow]; exact lifted os started H enc F)
set_option maxRecDepth 1000000 in
theorem plain (f : FuncId) (fn : Func) (hf : Tryz.pinned.checked.prog.funcNamed "supergraph/supergraphlaw06.SdlRights" = some f) (hfn : Tryz.pinned.checked.prog.funcs[f]? = some fn) :
    true = Tryz.pinned.checked.prog.looks [] ∧ ∀ (j : Nat) t, fn.params[j]? = some t → Tryz.pinned.checked.prog.wantsStandIn t = false := by
  obtain rfl : f = 4 := Option.some.inj ((show Tryz.prog.funcNamed "supergraph/supergraphlaw06.SdlRights" = some 4 by kernel_rfl).symm.trans hf) |>.symm
  obtain rfl : fn = Tryz.f4 := (Option.some.inj (Tryz.func4.symm.trans hfn)).symm
  refine ⟨by kernel_rfl, fun j t ht => ?_⟩
  rw [Tryz.params4] at ht
  obtain rfl : t = 25 := by simpa using Array.mem_of_getElem? ht
  exact (show Tryz.prog.wantsStandIn 25 = false by kernel_rfl)
set_option maxRecDepth 1000000 in
theorem card : Rows.SdlRightsUptoCardSaid :=
  Claim7.holds_tied_plain_at .later [] _ _ _ _ said (fun _ h => by cases h) (by kernel_rfl) (fun _ h => by cases h) sdlRightsUpto_row_tie rfl ⟨rfl, rfl⟩ (by kernel_rfl) rfl plain (by kernel_rfl)
end Go.Proofs.YtajljnehlncjhaaGreatDoor.sdlRights
