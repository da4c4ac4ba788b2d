
/-
 For every two documents of bulk at most 1048576 together the law SdlprintSames returns true: Same reports whether any two documents are equal, and right documents with the same text are; conditions: the bulk, and the values that the listed package variables start with.
-/
import Derived.Test.YtfgelheiknmjgaaGreatDoorZs47
namespace Go.Proofs.YtfgelheiknmjgaaGreatDoor.sdlprintSames
open Go.ChangeShapes Go.WideShapes Go.ChangeAt Go.RowKit
theorem s_named : Tryz.prog.funcNamed "supergraph/supergraphlaw07.SdlprintSames" = some 6 := by kernel_rfl
theorem s_place : Tryz.prog.inPlace 6 = Rows.sdlprintSamesUptoRow.inPlace := by kernel_rfl
theorem s_unf : Tryz.prog.unfollowed 6 = true := by kernel_rfl
theorem s_rec : Tryz.prog.recurses 6 = true := by kernel_rfl
theorem s_vars : Tryz.prog.varsNamed 6 = Rows.sdlprintSamesUptoRow.named := by kernel_rfl
theorem s_laid : laidOutB Tryz.prog = true := by kernel_rfl
theorem s_rowed : mapsRowed Tryz.prog = true := by kernel_rfl
theorem s_closed : joinedFacts Tryz.prog 6 Tryz.f6 (Rows.OpenSpec.upto Rows.sdlprintSamesSpec).bare Rows.sdlprintSamesUptoRow = true := by
 unfold joinedFacts
 rw [s_place, s_unf, s_rec, s_vars, s_laid, s_rowed]
 kernel_rfl
theorem s_inst : Tryz.f6.isInstance Tryz.prog Rows.sdlprintSamesUptoRow.origin Rows.sdlprintSamesUptoRow.targs := of_decide_eq_true (by kernel_rfl)
theorem s_wrap : Tryz.f6.isWrapper Tryz.prog Rows.sdlprintSamesUptoRow.wrapper Rows.sdlprintSamesUptoRow.mainSum := by unfold Func.isWrapper; first | (rw [if_pos (by decide +kernel)]; kernel_rfl) | (rw [if_neg (by decide +kernel)]; exact ⟨rfl, rfl⟩)
theorem said : Rows.SdlprintSamesUptoSaid :=
 OpenClaim.holds_of_cond 6 Tryz.f6 rfl rfl rfl rfl rfl rfl rfl ⟨rfl, rfl, rfl, rfl, rfl⟩ rfl rfl rfl rfl rfl s_named Tryz.func6 s_closed s_inst s_wrap
  (fun os started H enc _ F => by rw [OpenClaim.pre_eq_preRow]; exact lifted os started H enc F)
set_option maxRecDepth 1000000 in
theorem plain (f : FuncId) (fn : Func) (hf : Tryz.pinned.checked.prog.funcNamed "supergraph/supergraphlaw07.SdlprintSames" = some f) (hfn : Tryz.pinned.checked.prog.funcs[f]? = some fn) :
  true = Tryz.pinned.checked.prog.looks [] ∧ ∀ (j : Nat) t, fn.params[j]? = some t → Tryz.pinned.checked.prog.wantsStandIn t = false := by
 obtain rfl : f = 6 := Option.some.inj ((show Tryz.prog.funcNamed "supergraph/supergraphlaw07.SdlprintSames" = some 6 by kernel_rfl).symm.trans hf) |>.symm
 obtain rfl : fn = Tryz.f6 := (Option.some.inj (Tryz.func6.symm.trans hfn)).symm
 refine ⟨by kernel_rfl, fun j t ht => ?_⟩
 rw [Tryz.params6] at ht
 obtain rfl : t = 24 := by have := Array.mem_of_getElem? ht; simpa using this
 exact (show Tryz.prog.wantsStandIn 24 = false by kernel_rfl)
set_option maxRecDepth 1000000 in
theorem card : Rows.SdlprintSamesUptoCardSaid :=
 Claim7.holds_tied_plain_at .later [] _ _ _ _ said (fun _ h => by cases h) (by kernel_rfl) (fun _ h => by cases h) sdlprintSamesUpto_row_tie rfl ⟨rfl, rfl⟩ (by kernel_rfl) rfl plain (by kernel_rfl)
end Go.Proofs.YtfgelheiknmjgaaGreatDoor.sdlprintSames
