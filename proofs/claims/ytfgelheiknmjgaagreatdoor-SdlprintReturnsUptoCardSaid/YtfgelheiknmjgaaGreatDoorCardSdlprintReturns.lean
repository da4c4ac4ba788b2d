
/-
 For every document of bulk at most 1048576 the law SdlprintReturns returns true: a right document is read as it was written; conditions: the bulk, and the values that the listed package variables start with.
-/
import Derived.Test.YtfgelheiknmjgaaGreatDoorZt47
namespace Go.Proofs.YtfgelheiknmjgaaGreatDoor.sdlprintReturns
open Go.ChangeShapes Go.WideShapes Go.ChangeAt Go.RowKit
theorem s_named : Tryz.prog.funcNamed "supergraph/supergraphlaw07.SdlprintReturns" = some 5 := by kernel_rfl
theorem s_place : Tryz.prog.inPlace 5 = Rows.sdlprintReturnsUptoRow.inPlace := by kernel_rfl
theorem s_unf : Tryz.prog.unfollowed 5 = true := by kernel_rfl
theorem s_rec : Tryz.prog.recurses 5 = true := by kernel_rfl
theorem s_vars : Tryz.prog.varsNamed 5 = Rows.sdlprintReturnsUptoRow.named := by kernel_rfl
theorem s_laid : laidOutB Tryz.prog = true := by kernel_rfl
theorem s_rowed : mapsRowed Tryz.prog = true := by kernel_rfl
theorem s_closed : joinedFacts Tryz.prog 5 Tryz.f5 (Rows.OpenSpec.upto Rows.sdlprintReturnsSpec).bare Rows.sdlprintReturnsUptoRow = true := by
 unfold joinedFacts
 rw [s_place, s_unf, s_rec, s_vars, s_laid, s_rowed]
 kernel_rfl
theorem s_inst : Tryz.f5.isInstance Tryz.prog Rows.sdlprintReturnsUptoRow.origin Rows.sdlprintReturnsUptoRow.targs := of_decide_eq_true (by kernel_rfl)
theorem s_wrap : Tryz.f5.isWrapper Tryz.prog Rows.sdlprintReturnsUptoRow.wrapper Rows.sdlprintReturnsUptoRow.mainSum := by unfold Func.isWrapper; first | (rw [if_pos (by decide +kernel)]; kernel_rfl) | (rw [if_neg (by decide +kernel)]; exact ⟨rfl, rfl⟩)
theorem said : Rows.SdlprintReturnsUptoSaid :=
 OpenClaim.holds_of_cond 5 Tryz.f5 rfl rfl rfl rfl rfl rfl rfl ⟨rfl, rfl, rfl, rfl, rfl⟩ rfl rfl rfl rfl rfl s_named Tryz.func5 s_closed s_inst s_wrap
  (fun os started H enc _ F => by rw [OpenClaim.pre_eq_preRow]; exact lifted os started H enc F)
set_option maxRecDepth 1000000 in
theorem plain (f : FuncId) (fn : Func) (hf : Tryz.pinned.checked.prog.funcNamed "supergraph/supergraphlaw07.SdlprintReturns" = some f) (hfn : Tryz.pinned.checked.prog.funcs[f]? = some fn) :
  true = Tryz.pinned.checked.prog.looks [] ∧ ∀ (j : Nat) t, fn.params[j]? = some t → Tryz.pinned.checked.prog.wantsStandIn t = false := by
 obtain rfl : f = 5 := Option.some.inj ((show Tryz.prog.funcNamed "supergraph/supergraphlaw07.SdlprintReturns" = some 5 by kernel_rfl).symm.trans hf) |>.symm
 obtain rfl : fn = Tryz.f5 := (Option.some.inj (Tryz.func5.symm.trans hfn)).symm
 refine ⟨by kernel_rfl, fun j t ht => ?_⟩
 rw [Tryz.params5] at ht
 obtain rfl : t = 24 := by simpa using Array.mem_of_getElem? ht
 exact (show Tryz.prog.wantsStandIn 24 = false by kernel_rfl)
set_option maxRecDepth 1000000 in
theorem card : Rows.SdlprintReturnsUptoCardSaid :=
 Claim7.holds_tied_plain_at .later [] _ _ _ _ said (fun _ h => by cases h) (by kernel_rfl) (fun _ h => by cases h) sdlprintReturnsUpto_row_tie rfl ⟨rfl, rfl⟩ (by kernel_rfl) rfl plain (by kernel_rfl)
end Go.Proofs.YtfgelheiknmjgaaGreatDoor.sdlprintReturns
