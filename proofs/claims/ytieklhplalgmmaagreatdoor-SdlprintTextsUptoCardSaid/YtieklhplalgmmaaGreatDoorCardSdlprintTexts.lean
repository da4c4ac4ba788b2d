
/-
  For every document of bulk at most 1048576 the law SdlprintTexts returns true: the text of a right document is the one of the reference; conditions: the bulk, and the values that the listed package variables start with.
-/
import Derived.Test.YtieklhplalgmmaaGreatDoorVr19
namespace Go.Proofs.YtieklhplalgmmaaGreatDoor.sdlprintTexts
open Go.ChangeShapes Go.WideShapes Go.ChangeAt Go.RowKit
theorem s_named : Tryz.prog.funcNamed "supergraph/supergraphlaw07.SdlprintTexts" = some 3 := by kernel_rfl
theorem s_place : Tryz.prog.inPlace 3 = Rows.sdlprintTextsUptoRow.inPlace := by kernel_rfl
theorem s_unf : Tryz.prog.unfollowed 3 = true := by kernel_rfl
theorem s_rec : Tryz.prog.recurses 3 = true := by kernel_rfl
theorem s_vars : Tryz.prog.varsNamed 3 = Rows.sdlprintTextsUptoRow.named := by kernel_rfl
theorem s_laid : laidOutB Tryz.prog = true := by kernel_rfl
theorem s_rowed : mapsRowed Tryz.prog = true := by kernel_rfl
theorem s_closed : joinedFacts Tryz.prog 3 Tryz.f3 (Rows.OpenSpec.upto Rows.sdlprintTextsSpec).bare Rows.sdlprintTextsUptoRow = true := by
  unfold joinedFacts
  rw [s_place, s_unf, s_rec, s_vars, s_laid, s_rowed]
  kernel_rfl
theorem s_inst : Tryz.f3.isInstance Tryz.prog Rows.sdlprintTextsUptoRow.origin Rows.sdlprintTextsUptoRow.targs := of_decide_eq_true (by kernel_rfl)
theorem s_wrap : Tryz.f3.isWrapper Tryz.prog Rows.sdlprintTextsUptoRow.wrapper Rows.sdlprintTextsUptoRow.mainSum := by unfold Func.isWrapper; first | (rw [if_pos (by decide +kernel)]; kernel_rfl) | (rw [if_neg (by decide +kernel)]; exact ⟨rfl, rfl⟩)
theorem said : Rows.SdlprintTextsUptoSaid :=
  OpenClaim.holds_of_cond 3 Tryz.f3 rfl rfl rfl rfl rfl rfl rfl ⟨rfl, rfl, rfl, rfl, rfl⟩ rfl rfl rfl rfl rfl s_named Tryz.func3 s_closed s_inst s_wrap
    (fun os started H enc _ F => by rw [OpenClaim.pre_eq_preRow]; exact lifted os started H enc F)
set_option maxRecDepth 1000000 in
theorem plain (f : FuncId) (fn : Func) (hf : Tryz.pinned.checked.prog.funcNamed "supergraph/supergraphlaw07.SdlprintTexts" = some f) (hfn : Tryz.pinned.checked.prog.funcs[f]? = some fn) :
    false = Tryz.pinned.checked.prog.looks [] ∧ ∀ (j : Nat) t, fn.params[j]? = some t → Tryz.pinned.checked.prog.wantsStandIn t = false := by
  obtain rfl : f = 3 := Option.some.inj ((show Tryz.prog.funcNamed "supergraph/supergraphlaw07.SdlprintTexts" = some 3 by kernel_rfl).symm.trans hf) |>.symm
  obtain rfl : fn = Tryz.f3 := (Option.some.inj (Tryz.func3.symm.trans hfn)).symm
  refine ⟨by kernel_rfl, fun j t ht => ?_⟩
  rw [Tryz.params3] at ht
  obtain rfl : t = 24 := by simpa using Array.mem_of_getElem? ht
  exact (show Tryz.prog.wantsStandIn 24 = false by kernel_rfl)
set_option maxRecDepth 1000000 in
theorem card : Rows.SdlprintTextsUptoCardSaid :=
  Claim7.holds_tied_plain_at .later [] _ _ _ _ said (fun _ h => by cases h) (by kernel_rfl) (fun _ h => by cases h) sdlprintTextsUpto_row_tie rfl ⟨rfl, rfl⟩ (by kernel_rfl) rfl plain (by kernel_rfl)
end Go.Proofs.YtieklhplalgmmaaGreatDoor.sdlprintTexts
