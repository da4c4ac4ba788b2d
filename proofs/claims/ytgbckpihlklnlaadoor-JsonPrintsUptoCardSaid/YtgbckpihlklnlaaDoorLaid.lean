
/-
  What the laid package-level variables give; the world of the witness.
-/
import Derived.Test.YtgbckpihlklnlaaDoorTextNumber
import Derived.Test.YtgbckpihlklnlaaDoorCards
import Derived.Test.YtgbckpihlklnlaaDoorTie
import Derived.Deep.DeepWitnessRowRef
import Derived.Stop.LaidErr
import Derived.OpenShut
namespace Go.Proofs.YtgbckpihlklnlaaDoor.T1
open Go.ChangeShapes Go.WideShapes Go.ChangeAt Go.RowKit
theorem own : ownKnob Tryd.prog.godebug = none := by kernel_rfl
theorem gPowType : (Tryd.prog.globals[1]?).map (·.type) = some 108 := by kernel_rfl
theorem gRng : Tryd.prog.globalNamed "strconv.ErrRange" = some 3 := by kernel_rfl
theorem gRngType : (Tryd.prog.globals[3]?).map (·.type) = some 53 := by kernel_rfl
theorem cellsPow : Tryd.prog.cellsOf 108 = 20 := by kernel_rfl
theorem cellsU64 : Tryd.prog.cellsOf 93 = 1 := by kernel_rfl
theorem cellsErr : Tryd.prog.cellsOf 121 = 1 := by kernel_rfl
theorem cellsStr : Tryd.prog.cellsOf 9 = 1 := by kernel_rfl
theorem gRngStar : "*" ++ "errors.errorString" = "*errors.errorString" := by decide
theorem rowErr (u : TypeId) (h : Tryd.prog.typeName? 3 u = some "*errors.errorString") : u = 119 :=
  typeName_ptr_named (nm := "errors.errorString") (by rw [gRngStar]; kernel_rfl) (by kernel_rfl) (by decide) u (by rw [gRngStar]; exact h)
abbrev laidList : List (String × DataW Unit) := [("math/bits.deBruijn32tab", Rows.laid_math_bits_deBruijn32tab), ("math/bits.deBruijn64tab", Rows.laid_math_bits_deBruijn64tab), ("internal/strconv.uint64pow10", Rows.laid_internal_strconv_uint64pow10), ("strconv.ErrRange", Rows.laid_strconv_ErrRange), ("strconv.ErrSyntax", Rows.laid_strconv_ErrSyntax)]
theorem laid_of {W : World} (h : laidMet Tryd.prog laidList W) : Laid W := by
  refine ⟨Lib.tabIs_of_head gPow gPowType Tryd.underlying108 Tryd.underlying93 cellsU64 cellsPow h.tail.tail, ?_⟩
  obtain ⟨a, s, hv, _⟩ := laid_sentinel h.tail.tail.tail gRng gRngType Tryd.underlying53 rowErr Tryd.underlying119 Tryd.underlying121 rfl rfl Tryd.underlying9 cellsErr cellsStr
  exact ⟨_, _, by simpa using World.var?_cell gRng hv 0⟩
noncomputable def laidWorld (os : Os) : World := varsWorld Tryd.prog 100 (varsId Tryd.prog) os (fun _ _ => 0)
theorem laid_os (os : Os) : (laidWorld os).os = os := by kernel_rfl
theorem laid_met (os : Os) (args : Array Value) : laidMet Tryd.prog laidList ((laidWorld os).forCall (fun _ _ => 0) ⟨#[], args, []⟩).memory :=
  laidMet_of_run' 8 (by kernel_rfl) (by kernel_rfl)
end Go.Proofs.YtgbckpihlklnlaaDoor.T1
