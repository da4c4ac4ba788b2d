
/-
  The world of the witness, and the step from a contract to a row that lists no variable.
-/
import Derived.Test.YtgbckpihlklnlaaDoorOpen
import Derived.Test.YtgbckpihlklnlaaDoorRows
import Derived.ChangeSame
import Derived.JoinedOf
import Derived.JoinedAt
import Derived.RowKit
import Derived.RowKit2
import Derived.ReadAgain
import Derived.Carry
import Derived.SizedLaws
namespace Go.Proofs.YtgbckpihlklnlaaDoor
open Go.ChangeShapes Go.WideShapes Go.ChangeAt Go.RowKit
theorem own : ownKnob Tryd.prog.godebug = none := by kernel_rfl
theorem laidOut : laidOutB Tryd.prog = true := by kernel_rfl
end Go.Proofs.YtgbckpihlklnlaaDoor
