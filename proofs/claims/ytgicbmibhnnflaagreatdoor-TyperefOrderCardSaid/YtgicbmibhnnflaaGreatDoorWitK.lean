
/-
  That the program's types are laid out: what a list that came in reads as behind a call.
-/
import Derived.Test.YtgicbmibhnnflaaGreatDoorKLaid
import Derived.ChangeSame
import Derived.JoinedOf
import Derived.JoinedAt
import Derived.RowKit
import Derived.RowKit2
import Derived.ReadAgain
import Derived.Carry
import Derived.SizedLaws
namespace Go.Proofs.YtgicbmibhnnflaaGreatDoor
open Go.ChangeShapes Go.WideShapes Go.ChangeAt Go.RowKit
theorem laidOut : laidOutB Tryz.prog = true := by kernel_rfl
end Go.Proofs.YtgicbmibhnnflaaGreatDoor
