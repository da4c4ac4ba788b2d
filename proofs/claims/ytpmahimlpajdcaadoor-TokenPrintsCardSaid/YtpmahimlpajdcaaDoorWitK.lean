
/-
  That the program's types are laid out: what a list that came in reads as behind a call.
-/
import Derived.Test.YtpmahimlpajdcaaDoorKLaid
import Derived.ChangeSame
import Derived.JoinedOf
import Derived.JoinedAt
import Derived.RowKit
import Derived.RowKit2
import Derived.ReadAgain
import Derived.Carry
import Derived.SizedLaws
namespace Go.Proofs.YtpmahimlpajdcaaDoor
open Go.ChangeShapes Go.WideShapes Go.ChangeAt Go.RowKit
theorem laidOut : laidOutB Tryd.prog = true := by kernel_rfl
end Go.Proofs.YtpmahimlpajdcaaDoor
