/-
  What the reference takes for a right node.
-/
import Derived.Test.YtfnblnohapiniaaNode
import Derived.Test.YtfnblnohapiniaaTwice
namespace Go.Proofs.Ytfnblnohapiniaa
open Go.RowKit
def rnodeB (lit : Bool) : VT → Bool
  | .mk k n s is ks =>
    if k = 0 then decide (n = 0) && decide (s.size = 0) && leafB is ks
    else if k = 1 then (decide (n = 0) || decide (n = 1)) && decide (s.size = 0) && leafB is ks
    else if k = 2 then decide (s.size = 0) && leafB is ks
    else if k = 3 then decide (n = 0) && leafB is ks
    else if k = 4 then decide (n = 0) && leafB is ks && enumB s
    else if k = 5 then decide (n = 0) && decide (s.size = 0) && decide (ks.length = 0)
    else if k = 6 then decide (n = 0) && decide (s.size = 0) && decide (ks.length = is.length) && decide ks.Nodup
    else if k = 7 then lit && decide (n = 0) && leafB is ks && nmA s
    else false
end Go.Proofs.Ytfnblnohapiniaa
