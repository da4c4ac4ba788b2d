/-
  Contract of the reference's node.
-/
import Derived.Test.YtfnblnohapiniaaRNodeA
import Derived.Test.YtfnblnohapiniaaRNodeB
import Derived.Test.YtfnblnohapiniaaRNodeC
import Derived.Test.YtfnblnohapiniaaRNodeE
import Derived.Test.YtfnblnohapiniaaRRight
namespace Go.Proofs.Ytfnblnohapiniaa
open Go.RowKit
theorem rnode_any : RNodeAt := by
  intro lit t w B v h hB
  obtain ⟨k, n, s, items, keys⟩ := t
  by_cases k0 : k = 0
  · subst k0; exact rnode_0 lit n s items keys w B v h hB
  by_cases k1 : k = 1
  · subst k1; exact rnode_1 lit n s items keys w B v h hB
  by_cases k2 : k = 2
  · subst k2; exact rnode_2 lit n s items keys w B v h hB
  by_cases k3 : k = 3
  · subst k3; exact rnode_3 lit n s items keys w B v h hB
  by_cases k4 : k = 4
  · subst k4; exact rnode_4 lit n s items keys w B v h hB
  by_cases k5 : k = 5
  · subst k5; exact rnode_5 lit n s items keys w B v h hB
  by_cases k6 : k = 6
  · subst k6; exact rnode_6 lit n s items keys w B v h hB
  by_cases k7 : k = 7
  · subst k7; exact rnode_7 lit n s items keys w B v h hB
  exact rnode_else lit k n s items keys w B v h hB k0 k1 k2 k3 k4 k5 k6 k7
end Go.Proofs.Ytfnblnohapiniaa
