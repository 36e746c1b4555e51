/-
  Contracts of quotient and Div of package big.
-/
import Derived.Test.YtgmhcgmaidnbeaaDiv64
import Derived.Deep.RegionHeld3
import Derived.Deep.DeepCutAuto
import Derived.Deep.RegionHeld3
import Derived.Deep.RegionWith
namespace Go.Proofs.Ytgmhcgmaidnbeaa
open Go.RowKit

end Go.Proofs.Ytgmhcgmaidnbeaa
