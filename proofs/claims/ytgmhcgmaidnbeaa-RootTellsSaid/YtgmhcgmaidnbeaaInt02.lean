/-
  Contracts of Int of package big.
-/
import Derived.Test.YtgmhcgmaidnbeaaCmp02
import Derived.Deep.RegionHeld3
import Derived.Deep.DeepCutAuto
namespace Go.Proofs.Ytgmhcgmaidnbeaa
open Go.RowKit

variable (b : Bool) (xh xl r1 r2 : Int) (w : World)
end Go.Proofs.Ytgmhcgmaidnbeaa
