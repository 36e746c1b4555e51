/-
  Contracts of the small functions of package safe.
-/
import Derived.Test.YtmdekgcgfcdppaaRows
import Derived.Test.YtmdekgcgfcdppaaNums
import Derived.WalkKit
import Derived.WalkSpells
import Derived.Lib.Hide
import Derived.WalkLawsBesides
namespace Go.Proofs.Ytmdekgcgfcdppaa
open Go.RowKit

end Go.Proofs.Ytmdekgcgfcdppaa
