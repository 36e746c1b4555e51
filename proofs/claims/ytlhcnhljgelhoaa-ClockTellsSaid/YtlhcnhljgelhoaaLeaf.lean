/-
  Contracts of the small functions of package safe.
-/
import Derived.Test.YtlhcnhljgelhoaaRows
import Derived.Test.YtlhcnhljgelhoaaNums
import Derived.WalkKit
import Derived.WalkSpells
import Derived.Lib.Hide
import Derived.WalkLawsBesides
namespace Go.Proofs.Ytlhcnhljgelhoaa
open Go.RowKit

end Go.Proofs.Ytlhcnhljgelhoaa
