/-
  Contracts of the small functions of package safe.
-/
import Derived.Test.YtpbchcpbjflnoaaRows
import Derived.Test.YtpbchcpbjflnoaaNums
import Derived.WalkKit
import Derived.WalkSpells
import Derived.Lib.Hide
import Derived.WalkLawsBesides
namespace Go.Proofs.Ytpbchcpbjflnoaa
open Go.RowKit

end Go.Proofs.Ytpbchcpbjflnoaa
