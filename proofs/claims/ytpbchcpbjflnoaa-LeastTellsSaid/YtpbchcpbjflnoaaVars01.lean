/-
  Plus and Times with their values and errors named.
-/
import Derived.Test.YtpbchcpbjflnoaaLeaf
import Derived.Test.YtpbchcpbjflnoaaNumb
namespace Go.Proofs.Ytpbchcpbjflnoaa
open Go.RowKit

end Go.Proofs.Ytpbchcpbjflnoaa
