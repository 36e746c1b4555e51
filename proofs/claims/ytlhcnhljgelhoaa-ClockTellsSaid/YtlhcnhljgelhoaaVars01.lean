/-
  Plus and Times with their values and errors named.
-/
import Derived.Test.YtlhcnhljgelhoaaLeaf
import Derived.Test.YtlhcnhljgelhoaaNumb
namespace Go.Proofs.Ytlhcnhljgelhoaa
open Go.RowKit

end Go.Proofs.Ytlhcnhljgelhoaa
