/-
  Plus and Times with their values and errors named.
-/
import Derived.Test.YtmdekgcgfcdppaaLeaf
import Derived.Test.YtmdekgcgfcdppaaNumb
namespace Go.Proofs.Ytmdekgcgfcdppaa
open Go.RowKit

end Go.Proofs.Ytmdekgcgfcdppaa
