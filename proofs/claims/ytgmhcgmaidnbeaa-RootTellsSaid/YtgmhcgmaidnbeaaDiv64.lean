/-
  A contract of the library's Div64, walked through its own text.
-/
import Derived.Test.YtgmhcgmaidnbeaaRooms
import Derived.Test.YtgmhcgmaidnbeaaKnuth
import Derived.Deep.CutBlock
import Derived.Deep.DeepCutAuto
namespace Go.Proofs.Ytgmhcgmaidnbeaa
open Go.RowKit

/-- The first loop's end, and the second one's: the true quotient. -/
theorem u64_wrap (n : Int) (h0 : 0 ≤ n) (h1 : n < 18446744073709551616) (m : Int) (h : m % 18446744073709551616 = n % 18446744073709551616) : m % 18446744073709551616 = n := by omega

end Go.Proofs.Ytgmhcgmaidnbeaa
