/-
  A word that is well formed is one of 64 bits.
-/
import Derived.Test.YtbpdimogigcacaaWide
namespace Go.Proofs.Ytbpdimogigcacaa
open Go.RowKit

theorem wordWf {a : Int} (h : (Lit.int .u64 a).wf = true) : Word a := by
  have := bounds_u64 h; unfold Word; omega
theorem in64Wf {a : Int} (h : (Lit.int .i64 a).wf = true) : In64 a := in64_of_wf h

end Go.Proofs.Ytbpdimogigcacaa
