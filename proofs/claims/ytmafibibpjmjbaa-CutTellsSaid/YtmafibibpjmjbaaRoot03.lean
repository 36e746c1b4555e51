/-
  Contracts of package root's halving, of its closures, and of both roots.
-/
import Derived.Test.YtmafibibpjmjbaaPow03
import Derived.Test.YtmafibibpjmjbaaRoom
import Derived.Deep.RegionHeld3
import Derived.Deep.CutBlock
import Derived.Deep.LoopGhost
import Derived.Deep.DeepCutAuto
namespace Go.Proofs.Ytmafibibpjmjbaa
open Go.RowKit

/-- Between two numbers, k steps in. -/
def Halving (n top : Int) (w : World) (s0 s5 s7 : Value) (wr : World) : Prop :=
  ∃ (lo hi : Int) (k : Nat), s0 = .int .u64 hi ∧ s5 = .int .u64 lo ∧ s7 = .int .i64 k ∧ 0 ≤ lo ∧ lo ≤ n ∧ n ≤ hi ∧ hi ≤ top ∧ k ≤ 64 ∧ hi - lo < 2 ^ (64 - k) ∧ Kept w wr
theorem two_half {k : Nat} (h : k < 64) : (2 : Int) ^ (64 - k) = 2 * 2 ^ (64 - (k + 1)) := by
  rw [show 64 - k = (64 - (k + 1)) + 1 by omega, Int.pow_succ, Int.mul_comm]

end Go.Proofs.Ytmafibibpjmjbaa
