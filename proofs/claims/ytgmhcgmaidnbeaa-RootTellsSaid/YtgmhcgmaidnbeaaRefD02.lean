/-
  Contracts of Add and Cmp of the document's answer, package sawtoothref02.
-/
import Derived.Test.YtgmhcgmaidnbeaaRefB02
import Derived.Test.YtgmhcgmaidnbeaaRefC02
namespace Go.Proofs.Ytgmhcgmaidnbeaa
open Go.RowKit Go.BigFrame

section
variable {b1 b2 b : Bool} {xh xl yh yl h l : Int}
theorem dig_b {x : Int} (hx : Word x) : 0 ≤ x % 4294967296 ∧ x % 4294967296 < 4294967296 ∧ 0 ≤ x / 4294967296 ∧ x / 4294967296 < 4294967296 := by unfold Word at hx; omega
theorem refLess_sz (h1 : Word xh) (h2 : Word xl) (h3 : Word yh) (h4 : Word yl) (w : World) :
    Calls Try.prog 42 #[.agg #[.int .u64 (xl % 4294967296), .int .u64 (xl / 4294967296), .int .u64 (xh % 4294967296), .int .u64 (xh / 4294967296)], .agg #[.int .u64 (yl % 4294967296), .int .u64 (yl / 4294967296), .int .u64 (yh % 4294967296), .int .u64 (yh / 4294967296)]] w fun e w' => e = .returned (.bool (decide (sz xh xl < sz yh yl))) ∧ Kept w w' := by
  have a := dig_b h1; have b := dig_b h2; have c := dig_b h3; have d := dig_b h4
  have := refLess (xl % 4294967296) (xl / 4294967296) (xh % 4294967296) (xh / 4294967296) (yl % 4294967296) (yl / 4294967296) (yh % 4294967296) (yh / 4294967296) w (by omega) (by omega) (by omega) (by omega) (by omega) (by omega) (by omega) (by omega) (by omega) (by omega) (by omega) (by omega)
  rw [show decide (sz xh xl < sz yh yl) = decide ((xh / 4294967296 * 79228162514264337593543950336 + xh % 4294967296 * 18446744073709551616 + xl / 4294967296 * 4294967296 + xl % 4294967296) < (yh / 4294967296 * 79228162514264337593543950336 + yh % 4294967296 * 18446744073709551616 + yl / 4294967296 * 4294967296 + yl % 4294967296)) by rw [decide_eq_decide]; unfold sz; omega]
  exact this
end
end Go.Proofs.Ytgmhcgmaidnbeaa
