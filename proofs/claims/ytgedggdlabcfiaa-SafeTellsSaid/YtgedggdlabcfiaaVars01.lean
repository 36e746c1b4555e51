/-
  Plus and Times with their values and errors named.
-/
import Derived.Test.YtgedggdlabcfiaaAwake01
import Derived.Test.YtgedggdlabcfiaaNumb
namespace Go.Proofs.Ytgedggdlabcfiaa
open Go.RowKit

theorem Plus_var (a b v x : Int) (w : World) (ha : In64 a) (hb : In64 b) (hv : overV (a + b) = v) (hx : overE (a + b) = x) :
    Calls Try.prog 10 #[.int .i64 a, .int .i64 b] w fun e w' => e = .returned (.tuple #[.int .i64 v, .int .i64 x]) ∧ w = w' := by
  subst hv; subst hx
  by_cases h : In64 (a + b)
  · rw [overV_in h, overE_in h]; exact Plus_ok a b w ha hb h
  · rw [overV_no h, overE_no h]; exact Plus_no a b w ha hb h

theorem Times_var (a b v x : Int) (w : World) (ha : In64 a) (hb : In64 b) (hv : overV (a * b) = v) (hx : overE (a * b) = x) :
    Calls Try.prog 12 #[.int .i64 a, .int .i64 b] w fun e w' => e = .returned (.tuple #[.int .i64 v, .int .i64 x]) ∧ w = w' := by
  subst hv; subst hx
  by_cases h : In64 (a * b)
  · rw [overV_in h, overE_in h]; exact Times_ok a b w ha hb h
  · rw [overV_no h, overE_no h]; exact Times_no a b w ha hb h

end Go.Proofs.Ytgedggdlabcfiaa
