/-
  In one text: Add02, Less02, More02.
-/
import Derived.Test.YtdbikeehoildlaaDoorLowA02
import Derived.Test.YtdbikeehoildlaaDoorRoom
import Derived.Deep.RegionHeld3
import Derived.Deep.DeepCutAuto
namespace Go.Proofs.YtdbikeehoildlaaDoor
open Go.RowKit

set_option maxHeartbeats 400000 in
theorem unless_no (s : Bool) (h l : Int) (w : World) :
    Calls Tryd.prog 72 #[.agg #[.int .u64 h, .int .u64 l], .bool false, .func (Fn.func 52) #[.bool s] #[]] w fun e w' => e = .returned (.tuple #[.agg #[.bool false, .int .u64 0, .int .u64 0], .int .i64 10]) ∧ Kept w w' := by
  go_enter Tryd.func72, Tryd.ntmps72
  go_wp2
  simp [bodyPost, results, Tryd.results72, go_sem]
  exact (by repeat (first | exact Kept.refl _ | apply Kept.drew | apply Kept.alloc | (refine Kept.setCell ?_ (by simp <;> omega) _) | (refine Kept.trans ?_ (by assumption))))
set_option maxHeartbeats 400000 in
theorem unless_ok (s : Bool) (h l : Int) (w : World) :
    Calls Tryd.prog 72 #[.agg #[.int .u64 h, .int .u64 l], .bool true, .func (Fn.func 52) #[.bool s] #[]] w fun e w' => e = .returned (.tuple #[.agg #[.bool (s && nz h l), .int .u64 h, .int .u64 l], .int .i64 0]) ∧ Kept w w' := by
  go_enter Tryd.func72, Tryd.ntmps72
  go_wp2_with fail
  refine (on_any _ _ _ _).mono ?_
  rintro e w1 ⟨rfl, k1⟩
  obtain ⟨x, y, z, a1, a2, a3, b1, b2, b3⟩ : Room3 w1 (w.heap.size + 1) := Room3.kept (by exact ⟨_, _, _, by first | (simp [go_sem]; done) | (simp [go_sem]; rfl), by first | (simp [go_sem]; done) | (simp [go_sem]; rfl), by first | (simp [go_sem]; done) | (simp [go_sem]; rfl), by simp [go_sem], by simp [go_sem], by simp [go_sem]⟩) k1
  go_wp2
  simp [bodyPost, results, Tryd.results72, go_sem, *]
  exact (by repeat (first | exact Kept.refl _ | apply Kept.drew | apply Kept.alloc | (refine Kept.setCell ?_ (by simp <;> omega) _) | (refine Kept.trans ?_ (by assumption))))

end Go.Proofs.YtdbikeehoildlaaDoor
namespace Go.Proofs.YtdbikeehoildlaaDoor
open Go.RowKit

end Go.Proofs.YtdbikeehoildlaaDoor
namespace Go.Proofs.YtdbikeehoildlaaDoor
open Go.RowKit

end Go.Proofs.YtdbikeehoildlaaDoor
