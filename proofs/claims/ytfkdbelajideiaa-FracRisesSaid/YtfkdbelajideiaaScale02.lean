/-
  Contracts of Mul and Scale of package big.
-/
import Derived.Test.YtfkdbelajideiaaAdd02
import Derived.Deep.RegionHeld3
import Derived.Deep.DeepCutAuto
namespace Go.Proofs.Ytfkdbelajideiaa
open Go.RowKit

set_option maxHeartbeats 800000 in
theorem Mul_any (a b ma mb h l : Int) (s1 s2 : Bool) (w : World) (h1 : decide (a < 0) = s1) (h2 : decide (b < 0) = s2) (C1 : ∀ w, Calls Try.prog 50 #[.int .i64 a] w fun e w' => e = .returned (.int .u64 ma) ∧ w = w') (C2 : ∀ w, Calls Try.prog 50 #[.int .i64 b] w fun e w' => e = .returned (.int .u64 mb) ∧ w = w') (C3 : ∀ w, Calls Try.prog 49 #[.int .u64 ma, .int .u64 mb] w fun e w' => e = .returned (.tuple #[.int .u64 h, .int .u64 l]) ∧ w = w') :
    Calls Try.prog 37 #[.int .i64 a, .int .i64 b] w fun e w' => e = .returned (.agg #[.bool ((s1 != s2) && nz h l), .int .u64 h, .int .u64 l]) ∧ Kept w w' := by
  have D1 := Lib.hid C1
  have D2 := Lib.hid C2
  have D3 := Lib.hid C3
  clear C1 C2 C3
  go_enter Try.func37, Try.ntmps37
  go_wp2_with fail
  refine (D1.out _).mono ?_
  rintro e w1 ⟨rfl, rfl⟩
  go_wp2_with fail
  refine (D2.out _).mono ?_
  rintro e w1 ⟨rfl, rfl⟩
  go_wp2_with fail
  refine (D3.out _).mono ?_
  rintro e w1 ⟨rfl, rfl⟩
  go_wp2_with fail
  refine (on_any (s1 != s2) _ _ _).mono ?_
  rintro e w1 ⟨rfl, k1⟩
  obtain ⟨x, y, z, a1, a2, a3, b1, b2, b3⟩ : Room3 w1 w.heap.size := Room3.kept (by exact ⟨_, _, _, by first | (simp [go_sem]; done) | (simp [go_sem]; rfl), by first | (simp [go_sem]; done) | (simp [go_sem]; rfl), by first | (simp [go_sem]; done) | (simp [go_sem]; rfl), by simp [go_sem], by simp [go_sem], by simp [go_sem]⟩) k1
  go_wp2
  simp [bodyPost, results, Try.results37, go_sem, *]
  exact (by (repeat (first | with_reducible exact Kept.refl _ | with_reducible apply Kept.drew | with_reducible apply Kept.alloc | ((with_reducible apply Kept.set); focus (simp <;> omega)) | ((with_reducible apply Kept.via); focus with_reducible assumption))))
end Go.Proofs.Ytfkdbelajideiaa
