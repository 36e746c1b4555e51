/-
  Contracts of the small functions of package big.
-/
import Derived.Test.YtfkdbelajideiaaBits
namespace Go.Proofs.Ytfkdbelajideiaa
open Go.RowKit

set_option maxHeartbeats 400000 in
theorem sizeOf_any (b : Bool) (h l : Int) (w : World) :
    Calls Try.prog 46 #[.agg #[.bool b, .int .u64 h, .int .u64 l]] w fun e w' => e = .returned (.agg #[.int .u64 h, .int .u64 l]) ∧ Kept w w' := by
  go_enter Try.func46, Try.ntmps46
  go_wp2
  simp [bodyPost, results, Try.results46, go_sem]
  exact (by repeat (first | exact Kept.refl _ | apply Kept.drew | apply Kept.alloc))

set_option maxHeartbeats 400000 in
theorem on_false (h l : Int) (w : World) :
    Calls Try.prog 48 #[.bool false, .agg #[.int .u64 h, .int .u64 l]] w fun e w' => e = .returned (.agg #[.bool false, .int .u64 h, .int .u64 l]) ∧ Kept w w' := by
  go_enter Try.func48, Try.ntmps48
  go_wp2
  go_region
  go_wp2
  simp [bodyPost, results, Try.results48, go_sem]
  exact (by repeat (first | exact Kept.refl _ | apply Kept.drew | apply Kept.alloc))
set_option maxHeartbeats 400000 in
theorem on_zero (w : World) :
    Calls Try.prog 48 #[.bool true, .agg #[.int .u64 0, .int .u64 0]] w fun e w' => e = .returned (.agg #[.bool false, .int .u64 0, .int .u64 0]) ∧ Kept w w' := by
  go_enter Try.func48, Try.ntmps48
  go_wp2
  go_region
  go_wp2
  simp [bodyPost, results, Try.results48, go_sem]
  exact (by repeat (first | exact Kept.refl _ | apply Kept.drew | apply Kept.alloc))
set_option maxHeartbeats 400000 in
theorem on_true (h l : Int) (w : World) (hn : ¬ (h = 0 ∧ l = 0)) :
    Calls Try.prog 48 #[.bool true, .agg #[.int .u64 h, .int .u64 l]] w fun e w' => e = .returned (.agg #[.bool true, .int .u64 h, .int .u64 l]) ∧ Kept w w' := by
  by_cases hh : h = 0
  · subst hh
    have hl : ¬ l = 0 := fun e => hn ⟨rfl, e⟩
    clear hn
    go_enter Try.func48, Try.ntmps48
    go_wp2
    go_region
    go_wp2
    simp [bodyPost, results, Try.results48, go_sem]
    exact (by repeat (first | exact Kept.refl _ | apply Kept.drew | apply Kept.alloc))
  · clear hn
    go_enter Try.func48, Try.ntmps48
    go_wp2
    go_region
    go_wp2
    simp [bodyPost, results, Try.results48, go_sem]
    exact (by repeat (first | exact Kept.refl _ | apply Kept.drew | apply Kept.alloc))
theorem on_any (s : Bool) (h l : Int) (w : World) :
    Calls Try.prog 48 #[.bool s, .agg #[.int .u64 h, .int .u64 l]] w fun e w' => e = .returned (.agg #[.bool (s && nz h l), .int .u64 h, .int .u64 l]) ∧ Kept w w' := by
  cases s
  · rw [Bool.false_and]; exact on_false h l w
  · rw [Bool.true_and]
    by_cases hn : h = 0 ∧ l = 0
    · obtain ⟨rfl, rfl⟩ := hn; exact on_zero w
    · have : nz h l = true := by unfold nz; simp; omega
      rw [this]; exact on_true h l w hn

set_option maxHeartbeats 400000 in
theorem less_hi (xh xl yh yl : Int) (w : World) (h : (xh != yh) = true) :
    Calls Try.prog 52 #[.agg #[.int .u64 xh, .int .u64 xl], .agg #[.int .u64 yh, .int .u64 yl]] w fun e w' => e = .returned (.bool (decide (xh < yh))) ∧ Kept w w' := by
  go_enter Try.func52, Try.ntmps52
  go_wp2
  go_ret
  exact ⟨rfl, (by repeat (first | exact Kept.refl _ | apply Kept.drew | apply Kept.alloc))⟩
set_option maxHeartbeats 400000 in
theorem less_lo (xh xl yl : Int) (w : World) :
    Calls Try.prog 52 #[.agg #[.int .u64 xh, .int .u64 xl], .agg #[.int .u64 xh, .int .u64 yl]] w fun e w' => e = .returned (.bool (decide (xl < yl))) ∧ Kept w w' := by
  go_enter Try.func52, Try.ntmps52
  go_wp2
  go_ret
  exact ⟨rfl, (by repeat (first | exact Kept.refl _ | apply Kept.drew | apply Kept.alloc))⟩

set_option maxHeartbeats 400000 in
theorem sum_raw (xh xl yh yl : Int) (w : World) (h1 : Word xh) (h2 : Word xl) (h3 : Word yh) (h4 : Word yl) :
    Calls Try.prog 47 #[.agg #[.int .u64 xh, .int .u64 xl], .agg #[.int .u64 yh, .int .u64 yl]] w fun e w' =>
      e = .returned (.tuple #[.agg #[.int .u64 ((xh + yh + (xl + yl) / 18446744073709551616) % 18446744073709551616), .int .u64 ((xl + yl) % 18446744073709551616)], .bool ((xh + yh + (xl + yl) / 18446744073709551616) / 18446744073709551616 == 0)]) ∧ Kept w w' := by
  obtain ⟨a1, a2⟩ := h1; obtain ⟨b1, b2⟩ := h2; obtain ⟨c1, c2⟩ := h3; obtain ⟨d1, d2⟩ := h4
  have k0 : 0 ≤ (xl + yl) / 18446744073709551616 := by omega
  have k1 : (xl + yl) / 18446744073709551616 ≤ 1 := by omega
  go_enter Try.func47, Try.ntmps47
  go_wp2_with (first | simp only [add64_0 xl yl b1 d1] | simp only [add64 xh yh _ a1 c1 k0 k1])
  simp [bodyPost, results, Try.results47, go_sem]
  exact (by repeat (first | exact Kept.refl _ | apply Kept.drew | apply Kept.alloc))

set_option maxHeartbeats 400000 in
theorem difference_raw (xh xl yh yl : Int) (w : World) (h1 : Word xh) (h2 : Word xl) (h3 : Word yh) (h4 : Word yl) :
    Calls Try.prog 53 #[.agg #[.int .u64 xh, .int .u64 xl], .agg #[.int .u64 yh, .int .u64 yl]] w fun e w' =>
      e = .returned (.agg #[.int .u64 ((xh - yh - bor xl yl) % 18446744073709551616), .int .u64 ((xl - yl) % 18446744073709551616)]) ∧ Kept w w' := by
  obtain ⟨a1, a2⟩ := h1; obtain ⟨b1, b2⟩ := h2; obtain ⟨c1, c2⟩ := h3; obtain ⟨d1, d2⟩ := h4
  obtain ⟨k0, k1⟩ := bor_le xl yl
  go_enter Try.func53, Try.ntmps53
  go_wp2_with (first | simp only [sub64_0 xl yl b1 d1 d2] | simp only [sub64 xh yh _ a1 c1 c2 k0 k1])
  simp [bodyPost, results, Try.results53, go_sem]
  exact (by repeat (first | exact Kept.refl _ | apply Kept.drew | apply Kept.alloc))

set_option maxHeartbeats 400000 in
theorem magnitude_neg (n : Int) (w : World) (h : n < 0) (h' : -9223372036854775808 ≤ n) :
    Calls Try.prog 50 #[.int .i64 n] w fun e w' => e = .returned (.int .u64 (-n)) ∧ w = w' := by
  go_enter Try.func50, Try.ntmps50
  go_wp2
  go_ret
  refine ⟨?_, rfl⟩
  show Ending.returned (.int .u64 (IntKind.u64.wrap (-IntKind.u64.wrap n))) = _
  rw [IntKind.wrap_u64, IntKind.wrap_u64]
  exact congrArg (fun k => Ending.returned (.int .u64 k)) (by omega)
set_option maxHeartbeats 400000 in
theorem magnitude_pos (n : Int) (w : World) (h : ¬ n < 0) (h' : n ≤ 9223372036854775807) :
    Calls Try.prog 50 #[.int .i64 n] w fun e w' => e = .returned (.int .u64 n) ∧ w = w' := by
  go_enter Try.func50, Try.ntmps50
  go_wp2
  go_ret
  exact ⟨rfl, rfl⟩

end Go.Proofs.Ytfkdbelajideiaa
