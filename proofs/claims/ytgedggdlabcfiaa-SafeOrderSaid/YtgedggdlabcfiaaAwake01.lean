/-
  The calls at the head of all statements of layer 1, and the contracts with their values named.
-/
import Derived.Test.YtgedggdlabcfiaaLeaf
namespace Go.Proofs.Ytgedggdlabcfiaa
open Go.RowKit

theorem Add_lit (a b n : Int) (w : World) (ha : In64 a) (hb : In64 b) (hn : heldAt (a + b) = n) :
    Calls Try.prog 14 #[.int .i64 a, .int .i64 b] w fun e w' => e = .returned (.int .i64 n) ∧ Kept w w' := by
  subst hn; exact Add_any a b w ha hb
theorem Sub_lit (a b n : Int) (w : World) (ha : In64 a) (hb : In64 b) (hn : heldAt (a - b) = n) :
    Calls Try.prog 16 #[.int .i64 a, .int .i64 b] w fun e w' => e = .returned (.int .i64 n) ∧ Kept w w' := by
  subst hn; exact Sub_any a b w ha hb
theorem Mul_lit (a b n : Int) (w : World) (ha : In64 a) (hb : In64 b) (hn : heldAt (a * b) = n) :
    Calls Try.prog 18 #[.int .i64 a, .int .i64 b] w fun e w' => e = .returned (.int .i64 n) ∧ Kept w w' := by
  subst hn; exact Mul_any a b w ha hb
theorem Plus_lit (a b n : Int) (w : World) (ha : In64 a) (hb : In64 b) (h : In64 n) (hn : a + b = n) :
    Calls Try.prog 10 #[.int .i64 a, .int .i64 b] w fun e w' => e = .returned (.tuple #[.int .i64 n, .int .i64 0]) ∧ w = w' := by
  subst hn; exact Plus_ok a b w ha hb h
theorem Times_lit (a b n : Int) (w : World) (ha : In64 a) (hb : In64 b) (h : In64 n) (hn : a * b = n) :
    Calls Try.prog 12 #[.int .i64 a, .int .i64 b] w fun e w' => e = .returned (.tuple #[.int .i64 n, .int .i64 0]) ∧ w = w' := by
  subst hn; exact Times_ok a b w ha hb h
theorem Abs_lit (a n : Int) (w : World) (ha : In64 a) (hn : absAt a = n) :
    Calls Try.prog 20 #[.int .i64 a] w fun e w' => e = .returned (.int .i64 n) ∧ Kept w w' := by
  subst hn; exact Abs_any a w ha
theorem clamp_lit (a b c n : Int) (w : World) (hn : clampAt a b c = n) :
    Calls Try.prog 22 #[.int .i64 a, .int .i64 b, .int .i64 c] w fun e w' => e = .returned (.int .i64 n) ∧ w = w' := by
  subst hn; exact clamp_any a b c w

set_option maxHeartbeats 1000000 in
set_option maxRecDepth 100000 in
theorem awake01 (w : World) :
    Calls Try.prog 9 #[] w fun e w' => e = .returned (.bool true) ∧ Kept w w' := by
  go_enter Try.func9, Try.ntmps9
  go_wp2_with fail
  refine (Plus_no 9223372036854775807 1 _ (by unfold In64; omega) (by unfold In64; omega) (by unfold In64; omega)).mono ?_
  rintro e w1 ⟨rfl, rfl⟩
  go_wp2_with fail
  refine (Times_lit (-2147483648) 4294967296 (-9223372036854775808) _ (by unfold In64; omega) (by unfold In64; omega) (by unfold In64; omega) (by omega)).mono ?_
  rintro e w2 ⟨rfl, rfl⟩
  go_wp2_with fail
  refine (Times_no (-1) (-9223372036854775808) _ (by unfold In64; omega) (by unfold In64; omega) (by unfold In64; omega)).mono ?_
  rintro e w3 ⟨rfl, rfl⟩
  go_wp2_with fail
  refine (Times_no (-9223372036854775808) (-1) _ (by unfold In64; omega) (by unfold In64; omega) (by unfold In64; omega)).mono ?_
  rintro e w4 ⟨rfl, rfl⟩
  go_wp2_with fail
  refine (Add_lit 9223372036854775807 1 9223372036854775807 _ (by unfold In64; omega) (by unfold In64; omega) (by simp [heldAt])).mono ?_
  rintro e w5 ⟨rfl, k5⟩
  go_wp2_with fail
  refine (Add_lit (-9223372036854775808) (-1) (-9223372036854775808) _ (by unfold In64; omega) (by unfold In64; omega) (by simp [heldAt])).mono ?_
  rintro e w6 ⟨rfl, k6⟩
  go_wp2_with fail
  refine (Sub_lit 0 (-9223372036854775808) 9223372036854775807 _ (by unfold In64; omega) (by unfold In64; omega) (by simp [heldAt])).mono ?_
  rintro e w7 ⟨rfl, k7⟩
  go_wp2_with fail
  refine (Sub_lit (-1) (-9223372036854775808) 9223372036854775807 _ (by unfold In64; omega) (by unfold In64; omega) (by simp [heldAt])).mono ?_
  rintro e w8 ⟨rfl, k8⟩
  go_wp2_with fail
  refine (Sub_lit 3 5 (-2) _ (by unfold In64; omega) (by unfold In64; omega) (by simp [heldAt])).mono ?_
  rintro e w9 ⟨rfl, k9⟩
  go_wp2_with fail
  refine (Mul_lit (-4611686018427387904) 4 (-9223372036854775808) _ (by unfold In64; omega) (by unfold In64; omega) (by simp [heldAt])).mono ?_
  rintro e w10 ⟨rfl, k10⟩
  go_wp2_with fail
  refine (Mul_lit (-3) (-5) 15 _ (by unfold In64; omega) (by unfold In64; omega) (by simp [heldAt])).mono ?_
  rintro e w11 ⟨rfl, k11⟩
  go_wp2_with fail
  refine (Abs_lit (-9223372036854775808) 9223372036854775807 _ (by unfold In64; omega) (by simp [absAt, heldAt])).mono ?_
  rintro e w12 ⟨rfl, k12⟩
  go_wp2_with fail
  refine (Abs_lit (-4) 4 _ (by unfold In64; omega) (by simp [absAt, heldAt])).mono ?_
  rintro e w13 ⟨rfl, k13⟩
  go_wp2_with fail
  refine (clamp_lit 7 1 5 5 _ (by simp [clampAt])).mono ?_
  rintro e w14 ⟨rfl, rfl⟩
  go_wp2_with fail
  refine (clamp_lit (-7) 1 5 1 _ (by simp [clampAt])).mono ?_
  rintro e w15 ⟨rfl, rfl⟩
  go_wp2_with fail
  refine (clamp_lit 3 1 5 3 _ (by simp [clampAt])).mono ?_
  rintro e w16 ⟨rfl, rfl⟩
  go_wp2_with fail
  refine (clamp_lit 3 5 1 5 _ (by simp [clampAt])).mono ?_
  rintro e w17 ⟨rfl, rfl⟩
  go_wp2_with fail
  go_ret
  exact ⟨rfl, k5.trans (k6.trans (k7.trans (k8.trans (k9.trans (k10.trans (k11.trans (k12.trans (k13))))))))⟩

end Go.Proofs.Ytgedggdlabcfiaa
