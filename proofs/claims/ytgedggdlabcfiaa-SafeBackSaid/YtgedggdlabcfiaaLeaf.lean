/-
  Contracts of the small functions of package safe.
-/
import Derived.Test.YtgedggdlabcfiaaRows
import Derived.Test.YtgedggdlabcfiaaNums
import Derived.WalkKit
import Derived.WalkSpells
import Derived.Lib.Hide
import Derived.WalkLawsBesides
namespace Go.Proofs.Ytgedggdlabcfiaa
open Go.RowKit

set_option maxHeartbeats 400000 in
theorem sum_ok (a b : Int) (w : World) (ha : In64 a) (hb : In64 b) (h : In64 (a + b)) :
    Calls Try.prog 25 #[.int .i64 a, .int .i64 b] w fun e w' => e = .returned (.tuple #[.int .i64 (a + b), .bool true]) ∧ w = w' := by
  unfold In64 at ha hb h
  obtain ⟨ha1, ha2⟩ := ha; obtain ⟨hb1, hb2⟩ := hb; obtain ⟨h1, h2⟩ := h
  rcases Int.lt_trichotomy b 0 with hb | hb | hb
  · go_enter Try.func25, Try.ntmps25
    go_wp2
    go_ret2
    exact ⟨rfl, rfl⟩
  · subst hb
    simp only [Int.add_zero]
    go_enter Try.func25, Try.ntmps25
    go_wp2
    go_ret2
    exact ⟨rfl, rfl⟩
  · go_enter Try.func25, Try.ntmps25
    go_wp2
    go_ret2
    exact ⟨rfl, rfl⟩
set_option maxHeartbeats 400000 in
theorem sum_no (a b : Int) (w : World) (ha : In64 a) (hb : In64 b) (h : ¬ In64 (a + b)) :
    Calls Try.prog 25 #[.int .i64 a, .int .i64 b] w fun e w' => e = .returned (.tuple #[.int .i64 0, .bool false]) ∧ w = w' := by
  unfold In64 at ha hb h
  obtain ⟨ha1, ha2⟩ := ha; obtain ⟨hb1, hb2⟩ := hb
  have h' : a + b < -9223372036854775808 ∨ 9223372036854775807 < a + b := by omega
  clear h
  rcases h' with h | h
  · have hs : b < 0 := by omega
    go_enter Try.func25, Try.ntmps25
    go_wp2
    go_ret2
    exact ⟨rfl, rfl⟩
  · have hs : 0 < b := by omega
    go_enter Try.func25, Try.ntmps25
    go_wp2
    go_ret2
    exact ⟨rfl, rfl⟩

set_option maxHeartbeats 400000 in
theorem difference_ok (a b : Int) (w : World) (ha : In64 a) (hb : In64 b) (h : In64 (a - b)) :
    Calls Try.prog 30 #[.int .i64 a, .int .i64 b] w fun e w' => e = .returned (.tuple #[.int .i64 (a - b), .bool true]) ∧ w = w' := by
  unfold In64 at ha hb h
  obtain ⟨ha1, ha2⟩ := ha; obtain ⟨hb1, hb2⟩ := hb; obtain ⟨h1, h2⟩ := h
  rcases Int.lt_trichotomy b 0 with hb | hb | hb
  · go_enter Try.func30, Try.ntmps30
    go_wp2
    go_ret2
    exact ⟨rfl, rfl⟩
  · subst hb
    simp only [Int.sub_zero]
    go_enter Try.func30, Try.ntmps30
    go_wp2
    go_ret2
    exact ⟨rfl, rfl⟩
  · go_enter Try.func30, Try.ntmps30
    go_wp2
    go_ret2
    exact ⟨rfl, rfl⟩
set_option maxHeartbeats 400000 in
theorem difference_no (a b : Int) (w : World) (ha : In64 a) (hb : In64 b) (h : ¬ In64 (a - b)) :
    Calls Try.prog 30 #[.int .i64 a, .int .i64 b] w fun e w' => e = .returned (.tuple #[.int .i64 0, .bool false]) ∧ w = w' := by
  unfold In64 at ha hb h
  obtain ⟨ha1, ha2⟩ := ha; obtain ⟨hb1, hb2⟩ := hb
  have h' : a - b < -9223372036854775808 ∨ 9223372036854775807 < a - b := by omega
  clear h
  rcases h' with h | h
  · have hs : 0 < b := by omega
    go_enter Try.func30, Try.ntmps30
    go_wp2
    go_ret2
    exact ⟨rfl, rfl⟩
  · have hs : b < 0 := by omega
    go_enter Try.func30, Try.ntmps30
    go_wp2
    go_ret2
    exact ⟨rfl, rfl⟩

theorem over_ok (n : Int) (w : World) :
    Calls Try.prog 24 #[.int .i64 n, .bool true] w fun e w' => e = .returned (.tuple #[.int .i64 n, .int .i64 0]) ∧ w = w' := by
  go_enter Try.func24, Try.ntmps24
  go_wp2
  go_ret2
  exact ⟨rfl, rfl⟩
theorem over_no (n : Int) (w : World) :
    Calls Try.prog 24 #[.int .i64 n, .bool false] w fun e w' => e = .returned (.tuple #[.int .i64 0, .int .i64 10]) ∧ w = w' := by
  go_enter Try.func24, Try.ntmps24
  go_wp2
  go_ret2
  exact ⟨rfl, rfl⟩

theorem clamp_any (a b c : Int) (w : World) :
    Calls Try.prog 22 #[.int .i64 a, .int .i64 b, .int .i64 c] w fun e w' => e = .returned (.int .i64 (clampAt a b c)) ∧ w = w' := by
  by_cases h1 : a < b
  · rw [clampAt_low h1]
    go_enter Try.func22, Try.ntmps22
    go_wp2
    go_ret
    exact ⟨rfl, rfl⟩
  · by_cases h2 : c < a
    · rw [clampAt_high h1 h2]
      go_enter Try.func22, Try.ntmps22
      go_wp2
      go_ret
      exact ⟨rfl, rfl⟩
    · rw [clampAt_in h1 h2]
      go_enter Try.func22, Try.ntmps22
      go_wp2
      go_ret
      exact ⟨rfl, rfl⟩

set_option maxHeartbeats 400000 in
theorem product_zero (a : Int) (w : World) :
    Calls Try.prog 26 #[.int .i64 a, .int .i64 0] w fun e w' => e = .returned (.tuple #[.int .i64 0, .bool true]) ∧ w = w' := by
  go_enter Try.func26, Try.ntmps26
  go_wp2
  go_ret2
  exact ⟨rfl, rfl⟩

set_option maxHeartbeats 400000 in
theorem product_back1 (a b : Int) (w : World) (hb0 : ¬ b = 0) (hb0' : (b == 0) = false) (hs : (a == -9223372036854775808) = false) (h : (wrap64 ((wrap64 (a * b)).tdiv b) != a) = true) :
    Calls Try.prog 26 #[.int .i64 a, .int .i64 b] w fun e w' => e = .returned (.tuple #[.int .i64 0, .bool false]) ∧ w = w' := by
  go_enter Try.func26, Try.ntmps26
  go_wp2
  go_ret2
  exact ⟨rfl, rfl⟩
set_option maxHeartbeats 400000 in
theorem product_back2 (b : Int) (w : World) (hb0 : ¬ b = 0) (hb0' : (b == 0) = false) (hs : (b == -1) = false) (h : (wrap64 ((wrap64 (-9223372036854775808 * b)).tdiv b) != -9223372036854775808) = true) :
    Calls Try.prog 26 #[.int .i64 (-9223372036854775808), .int .i64 b] w fun e w' => e = .returned (.tuple #[.int .i64 0, .bool false]) ∧ w = w' := by
  go_enter Try.func26, Try.ntmps26
  go_wp2
  go_ret2
  exact ⟨rfl, rfl⟩
set_option maxHeartbeats 400000 in
theorem product_back3 (w : World) :
    Calls Try.prog 26 #[.int .i64 (-9223372036854775808), .int .i64 (-1)] w fun e w' => e = .returned (.tuple #[.int .i64 0, .bool false]) ∧ w = w' := by
  go_enter Try.func26, Try.ntmps26
  go_wp2
  go_ret2
  exact ⟨rfl, rfl⟩
theorem product_no (a b : Int) (w : World) (ha : In64 a) (hb : In64 b) (h : ¬ In64 (a * b)) :
    Calls Try.prog 26 #[.int .i64 a, .int .i64 b] w fun e w' => e = .returned (.tuple #[.int .i64 0, .bool false]) ∧ w = w' := by
  have hb0 : b ≠ 0 := fun e => by subst e; exact h (by unfold In64; omega)
  by_cases hs : a = -9223372036854775808
  · subst hs
    by_cases hm : b = -1
    · subst hm; exact product_back3 w
    · exact product_back2 b w hb0 (by simp [hb0]) (by simp [hm]) (by simpa using product_back ha hb hb0 (by omega) h)
  · exact product_back1 a b w hb0 (by simp [hb0]) (by simp [hs]) (by simpa using product_back ha hb hb0 (by omega) h)
set_option maxHeartbeats 400000 in
theorem product_ok1 (a b : Int) (w : World) (hb0 : ¬ b = 0) (hb0' : (b == 0) = false) (hs : (a == -9223372036854775808) = false) (hq : (wrap64 ((wrap64 (a * b)).tdiv b) != a) = false) :
    Calls Try.prog 26 #[.int .i64 a, .int .i64 b] w fun e w' => e = .returned (.tuple #[.int .i64 (wrap64 (a * b)), .bool true]) ∧ w = w' := by
  go_enter Try.func26, Try.ntmps26
  go_wp2
  go_ret2
  exact ⟨rfl, rfl⟩
set_option maxHeartbeats 400000 in
theorem product_ok2 (b : Int) (w : World) (hb0 : ¬ b = 0) (hb0' : (b == 0) = false) (hs : (b == -1) = false) (hq : (wrap64 ((wrap64 (-9223372036854775808 * b)).tdiv b) != -9223372036854775808) = false) :
    Calls Try.prog 26 #[.int .i64 (-9223372036854775808), .int .i64 b] w fun e w' => e = .returned (.tuple #[.int .i64 (wrap64 (-9223372036854775808 * b)), .bool true]) ∧ w = w' := by
  go_enter Try.func26, Try.ntmps26
  go_wp2
  go_ret2
  exact ⟨rfl, rfl⟩
theorem product_ok (a b : Int) (w : World) (ha : In64 a) (hb : In64 b) (h : In64 (a * b)) :
    Calls Try.prog 26 #[.int .i64 a, .int .i64 b] w fun e w' => e = .returned (.tuple #[.int .i64 (a * b), .bool true]) ∧ w = w' := by
  by_cases hb0 : b = 0
  · subst hb0; rw [Int.mul_zero]; exact product_zero a w
  have hw := wrap64_in h
  have hq : wrap64 ((a * b).tdiv b) = a := by rw [Int.mul_tdiv_cancel _ hb0]; exact wrap64_in ha
  by_cases hs : a = -9223372036854775808
  · subst hs
    have hm : b ≠ -1 := fun e => by subst e; unfold In64 at h; omega
    have := product_ok2 b w hb0 (by simp [hb0]) (by simp [hm]) (by rw [hw, hq]; rfl)
    rw [hw] at this; exact this
  · have := product_ok1 a b w hb0 (by simp [hb0]) (by simp [hs]) (by rw [hw, hq]; simp)
    rw [hw] at this; exact this


set_option maxHeartbeats 400000 in
theorem Plus_ok (a b : Int) (w : World) (ha : In64 a) (hb : In64 b) (h : In64 (a + b)) :
    Calls Try.prog 10 #[.int .i64 a, .int .i64 b] w fun e w' => e = .returned (.tuple #[.int .i64 (a + b), .int .i64 0]) ∧ w = w' := by
  have C := Lib.hid (sum_ok a b w ha hb h)
  clear ha hb h
  go_enter Try.func10, Try.ntmps10
  go_wp2_with fail
  refine (C.out).mono ?_
  rintro e w' ⟨rfl, rfl⟩
  go_wp2_with fail
  refine (over_ok _ _).mono ?_
  rintro e w' ⟨rfl, rfl⟩
  go_wp2_with fail
  go_ret2
  exact ⟨rfl, rfl⟩
set_option maxHeartbeats 400000 in
theorem Plus_no (a b : Int) (w : World) (ha : In64 a) (hb : In64 b) (h : ¬ In64 (a + b)) :
    Calls Try.prog 10 #[.int .i64 a, .int .i64 b] w fun e w' => e = .returned (.tuple #[.int .i64 0, .int .i64 10]) ∧ w = w' := by
  have C := Lib.hid (sum_no a b w ha hb h)
  clear ha hb h
  go_enter Try.func10, Try.ntmps10
  go_wp2_with fail
  refine (C.out).mono ?_
  rintro e w' ⟨rfl, rfl⟩
  go_wp2_with fail
  refine (over_no _ _).mono ?_
  rintro e w' ⟨rfl, rfl⟩
  go_wp2_with fail
  go_ret2
  exact ⟨rfl, rfl⟩

set_option maxHeartbeats 400000 in
theorem Times_ok (a b : Int) (w : World) (ha : In64 a) (hb : In64 b) (h : In64 (a * b)) :
    Calls Try.prog 12 #[.int .i64 a, .int .i64 b] w fun e w' => e = .returned (.tuple #[.int .i64 (a * b), .int .i64 0]) ∧ w = w' := by
  have C := Lib.hid (product_ok a b w ha hb h)
  clear ha hb h
  go_enter Try.func12, Try.ntmps12
  go_wp2_with fail
  refine (C.out).mono ?_
  rintro e w' ⟨rfl, rfl⟩
  go_wp2_with fail
  refine (over_ok _ _).mono ?_
  rintro e w' ⟨rfl, rfl⟩
  go_wp2_with fail
  go_ret2
  exact ⟨rfl, rfl⟩
set_option maxHeartbeats 400000 in
theorem Times_no (a b : Int) (w : World) (ha : In64 a) (hb : In64 b) (h : ¬ In64 (a * b)) :
    Calls Try.prog 12 #[.int .i64 a, .int .i64 b] w fun e w' => e = .returned (.tuple #[.int .i64 0, .int .i64 10]) ∧ w = w' := by
  have C := Lib.hid (product_no a b w ha hb h)
  clear ha hb h
  go_enter Try.func12, Try.ntmps12
  go_wp2_with fail
  refine (C.out).mono ?_
  rintro e w' ⟨rfl, rfl⟩
  go_wp2_with fail
  refine (over_no _ _).mono ?_
  rintro e w' ⟨rfl, rfl⟩
  go_wp2_with fail
  go_ret2
  exact ⟨rfl, rfl⟩

set_option maxHeartbeats 400000 in
theorem Add_ok (a b : Int) (w : World) (ha : In64 a) (hb : In64 b) (h : In64 (a + b)) :
    Calls Try.prog 14 #[.int .i64 a, .int .i64 b] w fun e w' => e = .returned (.int .i64 (a + b)) ∧ Kept w w' := by
  have C := Lib.hid (fun w => sum_ok a b w ha hb h)
  clear ha hb h
  go_enter Try.func14, Try.ntmps14
  go_wp2_with fail
  refine (C.out _).mono ?_
  rintro e w' ⟨rfl, rfl⟩
  go_wp2
  go_ret
  exact ⟨rfl, (by repeat (first | exact Kept.refl _ | apply Kept.drew | apply Kept.alloc))⟩

set_option maxHeartbeats 400000 in
theorem Sub_ok (a b : Int) (w : World) (ha : In64 a) (hb : In64 b) (h : In64 (a - b)) :
    Calls Try.prog 16 #[.int .i64 a, .int .i64 b] w fun e w' => e = .returned (.int .i64 (a - b)) ∧ Kept w w' := by
  have C := Lib.hid (fun w => difference_ok a b w ha hb h)
  clear ha hb h
  go_enter Try.func16, Try.ntmps16
  go_wp2_with fail
  refine (C.out _).mono ?_
  rintro e w' ⟨rfl, rfl⟩
  go_wp2
  go_ret
  exact ⟨rfl, (by repeat (first | exact Kept.refl _ | apply Kept.drew | apply Kept.alloc))⟩

set_option maxHeartbeats 400000 in
theorem Mul_ok (a b : Int) (w : World) (ha : In64 a) (hb : In64 b) (h : In64 (a * b)) :
    Calls Try.prog 18 #[.int .i64 a, .int .i64 b] w fun e w' => e = .returned (.int .i64 (a * b)) ∧ Kept w w' := by
  have C := Lib.hid (fun w => product_ok a b w ha hb h)
  clear ha hb h
  go_enter Try.func18, Try.ntmps18
  go_wp2_with fail
  refine (C.out _).mono ?_
  rintro e w' ⟨rfl, rfl⟩
  go_wp2
  go_ret
  exact ⟨rfl, (by repeat (first | exact Kept.refl _ | apply Kept.drew | apply Kept.alloc))⟩

set_option maxHeartbeats 400000 in
theorem Add_up (a b : Int) (w : World) (ha : In64 a) (hb : In64 b) (h : 9223372036854775807 < a + b) :
    Calls Try.prog 14 #[.int .i64 a, .int .i64 b] w fun e w' => e = .returned (.int .i64 9223372036854775807) ∧ Kept w w' := by
  have C := Lib.hid (fun w => sum_no a b w ha hb (by unfold In64; omega))
  have hs : 0 ≤ a := by unfold In64 at ha hb; omega
  clear ha hb h
  go_enter Try.func14, Try.ntmps14
  go_wp2_with fail
  refine (C.out _).mono ?_
  rintro e w' ⟨rfl, rfl⟩
  go_wp2
  go_ret
  exact ⟨rfl, (by repeat (first | exact Kept.refl _ | apply Kept.drew | apply Kept.alloc))⟩
set_option maxHeartbeats 400000 in
theorem Add_down (a b : Int) (w : World) (ha : In64 a) (hb : In64 b) (h : a + b < -9223372036854775808) :
    Calls Try.prog 14 #[.int .i64 a, .int .i64 b] w fun e w' => e = .returned (.int .i64 (-9223372036854775808)) ∧ Kept w w' := by
  have C := Lib.hid (fun w => sum_no a b w ha hb (by unfold In64; omega))
  have hs : a < 0 := by unfold In64 at ha hb; omega
  clear ha hb h
  go_enter Try.func14, Try.ntmps14
  go_wp2_with fail
  refine (C.out _).mono ?_
  rintro e w' ⟨rfl, rfl⟩
  go_wp2
  go_ret
  exact ⟨rfl, (by repeat (first | exact Kept.refl _ | apply Kept.drew | apply Kept.alloc))⟩
theorem Add_any (a b : Int) (w : World) (ha : In64 a) (hb : In64 b) :
    Calls Try.prog 14 #[.int .i64 a, .int .i64 b] w fun e w' => e = .returned (.int .i64 (heldAt (a + b))) ∧ Kept w w' := by
  by_cases h : In64 (a + b)
  · rw [heldAt_of h]; exact Add_ok a b w ha hb h
  · by_cases h1 : 9223372036854775807 < a + b
    · rw [heldAt_up h1]; exact Add_up a b w ha hb h1
    · have h2 : a + b < -9223372036854775808 := by unfold In64 at h; omega
      rw [heldAt_down h2]; exact Add_down a b w ha hb h2

set_option maxHeartbeats 400000 in
theorem Sub_up (a b : Int) (w : World) (ha : In64 a) (hb : In64 b) (h : 9223372036854775807 < a - b) :
    Calls Try.prog 16 #[.int .i64 a, .int .i64 b] w fun e w' => e = .returned (.int .i64 9223372036854775807) ∧ Kept w w' := by
  have C := Lib.hid (fun w => difference_no a b w ha hb (by unfold In64; omega))
  have hs : 0 ≤ a := by unfold In64 at ha hb; omega
  clear ha hb h
  go_enter Try.func16, Try.ntmps16
  go_wp2_with fail
  refine (C.out _).mono ?_
  rintro e w' ⟨rfl, rfl⟩
  go_wp2
  go_ret
  exact ⟨rfl, (by repeat (first | exact Kept.refl _ | apply Kept.drew | apply Kept.alloc))⟩
set_option maxHeartbeats 400000 in
theorem Sub_down (a b : Int) (w : World) (ha : In64 a) (hb : In64 b) (h : a - b < -9223372036854775808) :
    Calls Try.prog 16 #[.int .i64 a, .int .i64 b] w fun e w' => e = .returned (.int .i64 (-9223372036854775808)) ∧ Kept w w' := by
  have C := Lib.hid (fun w => difference_no a b w ha hb (by unfold In64; omega))
  have hs : a < 0 := by unfold In64 at ha hb; omega
  clear ha hb h
  go_enter Try.func16, Try.ntmps16
  go_wp2_with fail
  refine (C.out _).mono ?_
  rintro e w' ⟨rfl, rfl⟩
  go_wp2
  go_ret
  exact ⟨rfl, (by repeat (first | exact Kept.refl _ | apply Kept.drew | apply Kept.alloc))⟩
theorem Sub_any (a b : Int) (w : World) (ha : In64 a) (hb : In64 b) :
    Calls Try.prog 16 #[.int .i64 a, .int .i64 b] w fun e w' => e = .returned (.int .i64 (heldAt (a - b))) ∧ Kept w w' := by
  by_cases h : In64 (a - b)
  · rw [heldAt_of h]; exact Sub_ok a b w ha hb h
  · by_cases h1 : 9223372036854775807 < a - b
    · rw [heldAt_up h1]; exact Sub_up a b w ha hb h1
    · have h2 : a - b < -9223372036854775808 := by unfold In64 at h; omega
      rw [heldAt_down h2]; exact Sub_down a b w ha hb h2

set_option maxHeartbeats 400000 in
theorem Mul_up (a b : Int) (w : World) (ha : In64 a) (hb : In64 b) (h : 9223372036854775807 < a * b) :
    Calls Try.prog 18 #[.int .i64 a, .int .i64 b] w fun e w' => e = .returned (.int .i64 9223372036854775807) ∧ Kept w w' := by
  have C := Lib.hid (fun w => product_no a b w ha hb (by unfold In64; omega))
  have hs := mul_up h
  clear ha hb h
  rcases hs with ⟨h1, h2⟩ | ⟨h1, h2⟩
  · have d1 : decide (a < 0) = true := by simp; omega
    have d2 : decide (b < 0) = true := by simp; omega
    go_enter Try.func18, Try.ntmps18
    go_wp2_with fail
    refine (C.out _).mono ?_
    rintro e w' ⟨rfl, rfl⟩
    go_wp2
    go_ret
    exact ⟨rfl, (by repeat (first | exact Kept.refl _ | apply Kept.drew | apply Kept.alloc))⟩
  · have d1 : decide (a < 0) = false := by simp; omega
    have d2 : decide (b < 0) = false := by simp; omega
    go_enter Try.func18, Try.ntmps18
    go_wp2_with fail
    refine (C.out _).mono ?_
    rintro e w' ⟨rfl, rfl⟩
    go_wp2
    go_ret
    exact ⟨rfl, (by repeat (first | exact Kept.refl _ | apply Kept.drew | apply Kept.alloc))⟩
set_option maxHeartbeats 400000 in
theorem Mul_down (a b : Int) (w : World) (ha : In64 a) (hb : In64 b) (h : a * b < -9223372036854775808) :
    Calls Try.prog 18 #[.int .i64 a, .int .i64 b] w fun e w' => e = .returned (.int .i64 (-9223372036854775808)) ∧ Kept w w' := by
  have C := Lib.hid (fun w => product_no a b w ha hb (by unfold In64; omega))
  have hs := mul_down h
  clear ha hb h
  rcases hs with ⟨h1, h2⟩ | ⟨h1, h2⟩
  · have d1 : decide (a < 0) = true := by simp; omega
    have d2 : decide (b < 0) = false := by simp; omega
    go_enter Try.func18, Try.ntmps18
    go_wp2_with fail
    refine (C.out _).mono ?_
    rintro e w' ⟨rfl, rfl⟩
    go_wp2
    go_ret
    exact ⟨rfl, (by repeat (first | exact Kept.refl _ | apply Kept.drew | apply Kept.alloc))⟩
  · have d1 : decide (a < 0) = false := by simp; omega
    have d2 : decide (b < 0) = true := by simp; omega
    go_enter Try.func18, Try.ntmps18
    go_wp2_with fail
    refine (C.out _).mono ?_
    rintro e w' ⟨rfl, rfl⟩
    go_wp2
    go_ret
    exact ⟨rfl, (by repeat (first | exact Kept.refl _ | apply Kept.drew | apply Kept.alloc))⟩
theorem Mul_any (a b : Int) (w : World) (ha : In64 a) (hb : In64 b) :
    Calls Try.prog 18 #[.int .i64 a, .int .i64 b] w fun e w' => e = .returned (.int .i64 (heldAt (a * b))) ∧ Kept w w' := by
  by_cases h : In64 (a * b)
  · rw [heldAt_of h]; exact Mul_ok a b w ha hb h
  · by_cases h1 : 9223372036854775807 < a * b
    · rw [heldAt_up h1]; exact Mul_up a b w ha hb h1
    · have h2 : a * b < -9223372036854775808 := by unfold In64 at h; omega
      rw [heldAt_down h2]; exact Mul_down a b w ha hb h2

set_option maxHeartbeats 400000 in
theorem Abs_any (a : Int) (w : World) (ha : In64 a) :
    Calls Try.prog 20 #[.int .i64 a] w fun e w' => e = .returned (.int .i64 (absAt a)) ∧ Kept w w' := by
  have C := Lib.hid (fun w => Sub_any 0 a w (by unfold In64; omega) ha)
  clear ha
  by_cases h : a < 0
  · rw [absAt_neg h]
    go_enter Try.func20, Try.ntmps20
    go_wp2_with fail
    refine (C.out _).mono ?_
    rintro e w' ⟨rfl, hk⟩
    go_wp2_with fail
    go_ret
    exact ⟨rfl, hk⟩
  · rw [absAt_pos h]
    go_enter Try.func20, Try.ntmps20
    go_wp2_with fail
    go_ret
    exact ⟨rfl, Kept.refl _⟩

end Go.Proofs.Ytgedggdlabcfiaa
