/-
  In one text: Numb, Leaf, Vars01, Ref01.
-/
import Derived.Test.YtlgpeafphanobaaNums
import Derived.Test.YtlgpeafphanobaaRows
import Derived.WalkKit
import Derived.WalkSpells
import Derived.Lib.Hide
import Derived.WalkLawsBesides
namespace Go.Proofs.Ytlgpeafphanobaa

theorem in64_neg {a t : Int} (h : In64 a) (h1 : (a == -9223372036854775808) = false) (e : -a = t) : In64 t := by
  have h2 : a ≠ -9223372036854775808 := by simpa using h1
  unfold In64 at *; omega
theorem heldAt_pos {n : Int} (h : 0 < n) : 0 < heldAt n := by unfold heldAt; split <;> (try split) <;> omega
theorem heldAt_neg {n : Int} (h : n < 0) : heldAt n < 0 := by unfold heldAt; split <;> (try split) <;> omega
theorem absAt_nonneg (a : Int) : 0 ≤ absAt a := by unfold absAt heldAt; split <;> (try split) <;> (try split) <;> omega
theorem absAt_neg_of {a : Int} (h : In64 a) (h1 : (a == -9223372036854775808) = false) : absAt (-a) = absAt a := by
  have h2 : a ≠ -9223372036854775808 := by simpa using h1
  unfold In64 at h
  unfold absAt heldAt
  split <;> split <;> (repeat split) <;> omega

/-- The sum, the product, where it is a number of 64 bits; else 0. -/
def overV (n : Int) : Int := if -9223372036854775808 ≤ n ∧ n ≤ 9223372036854775807 then n else 0
/-- The error's number: 0, or 10. -/
def overE (n : Int) : Int := if -9223372036854775808 ≤ n ∧ n ≤ 9223372036854775807 then 0 else 10
theorem overV_in {n : Int} (h : In64 n) : overV n = n := by unfold In64 at h; unfold overV; rw [if_pos h]
theorem overE_in {n : Int} (h : In64 n) : overE n = 0 := by unfold In64 at h; unfold overE; rw [if_pos h]
theorem overV_no {n : Int} (h : ¬ In64 n) : overV n = 0 := by unfold In64 at h; unfold overV; rw [if_neg h]
theorem overE_no {n : Int} (h : ¬ In64 n) : overE n = 10 := by unfold In64 at h; unfold overE; rw [if_neg h]
theorem in64_overV (n : Int) : In64 (overV n) := by
  by_cases h : In64 n
  · rw [overV_in h]; exact h
  · rw [overV_no h]; unfold In64; omega

theorem small_mul {i b : Int} (hi : -2147483648 ≤ i ∧ i ≤ 2147483647) (hb : -2147483648 ≤ b ∧ b ≤ 2147483647) : In64 (i * b) := by
  have h1 : i.natAbs ≤ 2147483648 := by omega
  have h2 : b.natAbs ≤ 2147483648 := by omega
  have h3 := Nat.mul_le_mul h1 h2
  rw [← Int.natAbs_mul] at h3
  unfold In64
  omega

end Go.Proofs.Ytlgpeafphanobaa
namespace Go.Proofs.Ytlgpeafphanobaa
open Go.RowKit

set_option maxHeartbeats 400000 in
theorem sum_ok_s (a b : Int) (w : World) (ha : In64 a) (hb : In64 b) (h : In64 (a + b)) :
    Calls Try.prog 49 #[.int .i64 a, .int .i64 b] w fun e w' => e = .returned (.tuple #[.int .i64 (a + b), .bool true]) ∧ w = w' := by
  unfold In64 at ha hb h
  obtain ⟨ha1, ha2⟩ := ha; obtain ⟨hb1, hb2⟩ := hb; obtain ⟨h1, h2⟩ := h
  rcases Int.lt_trichotomy b 0 with hb | hb | hb
  · go_enter Try.func49, Try.ntmps49
    go_wp2
    go_ret2
    exact ⟨rfl, rfl⟩
  · subst hb
    simp only [Int.add_zero]
    go_enter Try.func49, Try.ntmps49
    go_wp2
    go_ret2
    exact ⟨rfl, rfl⟩
  · go_enter Try.func49, Try.ntmps49
    go_wp2
    go_ret2
    exact ⟨rfl, rfl⟩
set_option maxHeartbeats 400000 in
theorem sum_no_s (a b : Int) (w : World) (ha : In64 a) (hb : In64 b) (h : ¬ In64 (a + b)) :
    Calls Try.prog 49 #[.int .i64 a, .int .i64 b] w fun e w' => e = .returned (.tuple #[.int .i64 0, .bool false]) ∧ w = w' := by
  unfold In64 at ha hb h
  obtain ⟨ha1, ha2⟩ := ha; obtain ⟨hb1, hb2⟩ := hb
  have h' : a + b < -9223372036854775808 ∨ 9223372036854775807 < a + b := by omega
  clear h
  rcases h' with h | h
  · have hs : b < 0 := by omega
    go_enter Try.func49, Try.ntmps49
    go_wp2
    go_ret2
    exact ⟨rfl, rfl⟩
  · have hs : 0 < b := by omega
    go_enter Try.func49, Try.ntmps49
    go_wp2
    go_ret2
    exact ⟨rfl, rfl⟩

theorem clamp_any_s (a b c : Int) (w : World) :
    Calls Try.prog 41 #[.int .i64 a, .int .i64 b, .int .i64 c] w fun e w' => e = .returned (.int .i64 (clampAt a b c)) ∧ w = w' := by
  by_cases h1 : a < b
  · rw [clampAt_low h1]
    go_enter Try.func41, Try.ntmps41
    go_wp2
    go_ret
    exact ⟨rfl, rfl⟩
  · by_cases h2 : c < a
    · rw [clampAt_high h1 h2]
      go_enter Try.func41, Try.ntmps41
      go_wp2
      go_ret
      exact ⟨rfl, rfl⟩
    · rw [clampAt_in h1 h2]
      go_enter Try.func41, Try.ntmps41
      go_wp2
      go_ret
      exact ⟨rfl, rfl⟩

set_option maxHeartbeats 400000 in
theorem product_zero_s (a : Int) (w : World) :
    Calls Try.prog 37 #[.int .i64 a, .int .i64 0] w fun e w' => e = .returned (.tuple #[.int .i64 0, .bool true]) ∧ w = w' := by
  go_enter Try.func37, Try.ntmps37
  go_wp2
  go_ret2
  exact ⟨rfl, rfl⟩

set_option maxHeartbeats 400000 in
theorem product_back1_s (a b : Int) (w : World) (hb0 : ¬ b = 0) (hb0' : (b == 0) = false) (hs : (a == -9223372036854775808) = false) (h : (wrap64 ((wrap64 (a * b)).tdiv b) != a) = true) :
    Calls Try.prog 37 #[.int .i64 a, .int .i64 b] w fun e w' => e = .returned (.tuple #[.int .i64 0, .bool false]) ∧ w = w' := by
  go_enter Try.func37, Try.ntmps37
  go_wp2
  go_ret2
  exact ⟨rfl, rfl⟩
set_option maxHeartbeats 400000 in
theorem product_back2_s (b : Int) (w : World) (hb0 : ¬ b = 0) (hb0' : (b == 0) = false) (hs : (b == -1) = false) (h : (wrap64 ((wrap64 (-9223372036854775808 * b)).tdiv b) != -9223372036854775808) = true) :
    Calls Try.prog 37 #[.int .i64 (-9223372036854775808), .int .i64 b] w fun e w' => e = .returned (.tuple #[.int .i64 0, .bool false]) ∧ w = w' := by
  go_enter Try.func37, Try.ntmps37
  go_wp2
  go_ret2
  exact ⟨rfl, rfl⟩
set_option maxHeartbeats 400000 in
theorem product_back3_s (w : World) :
    Calls Try.prog 37 #[.int .i64 (-9223372036854775808), .int .i64 (-1)] w fun e w' => e = .returned (.tuple #[.int .i64 0, .bool false]) ∧ w = w' := by
  go_enter Try.func37, Try.ntmps37
  go_wp2
  go_ret2
  exact ⟨rfl, rfl⟩
theorem product_no_s (a b : Int) (w : World) (ha : In64 a) (hb : In64 b) (h : ¬ In64 (a * b)) :
    Calls Try.prog 37 #[.int .i64 a, .int .i64 b] w fun e w' => e = .returned (.tuple #[.int .i64 0, .bool false]) ∧ w = w' := by
  have hb0 : b ≠ 0 := fun e => by subst e; exact h (by unfold In64; omega)
  by_cases hs : a = -9223372036854775808
  · subst hs
    by_cases hm : b = -1
    · subst hm; exact product_back3_s w
    · exact product_back2_s b w hb0 (by simp [hb0]) (by simp [hm]) (by simpa using product_back ha hb hb0 (by omega) h)
  · exact product_back1_s a b w hb0 (by simp [hb0]) (by simp [hs]) (by simpa using product_back ha hb hb0 (by omega) h)
set_option maxHeartbeats 400000 in
theorem product_ok1_s (a b : Int) (w : World) (hb0 : ¬ b = 0) (hb0' : (b == 0) = false) (hs : (a == -9223372036854775808) = false) (hq : (wrap64 ((wrap64 (a * b)).tdiv b) != a) = false) :
    Calls Try.prog 37 #[.int .i64 a, .int .i64 b] w fun e w' => e = .returned (.tuple #[.int .i64 (wrap64 (a * b)), .bool true]) ∧ w = w' := by
  go_enter Try.func37, Try.ntmps37
  go_wp2
  go_ret2
  exact ⟨rfl, rfl⟩
set_option maxHeartbeats 400000 in
theorem product_ok2_s (b : Int) (w : World) (hb0 : ¬ b = 0) (hb0' : (b == 0) = false) (hs : (b == -1) = false) (hq : (wrap64 ((wrap64 (-9223372036854775808 * b)).tdiv b) != -9223372036854775808) = false) :
    Calls Try.prog 37 #[.int .i64 (-9223372036854775808), .int .i64 b] w fun e w' => e = .returned (.tuple #[.int .i64 (wrap64 (-9223372036854775808 * b)), .bool true]) ∧ w = w' := by
  go_enter Try.func37, Try.ntmps37
  go_wp2
  go_ret2
  exact ⟨rfl, rfl⟩
theorem product_ok_s (a b : Int) (w : World) (ha : In64 a) (hb : In64 b) (h : In64 (a * b)) :
    Calls Try.prog 37 #[.int .i64 a, .int .i64 b] w fun e w' => e = .returned (.tuple #[.int .i64 (a * b), .bool true]) ∧ w = w' := by
  by_cases hb0 : b = 0
  · subst hb0; rw [Int.mul_zero]; exact product_zero_s a w
  have hw := wrap64_in h
  have hq : wrap64 ((a * b).tdiv b) = a := by rw [Int.mul_tdiv_cancel _ hb0]; exact wrap64_in ha
  by_cases hs : a = -9223372036854775808
  · subst hs
    have hm : b ≠ -1 := fun e => by subst e; unfold In64 at h; omega
    have := product_ok2_s b w hb0 (by simp [hb0]) (by simp [hm]) (by rw [hw, hq]; rfl)
    rw [hw] at this; exact this
  · have := product_ok1_s a b w hb0 (by simp [hb0]) (by simp [hs]) (by rw [hw, hq]; simp)
    rw [hw] at this; exact this


set_option maxHeartbeats 400000 in
theorem Add_ok_s (a b : Int) (w : World) (ha : In64 a) (hb : In64 b) (h : In64 (a + b)) :
    Calls Try.prog 36 #[.int .i64 a, .int .i64 b] w fun e w' => e = .returned (.int .i64 (a + b)) ∧ Kept w w' := by
  have C := Lib.hid (fun w => sum_ok_s a b w ha hb h)
  clear ha hb h
  go_enter Try.func36, Try.ntmps36
  go_wp2_with fail
  refine (C.out _).mono ?_
  rintro e w' ⟨rfl, rfl⟩
  go_wp2
  go_ret
  exact ⟨rfl, (by repeat (first | exact Kept.refl _ | apply Kept.drew | apply Kept.alloc))⟩

set_option maxHeartbeats 400000 in
theorem Mul_ok_s (a b : Int) (w : World) (ha : In64 a) (hb : In64 b) (h : In64 (a * b)) :
    Calls Try.prog 22 #[.int .i64 a, .int .i64 b] w fun e w' => e = .returned (.int .i64 (a * b)) ∧ Kept w w' := by
  have C := Lib.hid (fun w => product_ok_s a b w ha hb h)
  clear ha hb h
  go_enter Try.func22, Try.ntmps22
  go_wp2_with fail
  refine (C.out _).mono ?_
  rintro e w' ⟨rfl, rfl⟩
  go_wp2
  go_ret
  exact ⟨rfl, (by repeat (first | exact Kept.refl _ | apply Kept.drew | apply Kept.alloc))⟩

set_option maxHeartbeats 400000 in
theorem Add_up_s (a b : Int) (w : World) (ha : In64 a) (hb : In64 b) (h : 9223372036854775807 < a + b) :
    Calls Try.prog 36 #[.int .i64 a, .int .i64 b] w fun e w' => e = .returned (.int .i64 9223372036854775807) ∧ Kept w w' := by
  have C := Lib.hid (fun w => sum_no_s a b w ha hb (by unfold In64; omega))
  have hs : 0 ≤ a := by unfold In64 at ha hb; omega
  clear ha hb h
  go_enter Try.func36, Try.ntmps36
  go_wp2_with fail
  refine (C.out _).mono ?_
  rintro e w' ⟨rfl, rfl⟩
  go_wp2
  go_ret
  exact ⟨rfl, (by repeat (first | exact Kept.refl _ | apply Kept.drew | apply Kept.alloc))⟩
set_option maxHeartbeats 400000 in
theorem Add_down_s (a b : Int) (w : World) (ha : In64 a) (hb : In64 b) (h : a + b < -9223372036854775808) :
    Calls Try.prog 36 #[.int .i64 a, .int .i64 b] w fun e w' => e = .returned (.int .i64 (-9223372036854775808)) ∧ Kept w w' := by
  have C := Lib.hid (fun w => sum_no_s a b w ha hb (by unfold In64; omega))
  have hs : a < 0 := by unfold In64 at ha hb; omega
  clear ha hb h
  go_enter Try.func36, Try.ntmps36
  go_wp2_with fail
  refine (C.out _).mono ?_
  rintro e w' ⟨rfl, rfl⟩
  go_wp2
  go_ret
  exact ⟨rfl, (by repeat (first | exact Kept.refl _ | apply Kept.drew | apply Kept.alloc))⟩
theorem Add_any_s (a b : Int) (w : World) (ha : In64 a) (hb : In64 b) :
    Calls Try.prog 36 #[.int .i64 a, .int .i64 b] w fun e w' => e = .returned (.int .i64 (heldAt (a + b))) ∧ Kept w w' := by
  by_cases h : In64 (a + b)
  · rw [heldAt_of h]; exact Add_ok_s a b w ha hb h
  · by_cases h1 : 9223372036854775807 < a + b
    · rw [heldAt_up h1]; exact Add_up_s a b w ha hb h1
    · have h2 : a + b < -9223372036854775808 := by unfold In64 at h; omega
      rw [heldAt_down h2]; exact Add_down_s a b w ha hb h2

set_option maxHeartbeats 400000 in
theorem Mul_up_s (a b : Int) (w : World) (ha : In64 a) (hb : In64 b) (h : 9223372036854775807 < a * b) :
    Calls Try.prog 22 #[.int .i64 a, .int .i64 b] w fun e w' => e = .returned (.int .i64 9223372036854775807) ∧ Kept w w' := by
  have C := Lib.hid (fun w => product_no_s a b w ha hb (by unfold In64; omega))
  have hs := mul_up h
  clear ha hb h
  rcases hs with ⟨h1, h2⟩ | ⟨h1, h2⟩
  · have d1 : decide (a < 0) = true := by simp; omega
    have d2 : decide (b < 0) = true := by simp; omega
    go_enter Try.func22, Try.ntmps22
    go_wp2_with fail
    refine (C.out _).mono ?_
    rintro e w' ⟨rfl, rfl⟩
    go_wp2
    go_ret
    exact ⟨rfl, (by repeat (first | exact Kept.refl _ | apply Kept.drew | apply Kept.alloc))⟩
  · have d1 : decide (a < 0) = false := by simp; omega
    have d2 : decide (b < 0) = false := by simp; omega
    go_enter Try.func22, Try.ntmps22
    go_wp2_with fail
    refine (C.out _).mono ?_
    rintro e w' ⟨rfl, rfl⟩
    go_wp2
    go_ret
    exact ⟨rfl, (by repeat (first | exact Kept.refl _ | apply Kept.drew | apply Kept.alloc))⟩
set_option maxHeartbeats 400000 in
theorem Mul_down_s (a b : Int) (w : World) (ha : In64 a) (hb : In64 b) (h : a * b < -9223372036854775808) :
    Calls Try.prog 22 #[.int .i64 a, .int .i64 b] w fun e w' => e = .returned (.int .i64 (-9223372036854775808)) ∧ Kept w w' := by
  have C := Lib.hid (fun w => product_no_s a b w ha hb (by unfold In64; omega))
  have hs := mul_down h
  clear ha hb h
  rcases hs with ⟨h1, h2⟩ | ⟨h1, h2⟩
  · have d1 : decide (a < 0) = true := by simp; omega
    have d2 : decide (b < 0) = false := by simp; omega
    go_enter Try.func22, Try.ntmps22
    go_wp2_with fail
    refine (C.out _).mono ?_
    rintro e w' ⟨rfl, rfl⟩
    go_wp2
    go_ret
    exact ⟨rfl, (by repeat (first | exact Kept.refl _ | apply Kept.drew | apply Kept.alloc))⟩
  · have d1 : decide (a < 0) = false := by simp; omega
    have d2 : decide (b < 0) = true := by simp; omega
    go_enter Try.func22, Try.ntmps22
    go_wp2_with fail
    refine (C.out _).mono ?_
    rintro e w' ⟨rfl, rfl⟩
    go_wp2
    go_ret
    exact ⟨rfl, (by repeat (first | exact Kept.refl _ | apply Kept.drew | apply Kept.alloc))⟩
theorem Mul_any_s (a b : Int) (w : World) (ha : In64 a) (hb : In64 b) :
    Calls Try.prog 22 #[.int .i64 a, .int .i64 b] w fun e w' => e = .returned (.int .i64 (heldAt (a * b))) ∧ Kept w w' := by
  by_cases h : In64 (a * b)
  · rw [heldAt_of h]; exact Mul_ok_s a b w ha hb h
  · by_cases h1 : 9223372036854775807 < a * b
    · rw [heldAt_up h1]; exact Mul_up_s a b w ha hb h1
    · have h2 : a * b < -9223372036854775808 := by unfold In64 at h; omega
      rw [heldAt_down h2]; exact Mul_down_s a b w ha hb h2

end Go.Proofs.Ytlgpeafphanobaa
namespace Go.Proofs.Ytlgpeafphanobaa
open Go.RowKit

end Go.Proofs.Ytlgpeafphanobaa
namespace Go.Proofs.Ytlgpeafphanobaa
open Go.RowKit

theorem q_pp_s {a b : Int} (hb : 0 < b) : 9223372036854775807 / b < a ↔ 9223372036854775807 < a * b := Int.ediv_lt_iff_lt_mul hb
theorem q_n_s {b : Int} (hb : 0 < b) : wrap64 (-Int.tdiv 9223372036854775808 b) = -(9223372036854775808 / b) := by
  rw [Int.tdiv_eq_ediv_of_nonneg (by omega)]
  apply wrap64_in
  have h1 := Int.ediv_le_self b (a := 9223372036854775808) (by omega)
  have h2 := Int.ediv_nonneg (a := 9223372036854775808) (b := b) (by omega) (by omega)
  unfold In64; omega
theorem q_np_s {a b : Int} (hb : 0 < b) : a < wrap64 (-Int.tdiv 9223372036854775808 b) ↔ a * b < -9223372036854775808 := by
  rw [q_n_s hb]
  have h := Int.ediv_lt_iff_lt_mul (a := 9223372036854775808) (b := -a) hb
  rw [Int.neg_mul] at h
  omega
theorem q_m_s {a : Int} (ha : a < 0) : wrap64 (Int.tdiv 9223372036854775807 a) = -(9223372036854775807 / (-a)) := by
  have e : Int.tdiv 9223372036854775807 a = -(9223372036854775807 / (-a)) := by
    rw [← Int.tdiv_eq_ediv_of_nonneg (by omega), Int.tdiv_neg, Int.neg_neg]
  rw [e]
  apply wrap64_in
  have h1 := Int.ediv_le_self (-a) (a := 9223372036854775807) (by omega)
  have h2 := Int.ediv_nonneg (a := 9223372036854775807) (b := -a) (by omega) (by omega)
  unfold In64; omega
theorem q_nn_s {a b : Int} (ha : a < 0) : b < wrap64 (Int.tdiv 9223372036854775807 a) ↔ 9223372036854775807 < a * b := by
  rw [q_m_s ha]
  have h := Int.ediv_lt_iff_lt_mul (a := 9223372036854775807) (b := -b) (c := -a) (by omega)
  rw [Int.neg_mul_neg, Int.mul_comm b a] at h
  omega

set_option maxHeartbeats 400000 in
theorem refTimes_pp_no_s (a b : Int) (w : World) (h1 : 0 < a) (h2 : 0 < b) (h : 9223372036854775807 / b < a) :
    Calls Try.prog 43 #[.int .i64 a, .int .i64 b] w fun e w' => e = .returned (.tuple #[.int .i64 0, .int .i64 10]) ∧ w = w' := by
  go_enter Try.func43, Try.ntmps43
  go_wp2
  go_ret2
  exact ⟨rfl, rfl⟩

set_option maxHeartbeats 400000 in
theorem refTimes_pp_ok_s (a b : Int) (w : World) (h1 : 0 < a) (h2 : 0 < b) (p1 : -9223372036854775808 ≤ a * b) (p2 : a * b ≤ 9223372036854775807) (h : a ≤ 9223372036854775807 / b) :
    Calls Try.prog 43 #[.int .i64 a, .int .i64 b] w fun e w' => e = .returned (.tuple #[.int .i64 (a * b), .int .i64 0]) ∧ w = w' := by
  go_enter Try.func43, Try.ntmps43
  go_wp2
  go_ret2
  exact ⟨rfl, rfl⟩

set_option maxHeartbeats 400000 in
theorem refTimes_pn_no_s (a b : Int) (w : World) (h1 : 0 < a) (h2 : b < 0) (h : b < wrap64 (-Int.tdiv 9223372036854775808 a)) :
    Calls Try.prog 43 #[.int .i64 a, .int .i64 b] w fun e w' => e = .returned (.tuple #[.int .i64 0, .int .i64 10]) ∧ w = w' := by
  go_enter Try.func43, Try.ntmps43
  go_wp2
  go_ret2
  exact ⟨rfl, rfl⟩

set_option maxHeartbeats 400000 in
theorem refTimes_pn_ok_s (a b : Int) (w : World) (h1 : 0 < a) (h2 : b < 0) (p1 : -9223372036854775808 ≤ a * b) (p2 : a * b ≤ 9223372036854775807) (h : wrap64 (-Int.tdiv 9223372036854775808 a) ≤ b) :
    Calls Try.prog 43 #[.int .i64 a, .int .i64 b] w fun e w' => e = .returned (.tuple #[.int .i64 (a * b), .int .i64 0]) ∧ w = w' := by
  go_enter Try.func43, Try.ntmps43
  go_wp2
  go_ret2
  exact ⟨rfl, rfl⟩

set_option maxHeartbeats 400000 in
theorem refTimes_np_no_s (a b : Int) (w : World) (h1 : a < 0) (h2 : 0 < b) (h : a < wrap64 (-Int.tdiv 9223372036854775808 b)) :
    Calls Try.prog 43 #[.int .i64 a, .int .i64 b] w fun e w' => e = .returned (.tuple #[.int .i64 0, .int .i64 10]) ∧ w = w' := by
  go_enter Try.func43, Try.ntmps43
  go_wp2
  go_ret2
  exact ⟨rfl, rfl⟩

set_option maxHeartbeats 400000 in
theorem refTimes_np_ok_s (a b : Int) (w : World) (h1 : a < 0) (h2 : 0 < b) (p1 : -9223372036854775808 ≤ a * b) (p2 : a * b ≤ 9223372036854775807) (h : wrap64 (-Int.tdiv 9223372036854775808 b) ≤ a) :
    Calls Try.prog 43 #[.int .i64 a, .int .i64 b] w fun e w' => e = .returned (.tuple #[.int .i64 (a * b), .int .i64 0]) ∧ w = w' := by
  go_enter Try.func43, Try.ntmps43
  go_wp2
  go_ret2
  exact ⟨rfl, rfl⟩

set_option maxHeartbeats 400000 in
theorem refTimes_nn_no_s (a b : Int) (w : World) (h1 : a < 0) (h2 : b < 0) (h : b < wrap64 (Int.tdiv 9223372036854775807 a)) :
    Calls Try.prog 43 #[.int .i64 a, .int .i64 b] w fun e w' => e = .returned (.tuple #[.int .i64 0, .int .i64 10]) ∧ w = w' := by
  go_enter Try.func43, Try.ntmps43
  go_wp2
  go_ret2
  exact ⟨rfl, rfl⟩

set_option maxHeartbeats 400000 in
theorem refTimes_nn_ok_s (a b : Int) (w : World) (h1 : a < 0) (h2 : b < 0) (p1 : -9223372036854775808 ≤ a * b) (p2 : a * b ≤ 9223372036854775807) (h : wrap64 (Int.tdiv 9223372036854775807 a) ≤ b) :
    Calls Try.prog 43 #[.int .i64 a, .int .i64 b] w fun e w' => e = .returned (.tuple #[.int .i64 (a * b), .int .i64 0]) ∧ w = w' := by
  go_enter Try.func43, Try.ntmps43
  go_wp2
  go_ret2
  exact ⟨rfl, rfl⟩

set_option maxHeartbeats 400000 in
theorem refTimes_z1_s (b : Int) (w : World) :
    Calls Try.prog 43 #[.int .i64 0, .int .i64 b] w fun e w' => e = .returned (.tuple #[.int .i64 0, .int .i64 0]) ∧ w = w' := by
  go_enter Try.func43, Try.ntmps43
  go_wp2
  go_ret2
  exact ⟨rfl, rfl⟩

set_option maxHeartbeats 400000 in
theorem refTimes_z2_s (a : Int) (w : World) :
    Calls Try.prog 43 #[.int .i64 a, .int .i64 0] w fun e w' => e = .returned (.tuple #[.int .i64 0, .int .i64 0]) ∧ w = w' := by
  go_enter Try.func43, Try.ntmps43
  go_wp2
  all_goals
    go_ret2
    exact ⟨rfl, rfl⟩

theorem refTimes_var_s (a b v x : Int) (w : World) (hv : overV (a * b) = v) (hx : overE (a * b) = x) :
    Calls Try.prog 43 #[.int .i64 a, .int .i64 b] w fun e w' => e = .returned (.tuple #[.int .i64 v, .int .i64 x]) ∧ w = w' := by
  subst hv; subst hx
  by_cases ha0 : a = 0
  · subst ha0; rw [Int.zero_mul, overV_in (by unfold In64; omega), overE_in (by unfold In64; omega)]; exact refTimes_z1_s b w
  by_cases hb0 : b = 0
  · subst hb0; rw [Int.mul_zero, overV_in (by unfold In64; omega), overE_in (by unfold In64; omega)]; exact refTimes_z2_s a w
  by_cases h : In64 (a * b)
  · rw [overV_in h, overE_in h]
    unfold In64 at h
    by_cases ha : 0 < a <;> by_cases hb : 0 < b
    · have := q_pp_s (a := a) hb; exact refTimes_pp_ok_s a b w ha hb h.1 h.2 (by omega)
    · have := q_np_s (a := b) ha; rw [Int.mul_comm b a] at this; exact refTimes_pn_ok_s a b w ha (by omega) h.1 h.2 (by omega)
    · have := q_np_s (a := a) hb; exact refTimes_np_ok_s a b w (by omega) hb h.1 h.2 (by omega)
    · have := q_nn_s (a := a) (b := b) (by omega); exact refTimes_nn_ok_s a b w (by omega) (by omega) h.1 h.2 (by omega)
  · rw [overV_no h, overE_no h]
    unfold In64 at h
    by_cases ha : 0 < a <;> by_cases hb : 0 < b
    · have := q_pp_s (a := a) hb; have := Int.mul_pos ha hb; exact refTimes_pp_no_s a b w ha hb (by omega)
    · have := q_np_s (a := b) ha; rw [Int.mul_comm b a] at this; have := Int.mul_neg_of_pos_of_neg ha (show b < 0 by omega); exact refTimes_pn_no_s a b w ha (by omega) (by omega)
    · have := q_np_s (a := a) hb; have := Int.mul_neg_of_neg_of_pos (show a < 0 by omega) hb; exact refTimes_np_no_s a b w (by omega) hb (by omega)
    · have := q_nn_s (a := a) (b := b) (by omega); have := Int.mul_pos_of_neg_of_neg (show a < 0 by omega) (show b < 0 by omega); exact refTimes_nn_no_s a b w (by omega) (by omega) (by omega)

set_option maxHeartbeats 400000 in
theorem refPlus_ok_s (a b : Int) (w : World) (ha : In64 a) (hb : In64 b) (h : In64 (a + b)) :
    Calls Try.prog 42 #[.int .i64 a, .int .i64 b] w fun e w' => e = .returned (.tuple #[.int .i64 (a + b), .int .i64 0]) ∧ w = w' := by
  unfold In64 at ha hb h
  obtain ⟨ha1, ha2⟩ := ha; obtain ⟨hb1, hb2⟩ := hb; obtain ⟨h1, h2⟩ := h
  rcases Int.lt_trichotomy b 0 with hb | hb | hb
  · go_enter Try.func42, Try.ntmps42
    go_wp2
    go_ret2
    exact ⟨rfl, rfl⟩
  · subst hb
    simp only [Int.add_zero]
    go_enter Try.func42, Try.ntmps42
    go_wp2
    go_ret2
    exact ⟨rfl, rfl⟩
  · go_enter Try.func42, Try.ntmps42
    go_wp2
    go_ret2
    exact ⟨rfl, rfl⟩
set_option maxHeartbeats 400000 in
theorem refPlus_no_s (a b : Int) (w : World) (ha : In64 a) (hb : In64 b) (h : ¬ In64 (a + b)) :
    Calls Try.prog 42 #[.int .i64 a, .int .i64 b] w fun e w' => e = .returned (.tuple #[.int .i64 0, .int .i64 10]) ∧ w = w' := by
  unfold In64 at ha hb h
  obtain ⟨ha1, ha2⟩ := ha; obtain ⟨hb1, hb2⟩ := hb
  have h' : a + b < -9223372036854775808 ∨ 9223372036854775807 < a + b := by omega
  clear h
  rcases h' with h | h
  · have hs : b < 0 := by omega
    go_enter Try.func42, Try.ntmps42
    go_wp2
    go_ret2
    exact ⟨rfl, rfl⟩
  · have hs : 0 < b := by omega
    go_enter Try.func42, Try.ntmps42
    go_wp2
    go_ret2
    exact ⟨rfl, rfl⟩
theorem refPlus_var_s (a b v x : Int) (w : World) (ha : In64 a) (hb : In64 b) (hv : overV (a + b) = v) (hx : overE (a + b) = x) :
    Calls Try.prog 42 #[.int .i64 a, .int .i64 b] w fun e w' => e = .returned (.tuple #[.int .i64 v, .int .i64 x]) ∧ w = w' := by
  subst hv; subst hx
  by_cases h : In64 (a + b)
  · rw [overV_in h, overE_in h]; exact refPlus_ok_s a b w ha hb h
  · rw [overV_no h, overE_no h]; exact refPlus_no_s a b w ha hb h

set_option maxHeartbeats 400000 in
theorem refAdd_ok_s (a b : Int) (w : World) (n : Int) (C : Hid (∀ w, Calls Try.prog 42 #[.int .i64 a, .int .i64 b] w fun e w' => e = .returned (.tuple #[.int .i64 n, .int .i64 0]) ∧ w = w')) :
    Calls Try.prog 25 #[.int .i64 a, .int .i64 b] w fun e w' => e = .returned (.int .i64 n) ∧ w = w' := by
  go_enter Try.func25, Try.ntmps25
  go_wp2_with fail
  refine (C.out _).mono ?_
  rintro e w1 ⟨rfl, rfl⟩
  go_wp2_with fail
  go_ret
  exact ⟨rfl, rfl⟩

set_option maxHeartbeats 400000 in
theorem refAdd_up_s (a b : Int) (w : World) (h : 0 ≤ a) (C : Hid (∀ w, Calls Try.prog 42 #[.int .i64 a, .int .i64 b] w fun e w' => e = .returned (.tuple #[.int .i64 0, .int .i64 10]) ∧ w = w')) :
    Calls Try.prog 25 #[.int .i64 a, .int .i64 b] w fun e w' => e = .returned (.int .i64 9223372036854775807) ∧ w = w' := by
  go_enter Try.func25, Try.ntmps25
  go_wp2_with fail
  refine (C.out _).mono ?_
  rintro e w1 ⟨rfl, rfl⟩
  go_wp2_with fail
  go_ret
  exact ⟨rfl, rfl⟩

set_option maxHeartbeats 400000 in
theorem refAdd_down_s (a b : Int) (w : World) (h : a < 0) (C : Hid (∀ w, Calls Try.prog 42 #[.int .i64 a, .int .i64 b] w fun e w' => e = .returned (.tuple #[.int .i64 0, .int .i64 10]) ∧ w = w')) :
    Calls Try.prog 25 #[.int .i64 a, .int .i64 b] w fun e w' => e = .returned (.int .i64 (-9223372036854775808)) ∧ w = w' := by
  go_enter Try.func25, Try.ntmps25
  go_wp2_with fail
  refine (C.out _).mono ?_
  rintro e w1 ⟨rfl, rfl⟩
  go_wp2_with fail
  go_ret
  exact ⟨rfl, rfl⟩

theorem refAdd_lit_s (a b n : Int) (w : World) (ha : In64 a) (hb : In64 b) (hn : heldAt (a + b) = n) :
    Calls Try.prog 25 #[.int .i64 a, .int .i64 b] w fun e w' => e = .returned (.int .i64 n) ∧ w = w' := by
  subst hn
  by_cases h : In64 (a + b)
  · rw [heldAt_of h]
    exact refAdd_ok_s a b w _ (Lib.hid fun w => refPlus_var_s a b _ _ w ha hb (overV_in h) (overE_in h))
  · have C := Lib.hid fun w => refPlus_var_s a b _ _ w ha hb (overV_no h) (overE_no h)
    unfold In64 at h ha hb
    by_cases h1 : 9223372036854775807 < a + b
    · rw [heldAt_up h1]
      exact refAdd_up_s a b w (by omega) C
    · rw [heldAt_down (by omega)]
      exact refAdd_down_s a b w (by omega) C

set_option maxHeartbeats 400000 in
theorem refMul_ok_s (a b : Int) (w : World) (n : Int) (C : Hid (∀ w, Calls Try.prog 43 #[.int .i64 a, .int .i64 b] w fun e w' => e = .returned (.tuple #[.int .i64 n, .int .i64 0]) ∧ w = w')) :
    Calls Try.prog 26 #[.int .i64 a, .int .i64 b] w fun e w' => e = .returned (.int .i64 n) ∧ w = w' := by
  go_enter Try.func26, Try.ntmps26
  go_wp2_with fail
  refine (C.out _).mono ?_
  rintro e w1 ⟨rfl, rfl⟩
  go_wp2_with fail
  go_ret
  exact ⟨rfl, rfl⟩

set_option maxHeartbeats 400000 in
theorem refMul_up1_s (a b : Int) (w : World) (d1 : decide (0 < a) = true) (d2 : decide (0 < b) = true) (C : Hid (∀ w, Calls Try.prog 43 #[.int .i64 a, .int .i64 b] w fun e w' => e = .returned (.tuple #[.int .i64 0, .int .i64 10]) ∧ w = w')) :
    Calls Try.prog 26 #[.int .i64 a, .int .i64 b] w fun e w' => e = .returned (.int .i64 9223372036854775807) ∧ w = w' := by
  go_enter Try.func26, Try.ntmps26
  go_wp2_with fail
  refine (C.out _).mono ?_
  rintro e w1 ⟨rfl, rfl⟩
  go_wp2_with fail
  go_ret
  exact ⟨rfl, rfl⟩

set_option maxHeartbeats 400000 in
theorem refMul_up2_s (a b : Int) (w : World) (d1 : decide (0 < a) = false) (d2 : decide (0 < b) = false) (C : Hid (∀ w, Calls Try.prog 43 #[.int .i64 a, .int .i64 b] w fun e w' => e = .returned (.tuple #[.int .i64 0, .int .i64 10]) ∧ w = w')) :
    Calls Try.prog 26 #[.int .i64 a, .int .i64 b] w fun e w' => e = .returned (.int .i64 9223372036854775807) ∧ w = w' := by
  go_enter Try.func26, Try.ntmps26
  go_wp2_with fail
  refine (C.out _).mono ?_
  rintro e w1 ⟨rfl, rfl⟩
  go_wp2_with fail
  go_ret
  exact ⟨rfl, rfl⟩

set_option maxHeartbeats 400000 in
theorem refMul_down1_s (a b : Int) (w : World) (d1 : decide (0 < a) = true) (d2 : decide (0 < b) = false) (C : Hid (∀ w, Calls Try.prog 43 #[.int .i64 a, .int .i64 b] w fun e w' => e = .returned (.tuple #[.int .i64 0, .int .i64 10]) ∧ w = w')) :
    Calls Try.prog 26 #[.int .i64 a, .int .i64 b] w fun e w' => e = .returned (.int .i64 (-9223372036854775808)) ∧ w = w' := by
  go_enter Try.func26, Try.ntmps26
  go_wp2_with fail
  refine (C.out _).mono ?_
  rintro e w1 ⟨rfl, rfl⟩
  go_wp2_with fail
  go_ret
  exact ⟨rfl, rfl⟩

set_option maxHeartbeats 400000 in
theorem refMul_down2_s (a b : Int) (w : World) (d1 : decide (0 < a) = false) (d2 : decide (0 < b) = true) (C : Hid (∀ w, Calls Try.prog 43 #[.int .i64 a, .int .i64 b] w fun e w' => e = .returned (.tuple #[.int .i64 0, .int .i64 10]) ∧ w = w')) :
    Calls Try.prog 26 #[.int .i64 a, .int .i64 b] w fun e w' => e = .returned (.int .i64 (-9223372036854775808)) ∧ w = w' := by
  go_enter Try.func26, Try.ntmps26
  go_wp2_with fail
  refine (C.out _).mono ?_
  rintro e w1 ⟨rfl, rfl⟩
  go_wp2_with fail
  go_ret
  exact ⟨rfl, rfl⟩

theorem refMul_lit_s (a b n : Int) (w : World) (ha : In64 a) (hb : In64 b) (hn : heldAt (a * b) = n) :
    Calls Try.prog 26 #[.int .i64 a, .int .i64 b] w fun e w' => e = .returned (.int .i64 n) ∧ w = w' := by
  subst hn
  by_cases h : In64 (a * b)
  · rw [heldAt_of h]
    exact refMul_ok_s a b w _ (Lib.hid fun w => refTimes_var_s a b _ _ w (overV_in h) (overE_in h))
  · have C := Lib.hid fun w => refTimes_var_s a b _ _ w (overV_no h) (overE_no h)
    unfold In64 at h ha hb
    by_cases h1 : 9223372036854775807 < a * b
    · rw [heldAt_up h1]
      have z : a ≠ 0 ∧ b ≠ 0 := by constructor <;> (intro e; subst e; simp at h1)
      rcases mul_up h1 with ⟨x, y⟩ | ⟨x, y⟩
      · exact refMul_up2_s a b w (by simp; omega) (by simp; omega) C
      · exact refMul_up1_s a b w (by simp; omega) (by simp; omega) C
    · have h2 : a * b < -9223372036854775808 := by omega
      have z : a ≠ 0 ∧ b ≠ 0 := by constructor <;> (intro e; subst e; simp at h2)
      rw [heldAt_down h2]
      rcases mul_down h2 with ⟨x, y⟩ | ⟨x, y⟩
      · exact refMul_down2_s a b w (by simp; omega) (by simp; omega) C
      · exact refMul_down1_s a b w (by simp; omega) (by simp; omega) C

theorem refClamp_lit_s (a b c n : Int) (w : World) (hn : clampAt a b c = n) :
    Calls Try.prog 44 #[.int .i64 a, .int .i64 b, .int .i64 c] w fun e w' => e = .returned (.int .i64 n) ∧ w = w' := by
  subst hn
  by_cases h1 : a < b
  · rw [clampAt_low h1]
    go_enter Try.func44, Try.ntmps44
    go_wp2
    go_ret
    exact ⟨rfl, rfl⟩
  · by_cases h2 : c < a
    · rw [clampAt_high h1 h2]
      go_enter Try.func44, Try.ntmps44
      go_wp2
      go_ret
      exact ⟨rfl, rfl⟩
    · rw [clampAt_in h1 h2]
      go_enter Try.func44, Try.ntmps44
      go_wp2
      go_ret
      exact ⟨rfl, rfl⟩

end Go.Proofs.Ytlgpeafphanobaa
