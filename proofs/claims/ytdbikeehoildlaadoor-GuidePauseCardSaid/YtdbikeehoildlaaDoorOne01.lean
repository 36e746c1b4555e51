/-
  In one text: Numb, Leaf, Vars01, Ref01.
-/
import Derived.Test.YtdbikeehoildlaaDoorNums
import Derived.Test.YtdbikeehoildlaaDoorRows
import Derived.WalkKit
import Derived.WalkSpells
import Derived.Lib.Hide
import Derived.WalkLawsBesides
namespace Go.Proofs.YtdbikeehoildlaaDoor

theorem in64_neg {a t : Int} (h : In64 a) (h1 : (a == -9223372036854775808) = false) (e : -a = t) : In64 t := by
  have h2 : a ≠ -9223372036854775808 := by simpa using h1
  unfold In64 at *; omega
theorem heldAt_pos {n : Int} (h : 0 < n) : 0 < heldAt n := by unfold heldAt; split <;> (try split) <;> omega
theorem heldAt_neg {n : Int} (h : n < 0) : heldAt n < 0 := by unfold heldAt; split <;> (try split) <;> omega
theorem absAt_nonneg (a : Int) : 0 ≤ absAt a := by unfold absAt heldAt; split <;> (try split) <;> (try split) <;> omega
theorem absAt_neg_of {a : Int} (h : In64 a) (h1 : (a == -9223372036854775808) = false) : absAt (-a) = absAt a := by
  have h2 : a ≠ -9223372036854775808 := by simpa using h1
  unfold In64 at h
  unfold absAt heldAt
  split <;> split <;> (repeat split) <;> omega

/-- The sum, the product, where it is a number of 64 bits; else 0. -/
def overV (n : Int) : Int := if -9223372036854775808 ≤ n ∧ n ≤ 9223372036854775807 then n else 0
/-- The error's number: 0, or 10. -/
def overE (n : Int) : Int := if -9223372036854775808 ≤ n ∧ n ≤ 9223372036854775807 then 0 else 10
theorem overV_in {n : Int} (h : In64 n) : overV n = n := by unfold In64 at h; unfold overV; rw [if_pos h]
theorem overE_in {n : Int} (h : In64 n) : overE n = 0 := by unfold In64 at h; unfold overE; rw [if_pos h]
theorem overV_no {n : Int} (h : ¬ In64 n) : overV n = 0 := by unfold In64 at h; unfold overV; rw [if_neg h]
theorem overE_no {n : Int} (h : ¬ In64 n) : overE n = 10 := by unfold In64 at h; unfold overE; rw [if_neg h]
theorem in64_overV (n : Int) : In64 (overV n) := by
  by_cases h : In64 n
  · rw [overV_in h]; exact h
  · rw [overV_no h]; unfold In64; omega

theorem small_mul {i b : Int} (hi : -2147483648 ≤ i ∧ i ≤ 2147483647) (hb : -2147483648 ≤ b ∧ b ≤ 2147483647) : In64 (i * b) := by
  have h1 : i.natAbs ≤ 2147483648 := by omega
  have h2 : b.natAbs ≤ 2147483648 := by omega
  have h3 := Nat.mul_le_mul h1 h2
  rw [← Int.natAbs_mul] at h3
  unfold In64
  omega

end Go.Proofs.YtdbikeehoildlaaDoor
namespace Go.Proofs.YtdbikeehoildlaaDoor
open Go.RowKit

set_option maxHeartbeats 400000 in
theorem sum_ok_s (a b : Int) (w : World) (ha : In64 a) (hb : In64 b) (h : In64 (a + b)) :
    Calls Tryd.prog 65 #[.int .i64 a, .int .i64 b] w fun e w' => e = .returned (.tuple #[.int .i64 (a + b), .bool true]) ∧ w = w' := by
  unfold In64 at ha hb h
  obtain ⟨ha1, ha2⟩ := ha; obtain ⟨hb1, hb2⟩ := hb; obtain ⟨h1, h2⟩ := h
  rcases Int.lt_trichotomy b 0 with hb | hb | hb
  · go_enter Tryd.func65, Tryd.ntmps65
    go_wp2
    go_ret2
    exact ⟨rfl, rfl⟩
  · subst hb
    simp only [Int.add_zero]
    go_enter Tryd.func65, Tryd.ntmps65
    go_wp2
    go_ret2
    exact ⟨rfl, rfl⟩
  · go_enter Tryd.func65, Tryd.ntmps65
    go_wp2
    go_ret2
    exact ⟨rfl, rfl⟩
set_option maxHeartbeats 400000 in
theorem sum_no_s (a b : Int) (w : World) (ha : In64 a) (hb : In64 b) (h : ¬ In64 (a + b)) :
    Calls Tryd.prog 65 #[.int .i64 a, .int .i64 b] w fun e w' => e = .returned (.tuple #[.int .i64 0, .bool false]) ∧ w = w' := by
  unfold In64 at ha hb h
  obtain ⟨ha1, ha2⟩ := ha; obtain ⟨hb1, hb2⟩ := hb
  have h' : a + b < -9223372036854775808 ∨ 9223372036854775807 < a + b := by omega
  clear h
  rcases h' with h | h
  · have hs : b < 0 := by omega
    go_enter Tryd.func65, Tryd.ntmps65
    go_wp2
    go_ret2
    exact ⟨rfl, rfl⟩
  · have hs : 0 < b := by omega
    go_enter Tryd.func65, Tryd.ntmps65
    go_wp2
    go_ret2
    exact ⟨rfl, rfl⟩

set_option maxHeartbeats 400000 in
theorem difference_ok_s (a b : Int) (w : World) (ha : In64 a) (hb : In64 b) (h : In64 (a - b)) :
    Calls Tryd.prog 41 #[.int .i64 a, .int .i64 b] w fun e w' => e = .returned (.tuple #[.int .i64 (a - b), .bool true]) ∧ w = w' := by
  unfold In64 at ha hb h
  obtain ⟨ha1, ha2⟩ := ha; obtain ⟨hb1, hb2⟩ := hb; obtain ⟨h1, h2⟩ := h
  rcases Int.lt_trichotomy b 0 with hb | hb | hb
  · go_enter Tryd.func41, Tryd.ntmps41
    go_wp2
    go_ret2
    exact ⟨rfl, rfl⟩
  · subst hb
    simp only [Int.sub_zero]
    go_enter Tryd.func41, Tryd.ntmps41
    go_wp2
    go_ret2
    exact ⟨rfl, rfl⟩
  · go_enter Tryd.func41, Tryd.ntmps41
    go_wp2
    go_ret2
    exact ⟨rfl, rfl⟩
set_option maxHeartbeats 400000 in
theorem difference_no_s (a b : Int) (w : World) (ha : In64 a) (hb : In64 b) (h : ¬ In64 (a - b)) :
    Calls Tryd.prog 41 #[.int .i64 a, .int .i64 b] w fun e w' => e = .returned (.tuple #[.int .i64 0, .bool false]) ∧ w = w' := by
  unfold In64 at ha hb h
  obtain ⟨ha1, ha2⟩ := ha; obtain ⟨hb1, hb2⟩ := hb
  have h' : a - b < -9223372036854775808 ∨ 9223372036854775807 < a - b := by omega
  clear h
  rcases h' with h | h
  · have hs : 0 < b := by omega
    go_enter Tryd.func41, Tryd.ntmps41
    go_wp2
    go_ret2
    exact ⟨rfl, rfl⟩
  · have hs : b < 0 := by omega
    go_enter Tryd.func41, Tryd.ntmps41
    go_wp2
    go_ret2
    exact ⟨rfl, rfl⟩

theorem clamp_any_s (a b c : Int) (w : World) :
    Calls Tryd.prog 61 #[.int .i64 a, .int .i64 b, .int .i64 c] w fun e w' => e = .returned (.int .i64 (clampAt a b c)) ∧ w = w' := by
  by_cases h1 : a < b
  · rw [clampAt_low h1]
    go_enter Tryd.func61, Tryd.ntmps61
    go_wp2
    go_ret
    exact ⟨rfl, rfl⟩
  · by_cases h2 : c < a
    · rw [clampAt_high h1 h2]
      go_enter Tryd.func61, Tryd.ntmps61
      go_wp2
      go_ret
      exact ⟨rfl, rfl⟩
    · rw [clampAt_in h1 h2]
      go_enter Tryd.func61, Tryd.ntmps61
      go_wp2
      go_ret
      exact ⟨rfl, rfl⟩

set_option maxHeartbeats 400000 in
theorem Add_ok_s (a b : Int) (w : World) (ha : In64 a) (hb : In64 b) (h : In64 (a + b)) :
    Calls Tryd.prog 46 #[.int .i64 a, .int .i64 b] w fun e w' => e = .returned (.int .i64 (a + b)) ∧ Kept w w' := by
  have C := Lib.hid (fun w => sum_ok_s a b w ha hb h)
  clear ha hb h
  go_enter Tryd.func46, Tryd.ntmps46
  go_wp2_with fail
  refine (C.out _).mono ?_
  rintro e w' ⟨rfl, rfl⟩
  go_wp2
  go_ret
  exact ⟨rfl, (by repeat (first | exact Kept.refl _ | apply Kept.drew | apply Kept.alloc))⟩

set_option maxHeartbeats 400000 in
theorem Sub_ok_s (a b : Int) (w : World) (ha : In64 a) (hb : In64 b) (h : In64 (a - b)) :
    Calls Tryd.prog 29 #[.int .i64 a, .int .i64 b] w fun e w' => e = .returned (.int .i64 (a - b)) ∧ Kept w w' := by
  have C := Lib.hid (fun w => difference_ok_s a b w ha hb h)
  clear ha hb h
  go_enter Tryd.func29, Tryd.ntmps29
  go_wp2_with fail
  refine (C.out _).mono ?_
  rintro e w' ⟨rfl, rfl⟩
  go_wp2
  go_ret
  exact ⟨rfl, (by repeat (first | exact Kept.refl _ | apply Kept.drew | apply Kept.alloc))⟩

set_option maxHeartbeats 400000 in
theorem Add_up_s (a b : Int) (w : World) (ha : In64 a) (hb : In64 b) (h : 9223372036854775807 < a + b) :
    Calls Tryd.prog 46 #[.int .i64 a, .int .i64 b] w fun e w' => e = .returned (.int .i64 9223372036854775807) ∧ Kept w w' := by
  have C := Lib.hid (fun w => sum_no_s a b w ha hb (by unfold In64; omega))
  have hs : 0 ≤ a := by unfold In64 at ha hb; omega
  clear ha hb h
  go_enter Tryd.func46, Tryd.ntmps46
  go_wp2_with fail
  refine (C.out _).mono ?_
  rintro e w' ⟨rfl, rfl⟩
  go_wp2
  go_ret
  exact ⟨rfl, (by repeat (first | exact Kept.refl _ | apply Kept.drew | apply Kept.alloc))⟩
set_option maxHeartbeats 400000 in
theorem Add_down_s (a b : Int) (w : World) (ha : In64 a) (hb : In64 b) (h : a + b < -9223372036854775808) :
    Calls Tryd.prog 46 #[.int .i64 a, .int .i64 b] w fun e w' => e = .returned (.int .i64 (-9223372036854775808)) ∧ Kept w w' := by
  have C := Lib.hid (fun w => sum_no_s a b w ha hb (by unfold In64; omega))
  have hs : a < 0 := by unfold In64 at ha hb; omega
  clear ha hb h
  go_enter Tryd.func46, Tryd.ntmps46
  go_wp2_with fail
  refine (C.out _).mono ?_
  rintro e w' ⟨rfl, rfl⟩
  go_wp2
  go_ret
  exact ⟨rfl, (by repeat (first | exact Kept.refl _ | apply Kept.drew | apply Kept.alloc))⟩
theorem Add_any_s (a b : Int) (w : World) (ha : In64 a) (hb : In64 b) :
    Calls Tryd.prog 46 #[.int .i64 a, .int .i64 b] w fun e w' => e = .returned (.int .i64 (heldAt (a + b))) ∧ Kept w w' := by
  by_cases h : In64 (a + b)
  · rw [heldAt_of h]; exact Add_ok_s a b w ha hb h
  · by_cases h1 : 9223372036854775807 < a + b
    · rw [heldAt_up h1]; exact Add_up_s a b w ha hb h1
    · have h2 : a + b < -9223372036854775808 := by unfold In64 at h; omega
      rw [heldAt_down h2]; exact Add_down_s a b w ha hb h2

set_option maxHeartbeats 400000 in
theorem Sub_up_s (a b : Int) (w : World) (ha : In64 a) (hb : In64 b) (h : 9223372036854775807 < a - b) :
    Calls Tryd.prog 29 #[.int .i64 a, .int .i64 b] w fun e w' => e = .returned (.int .i64 9223372036854775807) ∧ Kept w w' := by
  have C := Lib.hid (fun w => difference_no_s a b w ha hb (by unfold In64; omega))
  have hs : 0 ≤ a := by unfold In64 at ha hb; omega
  clear ha hb h
  go_enter Tryd.func29, Tryd.ntmps29
  go_wp2_with fail
  refine (C.out _).mono ?_
  rintro e w' ⟨rfl, rfl⟩
  go_wp2
  go_ret
  exact ⟨rfl, (by repeat (first | exact Kept.refl _ | apply Kept.drew | apply Kept.alloc))⟩
set_option maxHeartbeats 400000 in
theorem Sub_down_s (a b : Int) (w : World) (ha : In64 a) (hb : In64 b) (h : a - b < -9223372036854775808) :
    Calls Tryd.prog 29 #[.int .i64 a, .int .i64 b] w fun e w' => e = .returned (.int .i64 (-9223372036854775808)) ∧ Kept w w' := by
  have C := Lib.hid (fun w => difference_no_s a b w ha hb (by unfold In64; omega))
  have hs : a < 0 := by unfold In64 at ha hb; omega
  clear ha hb h
  go_enter Tryd.func29, Tryd.ntmps29
  go_wp2_with fail
  refine (C.out _).mono ?_
  rintro e w' ⟨rfl, rfl⟩
  go_wp2
  go_ret
  exact ⟨rfl, (by repeat (first | exact Kept.refl _ | apply Kept.drew | apply Kept.alloc))⟩
theorem Sub_any_s (a b : Int) (w : World) (ha : In64 a) (hb : In64 b) :
    Calls Tryd.prog 29 #[.int .i64 a, .int .i64 b] w fun e w' => e = .returned (.int .i64 (heldAt (a - b))) ∧ Kept w w' := by
  by_cases h : In64 (a - b)
  · rw [heldAt_of h]; exact Sub_ok_s a b w ha hb h
  · by_cases h1 : 9223372036854775807 < a - b
    · rw [heldAt_up h1]; exact Sub_up_s a b w ha hb h1
    · have h2 : a - b < -9223372036854775808 := by unfold In64 at h; omega
      rw [heldAt_down h2]; exact Sub_down_s a b w ha hb h2

end Go.Proofs.YtdbikeehoildlaaDoor
namespace Go.Proofs.YtdbikeehoildlaaDoor
open Go.RowKit

end Go.Proofs.YtdbikeehoildlaaDoor
namespace Go.Proofs.YtdbikeehoildlaaDoor
open Go.RowKit

theorem q_pp_s {a b : Int} (hb : 0 < b) : 9223372036854775807 / b < a ↔ 9223372036854775807 < a * b := Int.ediv_lt_iff_lt_mul hb
theorem q_n_s {b : Int} (hb : 0 < b) : wrap64 (-Int.tdiv 9223372036854775808 b) = -(9223372036854775808 / b) := by
  rw [Int.tdiv_eq_ediv_of_nonneg (by omega)]
  apply wrap64_in
  have h1 := Int.ediv_le_self b (a := 9223372036854775808) (by omega)
  have h2 := Int.ediv_nonneg (a := 9223372036854775808) (b := b) (by omega) (by omega)
  unfold In64; omega
theorem q_np_s {a b : Int} (hb : 0 < b) : a < wrap64 (-Int.tdiv 9223372036854775808 b) ↔ a * b < -9223372036854775808 := by
  rw [q_n_s hb]
  have h := Int.ediv_lt_iff_lt_mul (a := 9223372036854775808) (b := -a) hb
  rw [Int.neg_mul] at h
  omega
theorem q_m_s {a : Int} (ha : a < 0) : wrap64 (Int.tdiv 9223372036854775807 a) = -(9223372036854775807 / (-a)) := by
  have e : Int.tdiv 9223372036854775807 a = -(9223372036854775807 / (-a)) := by
    rw [← Int.tdiv_eq_ediv_of_nonneg (by omega), Int.tdiv_neg, Int.neg_neg]
  rw [e]
  apply wrap64_in
  have h1 := Int.ediv_le_self (-a) (a := 9223372036854775807) (by omega)
  have h2 := Int.ediv_nonneg (a := 9223372036854775807) (b := -a) (by omega) (by omega)
  unfold In64; omega
theorem q_nn_s {a b : Int} (ha : a < 0) : b < wrap64 (Int.tdiv 9223372036854775807 a) ↔ 9223372036854775807 < a * b := by
  rw [q_m_s ha]
  have h := Int.ediv_lt_iff_lt_mul (a := 9223372036854775807) (b := -b) (c := -a) (by omega)
  rw [Int.neg_mul_neg, Int.mul_comm b a] at h
  omega

set_option maxHeartbeats 400000 in
theorem refPlus_ok_s (a b : Int) (w : World) (ha : In64 a) (hb : In64 b) (h : In64 (a + b)) :
    Calls Tryd.prog 67 #[.int .i64 a, .int .i64 b] w fun e w' => e = .returned (.tuple #[.int .i64 (a + b), .int .i64 0]) ∧ w = w' := by
  unfold In64 at ha hb h
  obtain ⟨ha1, ha2⟩ := ha; obtain ⟨hb1, hb2⟩ := hb; obtain ⟨h1, h2⟩ := h
  rcases Int.lt_trichotomy b 0 with hb | hb | hb
  · go_enter Tryd.func67, Tryd.ntmps67
    go_wp2
    go_ret2
    exact ⟨rfl, rfl⟩
  · subst hb
    simp only [Int.add_zero]
    go_enter Tryd.func67, Tryd.ntmps67
    go_wp2
    go_ret2
    exact ⟨rfl, rfl⟩
  · go_enter Tryd.func67, Tryd.ntmps67
    go_wp2
    go_ret2
    exact ⟨rfl, rfl⟩
set_option maxHeartbeats 400000 in
theorem refPlus_no_s (a b : Int) (w : World) (ha : In64 a) (hb : In64 b) (h : ¬ In64 (a + b)) :
    Calls Tryd.prog 67 #[.int .i64 a, .int .i64 b] w fun e w' => e = .returned (.tuple #[.int .i64 0, .int .i64 10]) ∧ w = w' := by
  unfold In64 at ha hb h
  obtain ⟨ha1, ha2⟩ := ha; obtain ⟨hb1, hb2⟩ := hb
  have h' : a + b < -9223372036854775808 ∨ 9223372036854775807 < a + b := by omega
  clear h
  rcases h' with h | h
  · have hs : b < 0 := by omega
    go_enter Tryd.func67, Tryd.ntmps67
    go_wp2
    go_ret2
    exact ⟨rfl, rfl⟩
  · have hs : 0 < b := by omega
    go_enter Tryd.func67, Tryd.ntmps67
    go_wp2
    go_ret2
    exact ⟨rfl, rfl⟩
theorem refPlus_var_s (a b v x : Int) (w : World) (ha : In64 a) (hb : In64 b) (hv : overV (a + b) = v) (hx : overE (a + b) = x) :
    Calls Tryd.prog 67 #[.int .i64 a, .int .i64 b] w fun e w' => e = .returned (.tuple #[.int .i64 v, .int .i64 x]) ∧ w = w' := by
  subst hv; subst hx
  by_cases h : In64 (a + b)
  · rw [overV_in h, overE_in h]; exact refPlus_ok_s a b w ha hb h
  · rw [overV_no h, overE_no h]; exact refPlus_no_s a b w ha hb h

set_option maxHeartbeats 400000 in
theorem refminus_ok_s (a b : Int) (w : World) (ha : In64 a) (hb : In64 b) (h : In64 (a - b)) :
    Calls Tryd.prog 45 #[.int .i64 a, .int .i64 b] w fun e w' => e = .returned (.tuple #[.int .i64 (a - b), .int .i64 0]) ∧ w = w' := by
  unfold In64 at ha hb h
  obtain ⟨ha1, ha2⟩ := ha; obtain ⟨hb1, hb2⟩ := hb; obtain ⟨h1, h2⟩ := h
  rcases Int.lt_trichotomy b 0 with hb | hb | hb
  · go_enter Tryd.func45, Tryd.ntmps45
    go_wp2
    go_ret2
    exact ⟨rfl, rfl⟩
  · subst hb
    simp only [Int.sub_zero]
    go_enter Tryd.func45, Tryd.ntmps45
    go_wp2
    go_ret2
    exact ⟨rfl, rfl⟩
  · go_enter Tryd.func45, Tryd.ntmps45
    go_wp2
    go_ret2
    exact ⟨rfl, rfl⟩
set_option maxHeartbeats 400000 in
theorem refminus_no_s (a b : Int) (w : World) (ha : In64 a) (hb : In64 b) (h : ¬ In64 (a - b)) :
    Calls Tryd.prog 45 #[.int .i64 a, .int .i64 b] w fun e w' => e = .returned (.tuple #[.int .i64 0, .int .i64 10]) ∧ w = w' := by
  unfold In64 at ha hb h
  obtain ⟨ha1, ha2⟩ := ha; obtain ⟨hb1, hb2⟩ := hb
  have h' : a - b < -9223372036854775808 ∨ 9223372036854775807 < a - b := by omega
  clear h
  rcases h' with h | h
  · have hs : 0 < b := by omega
    go_enter Tryd.func45, Tryd.ntmps45
    go_wp2
    go_ret2
    exact ⟨rfl, rfl⟩
  · have hs : b < 0 := by omega
    go_enter Tryd.func45, Tryd.ntmps45
    go_wp2
    go_ret2
    exact ⟨rfl, rfl⟩
theorem refminus_var_s (a b v x : Int) (w : World) (ha : In64 a) (hb : In64 b) (hv : overV (a - b) = v) (hx : overE (a - b) = x) :
    Calls Tryd.prog 45 #[.int .i64 a, .int .i64 b] w fun e w' => e = .returned (.tuple #[.int .i64 v, .int .i64 x]) ∧ w = w' := by
  subst hv; subst hx
  by_cases h : In64 (a - b)
  · rw [overV_in h, overE_in h]; exact refminus_ok_s a b w ha hb h
  · rw [overV_no h, overE_no h]; exact refminus_no_s a b w ha hb h

set_option maxHeartbeats 400000 in
theorem refAdd_ok_s (a b : Int) (w : World) (n : Int) (C : Hid (∀ w, Calls Tryd.prog 67 #[.int .i64 a, .int .i64 b] w fun e w' => e = .returned (.tuple #[.int .i64 n, .int .i64 0]) ∧ w = w')) :
    Calls Tryd.prog 47 #[.int .i64 a, .int .i64 b] w fun e w' => e = .returned (.int .i64 n) ∧ w = w' := by
  go_enter Tryd.func47, Tryd.ntmps47
  go_wp2_with fail
  refine (C.out _).mono ?_
  rintro e w1 ⟨rfl, rfl⟩
  go_wp2_with fail
  go_ret
  exact ⟨rfl, rfl⟩

set_option maxHeartbeats 400000 in
theorem refAdd_up_s (a b : Int) (w : World) (h : 0 ≤ a) (C : Hid (∀ w, Calls Tryd.prog 67 #[.int .i64 a, .int .i64 b] w fun e w' => e = .returned (.tuple #[.int .i64 0, .int .i64 10]) ∧ w = w')) :
    Calls Tryd.prog 47 #[.int .i64 a, .int .i64 b] w fun e w' => e = .returned (.int .i64 9223372036854775807) ∧ w = w' := by
  go_enter Tryd.func47, Tryd.ntmps47
  go_wp2_with fail
  refine (C.out _).mono ?_
  rintro e w1 ⟨rfl, rfl⟩
  go_wp2_with fail
  go_ret
  exact ⟨rfl, rfl⟩

set_option maxHeartbeats 400000 in
theorem refAdd_down_s (a b : Int) (w : World) (h : a < 0) (C : Hid (∀ w, Calls Tryd.prog 67 #[.int .i64 a, .int .i64 b] w fun e w' => e = .returned (.tuple #[.int .i64 0, .int .i64 10]) ∧ w = w')) :
    Calls Tryd.prog 47 #[.int .i64 a, .int .i64 b] w fun e w' => e = .returned (.int .i64 (-9223372036854775808)) ∧ w = w' := by
  go_enter Tryd.func47, Tryd.ntmps47
  go_wp2_with fail
  refine (C.out _).mono ?_
  rintro e w1 ⟨rfl, rfl⟩
  go_wp2_with fail
  go_ret
  exact ⟨rfl, rfl⟩

theorem refAdd_lit_s (a b n : Int) (w : World) (ha : In64 a) (hb : In64 b) (hn : heldAt (a + b) = n) :
    Calls Tryd.prog 47 #[.int .i64 a, .int .i64 b] w fun e w' => e = .returned (.int .i64 n) ∧ w = w' := by
  subst hn
  by_cases h : In64 (a + b)
  · rw [heldAt_of h]
    exact refAdd_ok_s a b w _ (Lib.hid fun w => refPlus_var_s a b _ _ w ha hb (overV_in h) (overE_in h))
  · have C := Lib.hid fun w => refPlus_var_s a b _ _ w ha hb (overV_no h) (overE_no h)
    unfold In64 at h ha hb
    by_cases h1 : 9223372036854775807 < a + b
    · rw [heldAt_up h1]
      exact refAdd_up_s a b w (by omega) C
    · rw [heldAt_down (by omega)]
      exact refAdd_down_s a b w (by omega) C

set_option maxHeartbeats 400000 in
theorem refSub_ok_s (a b : Int) (w : World) (n : Int) (C : Hid (∀ w, Calls Tryd.prog 45 #[.int .i64 a, .int .i64 b] w fun e w' => e = .returned (.tuple #[.int .i64 n, .int .i64 0]) ∧ w = w')) :
    Calls Tryd.prog 30 #[.int .i64 a, .int .i64 b] w fun e w' => e = .returned (.int .i64 n) ∧ w = w' := by
  go_enter Tryd.func30, Tryd.ntmps30
  go_wp2_with fail
  refine (C.out _).mono ?_
  rintro e w1 ⟨rfl, rfl⟩
  go_wp2_with fail
  go_ret
  exact ⟨rfl, rfl⟩

set_option maxHeartbeats 400000 in
theorem refSub_up_s (a b : Int) (w : World) (h : 0 ≤ a) (C : Hid (∀ w, Calls Tryd.prog 45 #[.int .i64 a, .int .i64 b] w fun e w' => e = .returned (.tuple #[.int .i64 0, .int .i64 10]) ∧ w = w')) :
    Calls Tryd.prog 30 #[.int .i64 a, .int .i64 b] w fun e w' => e = .returned (.int .i64 9223372036854775807) ∧ w = w' := by
  go_enter Tryd.func30, Tryd.ntmps30
  go_wp2_with fail
  refine (C.out _).mono ?_
  rintro e w1 ⟨rfl, rfl⟩
  go_wp2_with fail
  go_ret
  exact ⟨rfl, rfl⟩

set_option maxHeartbeats 400000 in
theorem refSub_down_s (a b : Int) (w : World) (h : a < 0) (C : Hid (∀ w, Calls Tryd.prog 45 #[.int .i64 a, .int .i64 b] w fun e w' => e = .returned (.tuple #[.int .i64 0, .int .i64 10]) ∧ w = w')) :
    Calls Tryd.prog 30 #[.int .i64 a, .int .i64 b] w fun e w' => e = .returned (.int .i64 (-9223372036854775808)) ∧ w = w' := by
  go_enter Tryd.func30, Tryd.ntmps30
  go_wp2_with fail
  refine (C.out _).mono ?_
  rintro e w1 ⟨rfl, rfl⟩
  go_wp2_with fail
  go_ret
  exact ⟨rfl, rfl⟩

theorem refSub_lit_s (a b n : Int) (w : World) (ha : In64 a) (hb : In64 b) (hn : heldAt (a - b) = n) :
    Calls Tryd.prog 30 #[.int .i64 a, .int .i64 b] w fun e w' => e = .returned (.int .i64 n) ∧ w = w' := by
  subst hn
  by_cases h : In64 (a - b)
  · rw [heldAt_of h]
    exact refSub_ok_s a b w _ (Lib.hid fun w => refminus_var_s a b _ _ w ha hb (overV_in h) (overE_in h))
  · have C := Lib.hid fun w => refminus_var_s a b _ _ w ha hb (overV_no h) (overE_no h)
    unfold In64 at h ha hb
    by_cases h1 : 9223372036854775807 < a - b
    · rw [heldAt_up h1]
      exact refSub_up_s a b w (by omega) C
    · rw [heldAt_down (by omega)]
      exact refSub_down_s a b w (by omega) C

end Go.Proofs.YtdbikeehoildlaaDoor
