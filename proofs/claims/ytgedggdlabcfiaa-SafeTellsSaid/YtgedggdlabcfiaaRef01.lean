/-
  Contracts of the document's answers of layer 1.
-/
import Derived.Test.YtgedggdlabcfiaaVars01
namespace Go.Proofs.Ytgedggdlabcfiaa
open Go.RowKit

theorem q_pp {a b : Int} (hb : 0 < b) : 9223372036854775807 / b < a ↔ 9223372036854775807 < a * b := Int.ediv_lt_iff_lt_mul hb
theorem q_n {b : Int} (hb : 0 < b) : wrap64 (-Int.tdiv 9223372036854775808 b) = -(9223372036854775808 / b) := by
  rw [Int.tdiv_eq_ediv_of_nonneg (by omega)]
  apply wrap64_in
  have h1 := Int.ediv_le_self b (a := 9223372036854775808) (by omega)
  have h2 := Int.ediv_nonneg (a := 9223372036854775808) (b := b) (by omega) (by omega)
  unfold In64; omega
theorem q_np {a b : Int} (hb : 0 < b) : a < wrap64 (-Int.tdiv 9223372036854775808 b) ↔ a * b < -9223372036854775808 := by
  rw [q_n hb]
  have h := Int.ediv_lt_iff_lt_mul (a := 9223372036854775808) (b := -a) hb
  rw [Int.neg_mul] at h
  omega
theorem q_m {a : Int} (ha : a < 0) : wrap64 (Int.tdiv 9223372036854775807 a) = -(9223372036854775807 / (-a)) := by
  have e : Int.tdiv 9223372036854775807 a = -(9223372036854775807 / (-a)) := by
    rw [← Int.tdiv_eq_ediv_of_nonneg (by omega), Int.tdiv_neg, Int.neg_neg]
  rw [e]
  apply wrap64_in
  have h1 := Int.ediv_le_self (-a) (a := 9223372036854775807) (by omega)
  have h2 := Int.ediv_nonneg (a := 9223372036854775807) (b := -a) (by omega) (by omega)
  unfold In64; omega
theorem q_nn {a b : Int} (ha : a < 0) : b < wrap64 (Int.tdiv 9223372036854775807 a) ↔ 9223372036854775807 < a * b := by
  rw [q_m ha]
  have h := Int.ediv_lt_iff_lt_mul (a := 9223372036854775807) (b := -b) (c := -a) (by omega)
  rw [Int.neg_mul_neg, Int.mul_comm b a] at h
  omega

set_option maxHeartbeats 400000 in
theorem refTimes_pp_no (a b : Int) (w : World) (h1 : 0 < a) (h2 : 0 < b) (h : 9223372036854775807 / b < a) :
    Calls Try.prog 13 #[.int .i64 a, .int .i64 b] w fun e w' => e = .returned (.tuple #[.int .i64 0, .int .i64 10]) ∧ w = w' := by
  go_enter Try.func13, Try.ntmps13
  go_wp2
  go_ret2
  exact ⟨rfl, rfl⟩

set_option maxHeartbeats 400000 in
theorem refTimes_pp_ok (a b : Int) (w : World) (h1 : 0 < a) (h2 : 0 < b) (p1 : -9223372036854775808 ≤ a * b) (p2 : a * b ≤ 9223372036854775807) (h : a ≤ 9223372036854775807 / b) :
    Calls Try.prog 13 #[.int .i64 a, .int .i64 b] w fun e w' => e = .returned (.tuple #[.int .i64 (a * b), .int .i64 0]) ∧ w = w' := by
  go_enter Try.func13, Try.ntmps13
  go_wp2
  go_ret2
  exact ⟨rfl, rfl⟩

set_option maxHeartbeats 400000 in
theorem refTimes_pn_no (a b : Int) (w : World) (h1 : 0 < a) (h2 : b < 0) (h : b < wrap64 (-Int.tdiv 9223372036854775808 a)) :
    Calls Try.prog 13 #[.int .i64 a, .int .i64 b] w fun e w' => e = .returned (.tuple #[.int .i64 0, .int .i64 10]) ∧ w = w' := by
  go_enter Try.func13, Try.ntmps13
  go_wp2
  go_ret2
  exact ⟨rfl, rfl⟩

set_option maxHeartbeats 400000 in
theorem refTimes_pn_ok (a b : Int) (w : World) (h1 : 0 < a) (h2 : b < 0) (p1 : -9223372036854775808 ≤ a * b) (p2 : a * b ≤ 9223372036854775807) (h : wrap64 (-Int.tdiv 9223372036854775808 a) ≤ b) :
    Calls Try.prog 13 #[.int .i64 a, .int .i64 b] w fun e w' => e = .returned (.tuple #[.int .i64 (a * b), .int .i64 0]) ∧ w = w' := by
  go_enter Try.func13, Try.ntmps13
  go_wp2
  go_ret2
  exact ⟨rfl, rfl⟩

set_option maxHeartbeats 400000 in
theorem refTimes_np_no (a b : Int) (w : World) (h1 : a < 0) (h2 : 0 < b) (h : a < wrap64 (-Int.tdiv 9223372036854775808 b)) :
    Calls Try.prog 13 #[.int .i64 a, .int .i64 b] w fun e w' => e = .returned (.tuple #[.int .i64 0, .int .i64 10]) ∧ w = w' := by
  go_enter Try.func13, Try.ntmps13
  go_wp2
  go_ret2
  exact ⟨rfl, rfl⟩

set_option maxHeartbeats 400000 in
theorem refTimes_np_ok (a b : Int) (w : World) (h1 : a < 0) (h2 : 0 < b) (p1 : -9223372036854775808 ≤ a * b) (p2 : a * b ≤ 9223372036854775807) (h : wrap64 (-Int.tdiv 9223372036854775808 b) ≤ a) :
    Calls Try.prog 13 #[.int .i64 a, .int .i64 b] w fun e w' => e = .returned (.tuple #[.int .i64 (a * b), .int .i64 0]) ∧ w = w' := by
  go_enter Try.func13, Try.ntmps13
  go_wp2
  go_ret2
  exact ⟨rfl, rfl⟩

set_option maxHeartbeats 400000 in
theorem refTimes_nn_no (a b : Int) (w : World) (h1 : a < 0) (h2 : b < 0) (h : b < wrap64 (Int.tdiv 9223372036854775807 a)) :
    Calls Try.prog 13 #[.int .i64 a, .int .i64 b] w fun e w' => e = .returned (.tuple #[.int .i64 0, .int .i64 10]) ∧ w = w' := by
  go_enter Try.func13, Try.ntmps13
  go_wp2
  go_ret2
  exact ⟨rfl, rfl⟩

set_option maxHeartbeats 400000 in
theorem refTimes_nn_ok (a b : Int) (w : World) (h1 : a < 0) (h2 : b < 0) (p1 : -9223372036854775808 ≤ a * b) (p2 : a * b ≤ 9223372036854775807) (h : wrap64 (Int.tdiv 9223372036854775807 a) ≤ b) :
    Calls Try.prog 13 #[.int .i64 a, .int .i64 b] w fun e w' => e = .returned (.tuple #[.int .i64 (a * b), .int .i64 0]) ∧ w = w' := by
  go_enter Try.func13, Try.ntmps13
  go_wp2
  go_ret2
  exact ⟨rfl, rfl⟩

set_option maxHeartbeats 400000 in
theorem refTimes_z1 (b : Int) (w : World) :
    Calls Try.prog 13 #[.int .i64 0, .int .i64 b] w fun e w' => e = .returned (.tuple #[.int .i64 0, .int .i64 0]) ∧ w = w' := by
  go_enter Try.func13, Try.ntmps13
  go_wp2
  go_ret2
  exact ⟨rfl, rfl⟩

set_option maxHeartbeats 400000 in
theorem refTimes_z2 (a : Int) (w : World) :
    Calls Try.prog 13 #[.int .i64 a, .int .i64 0] w fun e w' => e = .returned (.tuple #[.int .i64 0, .int .i64 0]) ∧ w = w' := by
  go_enter Try.func13, Try.ntmps13
  go_wp2
  all_goals
    go_ret2
    exact ⟨rfl, rfl⟩

theorem refTimes_var (a b v x : Int) (w : World) (hv : overV (a * b) = v) (hx : overE (a * b) = x) :
    Calls Try.prog 13 #[.int .i64 a, .int .i64 b] w fun e w' => e = .returned (.tuple #[.int .i64 v, .int .i64 x]) ∧ w = w' := by
  subst hv; subst hx
  by_cases ha0 : a = 0
  · subst ha0; rw [Int.zero_mul, overV_in (by unfold In64; omega), overE_in (by unfold In64; omega)]; exact refTimes_z1 b w
  by_cases hb0 : b = 0
  · subst hb0; rw [Int.mul_zero, overV_in (by unfold In64; omega), overE_in (by unfold In64; omega)]; exact refTimes_z2 a w
  by_cases h : In64 (a * b)
  · rw [overV_in h, overE_in h]
    unfold In64 at h
    by_cases ha : 0 < a <;> by_cases hb : 0 < b
    · have := q_pp (a := a) hb; exact refTimes_pp_ok a b w ha hb h.1 h.2 (by omega)
    · have := q_np (a := b) ha; rw [Int.mul_comm b a] at this; exact refTimes_pn_ok a b w ha (by omega) h.1 h.2 (by omega)
    · have := q_np (a := a) hb; exact refTimes_np_ok a b w (by omega) hb h.1 h.2 (by omega)
    · have := q_nn (a := a) (b := b) (by omega); exact refTimes_nn_ok a b w (by omega) (by omega) h.1 h.2 (by omega)
  · rw [overV_no h, overE_no h]
    unfold In64 at h
    by_cases ha : 0 < a <;> by_cases hb : 0 < b
    · have := q_pp (a := a) hb; have := Int.mul_pos ha hb; exact refTimes_pp_no a b w ha hb (by omega)
    · have := q_np (a := b) ha; rw [Int.mul_comm b a] at this; have := Int.mul_neg_of_pos_of_neg ha (show b < 0 by omega); exact refTimes_pn_no a b w ha (by omega) (by omega)
    · have := q_np (a := a) hb; have := Int.mul_neg_of_neg_of_pos (show a < 0 by omega) hb; exact refTimes_np_no a b w (by omega) hb (by omega)
    · have := q_nn (a := a) (b := b) (by omega); have := Int.mul_pos_of_neg_of_neg (show a < 0 by omega) (show b < 0 by omega); exact refTimes_nn_no a b w (by omega) (by omega) (by omega)

set_option maxHeartbeats 400000 in
theorem refPlus_ok (a b : Int) (w : World) (ha : In64 a) (hb : In64 b) (h : In64 (a + b)) :
    Calls Try.prog 11 #[.int .i64 a, .int .i64 b] w fun e w' => e = .returned (.tuple #[.int .i64 (a + b), .int .i64 0]) ∧ w = w' := by
  unfold In64 at ha hb h
  obtain ⟨ha1, ha2⟩ := ha; obtain ⟨hb1, hb2⟩ := hb; obtain ⟨h1, h2⟩ := h
  rcases Int.lt_trichotomy b 0 with hb | hb | hb
  · go_enter Try.func11, Try.ntmps11
    go_wp2
    go_ret2
    exact ⟨rfl, rfl⟩
  · subst hb
    simp only [Int.add_zero]
    go_enter Try.func11, Try.ntmps11
    go_wp2
    go_ret2
    exact ⟨rfl, rfl⟩
  · go_enter Try.func11, Try.ntmps11
    go_wp2
    go_ret2
    exact ⟨rfl, rfl⟩
set_option maxHeartbeats 400000 in
theorem refPlus_no (a b : Int) (w : World) (ha : In64 a) (hb : In64 b) (h : ¬ In64 (a + b)) :
    Calls Try.prog 11 #[.int .i64 a, .int .i64 b] w fun e w' => e = .returned (.tuple #[.int .i64 0, .int .i64 10]) ∧ w = w' := by
  unfold In64 at ha hb h
  obtain ⟨ha1, ha2⟩ := ha; obtain ⟨hb1, hb2⟩ := hb
  have h' : a + b < -9223372036854775808 ∨ 9223372036854775807 < a + b := by omega
  clear h
  rcases h' with h | h
  · have hs : b < 0 := by omega
    go_enter Try.func11, Try.ntmps11
    go_wp2
    go_ret2
    exact ⟨rfl, rfl⟩
  · have hs : 0 < b := by omega
    go_enter Try.func11, Try.ntmps11
    go_wp2
    go_ret2
    exact ⟨rfl, rfl⟩
theorem refPlus_var (a b v x : Int) (w : World) (ha : In64 a) (hb : In64 b) (hv : overV (a + b) = v) (hx : overE (a + b) = x) :
    Calls Try.prog 11 #[.int .i64 a, .int .i64 b] w fun e w' => e = .returned (.tuple #[.int .i64 v, .int .i64 x]) ∧ w = w' := by
  subst hv; subst hx
  by_cases h : In64 (a + b)
  · rw [overV_in h, overE_in h]; exact refPlus_ok a b w ha hb h
  · rw [overV_no h, overE_no h]; exact refPlus_no a b w ha hb h

set_option maxHeartbeats 400000 in
theorem refminus_ok (a b : Int) (w : World) (ha : In64 a) (hb : In64 b) (h : In64 (a - b)) :
    Calls Try.prog 32 #[.int .i64 a, .int .i64 b] w fun e w' => e = .returned (.tuple #[.int .i64 (a - b), .int .i64 0]) ∧ w = w' := by
  unfold In64 at ha hb h
  obtain ⟨ha1, ha2⟩ := ha; obtain ⟨hb1, hb2⟩ := hb; obtain ⟨h1, h2⟩ := h
  rcases Int.lt_trichotomy b 0 with hb | hb | hb
  · go_enter Try.func32, Try.ntmps32
    go_wp2
    go_ret2
    exact ⟨rfl, rfl⟩
  · subst hb
    simp only [Int.sub_zero]
    go_enter Try.func32, Try.ntmps32
    go_wp2
    go_ret2
    exact ⟨rfl, rfl⟩
  · go_enter Try.func32, Try.ntmps32
    go_wp2
    go_ret2
    exact ⟨rfl, rfl⟩
set_option maxHeartbeats 400000 in
theorem refminus_no (a b : Int) (w : World) (ha : In64 a) (hb : In64 b) (h : ¬ In64 (a - b)) :
    Calls Try.prog 32 #[.int .i64 a, .int .i64 b] w fun e w' => e = .returned (.tuple #[.int .i64 0, .int .i64 10]) ∧ w = w' := by
  unfold In64 at ha hb h
  obtain ⟨ha1, ha2⟩ := ha; obtain ⟨hb1, hb2⟩ := hb
  have h' : a - b < -9223372036854775808 ∨ 9223372036854775807 < a - b := by omega
  clear h
  rcases h' with h | h
  · have hs : 0 < b := by omega
    go_enter Try.func32, Try.ntmps32
    go_wp2
    go_ret2
    exact ⟨rfl, rfl⟩
  · have hs : b < 0 := by omega
    go_enter Try.func32, Try.ntmps32
    go_wp2
    go_ret2
    exact ⟨rfl, rfl⟩
theorem refminus_var (a b v x : Int) (w : World) (ha : In64 a) (hb : In64 b) (hv : overV (a - b) = v) (hx : overE (a - b) = x) :
    Calls Try.prog 32 #[.int .i64 a, .int .i64 b] w fun e w' => e = .returned (.tuple #[.int .i64 v, .int .i64 x]) ∧ w = w' := by
  subst hv; subst hx
  by_cases h : In64 (a - b)
  · rw [overV_in h, overE_in h]; exact refminus_ok a b w ha hb h
  · rw [overV_no h, overE_no h]; exact refminus_no a b w ha hb h

set_option maxHeartbeats 400000 in
theorem refAdd_ok (a b : Int) (w : World) (n : Int) (C : Hid (∀ w, Calls Try.prog 11 #[.int .i64 a, .int .i64 b] w fun e w' => e = .returned (.tuple #[.int .i64 n, .int .i64 0]) ∧ w = w')) :
    Calls Try.prog 15 #[.int .i64 a, .int .i64 b] w fun e w' => e = .returned (.int .i64 n) ∧ w = w' := by
  go_enter Try.func15, Try.ntmps15
  go_wp2_with fail
  refine (C.out _).mono ?_
  rintro e w1 ⟨rfl, rfl⟩
  go_wp2_with fail
  go_ret
  exact ⟨rfl, rfl⟩

set_option maxHeartbeats 400000 in
theorem refAdd_up (a b : Int) (w : World) (h : 0 ≤ a) (C : Hid (∀ w, Calls Try.prog 11 #[.int .i64 a, .int .i64 b] w fun e w' => e = .returned (.tuple #[.int .i64 0, .int .i64 10]) ∧ w = w')) :
    Calls Try.prog 15 #[.int .i64 a, .int .i64 b] w fun e w' => e = .returned (.int .i64 9223372036854775807) ∧ w = w' := by
  go_enter Try.func15, Try.ntmps15
  go_wp2_with fail
  refine (C.out _).mono ?_
  rintro e w1 ⟨rfl, rfl⟩
  go_wp2_with fail
  go_ret
  exact ⟨rfl, rfl⟩

set_option maxHeartbeats 400000 in
theorem refAdd_down (a b : Int) (w : World) (h : a < 0) (C : Hid (∀ w, Calls Try.prog 11 #[.int .i64 a, .int .i64 b] w fun e w' => e = .returned (.tuple #[.int .i64 0, .int .i64 10]) ∧ w = w')) :
    Calls Try.prog 15 #[.int .i64 a, .int .i64 b] w fun e w' => e = .returned (.int .i64 (-9223372036854775808)) ∧ w = w' := by
  go_enter Try.func15, Try.ntmps15
  go_wp2_with fail
  refine (C.out _).mono ?_
  rintro e w1 ⟨rfl, rfl⟩
  go_wp2_with fail
  go_ret
  exact ⟨rfl, rfl⟩

theorem refAdd_lit (a b n : Int) (w : World) (ha : In64 a) (hb : In64 b) (hn : heldAt (a + b) = n) :
    Calls Try.prog 15 #[.int .i64 a, .int .i64 b] w fun e w' => e = .returned (.int .i64 n) ∧ w = w' := by
  subst hn
  by_cases h : In64 (a + b)
  · rw [heldAt_of h]
    exact refAdd_ok a b w _ (Lib.hid fun w => refPlus_var a b _ _ w ha hb (overV_in h) (overE_in h))
  · have C := Lib.hid fun w => refPlus_var a b _ _ w ha hb (overV_no h) (overE_no h)
    unfold In64 at h ha hb
    by_cases h1 : 9223372036854775807 < a + b
    · rw [heldAt_up h1]
      exact refAdd_up a b w (by omega) C
    · rw [heldAt_down (by omega)]
      exact refAdd_down a b w (by omega) C

set_option maxHeartbeats 400000 in
theorem refSub_ok (a b : Int) (w : World) (n : Int) (C : Hid (∀ w, Calls Try.prog 32 #[.int .i64 a, .int .i64 b] w fun e w' => e = .returned (.tuple #[.int .i64 n, .int .i64 0]) ∧ w = w')) :
    Calls Try.prog 17 #[.int .i64 a, .int .i64 b] w fun e w' => e = .returned (.int .i64 n) ∧ w = w' := by
  go_enter Try.func17, Try.ntmps17
  go_wp2_with fail
  refine (C.out _).mono ?_
  rintro e w1 ⟨rfl, rfl⟩
  go_wp2_with fail
  go_ret
  exact ⟨rfl, rfl⟩

set_option maxHeartbeats 400000 in
theorem refSub_up (a b : Int) (w : World) (h : 0 ≤ a) (C : Hid (∀ w, Calls Try.prog 32 #[.int .i64 a, .int .i64 b] w fun e w' => e = .returned (.tuple #[.int .i64 0, .int .i64 10]) ∧ w = w')) :
    Calls Try.prog 17 #[.int .i64 a, .int .i64 b] w fun e w' => e = .returned (.int .i64 9223372036854775807) ∧ w = w' := by
  go_enter Try.func17, Try.ntmps17
  go_wp2_with fail
  refine (C.out _).mono ?_
  rintro e w1 ⟨rfl, rfl⟩
  go_wp2_with fail
  go_ret
  exact ⟨rfl, rfl⟩

set_option maxHeartbeats 400000 in
theorem refSub_down (a b : Int) (w : World) (h : a < 0) (C : Hid (∀ w, Calls Try.prog 32 #[.int .i64 a, .int .i64 b] w fun e w' => e = .returned (.tuple #[.int .i64 0, .int .i64 10]) ∧ w = w')) :
    Calls Try.prog 17 #[.int .i64 a, .int .i64 b] w fun e w' => e = .returned (.int .i64 (-9223372036854775808)) ∧ w = w' := by
  go_enter Try.func17, Try.ntmps17
  go_wp2_with fail
  refine (C.out _).mono ?_
  rintro e w1 ⟨rfl, rfl⟩
  go_wp2_with fail
  go_ret
  exact ⟨rfl, rfl⟩

theorem refSub_lit (a b n : Int) (w : World) (ha : In64 a) (hb : In64 b) (hn : heldAt (a - b) = n) :
    Calls Try.prog 17 #[.int .i64 a, .int .i64 b] w fun e w' => e = .returned (.int .i64 n) ∧ w = w' := by
  subst hn
  by_cases h : In64 (a - b)
  · rw [heldAt_of h]
    exact refSub_ok a b w _ (Lib.hid fun w => refminus_var a b _ _ w ha hb (overV_in h) (overE_in h))
  · have C := Lib.hid fun w => refminus_var a b _ _ w ha hb (overV_no h) (overE_no h)
    unfold In64 at h ha hb
    by_cases h1 : 9223372036854775807 < a - b
    · rw [heldAt_up h1]
      exact refSub_up a b w (by omega) C
    · rw [heldAt_down (by omega)]
      exact refSub_down a b w (by omega) C

set_option maxHeartbeats 400000 in
theorem refMul_ok (a b : Int) (w : World) (n : Int) (C : Hid (∀ w, Calls Try.prog 13 #[.int .i64 a, .int .i64 b] w fun e w' => e = .returned (.tuple #[.int .i64 n, .int .i64 0]) ∧ w = w')) :
    Calls Try.prog 19 #[.int .i64 a, .int .i64 b] w fun e w' => e = .returned (.int .i64 n) ∧ w = w' := by
  go_enter Try.func19, Try.ntmps19
  go_wp2_with fail
  refine (C.out _).mono ?_
  rintro e w1 ⟨rfl, rfl⟩
  go_wp2_with fail
  go_ret
  exact ⟨rfl, rfl⟩

set_option maxHeartbeats 400000 in
theorem refMul_up1 (a b : Int) (w : World) (d1 : decide (0 < a) = true) (d2 : decide (0 < b) = true) (C : Hid (∀ w, Calls Try.prog 13 #[.int .i64 a, .int .i64 b] w fun e w' => e = .returned (.tuple #[.int .i64 0, .int .i64 10]) ∧ w = w')) :
    Calls Try.prog 19 #[.int .i64 a, .int .i64 b] w fun e w' => e = .returned (.int .i64 9223372036854775807) ∧ w = w' := by
  go_enter Try.func19, Try.ntmps19
  go_wp2_with fail
  refine (C.out _).mono ?_
  rintro e w1 ⟨rfl, rfl⟩
  go_wp2_with fail
  go_ret
  exact ⟨rfl, rfl⟩

set_option maxHeartbeats 400000 in
theorem refMul_up2 (a b : Int) (w : World) (d1 : decide (0 < a) = false) (d2 : decide (0 < b) = false) (C : Hid (∀ w, Calls Try.prog 13 #[.int .i64 a, .int .i64 b] w fun e w' => e = .returned (.tuple #[.int .i64 0, .int .i64 10]) ∧ w = w')) :
    Calls Try.prog 19 #[.int .i64 a, .int .i64 b] w fun e w' => e = .returned (.int .i64 9223372036854775807) ∧ w = w' := by
  go_enter Try.func19, Try.ntmps19
  go_wp2_with fail
  refine (C.out _).mono ?_
  rintro e w1 ⟨rfl, rfl⟩
  go_wp2_with fail
  go_ret
  exact ⟨rfl, rfl⟩

set_option maxHeartbeats 400000 in
theorem refMul_down1 (a b : Int) (w : World) (d1 : decide (0 < a) = true) (d2 : decide (0 < b) = false) (C : Hid (∀ w, Calls Try.prog 13 #[.int .i64 a, .int .i64 b] w fun e w' => e = .returned (.tuple #[.int .i64 0, .int .i64 10]) ∧ w = w')) :
    Calls Try.prog 19 #[.int .i64 a, .int .i64 b] w fun e w' => e = .returned (.int .i64 (-9223372036854775808)) ∧ w = w' := by
  go_enter Try.func19, Try.ntmps19
  go_wp2_with fail
  refine (C.out _).mono ?_
  rintro e w1 ⟨rfl, rfl⟩
  go_wp2_with fail
  go_ret
  exact ⟨rfl, rfl⟩

set_option maxHeartbeats 400000 in
theorem refMul_down2 (a b : Int) (w : World) (d1 : decide (0 < a) = false) (d2 : decide (0 < b) = true) (C : Hid (∀ w, Calls Try.prog 13 #[.int .i64 a, .int .i64 b] w fun e w' => e = .returned (.tuple #[.int .i64 0, .int .i64 10]) ∧ w = w')) :
    Calls Try.prog 19 #[.int .i64 a, .int .i64 b] w fun e w' => e = .returned (.int .i64 (-9223372036854775808)) ∧ w = w' := by
  go_enter Try.func19, Try.ntmps19
  go_wp2_with fail
  refine (C.out _).mono ?_
  rintro e w1 ⟨rfl, rfl⟩
  go_wp2_with fail
  go_ret
  exact ⟨rfl, rfl⟩

theorem refMul_lit (a b n : Int) (w : World) (ha : In64 a) (hb : In64 b) (hn : heldAt (a * b) = n) :
    Calls Try.prog 19 #[.int .i64 a, .int .i64 b] w fun e w' => e = .returned (.int .i64 n) ∧ w = w' := by
  subst hn
  by_cases h : In64 (a * b)
  · rw [heldAt_of h]
    exact refMul_ok a b w _ (Lib.hid fun w => refTimes_var a b _ _ w (overV_in h) (overE_in h))
  · have C := Lib.hid fun w => refTimes_var a b _ _ w (overV_no h) (overE_no h)
    unfold In64 at h ha hb
    by_cases h1 : 9223372036854775807 < a * b
    · rw [heldAt_up h1]
      have z : a ≠ 0 ∧ b ≠ 0 := by constructor <;> (intro e; subst e; simp at h1)
      rcases mul_up h1 with ⟨x, y⟩ | ⟨x, y⟩
      · exact refMul_up2 a b w (by simp; omega) (by simp; omega) C
      · exact refMul_up1 a b w (by simp; omega) (by simp; omega) C
    · have h2 : a * b < -9223372036854775808 := by omega
      have z : a ≠ 0 ∧ b ≠ 0 := by constructor <;> (intro e; subst e; simp at h2)
      rw [heldAt_down h2]
      rcases mul_down h2 with ⟨x, y⟩ | ⟨x, y⟩
      · exact refMul_down2 a b w (by simp; omega) (by simp; omega) C
      · exact refMul_down1 a b w (by simp; omega) (by simp; omega) C

set_option maxHeartbeats 400000 in
theorem refAbs_lit (a n : Int) (w : World) (ha : In64 a) (hn : absAt a = n) :
    Calls Try.prog 21 #[.int .i64 a] w fun e w' => e = .returned (.int .i64 n) ∧ w = w' := by
  by_cases h : a < 0
  · have C := Lib.hid (fun w => refSub_lit 0 a n w (by unfold In64; omega) ha (by rw [← hn, absAt_neg h, Int.zero_sub]))
    clear ha hn
    go_enter Try.func21, Try.ntmps21
    go_wp2_with fail
    refine (C.out _).mono ?_
    rintro e w' ⟨rfl, rfl⟩
    go_wp2_with fail
    go_ret
    exact ⟨rfl, rfl⟩
  · rw [absAt_pos h] at hn
    subst hn
    go_enter Try.func21, Try.ntmps21
    go_wp2_with fail
    go_ret
    exact ⟨rfl, rfl⟩

theorem refClamp_lit (a b c n : Int) (w : World) (hn : clampAt a b c = n) :
    Calls Try.prog 23 #[.int .i64 a, .int .i64 b, .int .i64 c] w fun e w' => e = .returned (.int .i64 n) ∧ w = w' := by
  subst hn
  by_cases h1 : a < b
  · rw [clampAt_low h1]
    go_enter Try.func23, Try.ntmps23
    go_wp2
    go_ret
    exact ⟨rfl, rfl⟩
  · by_cases h2 : c < a
    · rw [clampAt_high h1 h2]
      go_enter Try.func23, Try.ntmps23
      go_wp2
      go_ret
      exact ⟨rfl, rfl⟩
    · rw [clampAt_in h1 h2]
      go_enter Try.func23, Try.ntmps23
      go_wp2
      go_ret
      exact ⟨rfl, rfl⟩

end Go.Proofs.Ytgedggdlabcfiaa
