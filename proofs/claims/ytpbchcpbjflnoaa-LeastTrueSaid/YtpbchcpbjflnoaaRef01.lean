/-
  Contracts of the document's answers of layer 1.
-/
import Derived.Test.YtpbchcpbjflnoaaVars01
namespace Go.Proofs.Ytpbchcpbjflnoaa
open Go.RowKit

theorem q_pp_s {a b : Int} (hb : 0 < b) : 9223372036854775807 / b < a ↔ 9223372036854775807 < a * b := Int.ediv_lt_iff_lt_mul hb
theorem q_n_s {b : Int} (hb : 0 < b) : wrap64 (-Int.tdiv 9223372036854775808 b) = -(9223372036854775808 / b) := by
  rw [Int.tdiv_eq_ediv_of_nonneg (by omega)]
  apply wrap64_in
  have h1 := Int.ediv_le_self b (a := 9223372036854775808) (by omega)
  have h2 := Int.ediv_nonneg (a := 9223372036854775808) (b := b) (by omega) (by omega)
  unfold In64; omega
theorem q_np_s {a b : Int} (hb : 0 < b) : a < wrap64 (-Int.tdiv 9223372036854775808 b) ↔ a * b < -9223372036854775808 := by
  rw [q_n_s hb]
  have h := Int.ediv_lt_iff_lt_mul (a := 9223372036854775808) (b := -a) hb
  rw [Int.neg_mul] at h
  omega
theorem q_m_s {a : Int} (ha : a < 0) : wrap64 (Int.tdiv 9223372036854775807 a) = -(9223372036854775807 / (-a)) := by
  have e : Int.tdiv 9223372036854775807 a = -(9223372036854775807 / (-a)) := by
    rw [← Int.tdiv_eq_ediv_of_nonneg (by omega), Int.tdiv_neg, Int.neg_neg]
  rw [e]
  apply wrap64_in
  have h1 := Int.ediv_le_self (-a) (a := 9223372036854775807) (by omega)
  have h2 := Int.ediv_nonneg (a := 9223372036854775807) (b := -a) (by omega) (by omega)
  unfold In64; omega
theorem q_nn_s {a b : Int} (ha : a < 0) : b < wrap64 (Int.tdiv 9223372036854775807 a) ↔ 9223372036854775807 < a * b := by
  rw [q_m_s ha]
  have h := Int.ediv_lt_iff_lt_mul (a := 9223372036854775807) (b := -b) (c := -a) (by omega)
  rw [Int.neg_mul_neg, Int.mul_comm b a] at h
  omega

set_option maxHeartbeats 400000 in
theorem refminus_ok_s (a b : Int) (w : World) (ha : In64 a) (hb : In64 b) (h : In64 (a - b)) :
    Calls Try.prog 29 #[.int .i64 a, .int .i64 b] w fun e w' => e = .returned (.tuple #[.int .i64 (a - b), .int .i64 0]) ∧ w = w' := by
  unfold In64 at ha hb h
  obtain ⟨ha1, ha2⟩ := ha; obtain ⟨hb1, hb2⟩ := hb; obtain ⟨h1, h2⟩ := h
  rcases Int.lt_trichotomy b 0 with hb | hb | hb
  · go_enter Try.func29, Try.ntmps29
    go_wp2
    go_ret2
    exact ⟨rfl, rfl⟩
  · subst hb
    simp only [Int.sub_zero]
    go_enter Try.func29, Try.ntmps29
    go_wp2
    go_ret2
    exact ⟨rfl, rfl⟩
  · go_enter Try.func29, Try.ntmps29
    go_wp2
    go_ret2
    exact ⟨rfl, rfl⟩
set_option maxHeartbeats 400000 in
theorem refminus_no_s (a b : Int) (w : World) (ha : In64 a) (hb : In64 b) (h : ¬ In64 (a - b)) :
    Calls Try.prog 29 #[.int .i64 a, .int .i64 b] w fun e w' => e = .returned (.tuple #[.int .i64 0, .int .i64 10]) ∧ w = w' := by
  unfold In64 at ha hb h
  obtain ⟨ha1, ha2⟩ := ha; obtain ⟨hb1, hb2⟩ := hb
  have h' : a - b < -9223372036854775808 ∨ 9223372036854775807 < a - b := by omega
  clear h
  rcases h' with h | h
  · have hs : 0 < b := by omega
    go_enter Try.func29, Try.ntmps29
    go_wp2
    go_ret2
    exact ⟨rfl, rfl⟩
  · have hs : b < 0 := by omega
    go_enter Try.func29, Try.ntmps29
    go_wp2
    go_ret2
    exact ⟨rfl, rfl⟩
theorem refminus_var_s (a b v x : Int) (w : World) (ha : In64 a) (hb : In64 b) (hv : overV (a - b) = v) (hx : overE (a - b) = x) :
    Calls Try.prog 29 #[.int .i64 a, .int .i64 b] w fun e w' => e = .returned (.tuple #[.int .i64 v, .int .i64 x]) ∧ w = w' := by
  subst hv; subst hx
  by_cases h : In64 (a - b)
  · rw [overV_in h, overE_in h]; exact refminus_ok_s a b w ha hb h
  · rw [overV_no h, overE_no h]; exact refminus_no_s a b w ha hb h

set_option maxHeartbeats 400000 in
theorem refSub_ok_s (a b : Int) (w : World) (n : Int) (C : Hid (∀ w, Calls Try.prog 29 #[.int .i64 a, .int .i64 b] w fun e w' => e = .returned (.tuple #[.int .i64 n, .int .i64 0]) ∧ w = w')) :
    Calls Try.prog 26 #[.int .i64 a, .int .i64 b] w fun e w' => e = .returned (.int .i64 n) ∧ w = w' := by
  go_enter Try.func26, Try.ntmps26
  go_wp2_with fail
  refine (C.out _).mono ?_
  rintro e w1 ⟨rfl, rfl⟩
  go_wp2_with fail
  go_ret
  exact ⟨rfl, rfl⟩

set_option maxHeartbeats 400000 in
theorem refSub_up_s (a b : Int) (w : World) (h : 0 ≤ a) (C : Hid (∀ w, Calls Try.prog 29 #[.int .i64 a, .int .i64 b] w fun e w' => e = .returned (.tuple #[.int .i64 0, .int .i64 10]) ∧ w = w')) :
    Calls Try.prog 26 #[.int .i64 a, .int .i64 b] w fun e w' => e = .returned (.int .i64 9223372036854775807) ∧ w = w' := by
  go_enter Try.func26, Try.ntmps26
  go_wp2_with fail
  refine (C.out _).mono ?_
  rintro e w1 ⟨rfl, rfl⟩
  go_wp2_with fail
  go_ret
  exact ⟨rfl, rfl⟩

set_option maxHeartbeats 400000 in
theorem refSub_down_s (a b : Int) (w : World) (h : a < 0) (C : Hid (∀ w, Calls Try.prog 29 #[.int .i64 a, .int .i64 b] w fun e w' => e = .returned (.tuple #[.int .i64 0, .int .i64 10]) ∧ w = w')) :
    Calls Try.prog 26 #[.int .i64 a, .int .i64 b] w fun e w' => e = .returned (.int .i64 (-9223372036854775808)) ∧ w = w' := by
  go_enter Try.func26, Try.ntmps26
  go_wp2_with fail
  refine (C.out _).mono ?_
  rintro e w1 ⟨rfl, rfl⟩
  go_wp2_with fail
  go_ret
  exact ⟨rfl, rfl⟩

theorem refSub_lit_s (a b n : Int) (w : World) (ha : In64 a) (hb : In64 b) (hn : heldAt (a - b) = n) :
    Calls Try.prog 26 #[.int .i64 a, .int .i64 b] w fun e w' => e = .returned (.int .i64 n) ∧ w = w' := by
  subst hn
  by_cases h : In64 (a - b)
  · rw [heldAt_of h]
    exact refSub_ok_s a b w _ (Lib.hid fun w => refminus_var_s a b _ _ w ha hb (overV_in h) (overE_in h))
  · have C := Lib.hid fun w => refminus_var_s a b _ _ w ha hb (overV_no h) (overE_no h)
    unfold In64 at h ha hb
    by_cases h1 : 9223372036854775807 < a - b
    · rw [heldAt_up h1]
      exact refSub_up_s a b w (by omega) C
    · rw [heldAt_down (by omega)]
      exact refSub_down_s a b w (by omega) C

end Go.Proofs.Ytpbchcpbjflnoaa
