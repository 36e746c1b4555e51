/-
  The walk of FracTurns: it answers true, whatever it is given.
-/
import Derived.Test.YtfkdbelajideiaaAwake04
namespace Go.Proofs.Ytfkdbelajideiaa
open Go.RowKit Go.BigFrame

set_option maxRecDepth 100000 in
set_option maxHeartbeats 1600000 in
theorem turns_both (a b c y : Int) (a0 : -2147483648 ≤ a) (a1 : a ≤ 2147483647) (y0 : -9223372036854775807 ≤ y) (y1 : y ≤ 9223372036854775807) (w : World) (F1 : ∀ w, Calls Try.prog 10 #[.int .i64 a, .int .i64 b, .int .i64 c] w fun e w' => e = .returned (.tuple #[.int .i64 (-y), .int .i64 0]) ∧ Kept w w') (C1 : ∀ w, Calls Try.prog 12 #[.int .i64 (-a), .int .i64 b, .int .i64 c] w fun e w' => e = .returned (.tuple #[.int .i64 y, .int .i64 0]) ∧ Kept w w') (F2 : ∀ w, Calls Try.prog 10 #[.int .i64 b, .int .i64 a, .int .i64 c] w fun e w' => e = .returned (.tuple #[.int .i64 (-y), .int .i64 0]) ∧ Kept w w') :
    Calls Try.prog 5 #[.int .i32 a, .int .i64 b, .int .i64 c] w fun e w' => e = .returned (.bool true) ∧ Kept w w' := by
  have F1' := Lib.hid F1
  have C1' := Lib.hid C1
  have F2' := Lib.hid F2
  clear F1 C1 F2
  go_enter Try.func5, Try.ntmps5
  go_wp2_with fail
  refine (awake04 _).mono ?_
  rintro e w1 ⟨rfl, k1⟩
  go_wp2_with fail
  refine (F1'.out _).mono ?_
  rintro e w2 ⟨rfl, k2⟩
  go_wp2_with fail
  refine (C1'.out _).mono ?_
  rintro e w3 ⟨rfl, k3⟩
  go_wp2_with fail
  refine (F2'.out _).mono ?_
  rintro e w4 ⟨rfl, k4⟩
  go_wp2
  go_ret
  exact ⟨rfl, (by (repeat (first | with_reducible exact Kept.refl _ | with_reducible apply Kept.drew | with_reducible apply Kept.alloc | ((with_reducible apply Kept.set); focus (simp <;> omega)) | ((with_reducible apply Kept.via); focus with_reducible assumption))))⟩
set_option maxRecDepth 100000 in
set_option maxHeartbeats 1600000 in
theorem turns_one (a b c x y er fr : Int) (a0 : -2147483648 ≤ a) (a1 : a ≤ 2147483647) (he : (er != 0) = true) (w : World) (F1 : ∀ w, Calls Try.prog 10 #[.int .i64 a, .int .i64 b, .int .i64 c] w fun e w' => e = .returned (.tuple #[.int .i64 x, .int .i64 er]) ∧ Kept w w') (C1 : ∀ w, Calls Try.prog 12 #[.int .i64 (-a), .int .i64 b, .int .i64 c] w fun e w' => e = .returned (.tuple #[.int .i64 y, .int .i64 fr]) ∧ Kept w w') (F2 : ∀ w, Calls Try.prog 10 #[.int .i64 b, .int .i64 a, .int .i64 c] w fun e w' => e = .returned (.tuple #[.int .i64 x, .int .i64 er]) ∧ Kept w w') :
    Calls Try.prog 5 #[.int .i32 a, .int .i64 b, .int .i64 c] w fun e w' => e = .returned (.bool true) ∧ Kept w w' := by
  have F1' := Lib.hid F1
  have C1' := Lib.hid C1
  have F2' := Lib.hid F2
  clear F1 C1 F2
  go_enter Try.func5, Try.ntmps5
  go_wp2_with fail
  refine (awake04 _).mono ?_
  rintro e w1 ⟨rfl, k1⟩
  go_wp2_with fail
  refine (F1'.out _).mono ?_
  rintro e w2 ⟨rfl, k2⟩
  go_wp2_with fail
  refine (C1'.out _).mono ?_
  rintro e w3 ⟨rfl, k3⟩
  go_wp2_with fail
  refine (F2'.out _).mono ?_
  rintro e w4 ⟨rfl, k4⟩
  go_wp2
  go_ret
  exact ⟨rfl, (by (repeat (first | with_reducible exact Kept.refl _ | with_reducible apply Kept.drew | with_reducible apply Kept.alloc | ((with_reducible apply Kept.set); focus (simp <;> omega)) | ((with_reducible apply Kept.via); focus with_reducible assumption))))⟩
set_option maxRecDepth 100000 in
set_option maxHeartbeats 1600000 in
theorem turns_two (a b c x y fr : Int) (a0 : -2147483648 ≤ a) (a1 : a ≤ 2147483647) (hf : (fr != 0) = true) (w : World) (F1 : ∀ w, Calls Try.prog 10 #[.int .i64 a, .int .i64 b, .int .i64 c] w fun e w' => e = .returned (.tuple #[.int .i64 x, .int .i64 0]) ∧ Kept w w') (C1 : ∀ w, Calls Try.prog 12 #[.int .i64 (-a), .int .i64 b, .int .i64 c] w fun e w' => e = .returned (.tuple #[.int .i64 y, .int .i64 fr]) ∧ Kept w w') (F2 : ∀ w, Calls Try.prog 10 #[.int .i64 b, .int .i64 a, .int .i64 c] w fun e w' => e = .returned (.tuple #[.int .i64 x, .int .i64 0]) ∧ Kept w w') :
    Calls Try.prog 5 #[.int .i32 a, .int .i64 b, .int .i64 c] w fun e w' => e = .returned (.bool true) ∧ Kept w w' := by
  have F1' := Lib.hid F1
  have C1' := Lib.hid C1
  have F2' := Lib.hid F2
  clear F1 C1 F2
  go_enter Try.func5, Try.ntmps5
  go_wp2_with fail
  refine (awake04 _).mono ?_
  rintro e w1 ⟨rfl, k1⟩
  go_wp2_with fail
  refine (F1'.out _).mono ?_
  rintro e w2 ⟨rfl, k2⟩
  go_wp2_with fail
  refine (C1'.out _).mono ?_
  rintro e w3 ⟨rfl, k3⟩
  go_wp2_with fail
  refine (F2'.out _).mono ?_
  rintro e w4 ⟨rfl, k4⟩
  go_wp2
  go_ret
  exact ⟨rfl, (by (repeat (first | with_reducible exact Kept.refl _ | with_reducible apply Kept.drew | with_reducible apply Kept.alloc | ((with_reducible apply Kept.set); focus (simp <;> omega)) | ((with_reducible apply Kept.via); focus with_reducible assumption))))⟩
theorem ceil_neg {m c : Int} (hc : 1 ≤ c) : ceilOf (-m) c = -(m / c) := by
  rw [ceil_part hc]
  obtain ⟨h1, h2⟩ := neg_quo (S := m) (d := c) (by omega)
  have a2 := Int.emod_nonneg m (show c ≠ 0 by omega)
  have a3 := Int.emod_lt_of_pos m (show 0 < c by omega)
  by_cases z : m % c = 0
  · obtain ⟨h3, h4⟩ := h1 z; rw [if_pos h4, h3]
  · obtain ⟨h3, h4⟩ := h2 z; rw [if_neg (by omega), h3]; omega
theorem fracTurns_walk (a b c : Int) (w : World) (ha : -2147483648 ≤ a ∧ a ≤ 2147483647) (hb : In64 b) (hc : In64 c) :
    Calls Try.prog 5 #[.int .i32 a, .int .i64 b, .int .i64 c] w fun e w' => e = .returned (.bool true) ∧ Kept w w' := by
  obtain ⟨x, e, T⟩ := part_ex c (a * b / c)
  obtain ⟨y, f, U⟩ := part_ex c (ceilOf (-a * b) c)
  have ia : In64 a := by unfold In64; omega
  have in_ : In64 (-a) := by unfold In64; omega
  have T2 : Part c (b * a / c) x e := by rw [Int.mul_comm b a]; exact T
  have F1 := Floor_ok ia hb hc T
  have C1 := Ceil_ok in_ hb hc U
  have F2 := Floor_ok hb ia hc T2
  by_cases he : e = 0
  · by_cases hf : f = 0
    · subst he hf
      obtain ⟨c1, rfl, i1⟩ := part_ok T
      obtain ⟨_, rfl, i2⟩ := part_ok U
      have q : a * b / c = -(ceilOf (-a * b) c) := by rw [Int.neg_mul, ceil_neg c1]; omega
      rw [q] at F1 F2 i1
      exact turns_both a b c _ ha.1 ha.2 (by unfold In64 at i1; omega) (by unfold In64 at i2; omega) w F1 C1 F2
    · subst he
      exact turns_two a b c x y f ha.1 ha.2 (by simp [hf]) w F1 C1 F2
  · exact turns_one a b c x y e f ha.1 ha.2 (by simp [he]) w F1 C1 F2
end Go.Proofs.Ytfkdbelajideiaa
