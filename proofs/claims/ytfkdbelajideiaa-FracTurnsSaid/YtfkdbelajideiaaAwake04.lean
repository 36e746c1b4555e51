/-
  The call 'awake' of layer 4's statements answers true.
-/
import Derived.Deep.DeepCutAuto
import Derived.Test.YtfkdbelajideiaaParts04
namespace Go.Proofs.Ytfkdbelajideiaa
open Go.RowKit Go.BigFrame

theorem part_val {c n v : Int} (hc : 1 ≤ c) (h : In64 v) (e : n = v) : Part c n v 0 := by subst e; exact part_yes hc h
theorem fl_m7 (w : World) : Calls Try.prog 10 #[.int .i64 (-7), .int .i64 1, .int .i64 2] w fun e w' => e = .returned (.tuple #[.int .i64 (-4), .int .i64 0]) ∧ Kept w w' := Floor_ok (by unfold In64; omega) (by unfold In64; omega) (by unfold In64; omega) (part_val (by omega) (by unfold In64; omega) (by decide)) w
theorem ce_m7 (w : World) : Calls Try.prog 12 #[.int .i64 (-7), .int .i64 1, .int .i64 2] w fun e w' => e = .returned (.tuple #[.int .i64 (-3), .int .i64 0]) ∧ Kept w w' := Ceil_ok (by unfold In64; omega) (by unfold In64; omega) (by unfold In64; omega) (part_val (by omega) (by unfold In64; omega) (by decide)) w
theorem ne_m7 (w : World) : Calls Try.prog 14 #[.int .i64 (-7), .int .i64 1, .int .i64 2] w fun e w' => e = .returned (.tuple #[.int .i64 (-3), .int .i64 0]) ∧ Kept w w' := Near_ok (by unfold In64; omega) (by unfold In64; omega) (by unfold In64; omega) (part_val (by omega) (by unfold In64; omega) (by decide)) w
theorem fl_over (w : World) : Calls Try.prog 10 #[.int .i64 4611686018427387904, .int .i64 4, .int .i64 1] w fun e w' => e = .returned (.tuple #[.int .i64 0, .int .i64 10]) ∧ Kept w w' := Floor_ok (by unfold In64; omega) (by unfold In64; omega) (by unfold In64; omega) (part_over (by omega) (by unfold In64; omega)) w
theorem fl_zero (w : World) : Calls Try.prog 10 #[.int .i64 1, .int .i64 1, .int .i64 0] w fun e w' => e = .returned (.tuple #[.int .i64 0, .int .i64 20]) ∧ Kept w w' := Floor_ok (by unfold In64; omega) (by unfold In64; omega) (by unfold In64; omega) (part_zero (by omega)) w
theorem ce_zero (w : World) : Calls Try.prog 12 #[.int .i64 1, .int .i64 1, .int .i64 (-5)] w fun e w' => e = .returned (.tuple #[.int .i64 0, .int .i64 20]) ∧ Kept w w' := Ceil_ok (by unfold In64; omega) (by unfold In64; omega) (by unfold In64; omega) (part_zero (by omega)) w
theorem ne_max (w : World) : Calls Try.prog 14 #[.int .i64 9223372036854775807, .int .i64 9223372036854775807, .int .i64 9223372036854775807] w fun e w' => e = .returned (.tuple #[.int .i64 9223372036854775807, .int .i64 0]) ∧ Kept w w' := Near_ok (by unfold In64; omega) (by unfold In64; omega) (by unfold In64; omega) (part_val (by omega) (by unfold In64; omega) (by decide)) w
theorem sg_3000 (w : World) : Calls Try.prog 16 #[.int .i64 3000, .int .i64 1500] w fun e w' => e = .returned (.tuple #[.int .i64 131072, .int .i64 0]) ∧ Kept w w' := Segs_ok (by unfold In64; omega) (by unfold In64; omega) (part_val (by omega) (by unfold In64; omega) (by decide)) w
theorem by_half (w : World) : Calls Try.prog 18 #[.int .i64 98304, .int .i64 1500] w fun e w' => e = .returned (.tuple #[.int .i64 2250, .int .i64 0]) ∧ Kept w w' := Bytes_ok (by unfold In64; omega) (by unfold In64; omega) (part_val (by omega) (by unfold In64; omega) (by decide)) w
theorem wh_m1 (w : World) : Calls Try.prog 20 #[.int .i64 (-1)] w fun e w' => e = .returned (.int .i64 (-1)) ∧ Kept w w' := Whole_ok (n := -1) (by unfold In64; omega) w
theorem wh_4 (w : World) : Calls Try.prog 20 #[.int .i64 327679] w fun e w' => e = .returned (.int .i64 4) ∧ Kept w w' := Whole_ok (n := 327679) (by unfold In64; omega) w

set_option maxRecDepth 100000 in
set_option maxHeartbeats 1600000 in
theorem awake04 (w : World) : Calls Try.prog 9 #[] w fun e w' => e = .returned (.bool true) ∧ Kept w w' := by
  go_enter Try.func9, Try.ntmps9
  go_wp2_with fail
  refine (fl_m7 _).mono ?_
  rintro e w1 ⟨rfl, k1⟩
  go_wp2_with fail
  refine (ce_m7 _).mono ?_
  rintro e w2 ⟨rfl, k2⟩
  go_wp2_with fail
  refine (ne_m7 _).mono ?_
  rintro e w3 ⟨rfl, k3⟩
  go_wp2_with fail
  refine (fl_over _).mono ?_
  rintro e w4 ⟨rfl, k4⟩
  go_wp2_with fail
  refine (fl_zero _).mono ?_
  rintro e w5 ⟨rfl, k5⟩
  go_wp2_with fail
  refine (ce_zero _).mono ?_
  rintro e w6 ⟨rfl, k6⟩
  go_wp2_with fail
  refine (ne_max _).mono ?_
  rintro e w7 ⟨rfl, k7⟩
  go_wp2_with fail
  refine (sg_3000 _).mono ?_
  rintro e w8 ⟨rfl, k8⟩
  go_wp2_with fail
  refine (by_half _).mono ?_
  rintro e w9 ⟨rfl, k9⟩
  go_wp2_with fail
  refine (wh_m1 _).mono ?_
  rintro e w10 ⟨rfl, k10⟩
  go_wp2_with fail
  refine (wh_4 _).mono ?_
  rintro e w11 ⟨rfl, k11⟩
  go_wp2
  go_ret
  exact ⟨rfl, (by (repeat (first | with_reducible exact Kept.refl _ | with_reducible apply Kept.drew | with_reducible apply Kept.alloc | ((with_reducible apply Kept.set); focus (simp <;> omega)) | ((with_reducible apply Kept.via); focus with_reducible assumption))))⟩
end Go.Proofs.Ytfkdbelajideiaa
