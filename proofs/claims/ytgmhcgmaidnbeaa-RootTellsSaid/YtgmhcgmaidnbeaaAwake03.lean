/-
  The call 'awake' of layer 3's statements answers true.
-/
import Derived.Test.YtgmhcgmaidnbeaaRoot03
import Derived.Test.YtgmhcgmaidnbeaaQuiet
import Derived.Deep.DeepCutAuto
namespace Go.Proofs.Ytgmhcgmaidnbeaa
open Go.RowKit Go.BigFrame

theorem of_26 (w : World) : Calls Try.prog 20 #[.int .i64 26] w fun e w' => e = .returned (.agg #[.bool false, .int .u64 0, .int .u64 26]) ∧ Kept w w' := Of_rep (n := 26) (by unfold In64; omega) ⟨by unfold Word; omega, by unfold Word; omega, by decide, by decide⟩ w
theorem of_m27 (w : World) : Calls Try.prog 20 #[.int .i64 (-27)] w fun e w' => e = .returned (.agg #[.bool true, .int .u64 0, .int .u64 27]) ∧ Kept w w' := Of_rep (n := (-27)) (by unfold In64; omega) ⟨by unfold Word; omega, by unfold Word; omega, by decide, by decide⟩ w
theorem of_8 (w : World) : Calls Try.prog 20 #[.int .i64 8] w fun e w' => e = .returned (.agg #[.bool false, .int .u64 0, .int .u64 8]) ∧ Kept w w' := Of_rep (n := 8) (by unfold In64; omega) ⟨by unfold Word; omega, by unfold Word; omega, by decide, by decide⟩ w
theorem of_9 (w : World) : Calls Try.prog 20 #[.int .i64 9] w fun e w' => e = .returned (.agg #[.bool false, .int .u64 0, .int .u64 9]) ∧ Kept w w' := Of_rep (n := 9) (by unfold In64; omega) ⟨by unfold Word; omega, by unfold Word; omega, by decide, by decide⟩ w
theorem cube_42 (w : World) : Calls Try.prog 10 #[.int .u64 4398046511104] w fun e w' => e = .returned (.tuple #[.agg #[.bool false, .int .u64 4611686018427387904, .int .u64 0], .int .i64 0]) ∧ Kept w w' := Cube_ok (by unfold Word; omega) ⟨by unfold Word; omega, by unfold Word; omega, by decide, by decide⟩ w
theorem cube_up (w : World) : Calls Try.prog 10 #[.int .u64 6981463658332] w fun e w' => e = .returned (.tuple #[.agg #[.bool false, .int .u64 0, .int .u64 0], .int .i64 10]) ∧ Kept w w' := Cube_no (by unfold Word; omega) (cube_over (by omega) (by omega)) w
theorem third_26 (w : World) : Calls Try.prog 14 #[.agg #[.bool false, .int .u64 0, .int .u64 26]] w fun e w' => e = .returned (.int .u64 2) ∧ Kept w w' := Third_ok (b := false) (xh := 0) (xl := 26) (n := 2) (by unfold Word; omega) (by unfold Word; omega) ⟨by decide, by decide, by decide⟩ w
theorem third_m27 (w : World) : Calls Try.prog 14 #[.agg #[.bool true, .int .u64 0, .int .u64 27]] w fun e w' => e = .returned (.int .u64 3) ∧ Kept w w' := Third_ok (b := true) (xh := 0) (xl := 27) (n := 3) (by unfold Word; omega) (by unfold Word; omega) ⟨by decide, by decide, by decide⟩ w
theorem third_huge (w : World) : Calls Try.prog 14 #[.agg #[.bool true, .int .u64 18446744073709551615, .int .u64 18446744073709551615]] w fun e w' => e = .returned (.int .u64 6981463658331) ∧ Kept w w' := Third_ok (b := true) (xh := 18446744073709551615) (xl := 18446744073709551615) (n := 6981463658331) (by unfold Word; omega) (by unfold Word; omega) ⟨by decide, by decide, by decide⟩ w
theorem third_0 (w : World) : Calls Try.prog 14 #[.agg #[.bool false, .int .u64 0, .int .u64 0]] w fun e w' => e = .returned (.int .u64 0) ∧ Kept w w' := Third_ok (b := false) (xh := 0) (xl := 0) (n := 0) (by unfold Word; omega) (by unfold Word; omega) ⟨by decide, by decide, by decide⟩ w
theorem half_8 (w : World) : Calls Try.prog 16 #[.agg #[.bool false, .int .u64 0, .int .u64 8]] w fun e w' => e = .returned (.int .u64 2) ∧ Kept w w' := Half_ok (b := false) (xh := 0) (xl := 8) (n := 2) (by unfold Word; omega) (by unfold Word; omega) ⟨by decide, by decide, by decide⟩ w
theorem half_9 (w : World) : Calls Try.prog 16 #[.agg #[.bool false, .int .u64 0, .int .u64 9]] w fun e w' => e = .returned (.int .u64 3) ∧ Kept w w' := Half_ok (b := false) (xh := 0) (xl := 9) (n := 3) (by unfold Word; omega) (by unfold Word; omega) ⟨by decide, by decide, by decide⟩ w
theorem half_huge (w : World) : Calls Try.prog 16 #[.agg #[.bool true, .int .u64 18446744073709551615, .int .u64 18446744073709551615]] w fun e w' => e = .returned (.int .u64 18446744073709551615) ∧ Kept w w' := Half_ok (b := true) (xh := 18446744073709551615) (xl := 18446744073709551615) (n := 18446744073709551615) (by unfold Word; omega) (by unfold Word; omega) ⟨by decide, by decide, by decide⟩ w
theorem square_63 (w : World) : Calls Try.prog 12 #[.int .u64 9223372036854775808] w fun e w' => e = .returned (.agg #[.bool false, .int .u64 4611686018427387904, .int .u64 0]) ∧ Kept w w' := Square_ok (by unfold Word; omega) ⟨by unfold Word; omega, by unfold Word; omega, by decide, by decide⟩ w

set_option maxRecDepth 100000 in
set_option maxHeartbeats 3200000 in
theorem awake03 (w : World) : Calls Try.prog 9 #[] w fun e w' => e = .returned (.bool true) ∧ Kept w w' := by
  go_enter Try.func9, Try.ntmps9
  go_wp2_with fail
  refine (cube_42 _).mono ?_
  rintro e w1 ⟨rfl, k1⟩
  go_upto_region 2 with fail
  generalize hW : World.alloc w1 (.cells #[.bool false, .int .u64 4611686018427387904, .int .u64 0] 24) = W_c
  have K_c : Kept w1 W_c := by subst hW; exact (Kept.refl _).alloc _ _
  have H_c := Lib.hid (show W_c.cell? ⟨w1.heap.size, 0, none⟩ = some (.bool false) ∧ W_c.cell? ⟨w1.heap.size, 1, none⟩ = some (.int .u64 4611686018427387904) ∧ W_c.cell? ⟨w1.heap.size, 2, none⟩ = some (.int .u64 0) from by subst hW; simp [go_sem])
  clear hW
  generalize w1.heap.size = g_c at *
  go_wp2_with fail
  refine (cube_up _).mono ?_
  rintro e w2 ⟨rfl, k2⟩
  go_upto_region 3 with fail
  generalize hW : World.alloc w2 (.cells #[.bool false, .int .u64 0, .int .u64 0] 24) = W_d
  have K_d : Kept w2 W_d := by subst hW; exact (Kept.refl _).alloc _ _
  have H_d := Lib.hid (show W_d.cell? ⟨w2.heap.size, 0, none⟩ = some (.bool false) ∧ W_d.cell? ⟨w2.heap.size, 1, none⟩ = some (.int .u64 0) ∧ W_d.cell? ⟨w2.heap.size, 2, none⟩ = some (.int .u64 0) from by subst hW; simp [go_sem])
  clear hW
  generalize w2.heap.size = g_d at *
  go_upto_region 4 with fail
  generalize hW : World.alloc W_d (.cells #[.bool true, .int .u64 18446744073709551615, .int .u64 18446744073709551615] 24) = W_h
  have K_h : Kept W_d W_h := by subst hW; exact (Kept.refl _).alloc _ _
  have H_h := Lib.hid (show W_h.cell? ⟨W_d.heap.size, 0, none⟩ = some (.bool true) ∧ W_h.cell? ⟨W_d.heap.size, 1, none⟩ = some (.int .u64 18446744073709551615) ∧ W_h.cell? ⟨W_d.heap.size, 2, none⟩ = some (.int .u64 18446744073709551615) from by subst hW; simp [go_sem])
  clear hW
  generalize W_d.heap.size = g_h at *
  obtain ⟨c_c0, c_c1, c_c2⟩ := Kept.all3 (show Kept W_c W_h from (by (repeat (first | with_reducible exact Kept.refl _ | with_reducible apply Kept.drew | with_reducible apply Kept.alloc | ((with_reducible apply Kept.set); focus (simp <;> omega)) | ((with_reducible apply Kept.via); focus with_reducible assumption))))) H_c
  go_wp2_with fail
  refine (of_26 _).mono ?_
  rintro e w3 ⟨rfl, k3⟩
  clear c_c0 c_c1 c_c2
  go_wp2_with fail
  refine (third_26 _).mono ?_
  rintro e w4 ⟨rfl, k4⟩
  go_wp2_with fail
  refine (of_m27 _).mono ?_
  rintro e w5 ⟨rfl, k5⟩
  go_wp2_with fail
  refine (third_m27 _).mono ?_
  rintro e w6 ⟨rfl, k6⟩
  obtain ⟨c_h0, c_h1, c_h2⟩ := Kept.all3 (show Kept W_h w6 from (by (repeat (first | with_reducible exact Kept.refl _ | with_reducible apply Kept.drew | with_reducible apply Kept.alloc | ((with_reducible apply Kept.set); focus (simp <;> omega)) | ((with_reducible apply Kept.via); focus with_reducible assumption))))) H_h
  go_wp2_with fail
  refine (third_huge _).mono ?_
  rintro e w7 ⟨rfl, k7⟩
  clear c_h0 c_h1 c_h2
  go_wp2_with fail
  refine (third_0 _).mono ?_
  rintro e w8 ⟨rfl, k8⟩
  go_wp2_with fail
  refine (of_8 _).mono ?_
  rintro e w9 ⟨rfl, k9⟩
  go_wp2_with fail
  refine (half_8 _).mono ?_
  rintro e w10 ⟨rfl, k10⟩
  go_wp2_with fail
  refine (of_9 _).mono ?_
  rintro e w11 ⟨rfl, k11⟩
  go_wp2_with fail
  refine (half_9 _).mono ?_
  rintro e w12 ⟨rfl, k12⟩
  obtain ⟨c_h0, c_h1, c_h2⟩ := Kept.all3 (show Kept W_h w12 from (by (repeat (first | with_reducible exact Kept.refl _ | with_reducible apply Kept.drew | with_reducible apply Kept.alloc | ((with_reducible apply Kept.set); focus (simp <;> omega)) | ((with_reducible apply Kept.via); focus with_reducible assumption))))) H_h
  go_wp2_with fail
  refine (half_huge _).mono ?_
  rintro e w13 ⟨rfl, k13⟩
  clear c_h0 c_h1 c_h2
  go_wp2_with fail
  refine (square_63 _).mono ?_
  rintro e w14 ⟨rfl, k14⟩
  go_wp2
  go_ret
  exact ⟨rfl, (by (repeat (first | with_reducible exact Kept.refl _ | with_reducible apply Kept.drew | with_reducible apply Kept.alloc | ((with_reducible apply Kept.set); focus (simp <;> omega)) | ((with_reducible apply Kept.via); focus with_reducible assumption))))⟩
end Go.Proofs.Ytgmhcgmaidnbeaa
