/-
  The call 'awake' of layer 2's statements answers true.
-/
import Derived.Test.YtahbijfmhdiafaaSemB02
import Derived.Test.YtahbijfmhdiafaaQuiet
import Derived.Test.YtahbijfmhdiafaaLex02
import Derived.Deep.DeepCutAuto
namespace Go.Proofs.Ytahbijfmhdiafaa
open Go.RowKit Go.BigFrame

theorem of_1 (w : World) : Calls Try.prog 16 #[.int .i64 1] w fun e w' => e = .returned (.agg #[.bool false, .int .u64 0, .int .u64 1]) ∧ Kept w w' := Of_rep (n := 1) (by unfold In64; omega) ⟨by unfold Word; omega, by unfold Word; omega, by decide, by decide⟩ w
theorem of_m1 (w : World) : Calls Try.prog 16 #[.int .i64 (-1)] w fun e w' => e = .returned (.agg #[.bool true, .int .u64 0, .int .u64 1]) ∧ Kept w w' := Of_rep (n := (-1)) (by unfold In64; omega) ⟨by unfold Word; omega, by unfold Word; omega, by decide, by decide⟩ w
theorem of_m7 (w : World) : Calls Try.prog 16 #[.int .i64 (-7)] w fun e w' => e = .returned (.agg #[.bool true, .int .u64 0, .int .u64 7]) ∧ Kept w w' := Of_rep (n := (-7)) (by unfold In64; omega) ⟨by unfold Word; omega, by unfold Word; omega, by decide, by decide⟩ w
theorem of_5 (w : World) : Calls Try.prog 16 #[.int .i64 5] w fun e w' => e = .returned (.agg #[.bool false, .int .u64 0, .int .u64 5]) ∧ Kept w w' := Of_rep (n := 5) (by unfold In64; omega) ⟨by unfold Word; omega, by unfold Word; omega, by decide, by decide⟩ w
theorem of_m5 (w : World) : Calls Try.prog 16 #[.int .i64 (-5)] w fun e w' => e = .returned (.agg #[.bool true, .int .u64 0, .int .u64 5]) ∧ Kept w w' := Of_rep (n := (-5)) (by unfold In64; omega) ⟨by unfold Word; omega, by unfold Word; omega, by decide, by decide⟩ w
theorem of_m4 (w : World) : Calls Try.prog 16 #[.int .i64 (-4)] w fun e w' => e = .returned (.agg #[.bool true, .int .u64 0, .int .u64 4]) ∧ Kept w w' := Of_rep (n := (-4)) (by unfold In64; omega) ⟨by unfold Word; omega, by unfold Word; omega, by decide, by decide⟩ w
theorem of_3 (w : World) : Calls Try.prog 16 #[.int .i64 3] w fun e w' => e = .returned (.agg #[.bool false, .int .u64 0, .int .u64 3]) ∧ Kept w w' := Of_rep (n := 3) (by unfold In64; omega) ⟨by unfold Word; omega, by unfold Word; omega, by decide, by decide⟩ w
theorem of_m6 (w : World) : Calls Try.prog 16 #[.int .i64 (-6)] w fun e w' => e = .returned (.agg #[.bool true, .int .u64 0, .int .u64 6]) ∧ Kept w w' := Of_rep (n := (-6)) (by unfold In64; omega) ⟨by unfold Word; omega, by unfold Word; omega, by decide, by decide⟩ w
theorem of_m9 (w : World) : Calls Try.prog 16 #[.int .i64 (-9)] w fun e w' => e = .returned (.agg #[.bool true, .int .u64 0, .int .u64 9]) ∧ Kept w w' := Of_rep (n := (-9)) (by unfold In64; omega) ⟨by unfold Word; omega, by unfold Word; omega, by decide, by decide⟩ w
theorem of_m9223372036854775808 (w : World) : Calls Try.prog 16 #[.int .i64 (-9223372036854775808)] w fun e w' => e = .returned (.agg #[.bool true, .int .u64 0, .int .u64 9223372036854775808]) ∧ Kept w w' := Of_rep (n := (-9223372036854775808)) (by unfold In64; omega) ⟨by unfold Word; omega, by unfold Word; omega, by decide, by decide⟩ w
theorem add_over (w : World) : Calls Try.prog 10 #[.agg #[.bool false, .int .u64 18446744073709551615, .int .u64 18446744073709551615], .agg #[.bool false, .int .u64 0, .int .u64 1]] w fun e w' => e = .returned (.tuple #[.agg #[.bool false, .int .u64 0, .int .u64 0], .int .i64 10]) ∧ Kept w w' := Add_no (by unfold Word; omega) (by unfold Word; omega) (by unfold Word; omega) (by unfold Word; omega) (by rw [show numOf false 18446744073709551615 18446744073709551615 + numOf false 0 1 = 340282366920938463463374607431768211456 by decide]; unfold InBig; omega) w
theorem add_huge (w : World) : Calls Try.prog 10 #[.agg #[.bool false, .int .u64 18446744073709551615, .int .u64 18446744073709551615], .agg #[.bool true, .int .u64 0, .int .u64 1]] w fun e w' => e = .returned (.tuple #[.agg #[.bool false, .int .u64 18446744073709551615, .int .u64 18446744073709551614], .int .i64 0]) ∧ Kept w w' := Add_ok (by unfold Word; omega) (by unfold Word; omega) (by unfold Word; omega) (by unfold Word; omega) ⟨by unfold Word; omega, by unfold Word; omega, by decide, by decide⟩ w
theorem add_five (w : World) : Calls Try.prog 10 #[.agg #[.bool false, .int .u64 0, .int .u64 5], .agg #[.bool true, .int .u64 0, .int .u64 5]] w fun e w' => e = .returned (.tuple #[.agg #[.bool false, .int .u64 0, .int .u64 0], .int .i64 0]) ∧ Kept w w' := Add_ok (by unfold Word; omega) (by unfold Word; omega) (by unfold Word; omega) (by unfold Word; omega) ⟨by unfold Word; omega, by unfold Word; omega, by decide, by decide⟩ w
theorem div_seven (w : World) : Calls Try.prog 14 #[.agg #[.bool true, .int .u64 0, .int .u64 7], .int .u64 2] w fun e w' => e = .returned (.tuple #[.agg #[.bool true, .int .u64 0, .int .u64 4], .int .u64 1, .int .i64 0]) ∧ Kept w w' := Div_ok (b1 := true) (b := true) (xh := 0) (xl := 7) (h := 0) (l := 4) (d := 2) (by unfold Word; omega) (by unfold Word; omega) (by unfold Word; omega) (by omega) ⟨by unfold Word; omega, by unfold Word; omega, by decide, by decide⟩ w
theorem scale_huge (w : World) : Calls Try.prog 12 #[.agg #[.bool false, .int .u64 18446744073709551615, .int .u64 18446744073709551615], .int .u64 2] w fun e w' => e = .returned (.tuple #[.agg #[.bool false, .int .u64 0, .int .u64 0], .int .i64 10]) ∧ Kept w w' := Scale_over (by unfold Word; omega) (by unfold Word; omega) (by unfold Word; omega) (by rw [show numOf false 18446744073709551615 18446744073709551615 * 2 = 680564733841876926926749214863536422910 by decide]; unfold InBig; omega) w
theorem scale_one (w : World) : Calls Try.prog 12 #[.agg #[.bool false, .int .u64 1, .int .u64 18446744073709551615], .int .u64 18446744073709551615] w fun e w' => e = .returned (.tuple #[.agg #[.bool false, .int .u64 0, .int .u64 0], .int .i64 10]) ∧ Kept w w' := Scale_over (by unfold Word; omega) (by unfold Word; omega) (by unfold Word; omega) (by rw [show numOf false 1 18446744073709551615 * 18446744073709551615 = 680564733841876926871408982642407768065 by decide]; unfold InBig; omega) w
theorem mul_least (w : World) : Calls Try.prog 18 #[.int .i64 (-9223372036854775808), .int .i64 (-9223372036854775808)] w fun e w' => e = .returned (.agg #[.bool false, .int .u64 4611686018427387904, .int .u64 0]) ∧ Kept w w' := Mul_rep (by unfold In64; omega) (by unfold In64; omega) ⟨by unfold Word; omega, by unfold Word; omega, by decide, by decide⟩ w
theorem cmp_a (w : World) : Calls Try.prog 22 #[.agg #[.bool true, .int .u64 0, .int .u64 5], .agg #[.bool false, .int .u64 0, .int .u64 3]] w fun e w' => e = .returned (.int .i64 (-1)) ∧ Kept w w' := Cmp_ok (b1 := true) (b2 := false) (by unfold Word; omega) (by unfold Word; omega) (by unfold Word; omega) (by unfold Word; omega) w
theorem cmp_b (w : World) : Calls Try.prog 22 #[.agg #[.bool true, .int .u64 0, .int .u64 5], .agg #[.bool true, .int .u64 0, .int .u64 6]] w fun e w' => e = .returned (.int .i64 1) ∧ Kept w w' := Cmp_ok (b1 := true) (b2 := true) (by unfold Word; omega) (by unfold Word; omega) (by unfold Word; omega) (by unfold Word; omega) w
theorem cmp_c (w : World) : Calls Try.prog 22 #[.agg #[.bool true, .int .u64 0, .int .u64 0], .agg #[.bool false, .int .u64 0, .int .u64 0]] w fun e w' => e = .returned (.int .i64 0) ∧ Kept w w' := Cmp_ok (b1 := true) (b2 := false) (by unfold Word; omega) (by unfold Word; omega) (by unfold Word; omega) (by unfold Word; omega) w
theorem int_huge (w : World) : Calls Try.prog 24 #[.agg #[.bool false, .int .u64 18446744073709551615, .int .u64 18446744073709551615]] w fun e w' => e = .returned (.int .i64 9223372036854775807) ∧ Kept w w' := Int_ok (b := false) (by unfold Word; omega) (by unfold Word; omega) w
theorem int_low (w : World) : Calls Try.prog 24 #[.agg #[.bool true, .int .u64 18446744073709551615, .int .u64 18446744073709551615]] w fun e w' => e = .returned (.int .i64 (-9223372036854775808)) ∧ Kept w w' := Int_ok (b := true) (by unfold Word; omega) (by unfold Word; omega) w
theorem int_nine (w : World) : Calls Try.prog 24 #[.agg #[.bool true, .int .u64 0, .int .u64 9]] w fun e w' => e = .returned (.int .i64 (-9)) ∧ Kept w w' := Int_ok (b := true) (by unfold Word; omega) (by unfold Word; omega) w
theorem neg_huge (w : World) : Calls Try.prog 20 #[.agg #[.bool false, .int .u64 18446744073709551615, .int .u64 18446744073709551615]] w fun e w' => e = .returned (.agg #[.bool true, .int .u64 18446744073709551615, .int .u64 18446744073709551615]) ∧ Kept w w' := Neg_ok (b1 := false) ⟨by unfold Word; omega, by unfold Word; omega, by decide, by decide⟩ w

set_option maxRecDepth 100000 in
set_option maxHeartbeats 3200000 in
theorem awake02 (w : World) : Calls Try.prog 9 #[] w fun e w' => e = .returned (.bool true) ∧ Kept w w' := by
  go_enter Try.func9, Try.ntmps9
  go_upto_region 2 with fail
  generalize hW : (World.alloc w (.cells #[.bool false, .int .u64 18446744073709551615, .int .u64 18446744073709551615] 24)) = W0
  have base := Lib.hid (show W0.cell? ⟨w.heap.size, 0, none⟩ = some (.bool false) ∧ W0.cell? ⟨w.heap.size, 1, none⟩ = some (.int .u64 18446744073709551615) ∧ W0.cell? ⟨w.heap.size, 2, none⟩ = some (.int .u64 18446744073709551615) from by subst hW; simp [go_sem])
  have kw : Kept w W0 := by subst hW; (repeat (first | with_reducible exact Kept.refl _ | with_reducible apply Kept.drew | with_reducible apply Kept.alloc | ((with_reducible apply Kept.set); focus (simp <;> omega)) | ((with_reducible apply Kept.via); focus with_reducible assumption)))
  have zw : w.heap.size < W0.heap.size := by subst hW; simp
  clear hW
  generalize w.heap.size = g1 at *
  go_cut [3] (fun s3 wx => s3 = .int .i64 10 ∧ Kept W0 wx)
  case first =>
    go_region_held3 (fun w' => w'.cell? ⟨g1, 0, none⟩ = some (.bool false) ∧ w'.cell? ⟨g1, 1, none⟩ = some (.int .u64 18446744073709551615) ∧ w'.cell? ⟨g1, 2, none⟩ = some (.int .u64 18446744073709551615))
      ((first | (refine Kept.all3 ?_ base; focus ((repeat (first | with_reducible exact Kept.refl _ | with_reducible apply Kept.drew | with_reducible apply Kept.alloc | ((with_reducible apply Kept.set); focus (simp <;> omega)) | ((with_reducible apply Kept.via); focus with_reducible assumption))); done)) | (refine far3 (Kept.all3 (by (repeat (first | with_reducible exact Kept.refl _ | with_reducible apply Kept.drew | with_reducible apply Kept.alloc | ((with_reducible apply Kept.set); focus (simp <;> omega)) | ((with_reducible apply Kept.via); focus with_reducible assumption)))) base) ?_; focus ((repeat' apply And.intro) <;> (simp <;> omega)))))
      (first
        | (go_at_call 16; refine (of_1 _).mono ?_; rintro e w1 ⟨rfl, k1⟩; (try (first | (with_reducible have nr := Room3.newD k1) | (with_reducible have nr := Room3.new k1) | (with_reducible have nr := Room3.kept nr k1))); have z1 := Kept.below k1; (try simp at z1))
        | (go_at_call 10; refine (add_over _).mono ?_; rintro e w2 ⟨rfl, k2⟩; (try (first | (with_reducible have nr := Room3.newD k2) | (with_reducible have nr := Room3.new k2) | (with_reducible have nr := Room3.kept nr k2))); have z2 := Kept.below k2; (try simp at z2); (try (obtain ⟨nx, ny, nz, na1, na2, na3, nb1, nb2, nb3⟩ := nr))))
    all_goals
      go_wp2_with fail
      go_meet
      exact ⟨rfl, (by (repeat (first | with_reducible exact Kept.refl _ | with_reducible apply Kept.drew | with_reducible apply Kept.alloc | ((with_reducible apply Kept.set); focus (simp <;> omega)) | ((with_reducible apply Kept.via); focus with_reducible assumption))))⟩
  obtain ⟨rfl, kc2⟩ := hcut
  generalize wc = wc2 at *
  have base2 := Lib.hid (Kept.all3 kc2 base)
  have zw2 := Kept.below kc2
  go_upto_region 3 with fail
  go_cut [4, 5] (fun s4 s5 wx => ∃ g : Nat, s4 = .pointer (some ⟨g, 0, none⟩) ∧ s5 = .int .i64 0 ∧ wx.cell? ⟨g, 0, none⟩ = some (.bool false) ∧ wx.cell? ⟨g, 1, none⟩ = some (.int .u64 18446744073709551615) ∧ wx.cell? ⟨g, 2, none⟩ = some (.int .u64 18446744073709551614) ∧ Kept wc2 wx)
  case first =>
    go_region_held3 (fun w' => w'.cell? ⟨g1, 0, none⟩ = some (.bool false) ∧ w'.cell? ⟨g1, 1, none⟩ = some (.int .u64 18446744073709551615) ∧ w'.cell? ⟨g1, 2, none⟩ = some (.int .u64 18446744073709551615))
      ((first | (refine Kept.all3 ?_ base2; focus ((repeat (first | with_reducible exact Kept.refl _ | with_reducible apply Kept.drew | with_reducible apply Kept.alloc | ((with_reducible apply Kept.set); focus (simp <;> omega)) | ((with_reducible apply Kept.via); focus with_reducible assumption))); done)) | (refine far3 (Kept.all3 (by (repeat (first | with_reducible exact Kept.refl _ | with_reducible apply Kept.drew | with_reducible apply Kept.alloc | ((with_reducible apply Kept.set); focus (simp <;> omega)) | ((with_reducible apply Kept.via); focus with_reducible assumption)))) base2) ?_; focus ((repeat' apply And.intro) <;> (simp <;> omega)))))
      (first
        | (go_at_call 16; refine (of_m1 _).mono ?_; rintro e w1 ⟨rfl, k1⟩; (try (first | (with_reducible have nr := Room3.newD k1) | (with_reducible have nr := Room3.new k1) | (with_reducible have nr := Room3.kept nr k1))); have z1 := Kept.below k1; (try simp at z1))
        | (go_at_call 10; refine (add_huge _).mono ?_; rintro e w2 ⟨rfl, k2⟩; (try (first | (with_reducible have nr := Room3.newD k2) | (with_reducible have nr := Room3.new k2) | (with_reducible have nr := Room3.kept nr k2))); have z2 := Kept.below k2; (try simp at z2); (try (obtain ⟨nx, ny, nz, na1, na2, na3, nb1, nb2, nb3⟩ := nr))))
    all_goals
      go_wp2_with fail
      go_meet
      exact ⟨_, rfl, rfl, by simp [*, go_sem], by simp [*, go_sem], by simp [*, go_sem], (by (repeat (first | with_reducible exact Kept.refl _ | with_reducible apply Kept.drew | with_reducible apply Kept.alloc | ((with_reducible apply Kept.set); focus (simp <;> omega)) | ((with_reducible apply Kept.via); focus with_reducible assumption))))⟩
  obtain ⟨g4, rfl, rfl, s0, s1, s2, kc3⟩ := hcut
  generalize wc = wc3 at *
  have H_s := Lib.hid (And.intro s0 (And.intro s1 s2))
  clear s0 s1 s2 base
  go_wp2_with fail
  refine (of_m7 _).mono ?_
  rintro e w1 ⟨rfl, k1⟩
  go_wp2_with fail
  refine (div_seven _).mono ?_
  rintro e w2 ⟨rfl, k2⟩
  go_upto_region 5 with fail
  generalize hW : World.alloc w2 (.cells #[.bool true, .int .u64 0, .int .u64 4] 24) = W_q
  have K_q : Kept w2 W_q := by subst hW; exact (Kept.refl _).alloc _ _
  have H_q := Lib.hid (show W_q.cell? ⟨w2.heap.size, 0, none⟩ = some (.bool true) ∧ W_q.cell? ⟨w2.heap.size, 1, none⟩ = some (.int .u64 0) ∧ W_q.cell? ⟨w2.heap.size, 2, none⟩ = some (.int .u64 4) from by subst hW; simp [go_sem])
  clear hW
  generalize w2.heap.size = g_q at *
  obtain ⟨c_huge0, c_huge1, c_huge2⟩ := Kept.all3 (show Kept wc2 W_q from (by (repeat (first | with_reducible exact Kept.refl _ | with_reducible apply Kept.drew | with_reducible apply Kept.alloc | ((with_reducible apply Kept.set); focus (simp <;> omega)) | ((with_reducible apply Kept.via); focus with_reducible assumption))))) base2
  go_wp2_with fail
  refine (Div_zero _ _ _ _).mono ?_
  rintro e w3 ⟨rfl, k3⟩
  clear c_huge0 c_huge1 c_huge2
  go_upto_region 6 with fail
  generalize hW : World.alloc w3 (.cells #[.bool false, .int .u64 0, .int .u64 0] 24) = W_r
  have K_r : Kept w3 W_r := by subst hW; exact (Kept.refl _).alloc _ _
  have H_r := Lib.hid (show W_r.cell? ⟨w3.heap.size, 0, none⟩ = some (.bool false) ∧ W_r.cell? ⟨w3.heap.size, 1, none⟩ = some (.int .u64 0) ∧ W_r.cell? ⟨w3.heap.size, 2, none⟩ = some (.int .u64 0) from by subst hW; simp [go_sem])
  clear hW
  generalize w3.heap.size = g_r at *
  obtain ⟨c_huge0, c_huge1, c_huge2⟩ := Kept.all3 (show Kept wc2 W_r from (by (repeat (first | with_reducible exact Kept.refl _ | with_reducible apply Kept.drew | with_reducible apply Kept.alloc | ((with_reducible apply Kept.set); focus (simp <;> omega)) | ((with_reducible apply Kept.via); focus with_reducible assumption))))) base2
  go_wp2_with fail
  refine (scale_huge _).mono ?_
  rintro e w4 ⟨rfl, k4⟩
  clear c_huge0 c_huge1 c_huge2
  go_upto_region 7 with fail
  generalize hW : World.alloc w4 (.cells #[.bool false, .int .u64 0, .int .u64 0] 24) = W_u
  have K_u : Kept w4 W_u := by subst hW; exact (Kept.refl _).alloc _ _
  have H_u := Lib.hid (show W_u.cell? ⟨w4.heap.size, 0, none⟩ = some (.bool false) ∧ W_u.cell? ⟨w4.heap.size, 1, none⟩ = some (.int .u64 0) ∧ W_u.cell? ⟨w4.heap.size, 2, none⟩ = some (.int .u64 0) from by subst hW; simp [go_sem])
  clear hW
  generalize w4.heap.size = g_u at *
  go_wp2_with fail
  refine (scale_one _).mono ?_
  rintro e w5 ⟨rfl, k5⟩
  go_upto_region 8 with fail
  generalize hW : World.alloc w5 (.cells #[.bool false, .int .u64 0, .int .u64 0] 24) = W_v
  have K_v : Kept w5 W_v := by subst hW; exact (Kept.refl _).alloc _ _
  have H_v := Lib.hid (show W_v.cell? ⟨w5.heap.size, 0, none⟩ = some (.bool false) ∧ W_v.cell? ⟨w5.heap.size, 1, none⟩ = some (.int .u64 0) ∧ W_v.cell? ⟨w5.heap.size, 2, none⟩ = some (.int .u64 0) from by subst hW; simp [go_sem])
  clear hW
  generalize w5.heap.size = g_v at *
  go_wp2_with fail
  refine (of_5 _).mono ?_
  rintro e w6 ⟨rfl, k6⟩
  go_wp2_with fail
  refine (of_m5 _).mono ?_
  rintro e w7 ⟨rfl, k7⟩
  go_wp2_with fail
  refine (add_five _).mono ?_
  rintro e w8 ⟨rfl, k8⟩
  go_upto_region 9 with fail
  generalize hW : World.alloc w8 (.cells #[.bool false, .int .u64 0, .int .u64 0] 24) = W_z
  have K_z : Kept w8 W_z := by subst hW; exact (Kept.refl _).alloc _ _
  have H_z := Lib.hid (show W_z.cell? ⟨w8.heap.size, 0, none⟩ = some (.bool false) ∧ W_z.cell? ⟨w8.heap.size, 1, none⟩ = some (.int .u64 0) ∧ W_z.cell? ⟨w8.heap.size, 2, none⟩ = some (.int .u64 0) from by subst hW; simp [go_sem])
  clear hW
  generalize w8.heap.size = g_z at *
  go_wp2_with fail
  refine (mul_least _).mono ?_
  rintro e w9 ⟨rfl, k9⟩
  go_upto_region 10 with fail
  generalize hW : World.alloc w9 (.cells #[.bool false, .int .u64 4611686018427387904, .int .u64 0] 24) = W_p
  have K_p : Kept w9 W_p := by subst hW; exact (Kept.refl _).alloc _ _
  have H_p := Lib.hid (show W_p.cell? ⟨w9.heap.size, 0, none⟩ = some (.bool false) ∧ W_p.cell? ⟨w9.heap.size, 1, none⟩ = some (.int .u64 4611686018427387904) ∧ W_p.cell? ⟨w9.heap.size, 2, none⟩ = some (.int .u64 0) from by subst hW; simp [go_sem])
  clear hW
  generalize w9.heap.size = g_p at *
  have B_huge := Lib.hid (Kept.all3 (show Kept wc2 W_p from (by (repeat (first | with_reducible exact Kept.refl _ | with_reducible apply Kept.drew | with_reducible apply Kept.alloc | ((with_reducible apply Kept.set); focus (simp <;> omega)) | ((with_reducible apply Kept.via); focus with_reducible assumption))))) base2)
  have B_s := Lib.hid (Kept.all3 (show Kept wc3 W_p from (by (repeat (first | with_reducible exact Kept.refl _ | with_reducible apply Kept.drew | with_reducible apply Kept.alloc | ((with_reducible apply Kept.set); focus (simp <;> omega)) | ((with_reducible apply Kept.via); focus with_reducible assumption))))) H_s)
  have B_q := Lib.hid (Kept.all3 (show Kept W_q W_p from (by (repeat (first | with_reducible exact Kept.refl _ | with_reducible apply Kept.drew | with_reducible apply Kept.alloc | ((with_reducible apply Kept.set); focus (simp <;> omega)) | ((with_reducible apply Kept.via); focus with_reducible assumption))))) H_q)
  have B_z := Lib.hid (Kept.all3 (show Kept W_z W_p from (by (repeat (first | with_reducible exact Kept.refl _ | with_reducible apply Kept.drew | with_reducible apply Kept.alloc | ((with_reducible apply Kept.set); focus (simp <;> omega)) | ((with_reducible apply Kept.via); focus with_reducible assumption))))) H_z)
  have B_p := Lib.hid (Kept.all3 (show Kept W_p W_p from (by (repeat (first | with_reducible exact Kept.refl _ | with_reducible apply Kept.drew | with_reducible apply Kept.alloc | ((with_reducible apply Kept.set); focus (simp <;> omega)) | ((with_reducible apply Kept.via); focus with_reducible assumption))))) H_p)
  have kall : Kept w W_p := (by (repeat (first | with_reducible exact Kept.refl _ | with_reducible apply Kept.drew | with_reducible apply Kept.alloc | ((with_reducible apply Kept.set); focus (simp <;> omega)) | ((with_reducible apply Kept.via); focus with_reducible assumption))))
  clear base2 H_s H_q H_r H_u H_v H_z H_p K_q K_r K_u K_v K_z K_p kw kc2 kc3 k1 k2 k3 k4 k5 k6 k7 k8 k9
  obtain ⟨q_huge0, q_huge1, q_huge2⟩ := kw3 B_huge
  obtain ⟨q_s0, q_s1, q_s2⟩ := kw3 B_s
  obtain ⟨q_q0, q_q1, q_q2⟩ := kw3 B_q
  obtain ⟨q_z0, q_z1, q_z2⟩ := kw3 B_z
  obtain ⟨q_p0, q_p1, q_p2⟩ := kw3 B_p
  clear B_huge B_s B_q B_z B_p
  simp only [List.append_eq, List.cons_append, List.nil_append]
  refine wp_region_kept_of lexB_awake (by kernel_rfl) (by kernel_rfl) ?_
  as_aux_lemma =>
    iterate 20 (go_big_quiet_step (first | (with_reducible exact kept_of (of_m4 _)) | (with_reducible exact kept_of (of_m5 _)) | (with_reducible exact kept_of (of_3 _)) | (with_reducible exact kept_of (of_m6 _)) | (with_reducible exact kept_of (of_m9 _)) | (with_reducible exact kept_of (of_m9223372036854775808 _)) | (with_reducible exact kept_of (cmp_a _)) | (with_reducible exact kept_of (cmp_b _)) | (with_reducible exact kept_of (cmp_c _)) | (with_reducible exact kept_of (int_huge _)) | (with_reducible exact kept_of (int_low _)) | (with_reducible exact kept_of (int_nine _)) | (with_reducible exact kept_of (neg_huge _))))
    as_aux_lemma =>
      iterate 20 (go_big_quiet_step (first | (with_reducible exact kept_of (of_m4 _)) | (with_reducible exact kept_of (of_m5 _)) | (with_reducible exact kept_of (of_3 _)) | (with_reducible exact kept_of (of_m6 _)) | (with_reducible exact kept_of (of_m9 _)) | (with_reducible exact kept_of (of_m9223372036854775808 _)) | (with_reducible exact kept_of (cmp_a _)) | (with_reducible exact kept_of (cmp_b _)) | (with_reducible exact kept_of (cmp_c _)) | (with_reducible exact kept_of (int_huge _)) | (with_reducible exact kept_of (int_low _)) | (with_reducible exact kept_of (int_nine _)) | (with_reducible exact kept_of (neg_huge _))))
      as_aux_lemma =>
        iterate 20 (go_big_quiet_step (first | (with_reducible exact kept_of (of_m4 _)) | (with_reducible exact kept_of (of_m5 _)) | (with_reducible exact kept_of (of_3 _)) | (with_reducible exact kept_of (of_m6 _)) | (with_reducible exact kept_of (of_m9 _)) | (with_reducible exact kept_of (of_m9223372036854775808 _)) | (with_reducible exact kept_of (cmp_a _)) | (with_reducible exact kept_of (cmp_b _)) | (with_reducible exact kept_of (cmp_c _)) | (with_reducible exact kept_of (int_huge _)) | (with_reducible exact kept_of (int_low _)) | (with_reducible exact kept_of (int_nine _)) | (with_reducible exact kept_of (neg_huge _))))
        as_aux_lemma =>
          iterate 20 (go_big_quiet_step (first | (with_reducible exact kept_of (of_m4 _)) | (with_reducible exact kept_of (of_m5 _)) | (with_reducible exact kept_of (of_3 _)) | (with_reducible exact kept_of (of_m6 _)) | (with_reducible exact kept_of (of_m9 _)) | (with_reducible exact kept_of (of_m9223372036854775808 _)) | (with_reducible exact kept_of (cmp_a _)) | (with_reducible exact kept_of (cmp_b _)) | (with_reducible exact kept_of (cmp_c _)) | (with_reducible exact kept_of (int_huge _)) | (with_reducible exact kept_of (int_low _)) | (with_reducible exact kept_of (int_nine _)) | (with_reducible exact kept_of (neg_huge _))))
          as_aux_lemma =>
            repeat (go_big_quiet_step (first | (with_reducible exact kept_of (of_m4 _)) | (with_reducible exact kept_of (of_m5 _)) | (with_reducible exact kept_of (of_3 _)) | (with_reducible exact kept_of (of_m6 _)) | (with_reducible exact kept_of (of_m9 _)) | (with_reducible exact kept_of (of_m9223372036854775808 _)) | (with_reducible exact kept_of (cmp_a _)) | (with_reducible exact kept_of (cmp_b _)) | (with_reducible exact kept_of (cmp_c _)) | (with_reducible exact kept_of (int_huge _)) | (with_reducible exact kept_of (int_low _)) | (with_reducible exact kept_of (int_nine _)) | (with_reducible exact kept_of (neg_huge _))))
            refine wpQuiet_nil ?_
            intro _ hw'
            obtain ⟨⟨wq, kq⟩, hw''⟩ := hw'
            subst hw''
            go_wp2
            go_ret
            exact ⟨rfl, kall.trans kq⟩
end Go.Proofs.Ytahbijfmhdiafaa
