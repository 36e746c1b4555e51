/-
  The call 'awake' of layer 18's statements answers true, if the calls do what they are to do.
-/
import Derived.Test.YtlgpeafphanobaaCon18
import Derived.Test.YtlgpeafphanobaaRoom
import Derived.Deep.RegionHeld3
import Derived.Deep.DeepCutAuto
namespace Go.Proofs.Ytlgpeafphanobaa
open Go.RowKit Go.BigFrame
set_option linter.unusedVariables false

set_option maxRecDepth 100000 in
set_option maxHeartbeats 1600000 in
theorem awake18 (CC : BuCheckC) (FC : BuFillC) (TC : BuTakeC) (WC : BuWaitC) (YC : BuBytesC) (w : World) : Calls Try.prog 9 #[] w fun e w' => e = .returned (.bool true) ∧ Kept w w' := by
  have CC' := Lib.hid CC
  have FC' := Lib.hid FC
  have TC' := Lib.hid TC
  have WC' := Lib.hid WC
  have YC' := Lib.hid YC
  clear CC FC TC WC YC
  go_enter Try.func9, Try.ntmps9
  go_wp2_with fail
  refine (FC'.out 0 0 3000 1000 5 3000 3000000 0 (by unfold In64; decide) (by unfold In64; decide) (by unfold In64; decide) (by unfold In64; decide) (by unfold In64; decide) (by decide) _).mono ?_
  rintro e w20 ⟨rfl, k20⟩
  go_upto_region 2 with fail
  generalize hW : World.alloc w20 (.cells #[.int .i64 3000, .int .i64 3000000] 23) = W_a
  have K_a : Kept w20 W_a := by subst hW; exact (Kept.refl _).alloc _ _
  have H_a := Lib.hid (show W_a.cell? ⟨w20.heap.size, 0, none⟩ = some (.int .i64 3000) ∧ W_a.cell? ⟨w20.heap.size, 1, none⟩ = some (.int .i64 3000000) from by subst hW; simp [go_sem])
  clear hW
  generalize w20.heap.size = g_a at *
  obtain ⟨ca0, ca1⟩ := Kept.alln2 (show Kept W_a W_a from (by (repeat (first | with_reducible exact Kept.refl _ | with_reducible apply Kept.drew | with_reducible apply Kept.alloc | ((with_reducible apply Kept.set); focus (simp <;> omega)) | ((with_reducible apply Kept.via); focus with_reducible assumption))))) H_a
  go_wp2_with fail
  refine (FC'.out 3000 3000000 9000 1000 5 9000 5000000 0 (by unfold In64; decide) (by unfold In64; decide) (by unfold In64; decide) (by unfold In64; decide) (by unfold In64; decide) (by decide) _).mono ?_
  rintro e w21 ⟨rfl, k21⟩
  clear ca0 ca1
  go_upto_region 3 with fail
  generalize hW : World.alloc w21 (.cells #[.int .i64 9000, .int .i64 5000000] 23) = W_b
  have K_b : Kept w21 W_b := by subst hW; exact (Kept.refl _).alloc _ _
  have H_b := Lib.hid (show W_b.cell? ⟨w21.heap.size, 0, none⟩ = some (.int .i64 9000) ∧ W_b.cell? ⟨w21.heap.size, 1, none⟩ = some (.int .i64 5000000) from by subst hW; simp [go_sem])
  clear hW
  generalize w21.heap.size = g_b at *
  obtain ⟨cb0, cb1⟩ := Kept.alln2 (show Kept W_b W_b from (by (repeat (first | with_reducible exact Kept.refl _ | with_reducible apply Kept.drew | with_reducible apply Kept.alloc | ((with_reducible apply Kept.set); focus (simp <;> omega)) | ((with_reducible apply Kept.via); focus with_reducible assumption))))) H_b
  go_wp2_with fail
  refine (FC'.out 9000 5000000 8000 1000 5 9000 5000000 50 (by unfold In64; decide) (by unfold In64; decide) (by unfold In64; decide) (by unfold In64; decide) (by unfold In64; decide) (by decide) _).mono ?_
  rintro e w22 ⟨rfl, k22⟩
  clear cb0 cb1
  go_upto_region 4 with fail
  generalize hW : World.alloc w22 (.cells #[.int .i64 9000, .int .i64 5000000] 23) = W_x
  have K_x : Kept w22 W_x := by subst hW; exact (Kept.refl _).alloc _ _
  have H_x := Lib.hid (show W_x.cell? ⟨w22.heap.size, 0, none⟩ = some (.int .i64 9000) ∧ W_x.cell? ⟨w22.heap.size, 1, none⟩ = some (.int .i64 5000000) from by subst hW; simp [go_sem])
  clear hW
  generalize w22.heap.size = g_x at *
  obtain ⟨cb0, cb1⟩ := Kept.alln2 (show Kept W_b W_x from (by (repeat (first | with_reducible exact Kept.refl _ | with_reducible apply Kept.drew | with_reducible apply Kept.alloc | ((with_reducible apply Kept.set); focus (simp <;> omega)) | ((with_reducible apply Kept.via); focus with_reducible assumption))))) H_b
  go_wp2_with fail
  refine (TC'.out 9000 5000000 4 1000000 0 (by unfold In64; decide) (by unfold In64; decide) (by unfold In64; decide) (by decide) _).mono ?_
  rintro e w23 ⟨rfl, k23⟩
  clear cb0 cb1
  go_upto_region 5 with fail
  generalize hW : World.alloc w23 (.cells #[.int .i64 9000, .int .i64 1000000] 23) = W_c
  have K_c : Kept w23 W_c := by subst hW; exact (Kept.refl _).alloc _ _
  have H_c := Lib.hid (show W_c.cell? ⟨w23.heap.size, 0, none⟩ = some (.int .i64 9000) ∧ W_c.cell? ⟨w23.heap.size, 1, none⟩ = some (.int .i64 1000000) from by subst hW; simp [go_sem])
  clear hW
  generalize w23.heap.size = g_c at *
  obtain ⟨cc0, cc1⟩ := Kept.alln2 (show Kept W_c W_c from (by (repeat (first | with_reducible exact Kept.refl _ | with_reducible apply Kept.drew | with_reducible apply Kept.alloc | ((with_reducible apply Kept.set); focus (simp <;> omega)) | ((with_reducible apply Kept.via); focus with_reducible assumption))))) H_c
  go_wp2_with fail
  refine (TC'.out 9000 1000000 2 1000000 203 (by unfold In64; decide) (by unfold In64; decide) (by unfold In64; decide) (by decide) _).mono ?_
  rintro e w24 ⟨rfl, k24⟩
  clear cc0 cc1
  go_upto_region 6 with fail
  generalize hW : World.alloc w24 (.cells #[.int .i64 9000, .int .i64 1000000] 23) = W_y
  have K_y : Kept w24 W_y := by subst hW; exact (Kept.refl _).alloc _ _
  have H_y := Lib.hid (show W_y.cell? ⟨w24.heap.size, 0, none⟩ = some (.int .i64 9000) ∧ W_y.cell? ⟨w24.heap.size, 1, none⟩ = some (.int .i64 1000000) from by subst hW; simp [go_sem])
  clear hW
  generalize w24.heap.size = g_y at *
  obtain ⟨cc0, cc1⟩ := Kept.alln2 (show Kept W_c W_y from (by (repeat (first | with_reducible exact Kept.refl _ | with_reducible apply Kept.drew | with_reducible apply Kept.alloc | ((with_reducible apply Kept.set); focus (simp <;> omega)) | ((with_reducible apply Kept.via); focus with_reducible assumption))))) H_c
  go_wp2_with fail
  refine (TC'.out 9000 1000000 0 1000000 201 (by unfold In64; decide) (by unfold In64; decide) (by unfold In64; decide) (by decide) _).mono ?_
  rintro e w25 ⟨rfl, k25⟩
  clear cc0 cc1
  go_upto_region 7 with fail
  generalize hW : World.alloc w25 (.cells #[.int .i64 9000, .int .i64 1000000] 23) = W_z
  have K_z : Kept w25 W_z := by subst hW; exact (Kept.refl _).alloc _ _
  have H_z := Lib.hid (show W_z.cell? ⟨w25.heap.size, 0, none⟩ = some (.int .i64 9000) ∧ W_z.cell? ⟨w25.heap.size, 1, none⟩ = some (.int .i64 1000000) from by subst hW; simp [go_sem])
  clear hW
  generalize w25.heap.size = g_z at *
  go_wp2_with fail
  refine (FC'.out 0 (-1) 5 5 5 0 (-1) 201 (by unfold In64; decide) (by unfold In64; decide) (by unfold In64; decide) (by unfold In64; decide) (by unfold In64; decide) (by decide) _).mono ?_
  rintro e w26 ⟨rfl, k26⟩
  obtain ⟨ca0, ca1⟩ := Kept.alln2 (show Kept W_a (World.alloc w26 (.cells #[.int .i64 0, .int .i64 (-1)] 23)) from (by (repeat (first | with_reducible exact Kept.refl _ | with_reducible apply Kept.drew | with_reducible apply Kept.alloc | ((with_reducible apply Kept.set); focus (simp <;> omega)) | ((with_reducible apply Kept.via); focus with_reducible assumption))))) H_a
  obtain ⟨cb0, cb1⟩ := Kept.alln2 (show Kept W_b (World.alloc w26 (.cells #[.int .i64 0, .int .i64 (-1)] 23)) from (by (repeat (first | with_reducible exact Kept.refl _ | with_reducible apply Kept.drew | with_reducible apply Kept.alloc | ((with_reducible apply Kept.set); focus (simp <;> omega)) | ((with_reducible apply Kept.via); focus with_reducible assumption))))) H_b
  obtain ⟨cc0, cc1⟩ := Kept.alln2 (show Kept W_c (World.alloc w26 (.cells #[.int .i64 0, .int .i64 (-1)] 23)) from (by (repeat (first | with_reducible exact Kept.refl _ | with_reducible apply Kept.drew | with_reducible apply Kept.alloc | ((with_reducible apply Kept.set); focus (simp <;> omega)) | ((with_reducible apply Kept.via); focus with_reducible assumption))))) H_c
  go_wp2_with fail
  refine (YC'.out 9000 5000000 5 (by unfold In64; decide) (by unfold In64; decide) (by decide) _).mono ?_
  rintro e w27 ⟨rfl, k27⟩
  clear ca0 ca1
  clear cb0 cb1
  clear cc0 cc1
  obtain ⟨cc0, cc1⟩ := Kept.alln2 (show Kept W_c w27 from (by (repeat (first | with_reducible exact Kept.refl _ | with_reducible apply Kept.drew | with_reducible apply Kept.alloc | ((with_reducible apply Kept.set); focus (simp <;> omega)) | ((with_reducible apply Kept.via); focus with_reducible assumption))))) H_c
  go_wp2_with fail
  refine (WC'.out 9000 1000000 3 1000 2000 (by unfold In64; decide) (by unfold In64; decide) (by unfold In64; decide) (by unfold In64; decide) (by decide) _).mono ?_
  rintro e w28 ⟨rfl, k28⟩
  clear cc0 cc1
  obtain ⟨cc0, cc1⟩ := Kept.alln2 (show Kept W_c w28 from (by (repeat (first | with_reducible exact Kept.refl _ | with_reducible apply Kept.drew | with_reducible apply Kept.alloc | ((with_reducible apply Kept.set); focus (simp <;> omega)) | ((with_reducible apply Kept.via); focus with_reducible assumption))))) H_c
  go_wp2_with fail
  refine (WC'.out 9000 1000000 1 0 0 (by unfold In64; decide) (by unfold In64; decide) (by unfold In64; decide) (by unfold In64; decide) (by decide) _).mono ?_
  rintro e w29 ⟨rfl, k29⟩
  clear cc0 cc1
  obtain ⟨cc0, cc1⟩ := Kept.alln2 (show Kept W_c w29 from (by (repeat (first | with_reducible exact Kept.refl _ | with_reducible apply Kept.drew | with_reducible apply Kept.alloc | ((with_reducible apply Kept.set); focus (simp <;> omega)) | ((with_reducible apply Kept.via); focus with_reducible assumption))))) H_c
  go_wp2_with fail
  refine (WC'.out 9000 1000000 2 0 1099511627776 (by unfold In64; decide) (by unfold In64; decide) (by unfold In64; decide) (by unfold In64; decide) (by decide) _).mono ?_
  rintro e w30 ⟨rfl, k30⟩
  clear cc0 cc1
  obtain ⟨cc0, cc1⟩ := Kept.alln2 (show Kept W_c w30 from (by (repeat (first | with_reducible exact Kept.refl _ | with_reducible apply Kept.drew | with_reducible apply Kept.alloc | ((with_reducible apply Kept.set); focus (simp <;> omega)) | ((with_reducible apply Kept.via); focus with_reducible assumption))))) H_c
  go_wp2_with fail
  refine (WC'.out 9000 1000000 2 3 333334 (by unfold In64; decide) (by unfold In64; decide) (by unfold In64; decide) (by unfold In64; decide) (by decide) _).mono ?_
  rintro e w31 ⟨rfl, k31⟩
  clear cc0 cc1
  obtain ⟨cc0, cc1⟩ := Kept.alln2 (show Kept W_c w31 from (by (repeat (first | with_reducible exact Kept.refl _ | with_reducible apply Kept.drew | with_reducible apply Kept.alloc | ((with_reducible apply Kept.set); focus (simp <;> omega)) | ((with_reducible apply Kept.via); focus with_reducible assumption))))) H_c
  go_wp2_with fail
  refine (CC'.out 9000 1000000 true (by unfold In64; decide) (by unfold In64; decide) (by decide) _).mono ?_
  rintro e w32 ⟨rfl, k32⟩
  clear cc0 cc1
  go_wp2_with fail
  refine (CC'.out (-1) 0 false (by unfold In64; decide) (by unfold In64; decide) (by decide) _).mono ?_
  rintro e w33 ⟨rfl, k33⟩
  go_wp2
  go_ret
  exact ⟨rfl, (by (repeat (first | with_reducible exact Kept.refl _ | with_reducible apply Kept.drew | with_reducible apply Kept.alloc | ((with_reducible apply Kept.set); focus (simp <;> omega)) | ((with_reducible apply Kept.via); focus with_reducible assumption))))⟩
end Go.Proofs.Ytlgpeafphanobaa
