/-
  The call 'awake' of layer 17's statements answers true, if the calls do what they are to do.
-/
import Derived.Test.YtjfeobkkkgalaaaCon17
import Derived.Test.YtjfeobkkkgalaaaRoom
import Derived.Deep.RegionHeld3
import Derived.Deep.DeepCutAuto
namespace Go.Proofs.Ytjfeobkkkgalaaa
open Go.RowKit Go.BigFrame
set_option linter.unusedVariables false

set_option maxRecDepth 100000 in
set_option maxHeartbeats 1600000 in
theorem awake17 (GC : VGainC) (FC : VFirstC) (OC : VOfC) (SC : VSpanC) (w : World) : Calls Try.prog 9 #[] w fun e w' => e = .returned (.bool true) ∧ Kept w w' := by
  have GC' := Lib.hid GC
  have FC' := Lib.hid FC
  have OC' := Lib.hid OC
  have SC' := Lib.hid SC
  clear GC FC OC SC
  go_enter Try.func9, Try.ntmps9
  go_wp2_with fail
  refine (GC'.out true 2 1 rfl rfl _).mono ?_
  rintro e w20 ⟨rfl, k20⟩
  go_wp2_with fail
  refine (GC'.out false 5 4 rfl rfl _).mono ?_
  rintro e w21 ⟨rfl, k21⟩
  go_upto_region 4 with fail
  generalize hW : World.alloc w21 (.cells #[.bool true, .int .i64 400000, .int .i64 0] 23) = W_r
  have K_r : Kept w21 W_r := by subst hW; exact (Kept.refl _).alloc _ _
  have H_r := Lib.hid (show W_r.cell? ⟨w21.heap.size, 0, none⟩ = some (.bool true) ∧ W_r.cell? ⟨w21.heap.size, 1, none⟩ = some (.int .i64 400000) ∧ W_r.cell? ⟨w21.heap.size, 2, none⟩ = some (.int .i64 0) from by subst hW; simp [go_sem])
  clear hW
  generalize w21.heap.size = g_r at *
  go_wp2_with fail
  refine (FC'.out _).mono ?_
  rintro e w22 ⟨rfl, k22⟩
  go_wp2_with fail
  refine (OC'.out 655360 1500 false 0 0 true 300000 (by unfold In64; decide) (by unfold In64; decide) (by unfold In64; decide) (by unfold In64; decide) (by decide) _).mono ?_
  rintro e w23 ⟨rfl, k23⟩
  obtain ⟨cr0, cr1, cr2⟩ := Kept.all3 (show Kept W_r w23 from (by (repeat (first | with_reducible exact Kept.refl _ | with_reducible apply Kept.drew | with_reducible apply Kept.alloc | ((with_reducible apply Kept.set); focus (simp <;> omega)) | ((with_reducible apply Kept.via); focus with_reducible assumption))))) H_r
  go_wp2_with fail
  refine (OC'.out 655360 1500 true 400000 0 false 375000 (by unfold In64; decide) (by unfold In64; decide) (by unfold In64; decide) (by unfold In64; decide) (by decide) _).mono ?_
  rintro e w24 ⟨rfl, k24⟩
  clear cr0 cr1 cr2
  obtain ⟨cr0, cr1, cr2⟩ := Kept.all3 (show Kept W_r w24 from (by (repeat (first | with_reducible exact Kept.refl _ | with_reducible apply Kept.drew | with_reducible apply Kept.alloc | ((with_reducible apply Kept.set); focus (simp <;> omega)) | ((with_reducible apply Kept.via); focus with_reducible assumption))))) H_r
  go_wp2_with fail
  refine (OC'.out 0 1500 true 400000 0 true 1 (by unfold In64; decide) (by unfold In64; decide) (by unfold In64; decide) (by unfold In64; decide) (by decide) _).mono ?_
  rintro e w25 ⟨rfl, k25⟩
  clear cr0 cr1 cr2
  go_wp2_with fail
  refine (OC'.out 655360 1500 true 0 0 true 300000 (by unfold In64; decide) (by unfold In64; decide) (by unfold In64; decide) (by unfold In64; decide) (by decide) _).mono ?_
  rintro e w26 ⟨rfl, k26⟩
  go_wp2_with fail
  refine (SC'.out 1500 300000 5000 (by unfold In64; decide) (by unfold In64; decide) (by decide) _).mono ?_
  rintro e w27 ⟨rfl, k27⟩
  go_wp2_with fail
  refine (SC'.out 1 3 333334 (by unfold In64; decide) (by unfold In64; decide) (by decide) _).mono ?_
  rintro e w28 ⟨rfl, k28⟩
  go_wp2_with fail
  refine (SC'.out (-5) 0 0 (by unfold In64; decide) (by unfold In64; decide) (by decide) _).mono ?_
  rintro e w29 ⟨rfl, k29⟩
  go_wp2_with fail
  refine (SC'.out 4611686018427387904 1 1099511627776 (by unfold In64; decide) (by unfold In64; decide) (by decide) _).mono ?_
  rintro e w30 ⟨rfl, k30⟩
  go_wp2
  go_ret
  exact ⟨rfl, (by (repeat (first | with_reducible exact Kept.refl _ | with_reducible apply Kept.drew | with_reducible apply Kept.alloc | ((with_reducible apply Kept.set); focus (simp <;> omega)) | ((with_reducible apply Kept.via); focus with_reducible assumption))))⟩
end Go.Proofs.Ytjfeobkkkgalaaa
