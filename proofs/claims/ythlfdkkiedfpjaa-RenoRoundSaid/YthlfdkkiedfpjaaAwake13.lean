/-
  The call 'awake' of layer 13's statements answers true, if the calls do what they are to do.
-/
import Derived.Test.YthlfdkkiedfpjaaCon13
import Derived.Test.YthlfdkkiedfpjaaRoom
import Derived.Deep.RegionHeld3
import Derived.Deep.DeepCutAuto
namespace Go.Proofs.Ythlfdkkiedfpjaa
open Go.RowKit Go.BigFrame
set_option linter.unusedVariables false

set_option maxRecDepth 100000 in
set_option maxHeartbeats 1600000 in
theorem awake13 (PC : NPartC) (TC : NStepC) (LC : NStepsC) (w : World) : Calls Try.prog 8 #[] w fun e w' => e = .returned (.bool true) ∧ Kept w w' := by
  have PC' := Lib.hid PC
  have TC' := Lib.hid TC
  have LC' := Lib.hid LC
  clear PC TC LC
  go_enter Try.func8, Try.ntmps8
  go_wp2_with fail
  refine (PC'.out 5 6 9 17 (by unfold In64; decide) (by unfold In64; decide) (by decide) (by decide) _).mono ?_
  rintro e w1 ⟨rfl, k1⟩
  go_wp2_with fail
  refine (PC'.out 6 6 1 1 (by unfold In64; decide) (by unfold In64; decide) (by decide) (by decide) _).mono ?_
  rintro e w2 ⟨rfl, k2⟩
  go_wp2_with fail
  refine (TC'.out 655360 524288 655360 655360 720896 (by unfold In64; decide) (by unfold In64; decide) (by unfold In64; decide) (by unfold In64; decide) (by decide) _).mono ?_
  rintro e w3 ⟨rfl, k3⟩
  go_wp2_with fail
  refine (TC'.out 655360 1310720 655360 655360 690055 (by unfold In64; decide) (by unfold In64; decide) (by unfold In64; decide) (by unfold In64; decide) (by decide) _).mono ?_
  rintro e w4 ⟨rfl, k4⟩
  go_wp2_with fail
  refine (TC'.out 5 0 0 65536 65541 (by unfold In64; decide) (by unfold In64; decide) (by unfold In64; decide) (by unfold In64; decide) (by decide) _).mono ?_
  rintro e w5 ⟨rfl, k5⟩
  go_wp2_with fail
  refine (TC'.out 68719476736 0 65536 68719476736 68719476736 (by unfold In64; decide) (by unfold In64; decide) (by unfold In64; decide) (by unfold In64; decide) (by decide) _).mono ?_
  rintro e w6 ⟨rfl, k6⟩
  go_wp2_with fail
  refine (TC'.out (-5) (-9) 0 (-7) 0 (by unfold In64; decide) (by unfold In64; decide) (by unfold In64; decide) (by unfold In64; decide) (by decide) _).mono ?_
  rintro e w7 ⟨rfl, k7⟩
  go_wp2_with fail
  refine (steps_use LC'.out (l := [5, 6]) rfl (by decide) (by decide) (by decide) (by intro x hx; simp at hx; rcases hx with rfl | rfl <;> (unfold In64; decide)) (by unfold In64; decide) (by unfold In64; decide) (by unfold In64; decide) (n := 11) (by decide) _ ?_).mono ?_
  · intro _; refine ⟨_, 0, rfl, fun k hk => ?_⟩
    match k, hk with
    | 0, _ => simp [go_sem]
    | 1, _ => simp [go_sem]
  rintro e w8 ⟨rfl, k8⟩
  go_wp2_with fail
  refine (steps_use LC'.out (l := []) rfl (by decide) (by decide) (by decide) (by simp) (by unfold In64; decide) (by unfold In64; decide) (by unfold In64; decide) (n := -3) rfl _ (fun h => absurd h (by decide))).mono ?_
  rintro e w9 ⟨rfl, k9⟩
  go_wp2
  go_ret
  exact ⟨rfl, (by (repeat (first | with_reducible exact Kept.refl _ | with_reducible apply Kept.drew | with_reducible apply Kept.alloc | ((with_reducible apply Kept.set); focus (simp <;> omega)) | ((with_reducible apply Kept.via); focus with_reducible assumption))))⟩
end Go.Proofs.Ythlfdkkiedfpjaa
