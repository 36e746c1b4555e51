/-
  The call 'awake' of layer 15's statements answers true, if the calls do what they are to do.
-/
import Derived.Test.YtmafibibpjmjbaaCon15
import Derived.Test.YtmafibibpjmjbaaRoom
import Derived.Deep.RegionHeld3
import Derived.Deep.DeepCutAuto
namespace Go.Proofs.Ytmafibibpjmjbaa
open Go.RowKit Go.BigFrame
set_option linter.unusedVariables false

theorem many15_top : manyC 68719476736 (4611686018427387904 : Int).toNat = 131072 := by
  have q := manyC_two (manyC_fifty 68719476736) (4611686018427387904 - 50)
  exact q
set_option maxRecDepth 100000 in
set_option maxHeartbeats 1600000 in
theorem awake15 (LC : TLeastC) (SC : TLossC) (OC : TTimeoutC) (MC : TManyC) (w : World) : Calls Try.prog 8 #[] w fun e w' => e = .returned (.bool true) ∧ Kept w w' := by
  have LC' := Lib.hid LC
  have SC' := Lib.hid SC
  have OC' := Lib.hid OC
  have MC' := Lib.hid MC
  clear LC SC OC MC
  go_enter Try.func8, Try.ntmps8
  go_wp2_with fail
  refine (SC'.out 655360 786432 458752 557056 (by unfold In64; decide) (by unfold In64; decide) (by decide) (by decide) _).mono ?_
  rintro e w1 ⟨rfl, k1⟩
  go_wp2_with fail
  refine (SC'.out 655360 589824 458752 655360 (by unfold In64; decide) (by unfold In64; decide) (by decide) (by decide) _).mono ?_
  rintro e w2 ⟨rfl, k2⟩
  go_wp2_with fail
  refine (OC'.out 655360 786432 458752 557056 (by unfold In64; decide) (by unfold In64; decide) (by decide) (by decide) _).mono ?_
  rintro e w3 ⟨rfl, k3⟩
  go_wp2_with fail
  refine (LC'.out 0 131072 (by unfold In64; decide) (by decide) _).mono ?_
  rintro e w4 ⟨rfl, k4⟩
  go_wp2_with fail
  refine (LC'.out 4611686018427387904 48103633715 (by unfold In64; decide) (by decide) _).mono ?_
  rintro e w5 ⟨rfl, k5⟩
  go_wp2_with fail
  refine (LC'.out 131072 131072 (by unfold In64; decide) (by decide) _).mono ?_
  rintro e w6 ⟨rfl, k6⟩
  go_wp2_with fail
  refine (MC'.out 6553600 2 3211264 (by unfold In64; decide) (by unfold In64; decide) (by decide) _).mono ?_
  rintro e w7 ⟨rfl, k7⟩
  go_wp2_with fail
  refine (MC'.out 68719476736 4611686018427387904 131072 (by unfold In64; decide) (by unfold In64; decide) many15_top _).mono ?_
  rintro e w8 ⟨rfl, k8⟩
  go_wp2_with fail
  refine (MC'.out 5 (-3) 131072 (by unfold In64; decide) (by unfold In64; decide) (by decide) _).mono ?_
  rintro e w9 ⟨rfl, k9⟩
  go_wp2
  go_ret
  exact ⟨rfl, (by (repeat (first | with_reducible exact Kept.refl _ | with_reducible apply Kept.drew | with_reducible apply Kept.alloc | ((with_reducible apply Kept.set); focus (simp <;> omega)) | ((with_reducible apply Kept.via); focus with_reducible assumption))))⟩
end Go.Proofs.Ytmafibibpjmjbaa
