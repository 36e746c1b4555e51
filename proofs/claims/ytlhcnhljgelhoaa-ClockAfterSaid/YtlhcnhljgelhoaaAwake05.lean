/-
  The call 'awake' of layer 5's statements answers true.
-/
import Derived.Test.YtlhcnhljgelhoaaClock05
import Derived.Deep.DeepCutAuto
namespace Go.Proofs.Ytlhcnhljgelhoaa
open Go.RowKit Go.BigFrame

set_option maxRecDepth 100000 in
set_option maxHeartbeats 1600000 in
theorem awake05  (w : World)  :
    Calls Try.prog 8 #[] w fun e w' => e = .returned (.bool true) ∧ Kept w w' := by
  go_enter Try.func8, Try.ntmps8
  go_wp2_with fail
  refine (step_back (now := 5) (t := 3) (by unfold IsTime; omega) (by omega) _).mono ?_
  rintro e w1 ⟨rfl, k1⟩
  go_wp2_with fail
  refine (step_on (now := 5) (t := 9) (by unfold IsTime; omega) (by omega) _).mono ?_
  rintro e w2 ⟨rfl, k2⟩
  go_wp2_with fail
  refine (step_time (now := 5) (t := -1) (by unfold IsTime; omega) _).mono ?_
  rintro e w3 ⟨rfl, k3⟩
  go_wp2_with fail
  refine (check_yes (t := 0) (by unfold IsTime; omega) _).mono ?_
  rintro e w4 ⟨rfl, k4⟩
  go_wp2_with fail
  refine (check_no (t := (-1)) (by unfold IsTime; omega) _).mono ?_
  rintro e w5 ⟨rfl, k5⟩
  go_wp2_with fail
  refine (check_yes (t := 1099511627776) (by unfold IsTime; omega) _).mono ?_
  rintro e w6 ⟨rfl, k6⟩
  go_wp2_with fail
  refine (check_no (t := 1099511627777) (by unfold IsTime; omega) _).mono ?_
  rintro e w7 ⟨rfl, k7⟩
  go_wp2_with fail
  refine (After_ok (now := 5) (by_ := 7) (n := 12) (by unfold In64; omega) (by unfold In64; omega) (by decide) _).mono ?_
  rintro e w8 ⟨rfl, k8⟩
  go_wp2_with fail
  refine (After_ok (now := 9223372036854775807) (by_ := 9223372036854775807) (n := 1099511627776) (by unfold In64; omega) (by unfold In64; omega) (by decide) _).mono ?_
  rintro e w9 ⟨rfl, k9⟩
  go_wp2_with fail
  refine (After_ok (now := (-9223372036854775808)) (by_ := (-9223372036854775808)) (n := 0) (by unfold In64; omega) (by unfold In64; omega) (by decide) _).mono ?_
  rintro e w10 ⟨rfl, k10⟩
  go_wp2_with fail
  refine (Grain_ok (t := 1001) (g := 1000) (n := 2000) (by unfold In64; omega) (by unfold In64; omega) (by decide) _).mono ?_
  rintro e w11 ⟨rfl, k11⟩
  go_wp2_with fail
  refine (Grain_ok (t := 1000) (g := 1000) (n := 1000) (by unfold In64; omega) (by unfold In64; omega) (by decide) _).mono ?_
  rintro e w12 ⟨rfl, k12⟩
  go_wp2_with fail
  refine (Grain_ok (t := (-1500)) (g := 1000) (n := (-1000)) (by unfold In64; omega) (by unfold In64; omega) (by decide) _).mono ?_
  rintro e w13 ⟨rfl, k13⟩
  go_wp2_with fail
  refine (Grain_ok (t := 7) (g := 0) (n := 7) (by unfold In64; omega) (by unfold In64; omega) (by decide) _).mono ?_
  rintro e w14 ⟨rfl, k14⟩
  go_wp2_with fail
  refine (Kind_ok (t := (-1)) (n := 0) (by decide) _).mono ?_
  rintro e w15 ⟨rfl, k15⟩
  go_wp2_with fail
  refine (Kind_ok (t := 999) (n := 1) (by decide) _).mono ?_
  rintro e w16 ⟨rfl, k16⟩
  go_wp2_with fail
  refine (Kind_ok (t := 1000) (n := 2) (by decide) _).mono ?_
  rintro e w17 ⟨rfl, k17⟩
  go_wp2_with fail
  refine (Kind_ok (t := 1000000) (n := 3) (by decide) _).mono ?_
  rintro e w18 ⟨rfl, k18⟩
  go_wp2
  go_ret
  exact ⟨rfl, (by (repeat (first | with_reducible exact Kept.refl _ | with_reducible apply Kept.drew | with_reducible apply Kept.alloc | ((with_reducible apply Kept.set); focus (simp <;> omega)) | ((with_reducible apply Kept.via); focus with_reducible assumption))))⟩
end Go.Proofs.Ytlhcnhljgelhoaa
