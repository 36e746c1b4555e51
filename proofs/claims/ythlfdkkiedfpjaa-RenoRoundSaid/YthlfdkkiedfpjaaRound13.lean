/-
  The walk of RenoRound: it answers true, if the calls do what they are to do.
-/
import Derived.Test.YthlfdkkiedfpjaaAwake13
import Derived.Deep.RegionHeld3
import Derived.Deep.DeepCutAuto
namespace Go.Proofs.Ythlfdkkiedfpjaa
open Go.RowKit Go.BigFrame
set_option linter.unusedVariables false

set_option maxRecDepth 100000 in
set_option maxHeartbeats 1600000 in
theorem round13_less (PC : NPartC) (TC : NStepC) (LC : NStepsC) {e p v n : Int} (e0 : 0 ≤ e) (e1 : e ≤ 4294967295) (p0 : 0 ≤ p) (p1 : p ≤ 4294967295) (v0 : 0 ≤ v) (v1 : v ≤ 4294967295) (f1 : stepR e p (65536 + v) (65536 + v) = n) (n0 : e ≤ n) (n1 : n ≤ 68719476736) (o0 : n - e ≤ 65536) (o1 : 9 * 65536 < 17 * (n - e + 1)) (h : e < p) (w : World) : Calls Try.prog 5 #[.int .u32 e, .int .u32 p, .int .u32 v] w fun e w' => e = .returned (.bool true) ∧ Kept w w' := by
  have PC' := Lib.hid PC
  have TC' := Lib.hid TC
  have LC' := Lib.hid LC
  have AW' := Lib.hid (fun w => awake13 PC TC LC w)
  clear PC TC LC
  have S1 := Lib.hid (fun w_ => TC'.out e p (65536 + v) (65536 + v) n (by unfold In64; omega) (by unfold In64; omega) (by unfold In64; omega) (by unfold In64; omega) f1 w_)
  have d0 : decide (n - e ≤ 65536) = true := by simp; omega
  have d1 : decide (589824 < 17 * (n - e + 1)) = true := by simp; omega
  have d2 : decide (e < p) = true := by simp [h]
  clear f1
  go_enter Try.func5, Try.ntmps5
  go_wp2_with fail
  refine (AW'.out _).mono ?_
  rintro e w20 ⟨rfl, k20⟩
  go_wp2_with fail
  refine (S1.out _).mono ?_
  rintro e w21 ⟨rfl, k21⟩
  go_wp2
  go_ret
  exact ⟨rfl, (by (repeat (first | with_reducible exact Kept.refl _ | with_reducible apply Kept.drew | with_reducible apply Kept.alloc | ((with_reducible apply Kept.set); focus (simp <;> omega)) | ((with_reducible apply Kept.via); focus with_reducible assumption))))⟩
set_option maxRecDepth 100000 in
set_option maxHeartbeats 1600000 in
theorem round13_more (PC : NPartC) (TC : NStepC) (LC : NStepsC) {e p v n : Int} (e0 : 0 ≤ e) (e1 : e ≤ 4294967295) (p0 : 0 ≤ p) (p1 : p ≤ 4294967295) (v0 : 0 ≤ v) (v1 : v ≤ 4294967295) (f1 : stepR e p (65536 + v) (65536 + v) = n) (n0 : e ≤ n) (n1 : n ≤ 68719476736) (o0 : n - e ≤ 65536) (o1 : 9 * 65536 < 17 * (n - e + 1)) (h : p ≤ e) (h1 : n = e + 65536) (w : World) : Calls Try.prog 5 #[.int .u32 e, .int .u32 p, .int .u32 v] w fun e w' => e = .returned (.bool true) ∧ Kept w w' := by
  have PC' := Lib.hid PC
  have TC' := Lib.hid TC
  have LC' := Lib.hid LC
  have AW' := Lib.hid (fun w => awake13 PC TC LC w)
  clear PC TC LC
  have S1 := Lib.hid (fun w_ => TC'.out e p (65536 + v) (65536 + v) n (by unfold In64; omega) (by unfold In64; omega) (by unfold In64; omega) (by unfold In64; omega) f1 w_)
  have d0 : decide (n - e ≤ 65536) = true := by simp; omega
  have d1 : decide (589824 < 17 * (n - e + 1)) = true := by simp; omega
  have d2 : decide (e < p) = false := by simp; omega
  have d3 : n - e = 65536 := by omega
  clear h1
  clear f1
  go_enter Try.func5, Try.ntmps5
  go_wp2_with fail
  refine (AW'.out _).mono ?_
  rintro e w20 ⟨rfl, k20⟩
  go_wp2_with fail
  refine (S1.out _).mono ?_
  rintro e w21 ⟨rfl, k21⟩
  go_wp2
  go_ret
  exact ⟨rfl, (by (repeat (first | with_reducible exact Kept.refl _ | with_reducible apply Kept.drew | with_reducible apply Kept.alloc | ((with_reducible apply Kept.set); focus (simp <;> omega)) | ((with_reducible apply Kept.via); focus with_reducible assumption))))⟩
theorem renoRound_walk (PC : NPartC) (TC : NStepC) (LC : NStepsC) (e p v : Int) (w : World) (e0 : 0 ≤ e) (e1 : e ≤ 4294967295) (p0 : 0 ≤ p) (p1 : p ≤ 4294967295) (v0 : 0 ≤ v) (v1 : v ≤ 4294967295) : Calls Try.prog 5 #[.int .u32 e, .int .u32 p, .int .u32 v] w fun e w' => e = .returned (.bool true) ∧ Kept w w' := by
  have r := step_round (e := e) (prior := p) (window := 65536 + v) ⟨e0, e1⟩ (by omega)
  have u := step_up p (65536 + v) (65536 + v) (est := e) (by omega)
  have g := step_range e p (65536 + v) (65536 + v)
  by_cases h : e < p
  · exact round13_less PC TC LC e0 e1 p0 p1 v0 v1 rfl u g.2 r.1 r.2.1 h w
  · refine round13_more PC TC LC e0 e1 p0 p1 v0 v1 rfl u g.2 r.1 r.2.1 (by omega) ?_ w
    rcases r.2.2 with x | x
    · exact absurd x h
    · omega
end Go.Proofs.Ythlfdkkiedfpjaa
