/-
  The walk of RenoParts: it answers true, if the calls do what they are to do.
-/
import Derived.Test.YthlfdkkiedfpjaaAwake13
import Derived.Deep.RegionHeld3
import Derived.Deep.DeepCutAuto
namespace Go.Proofs.Ythlfdkkiedfpjaa
open Go.RowKit Go.BigFrame
set_option linter.unusedVariables false

set_option maxRecDepth 100000 in
set_option maxHeartbeats 1600000 in
theorem parts13_tt (PC : NPartC) (TC : NStepC) (LC : NStepsC) {e p v a b x y m : Int} (e0 : 0 ≤ e) (e1 : e ≤ 4294967295) (p0 : 0 ≤ p) (p1 : p ≤ 4294967295) (v0 : 0 ≤ v) (v1 : v ≤ 4294967295) (a0 : 0 ≤ a) (a1 : a ≤ 65535) (b0 : 0 ≤ b) (b1 : b ≤ 65535) (f1 : stepsR e p v [a, b] = x) (f2 : stepR e p v (a + b) = y) (f3 : stepR e p v a = m) (x0 : 0 ≤ x) (x1 : x ≤ 68719476736) (y0 : 0 ≤ y) (y1 : y ≤ 68719476736) (h1 : e < p) (h2 : m < p) (o0 : x ≤ y) (o1 : y - x ≤ 1) (w : World) : Calls Try.prog 6 #[.int .u32 e, .int .u32 p, .int .u32 v, .int .u16 a, .int .u16 b] w fun e w' => e = .returned (.bool true) ∧ Kept w w' := by
  have PC' := Lib.hid PC
  have TC' := Lib.hid TC
  have LC' := Lib.hid LC
  have AW' := Lib.hid (fun w => awake13 PC TC LC w)
  clear PC TC LC
  have S2 := Lib.hid (fun w_ => TC'.out e p v (a + b) y (by unfold In64; omega) (by unfold In64; omega) (by unfold In64; omega) (by unfold In64; omega) f2 w_)
  have S3 := Lib.hid (fun w_ => TC'.out e p v a m (by unfold In64; omega) (by unfold In64; omega) (by unfold In64; omega) (by unfold In64; omega) f3 w_)
  have F1 := Lib.hid f1
  have d0 : decide (e < p) = true := by simp; omega
  have d1 : decide (m < p) = true := by simp; omega
  have d2 : decide (x ≤ y) = true := by simp; omega
  have d3 : decide (y - x ≤ 1) = true := by simp; omega
  clear f1 f2 f3
  go_enter Try.func6, Try.ntmps6
  go_wp2_with fail
  refine (AW'.out _).mono ?_
  rintro e w20 ⟨rfl, k20⟩
  go_wp2_with fail
  refine (steps_use LC'.out (l := [a, b]) rfl (Nat.le_refl _) (by simp) (by simp) (by intro z hz; simp at hz; rcases hz with rfl | rfl <;> (unfold In64; omega)) (by unfold In64; omega) (by unfold In64; omega) (by unfold In64; omega) F1.out _ ?_).mono ?_
  · intro _; refine ⟨_, 0, rfl, fun k hk => ?_⟩
    match k, hk with
    | 0, _ => simp [go_sem]
    | 1, _ => simp [go_sem]
  rintro e_ w21 ⟨rfl, k21⟩
  go_wp2_with fail
  refine (S2.out _).mono ?_
  rintro e w22 ⟨rfl, k22⟩
  go_wp2_with fail
  refine (S3.out _).mono ?_
  rintro e w23 ⟨rfl, k23⟩
  go_wp2
  go_ret
  exact ⟨rfl, (by (repeat (first | with_reducible exact Kept.refl _ | with_reducible apply Kept.drew | with_reducible apply Kept.alloc | ((with_reducible apply Kept.set); focus (simp <;> omega)) | ((with_reducible apply Kept.via); focus with_reducible assumption))))⟩
set_option maxRecDepth 100000 in
set_option maxHeartbeats 1600000 in
theorem parts13_ff (PC : NPartC) (TC : NStepC) (LC : NStepsC) {e p v a b x y m : Int} (e0 : 0 ≤ e) (e1 : e ≤ 4294967295) (p0 : 0 ≤ p) (p1 : p ≤ 4294967295) (v0 : 0 ≤ v) (v1 : v ≤ 4294967295) (a0 : 0 ≤ a) (a1 : a ≤ 65535) (b0 : 0 ≤ b) (b1 : b ≤ 65535) (f1 : stepsR e p v [a, b] = x) (f2 : stepR e p v (a + b) = y) (f3 : stepR e p v a = m) (x0 : 0 ≤ x) (x1 : x ≤ 68719476736) (y0 : 0 ≤ y) (y1 : y ≤ 68719476736) (h1 : p ≤ e) (h2 : p ≤ m) (o0 : x ≤ y) (o1 : y - x ≤ 1) (w : World) : Calls Try.prog 6 #[.int .u32 e, .int .u32 p, .int .u32 v, .int .u16 a, .int .u16 b] w fun e w' => e = .returned (.bool true) ∧ Kept w w' := by
  have PC' := Lib.hid PC
  have TC' := Lib.hid TC
  have LC' := Lib.hid LC
  have AW' := Lib.hid (fun w => awake13 PC TC LC w)
  clear PC TC LC
  have S2 := Lib.hid (fun w_ => TC'.out e p v (a + b) y (by unfold In64; omega) (by unfold In64; omega) (by unfold In64; omega) (by unfold In64; omega) f2 w_)
  have S3 := Lib.hid (fun w_ => TC'.out e p v a m (by unfold In64; omega) (by unfold In64; omega) (by unfold In64; omega) (by unfold In64; omega) f3 w_)
  have F1 := Lib.hid f1
  have d0 : decide (e < p) = false := by simp; omega
  have d1 : decide (m < p) = false := by simp; omega
  have d2 : decide (x ≤ y) = true := by simp; omega
  have d3 : decide (y - x ≤ 1) = true := by simp; omega
  clear f1 f2 f3
  go_enter Try.func6, Try.ntmps6
  go_wp2_with fail
  refine (AW'.out _).mono ?_
  rintro e w20 ⟨rfl, k20⟩
  go_wp2_with fail
  refine (steps_use LC'.out (l := [a, b]) rfl (Nat.le_refl _) (by simp) (by simp) (by intro z hz; simp at hz; rcases hz with rfl | rfl <;> (unfold In64; omega)) (by unfold In64; omega) (by unfold In64; omega) (by unfold In64; omega) F1.out _ ?_).mono ?_
  · intro _; refine ⟨_, 0, rfl, fun k hk => ?_⟩
    match k, hk with
    | 0, _ => simp [go_sem]
    | 1, _ => simp [go_sem]
  rintro e_ w21 ⟨rfl, k21⟩
  go_wp2_with fail
  refine (S2.out _).mono ?_
  rintro e w22 ⟨rfl, k22⟩
  go_wp2_with fail
  refine (S3.out _).mono ?_
  rintro e w23 ⟨rfl, k23⟩
  go_wp2
  go_ret
  exact ⟨rfl, (by (repeat (first | with_reducible exact Kept.refl _ | with_reducible apply Kept.drew | with_reducible apply Kept.alloc | ((with_reducible apply Kept.set); focus (simp <;> omega)) | ((with_reducible apply Kept.via); focus with_reducible assumption))))⟩
set_option maxRecDepth 100000 in
set_option maxHeartbeats 1600000 in
theorem parts13_tf (PC : NPartC) (TC : NStepC) (LC : NStepsC) {e p v a b x y m : Int} (e0 : 0 ≤ e) (e1 : e ≤ 4294967295) (p0 : 0 ≤ p) (p1 : p ≤ 4294967295) (v0 : 0 ≤ v) (v1 : v ≤ 4294967295) (a0 : 0 ≤ a) (a1 : a ≤ 65535) (b0 : 0 ≤ b) (b1 : b ≤ 65535) (f1 : stepsR e p v [a, b] = x) (f2 : stepR e p v (a + b) = y) (f3 : stepR e p v a = m) (x0 : 0 ≤ x) (x1 : x ≤ 68719476736) (y0 : 0 ≤ y) (y1 : y ≤ 68719476736) (h1 : e < p) (h2 : p ≤ m) (w : World) : Calls Try.prog 6 #[.int .u32 e, .int .u32 p, .int .u32 v, .int .u16 a, .int .u16 b] w fun e w' => e = .returned (.bool true) ∧ Kept w w' := by
  have PC' := Lib.hid PC
  have TC' := Lib.hid TC
  have LC' := Lib.hid LC
  have AW' := Lib.hid (fun w => awake13 PC TC LC w)
  clear PC TC LC
  have S2 := Lib.hid (fun w_ => TC'.out e p v (a + b) y (by unfold In64; omega) (by unfold In64; omega) (by unfold In64; omega) (by unfold In64; omega) f2 w_)
  have S3 := Lib.hid (fun w_ => TC'.out e p v a m (by unfold In64; omega) (by unfold In64; omega) (by unfold In64; omega) (by unfold In64; omega) f3 w_)
  have F1 := Lib.hid f1
  have d0 : decide (e < p) = true := by simp; omega
  have d1 : decide (m < p) = false := by simp; omega
  clear f1 f2 f3
  go_enter Try.func6, Try.ntmps6
  go_wp2_with fail
  refine (AW'.out _).mono ?_
  rintro e w20 ⟨rfl, k20⟩
  go_wp2_with fail
  refine (steps_use LC'.out (l := [a, b]) rfl (Nat.le_refl _) (by simp) (by simp) (by intro z hz; simp at hz; rcases hz with rfl | rfl <;> (unfold In64; omega)) (by unfold In64; omega) (by unfold In64; omega) (by unfold In64; omega) F1.out _ ?_).mono ?_
  · intro _; refine ⟨_, 0, rfl, fun k hk => ?_⟩
    match k, hk with
    | 0, _ => simp [go_sem]
    | 1, _ => simp [go_sem]
  rintro e_ w21 ⟨rfl, k21⟩
  go_wp2_with fail
  refine (S2.out _).mono ?_
  rintro e w22 ⟨rfl, k22⟩
  go_wp2_with fail
  refine (S3.out _).mono ?_
  rintro e w23 ⟨rfl, k23⟩
  go_wp2
  go_ret
  exact ⟨rfl, (by (repeat (first | with_reducible exact Kept.refl _ | with_reducible apply Kept.drew | with_reducible apply Kept.alloc | ((with_reducible apply Kept.set); focus (simp <;> omega)) | ((with_reducible apply Kept.via); focus with_reducible assumption))))⟩
set_option maxRecDepth 100000 in
set_option maxHeartbeats 1600000 in
theorem parts13_ft (PC : NPartC) (TC : NStepC) (LC : NStepsC) {e p v a b x y m : Int} (e0 : 0 ≤ e) (e1 : e ≤ 4294967295) (p0 : 0 ≤ p) (p1 : p ≤ 4294967295) (v0 : 0 ≤ v) (v1 : v ≤ 4294967295) (a0 : 0 ≤ a) (a1 : a ≤ 65535) (b0 : 0 ≤ b) (b1 : b ≤ 65535) (f1 : stepsR e p v [a, b] = x) (f2 : stepR e p v (a + b) = y) (f3 : stepR e p v a = m) (x0 : 0 ≤ x) (x1 : x ≤ 68719476736) (y0 : 0 ≤ y) (y1 : y ≤ 68719476736) (h1 : p ≤ e) (h2 : m < p) (w : World) : Calls Try.prog 6 #[.int .u32 e, .int .u32 p, .int .u32 v, .int .u16 a, .int .u16 b] w fun e w' => e = .returned (.bool true) ∧ Kept w w' := by
  have PC' := Lib.hid PC
  have TC' := Lib.hid TC
  have LC' := Lib.hid LC
  have AW' := Lib.hid (fun w => awake13 PC TC LC w)
  clear PC TC LC
  have S2 := Lib.hid (fun w_ => TC'.out e p v (a + b) y (by unfold In64; omega) (by unfold In64; omega) (by unfold In64; omega) (by unfold In64; omega) f2 w_)
  have S3 := Lib.hid (fun w_ => TC'.out e p v a m (by unfold In64; omega) (by unfold In64; omega) (by unfold In64; omega) (by unfold In64; omega) f3 w_)
  have F1 := Lib.hid f1
  have d0 : decide (e < p) = false := by simp; omega
  have d1 : decide (m < p) = true := by simp; omega
  clear f1 f2 f3
  go_enter Try.func6, Try.ntmps6
  go_wp2_with fail
  refine (AW'.out _).mono ?_
  rintro e w20 ⟨rfl, k20⟩
  go_wp2_with fail
  refine (steps_use LC'.out (l := [a, b]) rfl (Nat.le_refl _) (by simp) (by simp) (by intro z hz; simp at hz; rcases hz with rfl | rfl <;> (unfold In64; omega)) (by unfold In64; omega) (by unfold In64; omega) (by unfold In64; omega) F1.out _ ?_).mono ?_
  · intro _; refine ⟨_, 0, rfl, fun k hk => ?_⟩
    match k, hk with
    | 0, _ => simp [go_sem]
    | 1, _ => simp [go_sem]
  rintro e_ w21 ⟨rfl, k21⟩
  go_wp2_with fail
  refine (S2.out _).mono ?_
  rintro e w22 ⟨rfl, k22⟩
  go_wp2_with fail
  refine (S3.out _).mono ?_
  rintro e w23 ⟨rfl, k23⟩
  go_wp2
  go_ret
  exact ⟨rfl, (by (repeat (first | with_reducible exact Kept.refl _ | with_reducible apply Kept.drew | with_reducible apply Kept.alloc | ((with_reducible apply Kept.set); focus (simp <;> omega)) | ((with_reducible apply Kept.via); focus with_reducible assumption))))⟩
theorem renoParts_walk (PC : NPartC) (TC : NStepC) (LC : NStepsC) (e p v a b : Int) (w : World) (e0 : 0 ≤ e) (e1 : e ≤ 4294967295) (p0 : 0 ≤ p) (p1 : p ≤ 4294967295) (v0 : 0 ≤ v) (v1 : v ≤ 4294967295) (a0 : 0 ≤ a) (a1 : a ≤ 65535) (b0 : 0 ≤ b) (b1 : b ≤ 65535) : Calls Try.prog 6 #[.int .u32 e, .int .u32 p, .int .u32 v, .int .u16 a, .int .u16 b] w fun e w' => e = .returned (.bool true) ∧ Kept w w' := by
  have q := step_parts (e := e) (prior := p) (window := v) ⟨e0, e1⟩ ⟨a0, a1⟩ ⟨b0, b1⟩
  have rx := step_range (stepR e p v a) p v b
  have ry := step_range e p v (a + b)
  by_cases h1 : e < p
  · by_cases h2 : stepR e p v a < p
    · have z := q ⟨fun _ => h2, fun _ => h1⟩
      exact parts13_tt PC TC LC e0 e1 p0 p1 v0 v1 a0 a1 b0 b1 rfl rfl rfl rx.1 rx.2 ry.1 ry.2 h1 h2 z.1 z.2 w
    · exact parts13_tf PC TC LC e0 e1 p0 p1 v0 v1 a0 a1 b0 b1 rfl rfl rfl rx.1 rx.2 ry.1 ry.2 h1 (by omega) w
  · by_cases h2 : stepR e p v a < p
    · exact parts13_ft PC TC LC e0 e1 p0 p1 v0 v1 a0 a1 b0 b1 rfl rfl rfl rx.1 rx.2 ry.1 ry.2 (by omega) h2 w
    · have z := q ⟨fun x => absurd x h1, fun x => absurd x h2⟩
      exact parts13_ff PC TC LC e0 e1 p0 p1 v0 v1 a0 a1 b0 b1 rfl rfl rfl rx.1 rx.2 ry.1 ry.2 (by omega) (by omega) z.1 z.2 w
end Go.Proofs.Ythlfdkkiedfpjaa
