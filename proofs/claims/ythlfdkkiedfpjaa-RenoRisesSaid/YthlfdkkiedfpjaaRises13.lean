/-
  The walk of RenoRises: it answers true, if the calls do what they are to do.
-/
import Derived.Test.YthlfdkkiedfpjaaAwake13
import Derived.Deep.RegionHeld3
import Derived.Deep.DeepCutAuto
namespace Go.Proofs.Ythlfdkkiedfpjaa
open Go.RowKit Go.BigFrame
set_option linter.unusedVariables false

set_option maxRecDepth 100000 in
set_option maxHeartbeats 1600000 in
theorem rises13 (PC : NPartC) (TC : NStepC) (LC : NStepsC) {e p a b c lo hi_ lo2 hi2 lw hw x y : Int} (e0 : 0 ≤ e) (e1 : e ≤ 4294967295) (hp : In64 p) (ha : In64 a) (hc : In64 c) (hl : In64 lo) (hh : In64 hi_) (hl2 : In64 lo2) (hh2 : In64 hi2) (g1 : (if b < a then b else a) = lo) (g2 : (if a < b then b else a) = hi_) (g3 : (if c < b then c else b) = lo2) (g4 : (if b < c then c else b) = hi2) (f1 : stepR e p hi_ c = lw) (f2 : stepR e p lo c = hw) (f3 : stepR e p a lo2 = x) (f4 : stepR e p a hi2 = y) (o0 : e ≤ lw) (o1 : lw ≤ hw) (o2 : x ≤ y) (o3 : hw ≤ 68719476736) (w : World) : Calls Try.prog 4 #[.int .u32 e, .int .i64 p, .int .i64 a, .int .i64 b, .int .i64 c] w fun e w' => e = .returned (.bool true) ∧ Kept w w' := by
  have PC' := Lib.hid PC
  have TC' := Lib.hid TC
  have LC' := Lib.hid LC
  have AW' := Lib.hid (fun w => awake13 PC TC LC w)
  clear PC TC LC
  have S1 := Lib.hid (fun w_ => TC'.out e p hi_ c lw (by unfold In64; omega) hp hh hc f1 w_)
  have S2 := Lib.hid (fun w_ => TC'.out e p lo c hw (by unfold In64; omega) hp hl hc f2 w_)
  have S3 := Lib.hid (fun w_ => TC'.out e p a lo2 x (by unfold In64; omega) hp ha hl2 f3 w_)
  have S4 := Lib.hid (fun w_ => TC'.out e p a hi2 y (by unfold In64; omega) hp ha hh2 f4 w_)
  have d0 : decide (e ≤ lw) = true := by simp [o0]
  have d1 : decide (lw ≤ hw) = true := by simp [o1]
  have d2 : decide (x ≤ y) = true := by simp [o2]
  have d3 : decide (hw ≤ 68719476736) = true := by simp [o3]
  clear f1 f2 f3 f4 o0 o1 o2 o3 hp ha hc hh hl hh2 hl2
  go_enter Try.func4, Try.ntmps4
  go_wp2_with fail
  refine (AW'.out _).mono ?_
  rintro e w20 ⟨rfl, k20⟩
  go_wp2_with fail
  refine (S1.out _).mono ?_
  rintro e w21 ⟨rfl, k21⟩
  go_wp2_with fail
  refine (S2.out _).mono ?_
  rintro e w22 ⟨rfl, k22⟩
  go_wp2_with fail
  refine (S3.out _).mono ?_
  rintro e w23 ⟨rfl, k23⟩
  go_wp2_with fail
  refine (S4.out _).mono ?_
  rintro e w24 ⟨rfl, k24⟩
  go_wp2
  go_ret
  exact ⟨rfl, (by (repeat (first | with_reducible exact Kept.refl _ | with_reducible apply Kept.drew | with_reducible apply Kept.alloc | ((with_reducible apply Kept.set); focus (simp <;> omega)) | ((with_reducible apply Kept.via); focus with_reducible assumption))))⟩
theorem renoRises_walk (PC : NPartC) (TC : NStepC) (LC : NStepsC) (e p a b c : Int) (w : World) (e0 : 0 ≤ e) (e1 : e ≤ 4294967295) (hp : In64 p) (ha : In64 a) (hb : In64 b) (hc : In64 c) : Calls Try.prog 4 #[.int .u32 e, .int .i64 p, .int .i64 a, .int .i64 b, .int .i64 c] w fun e w' => e = .returned (.bool true) ∧ Kept w w' :=
  rises13 PC TC LC e0 e1 hp ha hc (by split <;> assumption) (by split <;> assumption) (by split <;> assumption) (by split <;> assumption) rfl rfl rfl rfl rfl rfl rfl rfl (step_up _ _ _ (by omega)) (step_win _ _ _ (by split <;> split <;> omega)) (step_told _ _ _ (by split <;> split <;> omega)) (step_range _ _ _ _).2 w
end Go.Proofs.Ythlfdkkiedfpjaa
