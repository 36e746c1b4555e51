/-
  The walk of CutTells: it answers true, if the calls do what they are to do.
-/
import Derived.Test.YtmafibibpjmjbaaAwake15
import Derived.Test.YtmafibibpjmjbaaRef15
import Derived.Deep.RegionHeld3
import Derived.Deep.DeepCutAuto
namespace Go.Proofs.Ytmafibibpjmjbaa
open Go.RowKit Go.BigFrame
set_option linter.unusedVariables false

set_option maxRecDepth 100000 in
set_option maxHeartbeats 1600000 in
theorem tells15 (LC : TLeastC) (SC : TLossC) (OC : TTimeoutC) (MC : TManyC) {v last k n b m : Int} (hv : In64 v) (hl : In64 last) (hk : In64 k) (f1 : leastC v = n) (f2 : fastN last (givG v) = b) (f3 : manyC v k.toNat = m) (w : World) : Calls Try.prog 3 #[.int .i64 v, .int .i64 last, .int .i64 k] w fun e w' => e = .returned (.bool true) ∧ Kept w w' := by
  have LC' := Lib.hid LC
  have SC' := Lib.hid SC
  have OC' := Lib.hid OC
  have MC' := Lib.hid MC
  have AW' := Lib.hid (fun w => awake15 LC SC OC MC w)
  clear LC SC OC MC
  have Q1 := Lib.hid (fun w_ => SC'.out v last n b hv hl f1 f2 w_)
  have Q2 := Lib.hid (fun w_ => refLoss15_ok hl f1 f2 w_)
  have Q3 := Lib.hid (fun w_ => OC'.out v last n b hv hl f1 f2 w_)
  have Q4 := Lib.hid (fun w_ => LC'.out v n hv f1 w_)
  have Q5 := Lib.hid (fun w_ => refLeast15_ok f1 w_)
  have Q6 := Lib.hid (fun w_ => MC'.out v k m hv hk f3 w_)
  have Q7 := Lib.hid (fun w_ => refMany15_ok hk f3 w_)
  clear f1 f2 f3 hv hl hk
  go_enter Try.func3, Try.ntmps3
  go_wp2_with fail
  refine (AW'.out _).mono ?_
  rintro e w20 ⟨rfl, k20⟩
  go_wp2_with fail
  refine (Q1.out _).mono ?_
  rintro e w21 ⟨rfl, k21⟩
  go_wp2_with fail
  refine (Q2.out _).mono ?_
  rintro e w22 ⟨rfl, k22⟩
  go_wp2_with fail
  refine (Q3.out _).mono ?_
  rintro e w23 ⟨rfl, k23⟩
  go_wp2_with fail
  refine (Q4.out _).mono ?_
  rintro e w24 ⟨rfl, k24⟩
  go_wp2_with fail
  refine (Q5.out _).mono ?_
  rintro e w25 ⟨rfl, k25⟩
  go_wp2_with fail
  refine (Q6.out _).mono ?_
  rintro e w26 ⟨rfl, k26⟩
  go_wp2_with fail
  refine (Q7.out _).mono ?_
  rintro e w27 ⟨rfl, k27⟩
  go_wp2
  go_ret
  exact ⟨rfl, (by (repeat (first | with_reducible exact Kept.refl _ | with_reducible apply Kept.drew | with_reducible apply Kept.alloc | ((with_reducible apply Kept.set); focus (simp <;> omega)) | ((with_reducible apply Kept.via); focus with_reducible assumption))))⟩
theorem cutTells_walk (LC : TLeastC) (SC : TLossC) (OC : TTimeoutC) (MC : TManyC) (v last k : Int) (w : World) (hv : In64 v) (hl : In64 last) (hk : In64 k) : Calls Try.prog 3 #[.int .i64 v, .int .i64 last, .int .i64 k] w fun e w' => e = .returned (.bool true) ∧ Kept w w' := tells15 LC SC OC MC hv hl hk rfl rfl rfl w
end Go.Proofs.Ytmafibibpjmjbaa
