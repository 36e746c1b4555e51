/-
  The walk of CutMany: it answers true, if the calls do what they are to do.
-/
import Derived.Test.YtmafibibpjmjbaaAwake15
import Derived.Deep.RegionHeld3
import Derived.Deep.DeepCutAuto
namespace Go.Proofs.Ytmafibibpjmjbaa
open Go.RowKit Go.BigFrame
set_option linter.unusedVariables false

set_option maxRecDepth 100000 in
set_option maxHeartbeats 1600000 in
theorem many15 (LC : TLeastC) (SC : TLossC) (OC : TTimeoutC) (MC : TManyC) {v a b m x l n : Int} (hv : In64 v) (a0 : 0 ≤ a) (a1 : a ≤ 255) (b0 : 0 ≤ b) (b1 : b ≤ 255) (m0 : 0 ≤ m) (m1 : m ≤ 68719476736) (f0 : manyC v (a : Int).toNat = m) (f1 : manyC m (b : Int).toNat = x) (f2 : manyC v ((a + b) : Int).toNat = x) (f3 : manyC v (50 : Int).toNat = 131072) (f4 : manyC v (1 : Int).toNat = l) (f5 : leastC v = l) (f6 : manyC v (a + 1).toNat = n) (o : n ≤ m) (w : World) : Calls Try.prog 6 #[.int .i64 v, .int .u8 a, .int .u8 b] w fun e w' => e = .returned (.bool true) ∧ Kept w w' := by
  have LC' := Lib.hid LC
  have SC' := Lib.hid SC
  have OC' := Lib.hid OC
  have MC' := Lib.hid MC
  have AW' := Lib.hid (fun w => awake15 LC SC OC MC w)
  clear LC SC OC MC
  have Q0 := Lib.hid (fun w_ => MC'.out v a m hv (by unfold In64; omega) f0 w_)
  have Q1 := Lib.hid (fun w_ => MC'.out m b x (by unfold In64; omega) (by unfold In64; omega) f1 w_)
  have Q2 := Lib.hid (fun w_ => MC'.out v (a + b) x hv (by unfold In64; omega) f2 w_)
  have Q3 := Lib.hid (fun w_ => MC'.out v 50 131072 hv (by unfold In64; omega) f3 w_)
  have Q4 := Lib.hid (fun w_ => MC'.out v 1 l hv (by unfold In64; omega) f4 w_)
  have QL := Lib.hid (fun w_ => LC'.out v l hv f5 w_)
  have Q6 := Lib.hid (fun w_ => MC'.out v (a + 1) n hv (by unfold In64; omega) f6 w_)
  have d0 : decide (n ≤ m) = true := by simp [o]
  clear f0 f1 f2 f3 f4 f5 f6 hv o
  go_enter Try.func6, Try.ntmps6
  go_wp2_with fail
  refine (AW'.out _).mono ?_
  rintro e w20 ⟨rfl, k20⟩
  go_wp2_with fail
  refine (Q0.out _).mono ?_
  rintro e w21 ⟨rfl, k21⟩
  go_wp2_with fail
  refine (Q1.out _).mono ?_
  rintro e w22 ⟨rfl, k22⟩
  go_wp2_with fail
  refine (Q2.out _).mono ?_
  rintro e w23 ⟨rfl, k23⟩
  go_wp2_with fail
  refine (Q3.out _).mono ?_
  rintro e w24 ⟨rfl, k24⟩
  go_wp2_with fail
  refine (Q4.out _).mono ?_
  rintro e w25 ⟨rfl, k25⟩
  go_wp2_with fail
  refine (QL.out _).mono ?_
  rintro e w26 ⟨rfl, k26⟩
  go_wp2_with fail
  refine (Q6.out _).mono ?_
  rintro e w27 ⟨rfl, k27⟩
  go_wp2_with fail
  refine (Q0.out _).mono ?_
  rintro e w28 ⟨rfl, k28⟩
  go_wp2
  go_ret
  exact ⟨rfl, (by (repeat (first | with_reducible exact Kept.refl _ | with_reducible apply Kept.drew | with_reducible apply Kept.alloc | ((with_reducible apply Kept.set); focus (simp <;> omega)) | ((with_reducible apply Kept.via); focus with_reducible assumption))))⟩
theorem cutMany_walk (LC : TLeastC) (SC : TLossC) (OC : TTimeoutC) (MC : TManyC) (v a b : Int) (w : World) (hv : In64 v) (a0 : 0 ≤ a) (a1 : a ≤ 255) (b0 : 0 ≤ b) (b1 : b ≤ 255) : Calls Try.prog 6 #[.int .i64 v, .int .u8 a, .int .u8 b] w fun e w' => e = .returned (.bool true) ∧ Kept w w' := by
  obtain ⟨i, rfl⟩ := Int.eq_ofNat_of_zero_le a0
  obtain ⟨j, rfl⟩ := Int.eq_ofNat_of_zero_le b0
  have r := manyC_range v i
  refine many15 LC SC OC MC hv a0 a1 b0 b1 (m := manyC v i) (x := manyC v (i + j)) (by omega) (by omega) (by simp) ?_ ?_ ?_ ?_ rfl rfl ?_ w
  · rw [Int.toNat_natCast]; exact manyC_sum v i j
  · rw [show ((i : Int) + (j : Int)).toNat = i + j by omega]
  · exact manyC_fifty v
  · exact manyC_one v
  · rw [show ((i : Int) + 1).toNat = i + 1 by omega]; exact manyC_next v i
end Go.Proofs.Ytmafibibpjmjbaa
