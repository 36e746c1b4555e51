/-
  The walk of EpochEight: it answers true, if the calls do what they are to do.
-/
import Derived.Test.YtjdccfaifdokpaaDoorAwake11
import Derived.Deep.RegionHeld3
import Derived.Deep.DeepCutAuto
namespace Go.Proofs.YtjdccfaifdokpaaDoor
open Go.RowKit Go.BigFrame
set_option linter.unusedVariables false

set_option maxRecDepth 100000 in
set_option maxHeartbeats 1600000 in
theorem eight11 (CC : ECheckC) (KC_ : EKC) (FC : EFastC) (BC : EBeginC) (SC : EShiftC) {g r k1 k8 : Int} (g0 : 0 ≤ g) (g1 : g ≤ 18446744073709551615) (er : g % 8589934593 = r) (r0 : 0 ≤ r) (r1 : r ≤ 8589934592) (q1 : KIs r k1) (q8 : KIs (8 * r) k8) (o0 : 0 ≤ k8 - 2 * k1) (o1 : k8 - 2 * k1 ≤ 1) (b1 : 0 ≤ k1) (b2 : k1 ≤ 137883820) (w : World) (T_ : Tens w) : Calls Tryd.prog 9 #[.int .u64 g] w fun e w' => e = .returned (.bool true) ∧ Kept w w' := by
  have CC' := Lib.hid CC
  have KC' := Lib.hid KC_
  have FC' := Lib.hid FC
  have BC' := Lib.hid BC
  have SC' := Lib.hid SC
  have AW' := Lib.hid (fun w TT_ => awake11 CC KC_ FC BC SC w TT_)
  clear CC KC_ FC BC SC
  have T := Lib.hid T_
  clear T_
  have Q1 := Lib.hid (fun w TT_ => KC'.out r k1 (by unfold In64; omega) q1 w TT_)
  have Q8 := Lib.hid (fun w TT_ => KC'.out (8 * r) k8 (by unfold In64; omega) q8 w TT_)
  clear q1 q8
  have d0 : decide (0 ≤ k8 - 2 * k1) = true := decide_eq_true o0
  have d1 : decide (k8 - 2 * k1 ≤ 1) = true := decide_eq_true o1
  go_enter Tryd.func9, Tryd.ntmps9
  go_wp2_with fail
  refine (AW'.out _ (Tens.kept T.out (by (repeat (first | with_reducible exact Kept.refl _ | with_reducible apply Kept.drew | with_reducible apply Kept.alloc | ((with_reducible apply Kept.set); focus (simp <;> omega)) | ((with_reducible apply Kept.via); focus with_reducible assumption)))))).mono ?_
  rintro e w1 ⟨rfl, i1⟩
  go_upto_region 3 with fail
  try rw [er]
  clear er
  go_wp2_with fail
  refine (Q8.out _ (Tens.kept T.out (by (repeat (first | with_reducible exact Kept.refl _ | with_reducible apply Kept.drew | with_reducible apply Kept.alloc | ((with_reducible apply Kept.set); focus (simp <;> omega)) | ((with_reducible apply Kept.via); focus with_reducible assumption)))))).mono ?_
  rintro e w2 ⟨rfl, i2⟩
  go_wp2_with fail
  refine (Q1.out _ (Tens.kept T.out (by (repeat (first | with_reducible exact Kept.refl _ | with_reducible apply Kept.drew | with_reducible apply Kept.alloc | ((with_reducible apply Kept.set); focus (simp <;> omega)) | ((with_reducible apply Kept.via); focus with_reducible assumption)))))).mono ?_
  rintro e w3 ⟨rfl, i3⟩
  go_wp2
  go_ret
  exact ⟨rfl, (by (repeat (first | with_reducible exact Kept.refl _ | with_reducible apply Kept.drew | with_reducible apply Kept.alloc | ((with_reducible apply Kept.set); focus (simp <;> omega)) | ((with_reducible apply Kept.via); focus with_reducible assumption))))⟩
theorem epochEight_walk (CC : ECheckC) (KC_ : EKC) (FC : EFastC) (BC : EBeginC) (SC : EShiftC) (g : Int) (w : World) (T_ : Tens w) (g0 : 0 ≤ g) (g1 : g ≤ 18446744073709551615) : Calls Tryd.prog 9 #[.int .u64 g] w fun e w' => e = .returned (.bool true) ∧ Kept w w' := by
  obtain ⟨k1, q1⟩ := k_ex (g % 8589934593)
  obtain ⟨k8, q8⟩ := k_ex (8 * (g % 8589934593))
  have e := k_eight (g := g % 8589934593) (by omega) (by omega) q1 q8
  have r := k_range q1
  exact eight11 CC KC_ FC BC SC g0 g1 rfl (by omega) (by omega) q1 q8 e.1 e.2 r.1 r.2 w T_
end Go.Proofs.YtjdccfaifdokpaaDoor
