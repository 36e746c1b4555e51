/-
  The walk of EpochFast: it answers true, if the calls do what they are to do.
-/
import Derived.Test.YtjdccfaifdokpaaDoorAwake11
import Derived.Deep.RegionHeld3
import Derived.Deep.DeepCutAuto
namespace Go.Proofs.YtjdccfaifdokpaaDoor
open Go.RowKit Go.BigFrame
set_option linter.unusedVariables false

set_option maxRecDepth 100000 in
set_option maxHeartbeats 1600000 in
theorem fast11_up (CC : ECheckC) (KC_ : EKC) (FC : EFastC) (BC : EBeginC) (SC : EShiftC) {l n : Int} (hl : In64 l) (n0 : 0 ≤ n) (n1 : n ≤ 4294967295) (e : fastN l n = n) (h : l ≤ n) (w : World) (T_ : Tens w) : Calls Tryd.prog 7 #[.int .i64 l, .int .u32 n] w fun e w' => e = .returned (.bool true) ∧ Kept w w' := by
  have CC' := Lib.hid CC
  have KC' := Lib.hid KC_
  have FC' := Lib.hid FC
  have BC' := Lib.hid BC
  have SC' := Lib.hid SC
  have AW' := Lib.hid (fun w TT_ => awake11 CC KC_ FC BC SC w TT_)
  clear CC KC_ FC BC SC
  have T := Lib.hid T_
  clear T_
  have HL := Lib.hid hl
  have HN := Lib.hid (show In64 n from by unfold In64; omega)
  have HE := Lib.hid e
  clear hl e
  have d0 : decide (l ≤ n) = true := by simp; omega
  go_enter Tryd.func7, Tryd.ntmps7
  go_wp2_with fail
  refine (AW'.out _ (Tens.kept T.out (by (repeat (first | with_reducible exact Kept.refl _ | with_reducible apply Kept.drew | with_reducible apply Kept.alloc | ((with_reducible apply Kept.set); focus (simp <;> omega)) | ((with_reducible apply Kept.via); focus with_reducible assumption)))))).mono ?_
  rintro e w1 ⟨rfl, k1⟩
  go_wp2_with fail
  refine (FC'.out l n n HL.out HN.out HE.out _).mono ?_
  rintro e w2 ⟨rfl, k2⟩
  go_wp2
  go_ret
  exact ⟨rfl, (by (repeat (first | with_reducible exact Kept.refl _ | with_reducible apply Kept.drew | with_reducible apply Kept.alloc | ((with_reducible apply Kept.set); focus (simp <;> omega)) | ((with_reducible apply Kept.via); focus with_reducible assumption))))⟩
set_option maxRecDepth 100000 in
set_option maxHeartbeats 1600000 in
theorem fast11_down (CC : ECheckC) (KC_ : EKC) (FC : EFastC) (BC : EBeginC) (SC : EShiftC) {l n v : Int} (hl : In64 l) (n0 : 0 ≤ n) (n1 : n ≤ 4294967295) (e : fastN l n = v) (h : n < l) (v0 : 0 ≤ v) (v1 : v ≤ n) (v2 : 20 * v ≤ 17 * n) (v3 : 17 * n - 20 * v < 20) (w : World) (T_ : Tens w) : Calls Tryd.prog 7 #[.int .i64 l, .int .u32 n] w fun e w' => e = .returned (.bool true) ∧ Kept w w' := by
  have CC' := Lib.hid CC
  have KC' := Lib.hid KC_
  have FC' := Lib.hid FC
  have BC' := Lib.hid BC
  have SC' := Lib.hid SC
  have AW' := Lib.hid (fun w TT_ => awake11 CC KC_ FC BC SC w TT_)
  clear CC KC_ FC BC SC
  have T := Lib.hid T_
  clear T_
  have HL := Lib.hid hl
  have HN := Lib.hid (show In64 n from by unfold In64; omega)
  have HE := Lib.hid e
  clear hl e
  have d0 : decide (l ≤ n) = false := by simp; omega
  have d1 : decide (n < l) = true := by simp; omega
  have d2 : decide (20 * v ≤ 17 * n) = true := by simp; omega
  have d3 : decide (17 * n - 20 * v < 20) = true := by simp; omega
  go_enter Tryd.func7, Tryd.ntmps7
  go_wp2_with fail
  refine (AW'.out _ (Tens.kept T.out (by (repeat (first | with_reducible exact Kept.refl _ | with_reducible apply Kept.drew | with_reducible apply Kept.alloc | ((with_reducible apply Kept.set); focus (simp <;> omega)) | ((with_reducible apply Kept.via); focus with_reducible assumption)))))).mono ?_
  rintro e w1 ⟨rfl, k1⟩
  go_wp2_with fail
  refine (FC'.out l n v HL.out HN.out HE.out _).mono ?_
  rintro e w2 ⟨rfl, k2⟩
  go_wp2
  go_ret
  exact ⟨rfl, (by (repeat (first | with_reducible exact Kept.refl _ | with_reducible apply Kept.drew | with_reducible apply Kept.alloc | ((with_reducible apply Kept.set); focus (simp <;> omega)) | ((with_reducible apply Kept.via); focus with_reducible assumption))))⟩
theorem epochFast_walk (CC : ECheckC) (KC_ : EKC) (FC : EFastC) (BC : EBeginC) (SC : EShiftC) (l n : Int) (w : World) (T_ : Tens w) (hl : In64 l) (n0 : 0 ≤ n) (n1 : n ≤ 4294967295) : Calls Tryd.prog 7 #[.int .i64 l, .int .u32 n] w fun e w' => e = .returned (.bool true) ∧ Kept w w' := by
  by_cases h : l ≤ n
  · exact fast11_up CC KC_ FC BC SC hl n0 n1 (by unfold fastN; rw [if_pos h]) h w T_
  · exact fast11_down CC KC_ FC BC SC hl n0 n1 (v := n * 17 / 20) (by unfold fastN; rw [if_neg h, if_neg (by omega)]) (by omega) (by omega) (by omega) (by omega) (by omega) w T_
end Go.Proofs.YtjdccfaifdokpaaDoor
