/-
  The walk of CutLoss: it answers true, if the calls do what they are to do.
-/
import Derived.Test.YtmafibibpjmjbaaAwake15
import Derived.Deep.RegionHeld3
import Derived.Deep.DeepCutAuto
namespace Go.Proofs.Ytmafibibpjmjbaa
open Go.RowKit Go.BigFrame
set_option linter.unusedVariables false

set_option maxRecDepth 100000 in
set_option maxHeartbeats 1600000 in
theorem loss15_two (LC : TLeastC) (SC : TLossC) (OC : TTimeoutC) (MC : TManyC) {u r last n b : Int} (u0 : 0 ≤ u) (u1 : u ≤ 18446744073709551615) (er : u % 68719345665 = r) (r0 : 0 ≤ r) (r1 : r ≤ 68719345664) (hl : In64 last) (f1 : leastC (131072 + r) = n) (f2 : fastN last (givG (131072 + r)) = b) (n0 : 0 ≤ n) (n1 : n ≤ 68719476736) (b0 : 0 ≤ b) (b1 : b ≤ 68719476736) (o0 : b ≤ 131072 + r) (o1 : n ≤ 131072 + r) (h : r = 0) (w : World) : Calls Try.prog 7 #[.int .u64 u, .int .i64 last] w fun e w' => e = .returned (.bool true) ∧ Kept w w' := by
  have LC' := Lib.hid LC
  have SC' := Lib.hid SC
  have OC' := Lib.hid OC
  have MC' := Lib.hid MC
  have AW' := Lib.hid (fun w => awake15 LC SC OC MC w)
  clear LC SC OC MC
  have Q1 := Lib.hid (fun w_ => SC'.out (131072 + r) last n b (by unfold In64; omega) hl f1 f2 w_)
  have Q2 := Lib.hid (fun w_ => OC'.out (131072 + r) last n b (by unfold In64; omega) hl f1 f2 w_)
  have d0 : decide (b ≤ 131072 + r) = true := by simp; omega
  have d1 : decide (n ≤ 131072 + r) = true := by simp; omega
  clear f1 f2 hl
  subst h
  go_enter Try.func7, Try.ntmps7
  go_wp2_with fail
  refine (AW'.out _).mono ?_
  rintro e w20 ⟨rfl, k20⟩
  go_upto_region 3 with fail
  try rw [er]
  clear er
  go_wp2_with fail
  refine (Q1.out _).mono ?_
  rintro e w21 ⟨rfl, k21⟩
  go_wp2_with fail
  refine (Q2.out _).mono ?_
  rintro e w22 ⟨rfl, k22⟩
  go_wp2
  go_ret
  exact ⟨rfl, (by (repeat (first | with_reducible exact Kept.refl _ | with_reducible apply Kept.drew | with_reducible apply Kept.alloc | ((with_reducible apply Kept.set); focus (simp <;> omega)) | ((with_reducible apply Kept.via); focus with_reducible assumption))))⟩
set_option maxRecDepth 100000 in
set_option maxHeartbeats 1600000 in
theorem loss15_near (LC : TLeastC) (SC : TLossC) (OC : TTimeoutC) (MC : TManyC) {u r last n b : Int} (u0 : 0 ≤ u) (u1 : u ≤ 18446744073709551615) (er : u % 68719345665 = r) (r0 : 0 ≤ r) (r1 : r ≤ 68719345664) (hl : In64 last) (f1 : leastC (131072 + r) = n) (f2 : fastN last (givG (131072 + r)) = b) (n0 : 0 ≤ n) (n1 : n ≤ 68719476736) (b0 : 0 ≤ b) (b1 : b ≤ 68719476736) (o0 : b ≤ 131072 + r) (o1 : n ≤ 131072 + r) (h : 0 < r) (h1 : 17 * (131072 + r) < 2621440) (w : World) : Calls Try.prog 7 #[.int .u64 u, .int .i64 last] w fun e w' => e = .returned (.bool true) ∧ Kept w w' := by
  have LC' := Lib.hid LC
  have SC' := Lib.hid SC
  have OC' := Lib.hid OC
  have MC' := Lib.hid MC
  have AW' := Lib.hid (fun w => awake15 LC SC OC MC w)
  clear LC SC OC MC
  have Q1 := Lib.hid (fun w_ => SC'.out (131072 + r) last n b (by unfold In64; omega) hl f1 f2 w_)
  have Q2 := Lib.hid (fun w_ => OC'.out (131072 + r) last n b (by unfold In64; omega) hl f1 f2 w_)
  have d0 : decide (b ≤ 131072 + r) = true := by simp; omega
  have d1 : decide (n ≤ 131072 + r) = true := by simp; omega
  clear f1 f2 hl
  have h2 : ¬ (131072 + r = 131072) := by omega
  have h3 : ¬ r = 0 := by omega
  have e1 : decide (17 * (131072 + r) < 2621440) = true := by simp; omega
  go_enter Try.func7, Try.ntmps7
  go_wp2_with fail
  refine (AW'.out _).mono ?_
  rintro e w20 ⟨rfl, k20⟩
  go_upto_region 3 with fail
  try rw [er]
  clear er
  go_wp2_with fail
  refine (Q1.out _).mono ?_
  rintro e w21 ⟨rfl, k21⟩
  go_wp2_with fail
  refine (Q2.out _).mono ?_
  rintro e w22 ⟨rfl, k22⟩
  go_wp2
  go_ret
  exact ⟨rfl, (by (repeat (first | with_reducible exact Kept.refl _ | with_reducible apply Kept.drew | with_reducible apply Kept.alloc | ((with_reducible apply Kept.set); focus (simp <;> omega)) | ((with_reducible apply Kept.via); focus with_reducible assumption))))⟩
set_option maxRecDepth 100000 in
set_option maxHeartbeats 1600000 in
theorem loss15_far (LC : TLeastC) (SC : TLossC) (OC : TTimeoutC) (MC : TManyC) {u r last n b : Int} (u0 : 0 ≤ u) (u1 : u ≤ 18446744073709551615) (er : u % 68719345665 = r) (r0 : 0 ≤ r) (r1 : r ≤ 68719345664) (hl : In64 last) (f1 : leastC (131072 + r) = n) (f2 : fastN last (givG (131072 + r)) = b) (n0 : 0 ≤ n) (n1 : n ≤ 68719476736) (b0 : 0 ≤ b) (b1 : b ≤ 68719476736) (o0 : b ≤ 131072 + r) (o1 : n ≤ 131072 + r) (h : 0 < r) (h1 : 2621440 ≤ 17 * (131072 + r)) (h5 : n ≤ b) (w : World) : Calls Try.prog 7 #[.int .u64 u, .int .i64 last] w fun e w' => e = .returned (.bool true) ∧ Kept w w' := by
  have LC' := Lib.hid LC
  have SC' := Lib.hid SC
  have OC' := Lib.hid OC
  have MC' := Lib.hid MC
  have AW' := Lib.hid (fun w => awake15 LC SC OC MC w)
  clear LC SC OC MC
  have Q1 := Lib.hid (fun w_ => SC'.out (131072 + r) last n b (by unfold In64; omega) hl f1 f2 w_)
  have Q2 := Lib.hid (fun w_ => OC'.out (131072 + r) last n b (by unfold In64; omega) hl f1 f2 w_)
  have d0 : decide (b ≤ 131072 + r) = true := by simp; omega
  have d1 : decide (n ≤ 131072 + r) = true := by simp; omega
  clear f1 f2 hl
  have h2 : ¬ (131072 + r = 131072) := by omega
  have h3 : ¬ r = 0 := by omega
  have e1 : decide (17 * (131072 + r) < 2621440) = false := by simp; omega
  have e2 : decide (n ≤ b) = true := by simp [h5]
  go_enter Try.func7, Try.ntmps7
  go_wp2_with fail
  refine (AW'.out _).mono ?_
  rintro e w20 ⟨rfl, k20⟩
  go_upto_region 3 with fail
  try rw [er]
  clear er
  go_wp2_with fail
  refine (Q1.out _).mono ?_
  rintro e w21 ⟨rfl, k21⟩
  go_wp2_with fail
  refine (Q2.out _).mono ?_
  rintro e w22 ⟨rfl, k22⟩
  go_wp2
  go_ret
  exact ⟨rfl, (by (repeat (first | with_reducible exact Kept.refl _ | with_reducible apply Kept.drew | with_reducible apply Kept.alloc | ((with_reducible apply Kept.set); focus (simp <;> omega)) | ((with_reducible apply Kept.via); focus with_reducible assumption))))⟩
theorem cutLoss_walk (LC : TLeastC) (SC : TLossC) (OC : TTimeoutC) (MC : TManyC) (u last : Int) (w : World) (u0 : 0 ≤ u) (u1 : u ≤ 18446744073709551615) (hl : In64 last) : Calls Try.prog 7 #[.int .u64 u, .int .i64 last] w fun e w' => e = .returned (.bool true) ∧ Kept w w' := by
  obtain ⟨r, er⟩ : ∃ r, u % 68719345665 = r := ⟨_, rfl⟩
  have r0 : 0 ≤ r := by omega
  have r1 : r ≤ 68719345664 := by omega
  have g : givG (131072 + r) = 131072 + r := givG_of (by omega)
  have lr := leastC_range (131072 + r)
  have ls := leastC_less (w := 131072 + r) (by omega)
  have fl := fast_less (w := 131072 + r) (last := last) (by omega)
  have f0 : 0 ≤ fastN last (131072 + r) := by unfold fastN; split <;> (try split) <;> omega
  have e2 : fastN last (givG (131072 + r)) = fastN last (131072 + r) := by rw [g]
  have ft := fast_least (w := 131072 + r) (last := last) (by omega)
  by_cases h : r = 0
  · exact loss15_two LC SC OC MC u0 u1 er r0 r1 hl rfl e2 (by omega) (by omega) f0 (by omega) fl ls.1 h w
  · by_cases h1 : 17 * (131072 + r) < 2621440
    · exact loss15_near LC SC OC MC u0 u1 er r0 r1 hl rfl e2 (by omega) (by omega) f0 (by omega) fl ls.1 (by omega) h1 w
    · refine loss15_far LC SC OC MC u0 u1 er r0 r1 hl rfl e2 (by omega) (by omega) f0 (by omega) fl ls.1 (by omega) (by omega) ?_ w
      rcases ft with x | x
      · omega
      · exact x
end Go.Proofs.Ytmafibibpjmjbaa
