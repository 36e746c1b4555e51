/-
  The walk of CutExact: it answers true, if the calls do what they are to do.
-/
import Derived.Test.YtmafibibpjmjbaaAwake15
import Derived.Deep.RegionHeld3
import Derived.Deep.DeepCutAuto
namespace Go.Proofs.Ytmafibibpjmjbaa
open Go.RowKit Go.BigFrame
set_option linter.unusedVariables false

set_option maxRecDepth 100000 in
set_option maxHeartbeats 1600000 in
theorem exact15_aw (LC : TLeastC) (SC : TLossC) (OC : TTimeoutC) (MC : TManyC) {u r last n b : Int} (u0 : 0 ≤ u) (u1 : u ≤ 18446744073709551615) (er : u % 68719345665 = r) (r0 : 0 ≤ r) (r1 : r ≤ 68719345664) (hl : In64 last) (f1 : leastC (131072 + r) = n) (f2 : fastN last (givG (131072 + r)) = b) (n0 : 0 ≤ n) (n1 : n ≤ 68719476736) (b0 : 0 ≤ b) (b1 : b ≤ 68719476736) (x0 : 10 * n ≤ 7 * (131072 + r)) (x1 : 7 * (131072 + r) - 10 * n < 10) (y0 : last ≤ 131072 + r) (y1 : b = 131072 + r) (w : World) : Calls Try.prog 4 #[.int .u64 u, .int .i64 last] w fun e w' => e = .returned (.bool true) ∧ Kept w w' := by
  have LC' := Lib.hid LC
  have SC' := Lib.hid SC
  have OC' := Lib.hid OC
  have MC' := Lib.hid MC
  have AW' := Lib.hid (fun w => awake15 LC SC OC MC w)
  clear LC SC OC MC
  have Q1 := Lib.hid (fun w_ => SC'.out (131072 + r) last n b (by unfold In64; omega) hl f1 f2 w_)
  have Q2 := Lib.hid (fun w_ => LC'.out (131072 + r) n (by unfold In64; omega) f1 w_)
  clear f1 f2 hl
  have e0 : decide (10 * n ≤ 7 * (131072 + r)) = true := by simp; omega
  have e1 : decide (7 * (131072 + r) - 10 * n < 10) = true := by simp; omega
  subst y1
  have e3 : decide (last ≤ 131072 + r) = true := by simp; omega
  go_enter Try.func4, Try.ntmps4
  go_wp2_with fail
  refine (AW'.out _).mono ?_
  rintro e w20 ⟨rfl, k20⟩
  go_upto_region 3 with fail
  try rw [er]
  clear er
  go_wp2_with fail
  refine (Q1.out _).mono ?_
  rintro e w21 ⟨rfl, k21⟩
  go_wp2_with fail
  refine (Q2.out _).mono ?_
  rintro e w22 ⟨rfl, k22⟩
  go_wp2
  go_ret
  exact ⟨rfl, (by (repeat (first | with_reducible exact Kept.refl _ | with_reducible apply Kept.drew | with_reducible apply Kept.alloc | ((with_reducible apply Kept.set); focus (simp <;> omega)) | ((with_reducible apply Kept.via); focus with_reducible assumption))))⟩
set_option maxRecDepth 100000 in
set_option maxHeartbeats 1600000 in
theorem exact15_al (LC : TLeastC) (SC : TLossC) (OC : TTimeoutC) (MC : TManyC) {u r last n b : Int} (u0 : 0 ≤ u) (u1 : u ≤ 18446744073709551615) (er : u % 68719345665 = r) (r0 : 0 ≤ r) (r1 : r ≤ 68719345664) (hl : In64 last) (f1 : leastC (131072 + r) = n) (f2 : fastN last (givG (131072 + r)) = b) (n0 : 0 ≤ n) (n1 : n ≤ 68719476736) (b0 : 0 ≤ b) (b1 : b ≤ 68719476736) (x0 : 10 * n ≤ 7 * (131072 + r)) (x1 : 7 * (131072 + r) - 10 * n < 10) (y0 : 131072 + r < last) (y1 : 20 * b ≤ 17 * (131072 + r)) (y2 : 17 * (131072 + r) - 20 * b < 20) (w : World) : Calls Try.prog 4 #[.int .u64 u, .int .i64 last] w fun e w' => e = .returned (.bool true) ∧ Kept w w' := by
  have LC' := Lib.hid LC
  have SC' := Lib.hid SC
  have OC' := Lib.hid OC
  have MC' := Lib.hid MC
  have AW' := Lib.hid (fun w => awake15 LC SC OC MC w)
  clear LC SC OC MC
  have Q1 := Lib.hid (fun w_ => SC'.out (131072 + r) last n b (by unfold In64; omega) hl f1 f2 w_)
  have Q2 := Lib.hid (fun w_ => LC'.out (131072 + r) n (by unfold In64; omega) f1 w_)
  clear f1 f2 hl
  have e0 : decide (10 * n ≤ 7 * (131072 + r)) = true := by simp; omega
  have e1 : decide (7 * (131072 + r) - 10 * n < 10) = true := by simp; omega
  have e3 : decide (last ≤ 131072 + r) = false := by simp; omega
  have e4 : decide (131072 + r < last) = true := by simp; omega
  have e5 : decide (20 * b ≤ 17 * (131072 + r)) = true := by simp; omega
  have e6 : decide (17 * (131072 + r) - 20 * b < 20) = true := by simp; omega
  go_enter Try.func4, Try.ntmps4
  go_wp2_with fail
  refine (AW'.out _).mono ?_
  rintro e w20 ⟨rfl, k20⟩
  go_upto_region 3 with fail
  try rw [er]
  clear er
  go_wp2_with fail
  refine (Q1.out _).mono ?_
  rintro e w21 ⟨rfl, k21⟩
  go_wp2_with fail
  refine (Q2.out _).mono ?_
  rintro e w22 ⟨rfl, k22⟩
  go_wp2
  go_ret
  exact ⟨rfl, (by (repeat (first | with_reducible exact Kept.refl _ | with_reducible apply Kept.drew | with_reducible apply Kept.alloc | ((with_reducible apply Kept.set); focus (simp <;> omega)) | ((with_reducible apply Kept.via); focus with_reducible assumption))))⟩
set_option maxRecDepth 100000 in
set_option maxHeartbeats 1600000 in
theorem exact15_bw (LC : TLeastC) (SC : TLossC) (OC : TTimeoutC) (MC : TManyC) {u r last n b : Int} (u0 : 0 ≤ u) (u1 : u ≤ 18446744073709551615) (er : u % 68719345665 = r) (r0 : 0 ≤ r) (r1 : r ≤ 68719345664) (hl : In64 last) (f1 : leastC (131072 + r) = n) (f2 : fastN last (givG (131072 + r)) = b) (n0 : 0 ≤ n) (n1 : n ≤ 68719476736) (b0 : 0 ≤ b) (b1 : b ≤ 68719476736) (x0 : n = 131072) (x1 : 7 * (131072 + r) < 1310720) (y0 : last ≤ 131072 + r) (y1 : b = 131072 + r) (w : World) : Calls Try.prog 4 #[.int .u64 u, .int .i64 last] w fun e w' => e = .returned (.bool true) ∧ Kept w w' := by
  have LC' := Lib.hid LC
  have SC' := Lib.hid SC
  have OC' := Lib.hid OC
  have MC' := Lib.hid MC
  have AW' := Lib.hid (fun w => awake15 LC SC OC MC w)
  clear LC SC OC MC
  have Q1 := Lib.hid (fun w_ => SC'.out (131072 + r) last n b (by unfold In64; omega) hl f1 f2 w_)
  have Q2 := Lib.hid (fun w_ => LC'.out (131072 + r) n (by unfold In64; omega) f1 w_)
  clear f1 f2 hl
  subst x0
  have e1 : decide (7 * (131072 + r) < 1310720) = true := by simp; omega
  have e2 : decide (1310720 ≤ 7 * (131072 + r)) = false := by simp; omega
  subst y1
  have e3 : decide (last ≤ 131072 + r) = true := by simp; omega
  go_enter Try.func4, Try.ntmps4
  go_wp2_with fail
  refine (AW'.out _).mono ?_
  rintro e w20 ⟨rfl, k20⟩
  go_upto_region 3 with fail
  try rw [er]
  clear er
  go_wp2_with fail
  refine (Q1.out _).mono ?_
  rintro e w21 ⟨rfl, k21⟩
  go_wp2_with fail
  refine (Q2.out _).mono ?_
  rintro e w22 ⟨rfl, k22⟩
  go_wp2
  go_ret
  exact ⟨rfl, (by (repeat (first | with_reducible exact Kept.refl _ | with_reducible apply Kept.drew | with_reducible apply Kept.alloc | ((with_reducible apply Kept.set); focus (simp <;> omega)) | ((with_reducible apply Kept.via); focus with_reducible assumption))))⟩
set_option maxRecDepth 100000 in
set_option maxHeartbeats 1600000 in
theorem exact15_bl (LC : TLeastC) (SC : TLossC) (OC : TTimeoutC) (MC : TManyC) {u r last n b : Int} (u0 : 0 ≤ u) (u1 : u ≤ 18446744073709551615) (er : u % 68719345665 = r) (r0 : 0 ≤ r) (r1 : r ≤ 68719345664) (hl : In64 last) (f1 : leastC (131072 + r) = n) (f2 : fastN last (givG (131072 + r)) = b) (n0 : 0 ≤ n) (n1 : n ≤ 68719476736) (b0 : 0 ≤ b) (b1 : b ≤ 68719476736) (x0 : n = 131072) (x1 : 7 * (131072 + r) < 1310720) (y0 : 131072 + r < last) (y1 : 20 * b ≤ 17 * (131072 + r)) (y2 : 17 * (131072 + r) - 20 * b < 20) (w : World) : Calls Try.prog 4 #[.int .u64 u, .int .i64 last] w fun e w' => e = .returned (.bool true) ∧ Kept w w' := by
  have LC' := Lib.hid LC
  have SC' := Lib.hid SC
  have OC' := Lib.hid OC
  have MC' := Lib.hid MC
  have AW' := Lib.hid (fun w => awake15 LC SC OC MC w)
  clear LC SC OC MC
  have Q1 := Lib.hid (fun w_ => SC'.out (131072 + r) last n b (by unfold In64; omega) hl f1 f2 w_)
  have Q2 := Lib.hid (fun w_ => LC'.out (131072 + r) n (by unfold In64; omega) f1 w_)
  clear f1 f2 hl
  subst x0
  have e1 : decide (7 * (131072 + r) < 1310720) = true := by simp; omega
  have e2 : decide (1310720 ≤ 7 * (131072 + r)) = false := by simp; omega
  have e3 : decide (last ≤ 131072 + r) = false := by simp; omega
  have e4 : decide (131072 + r < last) = true := by simp; omega
  have e5 : decide (20 * b ≤ 17 * (131072 + r)) = true := by simp; omega
  have e6 : decide (17 * (131072 + r) - 20 * b < 20) = true := by simp; omega
  go_enter Try.func4, Try.ntmps4
  go_wp2_with fail
  refine (AW'.out _).mono ?_
  rintro e w20 ⟨rfl, k20⟩
  go_upto_region 3 with fail
  try rw [er]
  clear er
  go_wp2_with fail
  refine (Q1.out _).mono ?_
  rintro e w21 ⟨rfl, k21⟩
  go_wp2_with fail
  refine (Q2.out _).mono ?_
  rintro e w22 ⟨rfl, k22⟩
  go_wp2
  go_ret
  exact ⟨rfl, (by (repeat (first | with_reducible exact Kept.refl _ | with_reducible apply Kept.drew | with_reducible apply Kept.alloc | ((with_reducible apply Kept.set); focus (simp <;> omega)) | ((with_reducible apply Kept.via); focus with_reducible assumption))))⟩
theorem cutExact_walk (LC : TLeastC) (SC : TLossC) (OC : TTimeoutC) (MC : TManyC) (u last : Int) (w : World) (u0 : 0 ≤ u) (u1 : u ≤ 18446744073709551615) (hl : In64 last) : Calls Try.prog 4 #[.int .u64 u, .int .i64 last] w fun e w' => e = .returned (.bool true) ∧ Kept w w' := by
  obtain ⟨r, er⟩ : ∃ r, u % 68719345665 = r := ⟨_, rfl⟩
  have r0 : 0 ≤ r := by omega
  have r1 : r ≤ 68719345664 := by omega
  have g : givG (131072 + r) = 131072 + r := givG_of (by omega)
  have lr := leastC_range (131072 + r)
  have fl := fast_less (w := 131072 + r) (last := last) (by omega)
  have fx := fast_exact (w := 131072 + r) (last := last) (by omega)
  have f0 : 0 ≤ fastN last (131072 + r) := by unfold fastN; split <;> (try split) <;> omega
  have e2 : fastN last (givG (131072 + r)) = fastN last (131072 + r) := by rw [g]
  rcases leastC_exact (w := 131072 + r) (by omega) with ⟨a1, a2⟩ | ⟨a1, a2⟩
  · rcases fx with ⟨c1, c2⟩ | ⟨c1, c2, c3⟩
    · exact exact15_aw LC SC OC MC u0 u1 er r0 r1 hl rfl e2 (by omega) (by omega) f0 (by omega) a1 a2 c1 c2 w
    · exact exact15_al LC SC OC MC u0 u1 er r0 r1 hl rfl e2 (by omega) (by omega) f0 (by omega) a1 a2 c1 c2 c3 w
  · rcases fx with ⟨c1, c2⟩ | ⟨c1, c2, c3⟩
    · exact exact15_bw LC SC OC MC u0 u1 er r0 r1 hl rfl e2 (by omega) (by omega) f0 (by omega) a1 a2 c1 c2 w
    · exact exact15_bl LC SC OC MC u0 u1 er r0 r1 hl rfl e2 (by omega) (by omega) f0 (by omega) a1 a2 c1 c2 c3 w
end Go.Proofs.Ytmafibibpjmjbaa
