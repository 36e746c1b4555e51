/-
  The walk of CutBounds: it answers true, if the calls do what they are to do.
-/
import Derived.Test.YtmafibibpjmjbaaAwake15
import Derived.Deep.RegionHeld3
import Derived.Deep.DeepCutAuto
namespace Go.Proofs.Ytmafibibpjmjbaa
open Go.RowKit Go.BigFrame
set_option linter.unusedVariables false

set_option maxRecDepth 100000 in
set_option maxHeartbeats 1600000 in
theorem bounds15_low (LC : TLeastC) (SC : TLossC) (OC : TTimeoutC) (MC : TManyC) {a b lo hi_ n x y : Int} (ha : In64 a) (hl : In64 lo) (hh : In64 hi_) (g1 : (if b < a then b else a) = lo) (g2 : (if a < b then b else a) = hi_) (f1 : leastC a = n) (f2 : leastC lo = x) (f3 : leastC hi_ = y) (n0 : 131072 ≤ n) (n1 : n ≤ 68719476736) (o : x ≤ y) (h : a < 131072) (w : World) : Calls Try.prog 5 #[.int .i64 a, .int .i64 b] w fun e w' => e = .returned (.bool true) ∧ Kept w w' := by
  have LC' := Lib.hid LC
  have SC' := Lib.hid SC
  have OC' := Lib.hid OC
  have MC' := Lib.hid MC
  have AW' := Lib.hid (fun w => awake15 LC SC OC MC w)
  clear LC SC OC MC
  have Q1 := Lib.hid (fun w_ => LC'.out a n ha f1 w_)
  have Q2 := Lib.hid (fun w_ => LC'.out lo x hl f2 w_)
  have Q3 := Lib.hid (fun w_ => LC'.out hi_ y hh f3 w_)
  have e0 : decide (131072 ≤ n) = true := by simp; omega
  have e1 : decide (n ≤ 68719476736) = true := by simp; omega
  have e6 : decide (x ≤ y) = true := by simp [o]
  clear f1 f2 f3 ha hl hh
  have e2 : decide (a < 131072) = true := by simp; omega
  have e3 : decide (a ≤ 131072) = true := by simp; omega
  go_enter Try.func5, Try.ntmps5
  go_wp2_with fail
  refine (AW'.out _).mono ?_
  rintro e w20 ⟨rfl, k20⟩
  go_wp2_with fail
  refine (Q1.out _).mono ?_
  rintro e w21 ⟨rfl, k21⟩
  go_wp2_with fail
  refine (Q2.out _).mono ?_
  rintro e w22 ⟨rfl, k22⟩
  go_wp2_with fail
  refine (Q3.out _).mono ?_
  rintro e w23 ⟨rfl, k23⟩
  go_wp2
  go_ret
  exact ⟨rfl, (by (repeat (first | with_reducible exact Kept.refl _ | with_reducible apply Kept.drew | with_reducible apply Kept.alloc | ((with_reducible apply Kept.set); focus (simp <;> omega)) | ((with_reducible apply Kept.via); focus with_reducible assumption))))⟩
set_option maxRecDepth 100000 in
set_option maxHeartbeats 1600000 in
theorem bounds15_two (LC : TLeastC) (SC : TLossC) (OC : TTimeoutC) (MC : TManyC) {a b lo hi_ n x y : Int} (ha : In64 a) (hl : In64 lo) (hh : In64 hi_) (g1 : (if b < a then b else a) = lo) (g2 : (if a < b then b else a) = hi_) (f1 : leastC a = n) (f2 : leastC lo = x) (f3 : leastC hi_ = y) (n0 : 131072 ≤ n) (n1 : n ≤ 68719476736) (o : x ≤ y) (h : a = 131072) (h2 : n ≤ a) (w : World) : Calls Try.prog 5 #[.int .i64 a, .int .i64 b] w fun e w' => e = .returned (.bool true) ∧ Kept w w' := by
  have LC' := Lib.hid LC
  have SC' := Lib.hid SC
  have OC' := Lib.hid OC
  have MC' := Lib.hid MC
  have AW' := Lib.hid (fun w => awake15 LC SC OC MC w)
  clear LC SC OC MC
  have Q1 := Lib.hid (fun w_ => LC'.out a n ha f1 w_)
  have Q2 := Lib.hid (fun w_ => LC'.out lo x hl f2 w_)
  have Q3 := Lib.hid (fun w_ => LC'.out hi_ y hh f3 w_)
  have e0 : decide (131072 ≤ n) = true := by simp; omega
  have e1 : decide (n ≤ 68719476736) = true := by simp; omega
  have e6 : decide (x ≤ y) = true := by simp [o]
  clear f1 f2 f3 ha hl hh
  subst h
  have e3 : decide (n ≤ 131072) = true := by simp [h2]
  go_enter Try.func5, Try.ntmps5
  go_wp2_with fail
  refine (AW'.out _).mono ?_
  rintro e w20 ⟨rfl, k20⟩
  go_wp2_with fail
  refine (Q1.out _).mono ?_
  rintro e w21 ⟨rfl, k21⟩
  go_wp2_with fail
  refine (Q2.out _).mono ?_
  rintro e w22 ⟨rfl, k22⟩
  go_wp2_with fail
  refine (Q3.out _).mono ?_
  rintro e w23 ⟨rfl, k23⟩
  go_wp2
  go_ret
  exact ⟨rfl, (by (repeat (first | with_reducible exact Kept.refl _ | with_reducible apply Kept.drew | with_reducible apply Kept.alloc | ((with_reducible apply Kept.set); focus (simp <;> omega)) | ((with_reducible apply Kept.via); focus with_reducible assumption))))⟩
set_option maxRecDepth 100000 in
set_option maxHeartbeats 1600000 in
theorem bounds15_more (LC : TLeastC) (SC : TLossC) (OC : TTimeoutC) (MC : TManyC) {a b lo hi_ n x y : Int} (ha : In64 a) (hl : In64 lo) (hh : In64 hi_) (g1 : (if b < a then b else a) = lo) (g2 : (if a < b then b else a) = hi_) (f1 : leastC a = n) (f2 : leastC lo = x) (f3 : leastC hi_ = y) (n0 : 131072 ≤ n) (n1 : n ≤ 68719476736) (o : x ≤ y) (h : 131072 < a) (h2 : n < a) (w : World) : Calls Try.prog 5 #[.int .i64 a, .int .i64 b] w fun e w' => e = .returned (.bool true) ∧ Kept w w' := by
  have LC' := Lib.hid LC
  have SC' := Lib.hid SC
  have OC' := Lib.hid OC
  have MC' := Lib.hid MC
  have AW' := Lib.hid (fun w => awake15 LC SC OC MC w)
  clear LC SC OC MC
  have Q1 := Lib.hid (fun w_ => LC'.out a n ha f1 w_)
  have Q2 := Lib.hid (fun w_ => LC'.out lo x hl f2 w_)
  have Q3 := Lib.hid (fun w_ => LC'.out hi_ y hh f3 w_)
  have e0 : decide (131072 ≤ n) = true := by simp; omega
  have e1 : decide (n ≤ 68719476736) = true := by simp; omega
  have e6 : decide (x ≤ y) = true := by simp [o]
  clear f1 f2 f3 ha hl hh
  have e2 : decide (a < 131072) = false := by simp; omega
  have e3 : decide (a ≤ 131072) = false := by simp; omega
  have e4 : decide (n ≤ a) = true := by simp; omega
  have e5 : decide (n < a) = true := by simp; omega
  go_enter Try.func5, Try.ntmps5
  go_wp2_with fail
  refine (AW'.out _).mono ?_
  rintro e w20 ⟨rfl, k20⟩
  go_wp2_with fail
  refine (Q1.out _).mono ?_
  rintro e w21 ⟨rfl, k21⟩
  go_wp2_with fail
  refine (Q2.out _).mono ?_
  rintro e w22 ⟨rfl, k22⟩
  go_wp2_with fail
  refine (Q3.out _).mono ?_
  rintro e w23 ⟨rfl, k23⟩
  go_wp2
  go_ret
  exact ⟨rfl, (by (repeat (first | with_reducible exact Kept.refl _ | with_reducible apply Kept.drew | with_reducible apply Kept.alloc | ((with_reducible apply Kept.set); focus (simp <;> omega)) | ((with_reducible apply Kept.via); focus with_reducible assumption))))⟩
theorem cutBounds_walk (LC : TLeastC) (SC : TLossC) (OC : TTimeoutC) (MC : TManyC) (a b : Int) (w : World) (ha : In64 a) (hb : In64 b) : Calls Try.prog 5 #[.int .i64 a, .int .i64 b] w fun e w' => e = .returned (.bool true) ∧ Kept w w' := by
  have r := leastC_range a
  have m : leastC (if b < a then b else a) ≤ leastC (if a < b then b else a) := leastC_mono (by split <;> split <;> omega)
  have hl : In64 (if b < a then b else a) := by split <;> assumption
  have hh : In64 (if a < b then b else a) := by split <;> assumption
  by_cases h : a < 131072
  · exact bounds15_low LC SC OC MC ha hl hh rfl rfl rfl rfl rfl r.1 (by omega) m h w
  · have l := leastC_less (w := a) (by omega)
    by_cases h2 : a = 131072
    · exact bounds15_two LC SC OC MC ha hl hh rfl rfl rfl rfl rfl r.1 (by omega) m h2 l.1 w
    · exact bounds15_more LC SC OC MC ha hl hh rfl rfl rfl rfl rfl r.1 (by omega) m (by omega) (l.2 (by omega)) w
end Go.Proofs.Ytmafibibpjmjbaa
