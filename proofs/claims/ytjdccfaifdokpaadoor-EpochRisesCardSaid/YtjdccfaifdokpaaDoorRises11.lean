/-
  The walk of EpochRises: it answers true, if the calls do what they are to do.
-/
import Derived.Test.YtjdccfaifdokpaaDoorAwake11
import Derived.Deep.RegionHeld3
import Derived.Deep.DeepCutAuto
namespace Go.Proofs.YtjdccfaifdokpaaDoor
open Go.RowKit Go.BigFrame
set_option linter.unusedVariables false

set_option maxRecDepth 100000 in
set_option maxHeartbeats 1600000 in
theorem rises11 (CC : ECheckC) (KC_ : EKC) (FC : EFastC) (BC : EBeginC) (SC : EShiftC) {a b lo hi mx klo khi ka km : Int} (ha : In64 a) (hb : In64 b) (hlo : In64 lo) (hhi : In64 hi) (hmx : In64 mx) (mn : Int) (hmn : In64 mn) (e1 : (if b < a then b else a) = lo) (e2 : (if a < b then b else a) = hi) (e3 : (if a < 68719476736 then 68719476736 else a) = mx) (e4 : (if 0 < a then 0 else a) = mn) (q1 : KIs lo klo) (q2 : KIs hi khi) (q3 : KIs a ka) (q4 : KIs 68719476736 km) (q5 : KIs mx km) (q6 : KIs mn 0) (o1 : klo ≤ khi) (o2 : 0 ≤ ka) (o3 : ka ≤ km) (w : World) (T_ : Tens w) : Calls Tryd.prog 5 #[.int .i64 a, .int .i64 b] w fun e w' => e = .returned (.bool true) ∧ Kept w w' := by
  have CC' := Lib.hid CC
  have KC' := Lib.hid KC_
  have FC' := Lib.hid FC
  have BC' := Lib.hid BC
  have SC' := Lib.hid SC
  have AW' := Lib.hid (fun w TT_ => awake11 CC KC_ FC BC SC w TT_)
  clear CC KC_ FC BC SC
  have T := Lib.hid T_
  clear T_
  have Q0 := Lib.hid (fun w TT_ => KC'.out lo klo hlo q1 w TT_)
  have Q1 := Lib.hid (fun w TT_ => KC'.out hi khi hhi q2 w TT_)
  have Q2 := Lib.hid (fun w TT_ => KC'.out a ka ha q3 w TT_)
  have Q3 := Lib.hid (fun w TT_ => KC'.out 68719476736 km (by unfold In64; omega) q4 w TT_)
  have Q4 := Lib.hid (fun w TT_ => KC'.out mx km hmx q5 w TT_)
  have Q5 := Lib.hid (fun w TT_ => KC'.out mn 0 hmn q6 w TT_)
  clear q1 q2 q3 q4 q5 q6 ha hb hlo hhi hmx hmn
  have d1 : decide (klo ≤ khi) = true := by simp [o1]
  have d2 : decide (0 ≤ ka) = true := by simp [o2]
  have d3 : decide (ka ≤ km) = true := by simp [o3]
  go_enter Tryd.func5, Tryd.ntmps5
  go_wp2_with fail
  refine (AW'.out _ (Tens.kept T.out (by (repeat (first | with_reducible exact Kept.refl _ | with_reducible apply Kept.drew | with_reducible apply Kept.alloc | ((with_reducible apply Kept.set); focus (simp <;> omega)) | ((with_reducible apply Kept.via); focus with_reducible assumption)))))).mono ?_
  rintro e w1 ⟨rfl, k1⟩
  go_wp2_with fail
  refine (Q0.out _ (Tens.kept T.out (by (repeat (first | with_reducible exact Kept.refl _ | with_reducible apply Kept.drew | with_reducible apply Kept.alloc | ((with_reducible apply Kept.set); focus (simp <;> omega)) | ((with_reducible apply Kept.via); focus with_reducible assumption)))))).mono ?_
  rintro e w2 ⟨rfl, k2⟩
  go_wp2_with fail
  refine (Q1.out _ (Tens.kept T.out (by (repeat (first | with_reducible exact Kept.refl _ | with_reducible apply Kept.drew | with_reducible apply Kept.alloc | ((with_reducible apply Kept.set); focus (simp <;> omega)) | ((with_reducible apply Kept.via); focus with_reducible assumption)))))).mono ?_
  rintro e w3 ⟨rfl, k3⟩
  go_wp2_with fail
  refine (Q2.out _ (Tens.kept T.out (by (repeat (first | with_reducible exact Kept.refl _ | with_reducible apply Kept.drew | with_reducible apply Kept.alloc | ((with_reducible apply Kept.set); focus (simp <;> omega)) | ((with_reducible apply Kept.via); focus with_reducible assumption)))))).mono ?_
  rintro e w4 ⟨rfl, k4⟩
  go_wp2_with fail
  refine (Q2.out _ (Tens.kept T.out (by (repeat (first | with_reducible exact Kept.refl _ | with_reducible apply Kept.drew | with_reducible apply Kept.alloc | ((with_reducible apply Kept.set); focus (simp <;> omega)) | ((with_reducible apply Kept.via); focus with_reducible assumption)))))).mono ?_
  rintro e w5 ⟨rfl, k5⟩
  go_wp2_with fail
  refine (Q3.out _ (Tens.kept T.out (by (repeat (first | with_reducible exact Kept.refl _ | with_reducible apply Kept.drew | with_reducible apply Kept.alloc | ((with_reducible apply Kept.set); focus (simp <;> omega)) | ((with_reducible apply Kept.via); focus with_reducible assumption)))))).mono ?_
  rintro e w6 ⟨rfl, k6⟩
  go_wp2_with fail
  refine (Q4.out _ (Tens.kept T.out (by (repeat (first | with_reducible exact Kept.refl _ | with_reducible apply Kept.drew | with_reducible apply Kept.alloc | ((with_reducible apply Kept.set); focus (simp <;> omega)) | ((with_reducible apply Kept.via); focus with_reducible assumption)))))).mono ?_
  rintro e w7 ⟨rfl, k7⟩
  go_wp2_with fail
  refine (Q3.out _ (Tens.kept T.out (by (repeat (first | with_reducible exact Kept.refl _ | with_reducible apply Kept.drew | with_reducible apply Kept.alloc | ((with_reducible apply Kept.set); focus (simp <;> omega)) | ((with_reducible apply Kept.via); focus with_reducible assumption)))))).mono ?_
  rintro e w8 ⟨rfl, k8⟩
  go_wp2_with fail
  refine (Q5.out _ (Tens.kept T.out (by (repeat (first | with_reducible exact Kept.refl _ | with_reducible apply Kept.drew | with_reducible apply Kept.alloc | ((with_reducible apply Kept.set); focus (simp <;> omega)) | ((with_reducible apply Kept.via); focus with_reducible assumption)))))).mono ?_
  rintro e w9 ⟨rfl, k9⟩
  go_wp2
  go_ret
  exact ⟨rfl, (by (repeat (first | with_reducible exact Kept.refl _ | with_reducible apply Kept.drew | with_reducible apply Kept.alloc | ((with_reducible apply Kept.set); focus (simp <;> omega)) | ((with_reducible apply Kept.via); focus with_reducible assumption))))⟩
theorem epochRises_walk (CC : ECheckC) (KC_ : EKC) (FC : EFastC) (BC : EBeginC) (SC : EShiftC) (a b : Int) (w : World) (T_ : Tens w) (ha : In64 a) (hb : In64 b) : Calls Tryd.prog 5 #[.int .i64 a, .int .i64 b] w fun e w' => e = .returned (.bool true) ∧ Kept w w' := by
  obtain ⟨klo, q1⟩ := k_ex (if b < a then b else a)
  obtain ⟨khi, q2⟩ := k_ex (if a < b then b else a)
  obtain ⟨ka, q3⟩ := k_ex a
  obtain ⟨km, q4⟩ := k_ex 68719476736
  have q5 : KIs (if a < 68719476736 then 68719476736 else a) km := by
    have : gapK (if a < 68719476736 then 68719476736 else a) = gapK 68719476736 := by rw [gapK_high (by split <;> omega), gapK_high (by omega)]
    unfold KIs at q4 ⊢; rw [this]; exact q4
  have q6 : KIs (if 0 < a then 0 else a) 0 := by
    obtain ⟨z, q⟩ := k_ex (if 0 < a then 0 else a)
    have := k_zero q (by split <;> omega)
    subst this; exact q
  have o3 : ka ≤ km := by
    obtain ⟨km', q⟩ := k_ex (if a < 68719476736 then 68719476736 else a)
    have e := k_uniq q q5
    have := k_rises q3 q (by split <;> omega)
    omega
  exact rises11 CC KC_ FC BC SC ha hb (by split <;> assumption) (by split <;> assumption) (by unfold In64 at *; split <;> omega) _ (by unfold In64 at *; split <;> omega) rfl rfl rfl rfl q1 q2 q3 q4 q5 q6 (k_rises q1 q2 (by split <;> split <;> omega)) (k_range q3).1 o3 w T_
end Go.Proofs.YtjdccfaifdokpaaDoor
