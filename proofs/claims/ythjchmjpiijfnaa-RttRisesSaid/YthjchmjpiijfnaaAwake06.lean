/-
  The call 'awake' of layer 6's statements answers true.
-/
import Derived.Test.YthjchmjpiijfnaaSample06
import Derived.Deep.DeepCutAuto
namespace Go.Proofs.Ythjchmjpiijfnaa
open Go.RowKit Go.BigFrame
set_option linter.unusedVariables false

theorem may0 : MayRtt false 0 0 := Or.inl ⟨rfl, rfl, rfl⟩
theorem ex1 : SampleIs false 0 0 100 true 800 200 0 := Or.inr (Or.inl ⟨may0, by unfold IsTrip; omega, rfl, rfl, rfl, rfl, rfl⟩)
theorem ex2 : SampleIs true 800 200 100 true 800 150 0 := Or.inr (Or.inr ⟨Or.inr ⟨rfl, by omega, by omega, by omega, by omega⟩, by unfold IsTrip; omega, rfl, rfl, by decide, by decide, rfl⟩)
theorem ex3 : SampleIs true 800 150 200 true 900 213 0 := Or.inr (Or.inr ⟨Or.inr ⟨rfl, by omega, by omega, by omega, by omega⟩, by unfold IsTrip; omega, rfl, rfl, by decide, by decide, rfl⟩)
theorem ex4 : SampleIs true 900 213 0 true 900 213 201 := Or.inl ⟨by unfold IsTrip; omega, rfl, rfl, rfl, rfl⟩
theorem ex5 : SampleIs false 1 0 5 false 1 0 201 := Or.inl ⟨by unfold MayRtt; simp, rfl, rfl, rfl, rfl⟩
set_option maxRecDepth 100000 in
set_option maxHeartbeats 1600000 in
theorem awake06 (w : World) : Calls Try.prog 9 #[] w fun e w' => e = .returned (.bool true) ∧ Kept w w' := by
  go_enter Try.func9, Try.ntmps9
  go_wp2_with fail
  refine (Sample_ok ex1 _).mono ?_
  rintro e w1 ⟨rfl, k1⟩
  have y1 := Kept.below k1
  go_wp2_with fail
  refine (Sample_ok ex2 _).mono ?_
  rintro e w2 ⟨rfl, k2⟩
  have R2 := Lib.hid (show RC w2 (w1.heap.size) true 800 200 from RC.kept (by exact ⟨⟨by simp [*, go_sem], by simp [*, go_sem], by simp [*, go_sem]⟩, by simp [*, go_sem], by simp [*, go_sem], by simp [*, go_sem]⟩) k2)
  have y2 := Kept.below k2
  simp at y2
  obtain ⟨⟨c0, c1, c2⟩, c3, c4, c5⟩ := R2.out
  go_wp2_with fail
  refine (Sample_ok ex3 _).mono ?_
  rintro e w3 ⟨rfl, k3⟩
  have R3 := Lib.hid (show RC w3 (w1.heap.size) true 800 150 from RC.kept (by exact ⟨⟨by simp [*, go_sem], by simp [*, go_sem], by simp [*, go_sem]⟩, by simp [*, go_sem], by simp [*, go_sem], by simp [*, go_sem]⟩) k3)
  have y3 := Kept.below k3
  simp at y3
  clear c0 c1 c2 c3 c4 c5
  obtain ⟨⟨c0, c1, c2⟩, c3, c4, c5⟩ := R3.out
  go_wp2_with fail
  refine (Sample_ok ex4 _).mono ?_
  rintro e w4 ⟨rfl, k4⟩
  have R4 := Lib.hid (show RC w4 (w1.heap.size) true 900 213 from RC.kept (by exact ⟨⟨by simp [*, go_sem], by simp [*, go_sem], by simp [*, go_sem]⟩, by simp [*, go_sem], by simp [*, go_sem], by simp [*, go_sem]⟩) k4)
  have y4 := Kept.below k4
  simp at y4
  clear c0 c1 c2 c3 c4 c5
  obtain ⟨⟨c0, c1, c2⟩, c3, c4, c5⟩ := R4.out
  go_wp2_with fail
  refine (Sample_ok ex5 _).mono ?_
  rintro e w5 ⟨rfl, k5⟩
  have R5 := Lib.hid (RC.kept R4.out (show Kept w4 w5 from (by (repeat (first | with_reducible exact Kept.refl _ | with_reducible apply Kept.drew | with_reducible apply Kept.alloc | ((with_reducible apply Kept.set); focus (simp <;> omega)) | ((with_reducible apply Kept.via); focus with_reducible assumption))))))
  have y5 := Kept.below k5
  try simp at y5
  clear c0 c1 c2 c3 c4 c5
  go_upto_region 6 with fail
  generalize hW : World.alloc w5 (.cells #[.bool false, .int .i64 1, .int .i64 0] 23) = V
  have KV : Kept w5 V := by subst hW; exact (by (repeat (first | with_reducible exact Kept.refl _ | with_reducible apply Kept.drew | with_reducible apply Kept.alloc | ((with_reducible apply Kept.set); focus (simp <;> omega)) | ((with_reducible apply Kept.via); focus with_reducible assumption))))
  clear hW
  have R5 := Lib.hid (RC.kept R5.out KV)
  have kV := Kept.trans (show Kept w w5 from (by (repeat (first | with_reducible exact Kept.refl _ | with_reducible apply Kept.drew | with_reducible apply Kept.alloc | ((with_reducible apply Kept.set); focus (simp <;> omega)) | ((with_reducible apply Kept.via); focus with_reducible assumption))))) KV
  obtain ⟨⟨c0, c1, c2⟩, c3, c4, c5⟩ := R5.out
  go_wp2_with fail
  refine (Mean_ok (m := 900) (n := 112) ⟨by unfold In64; omega, by decide⟩ _).mono ?_
  rintro e w6 ⟨rfl, k6⟩
  have R6 := Lib.hid (RC.kept R5.out (show Kept V w6 from (by (repeat (first | with_reducible exact Kept.refl _ | with_reducible apply Kept.drew | with_reducible apply Kept.alloc | ((with_reducible apply Kept.set); focus (simp <;> omega)) | ((with_reducible apply Kept.via); focus with_reducible assumption))))))
  have y6 := Kept.below k6
  try simp at y6
  clear c0 c1 c2 c3 c4 c5
  obtain ⟨⟨c0, c1, c2⟩, c3, c4, c5⟩ := R6.out
  go_wp2_with fail
  refine (Far_ok (f := 213) (n := 53) ⟨by unfold In64; omega, by decide⟩ _).mono ?_
  rintro e w7 ⟨rfl, k7⟩
  have R7 := Lib.hid (RC.kept R6.out (show Kept w6 w7 from (by (repeat (first | with_reducible exact Kept.refl _ | with_reducible apply Kept.drew | with_reducible apply Kept.alloc | ((with_reducible apply Kept.set); focus (simp <;> omega)) | ((with_reducible apply Kept.via); focus with_reducible assumption))))))
  have y7 := Kept.below k7
  try simp at y7
  clear c0 c1 c2 c3 c4 c5
  obtain ⟨⟨c0, c1, c2⟩, c3, c4, c5⟩ := R7.out
  go_wp2_with fail
  refine (Check_yes (Or.inr ⟨rfl, by omega, by omega, by omega, by omega⟩) _).mono ?_
  rintro e w8 ⟨rfl, k8⟩
  have R8 := Lib.hid (RC.kept R7.out (show Kept w7 w8 from (by (repeat (first | with_reducible exact Kept.refl _ | with_reducible apply Kept.drew | with_reducible apply Kept.alloc | ((with_reducible apply Kept.set); focus (simp <;> omega)) | ((with_reducible apply Kept.via); focus with_reducible assumption))))))
  have y8 := Kept.below k8
  try simp at y8
  clear c0 c1 c2 c3 c4 c5
  obtain ⟨⟨c0, c1, c2⟩, c3, c4, c5⟩ := R8.out
  go_wp2_with fail
  refine (Check_yes may0 _).mono ?_
  rintro e w9 ⟨rfl, k9⟩
  have R9 := Lib.hid (RC.kept R8.out (show Kept w8 w9 from (by (repeat (first | with_reducible exact Kept.refl _ | with_reducible apply Kept.drew | with_reducible apply Kept.alloc | ((with_reducible apply Kept.set); focus (simp <;> omega)) | ((with_reducible apply Kept.via); focus with_reducible assumption))))))
  have y9 := Kept.below k9
  try simp at y9
  clear c0 c1 c2 c3 c4 c5
  obtain ⟨⟨c0, c1, c2⟩, c3, c4, c5⟩ := R9.out
  go_wp2_with fail
  refine (Check_no (b := true) (m := 0) (f := 0) (by unfold MayRtt; simp) _).mono ?_
  rintro e w10 ⟨rfl, k10⟩
  have R10 := Lib.hid (RC.kept R9.out (show Kept w9 w10 from (by (repeat (first | with_reducible exact Kept.refl _ | with_reducible apply Kept.drew | with_reducible apply Kept.alloc | ((with_reducible apply Kept.set); focus (simp <;> omega)) | ((with_reducible apply Kept.via); focus with_reducible assumption))))))
  have y10 := Kept.below k10
  try simp at y10
  clear c0 c1 c2 c3 c4 c5
  obtain ⟨⟨c0, c1, c2⟩, c3, c4, c5⟩ := R10.out
  go_wp2
  go_ret
  exact ⟨rfl, (by (repeat (first | with_reducible exact Kept.refl _ | with_reducible apply Kept.drew | with_reducible apply Kept.alloc | ((with_reducible apply Kept.set); focus (simp <;> omega)) | ((with_reducible apply Kept.via); focus with_reducible assumption))))⟩
end Go.Proofs.Ythjchmjpiijfnaa
