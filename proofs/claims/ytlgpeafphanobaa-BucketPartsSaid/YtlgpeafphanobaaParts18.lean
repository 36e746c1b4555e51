/-
  The walk of BucketParts: it answers true, if the calls do what they are to do.
-/
import Derived.Test.YtlgpeafphanobaaAwake18
import Derived.Deep.RegionHeld3
import Derived.Deep.DeepCutAuto
namespace Go.Proofs.Ytlgpeafphanobaa
open Go.RowKit Go.BigFrame
set_option linter.unusedVariables false

set_option maxRecDepth 100000 in
set_option maxHeartbeats 1600000 in
theorem parts18_no (CC : BuCheckC) (FC : BuFillC) (TC : BuTakeC) (WC : BuWaitC) (YC : BuBytesC) {a h x y rate most : Int} (ia : In64 a) (ih : In64 h) (m : ¬ MayB a h) (w : World) : Calls Try.prog 6 #[.agg #[.int .i64 a, .int .i64 h], .int .u32 x, .int .u32 y, .int .i64 rate, .int .i64 most] w fun e w' => e = .returned (.bool true) ∧ Kept w w' := by
  have CC' := Lib.hid CC
  have FC' := Lib.hid FC
  have TC' := Lib.hid TC
  have WC' := Lib.hid WC
  have YC' := Lib.hid YC
  have AW' := Lib.hid (fun w => awake18 CC FC TC WC YC w)
  clear CC FC TC WC YC
  have Q0 := Lib.hid (fun w_ => CC'.out a h false ia ih (by simp [m]) w_)
  clear ia ih m
  go_enter Try.func6, Try.ntmps6
  go_upto_region 1 with fail
  generalize hW : World.alloc w (.cells #[.int .i64 a, .int .i64 h] 23) = W_b
  have K_b : Kept w W_b := by subst hW; exact (Kept.refl _).alloc _ _
  have H_b := Lib.hid (show W_b.cell? ⟨w.heap.size, 0, none⟩ = some (.int .i64 a) ∧ W_b.cell? ⟨w.heap.size, 1, none⟩ = some (.int .i64 h) from by subst hW; simp [go_sem])
  clear hW
  generalize w.heap.size = g_b at *
  go_wp2_with fail
  refine (AW'.out _).mono ?_
  rintro e w20 ⟨rfl, k20⟩
  obtain ⟨cb0, cb1⟩ := Kept.alln2 (show Kept W_b w20 from (by (repeat (first | with_reducible exact Kept.refl _ | with_reducible apply Kept.drew | with_reducible apply Kept.alloc | ((with_reducible apply Kept.set); focus (simp <;> omega)) | ((with_reducible apply Kept.via); focus with_reducible assumption))))) H_b
  go_wp2_with fail
  refine (Q0.out _).mono ?_
  rintro e w21 ⟨rfl, k21⟩
  clear cb0 cb1
  go_wp2
  go_ret
  exact ⟨rfl, (by (repeat (first | with_reducible exact Kept.refl _ | with_reducible apply Kept.drew | with_reducible apply Kept.alloc | ((with_reducible apply Kept.set); focus (simp <;> omega)) | ((with_reducible apply Kept.via); focus with_reducible assumption))))⟩
set_option maxRecDepth 100000 in
set_option maxHeartbeats 1600000 in
theorem parts18_far (CC : BuCheckC) (FC : BuFillC) (TC : BuTakeC) (WC : BuWaitC) (YC : BuBytesC) {a h x y rate most : Int} (ia : In64 a) (ih : In64 h) (m : MayB a h) (l : 274877906944 < a) (w : World) : Calls Try.prog 6 #[.agg #[.int .i64 a, .int .i64 h], .int .u32 x, .int .u32 y, .int .i64 rate, .int .i64 most] w fun e w' => e = .returned (.bool true) ∧ Kept w w' := by
  have CC' := Lib.hid CC
  have FC' := Lib.hid FC
  have TC' := Lib.hid TC
  have WC' := Lib.hid WC
  have YC' := Lib.hid YC
  have AW' := Lib.hid (fun w => awake18 CC FC TC WC YC w)
  clear CC FC TC WC YC
  have Q0 := Lib.hid (fun w_ => CC'.out a h true ia ih (by simp [m]) w_)
  clear ia ih m
  have d0 : decide (274877906944 < a) = true := by simp [l]
  go_enter Try.func6, Try.ntmps6
  go_upto_region 1 with fail
  generalize hW : World.alloc w (.cells #[.int .i64 a, .int .i64 h] 23) = W_b
  have K_b : Kept w W_b := by subst hW; exact (Kept.refl _).alloc _ _
  have H_b := Lib.hid (show W_b.cell? ⟨w.heap.size, 0, none⟩ = some (.int .i64 a) ∧ W_b.cell? ⟨w.heap.size, 1, none⟩ = some (.int .i64 h) from by subst hW; simp [go_sem])
  clear hW
  generalize w.heap.size = g_b at *
  go_wp2_with fail
  refine (AW'.out _).mono ?_
  rintro e w20 ⟨rfl, k20⟩
  obtain ⟨cb0, cb1⟩ := Kept.alln2 (show Kept W_b w20 from (by (repeat (first | with_reducible exact Kept.refl _ | with_reducible apply Kept.drew | with_reducible apply Kept.alloc | ((with_reducible apply Kept.set); focus (simp <;> omega)) | ((with_reducible apply Kept.via); focus with_reducible assumption))))) H_b
  go_wp2_with fail
  refine (Q0.out _).mono ?_
  rintro e w21 ⟨rfl, k21⟩
  clear cb0 cb1
  obtain ⟨cb0, cb1⟩ := Kept.alln2 (show Kept W_b w21 from (by (repeat (first | with_reducible exact Kept.refl _ | with_reducible apply Kept.drew | with_reducible apply Kept.alloc | ((with_reducible apply Kept.set); focus (simp <;> omega)) | ((with_reducible apply Kept.via); focus with_reducible assumption))))) H_b
  go_wp2
  go_ret
  exact ⟨rfl, (by (repeat (first | with_reducible exact Kept.refl _ | with_reducible apply Kept.drew | with_reducible apply Kept.alloc | ((with_reducible apply Kept.set); focus (simp <;> omega)) | ((with_reducible apply Kept.via); focus with_reducible assumption))))⟩
set_option maxRecDepth 100000 in
set_option maxHeartbeats 1600000 in
theorem parts18_in (CC : BuCheckC) (FC : BuFillC) (TC : BuTakeC) (WC : BuWaitC) (YC : BuBytesC) {a h x y rate most p q : Int} (m : MayB a h) (l : a ≤ 274877906944) (x0 : 0 ≤ x) (x1 : x ≤ 4294967295) (y0 : 0 ≤ y) (y1 : y ≤ 4294967295) (ir : In64 rate) (im : In64 most) (p0 : 0 ≤ p) (p1 : p ≤ 1152921504606846976) (o : h ≤ p) (f1 : FillIs a h (a + x) rate most (a + x) p 0) (f2 : FillIs (a + x) p (a + x + y) rate most (a + x + y) q 0) (f3 : FillIs a h (a + x + y) rate most (a + x + y) q 0) (w : World) : Calls Try.prog 6 #[.agg #[.int .i64 a, .int .i64 h], .int .u32 x, .int .u32 y, .int .i64 rate, .int .i64 most] w fun e w' => e = .returned (.bool true) ∧ Kept w w' := by
  have CC' := Lib.hid CC
  have FC' := Lib.hid FC
  have TC' := Lib.hid TC
  have WC' := Lib.hid WC
  have YC' := Lib.hid YC
  have AW' := Lib.hid (fun w => awake18 CC FC TC WC YC w)
  clear CC FC TC WC YC
  have a0 : 0 ≤ a := m.1.1
  have h0 : 0 ≤ h := m.2.1
  have h1 : h ≤ 1152921504606846976 := m.2.2
  have Q0 := Lib.hid (fun w_ => CC'.out a h true (by unfold In64; omega) (by unfold In64; omega) (by simp [m]) w_)
  have Q1 := Lib.hid (fun w_ => FC'.out a h (a + x) rate most (a + x) p 0 (by unfold In64; omega) (by unfold In64; omega) (by unfold In64; omega) ir im f1 w_)
  have Q2 := Lib.hid (fun w_ => FC'.out (a + x) p (a + x + y) rate most (a + x + y) q 0 (by unfold In64; omega) (by unfold In64; omega) (by unfold In64; omega) ir im f2 w_)
  have Q3 := Lib.hid (fun w_ => FC'.out a h (a + x + y) rate most (a + x + y) q 0 (by unfold In64; omega) (by unfold In64; omega) (by unfold In64; omega) ir im f3 w_)
  clear f1 f2 f3 m ir im
  have d0 : decide (274877906944 < a) = false := by simp; omega
  have d1 : decide (h ≤ p) = true := by simp [o]
  go_enter Try.func6, Try.ntmps6
  go_upto_region 1 with fail
  generalize hW : World.alloc w (.cells #[.int .i64 a, .int .i64 h] 23) = W_b
  have K_b : Kept w W_b := by subst hW; exact (Kept.refl _).alloc _ _
  have H_b := Lib.hid (show W_b.cell? ⟨w.heap.size, 0, none⟩ = some (.int .i64 a) ∧ W_b.cell? ⟨w.heap.size, 1, none⟩ = some (.int .i64 h) from by subst hW; simp [go_sem])
  clear hW
  generalize w.heap.size = g_b at *
  go_wp2_with fail
  refine (AW'.out _).mono ?_
  rintro e w20 ⟨rfl, k20⟩
  obtain ⟨cb0, cb1⟩ := Kept.alln2 (show Kept W_b w20 from (by (repeat (first | with_reducible exact Kept.refl _ | with_reducible apply Kept.drew | with_reducible apply Kept.alloc | ((with_reducible apply Kept.set); focus (simp <;> omega)) | ((with_reducible apply Kept.via); focus with_reducible assumption))))) H_b
  go_wp2_with fail
  refine (Q0.out _).mono ?_
  rintro e w21 ⟨rfl, k21⟩
  clear cb0 cb1
  obtain ⟨cb0, cb1⟩ := Kept.alln2 (show Kept W_b w21 from (by (repeat (first | with_reducible exact Kept.refl _ | with_reducible apply Kept.drew | with_reducible apply Kept.alloc | ((with_reducible apply Kept.set); focus (simp <;> omega)) | ((with_reducible apply Kept.via); focus with_reducible assumption))))) H_b
  go_wp2_with fail
  refine (Q1.out _).mono ?_
  rintro e w22 ⟨rfl, k22⟩
  clear cb0 cb1
  go_upto_region 5 with fail
  generalize hW : World.alloc w22 (.cells #[.int .i64 (a + x), .int .i64 p] 23) = W_x
  have K_x : Kept w22 W_x := by subst hW; exact (Kept.refl _).alloc _ _
  have H_x := Lib.hid (show W_x.cell? ⟨w22.heap.size, 0, none⟩ = some (.int .i64 (a + x)) ∧ W_x.cell? ⟨w22.heap.size, 1, none⟩ = some (.int .i64 p) from by subst hW; simp [go_sem])
  clear hW
  generalize w22.heap.size = g_x at *
  obtain ⟨cx0, cx1⟩ := Kept.alln2 (show Kept W_x W_x from (by (repeat (first | with_reducible exact Kept.refl _ | with_reducible apply Kept.drew | with_reducible apply Kept.alloc | ((with_reducible apply Kept.set); focus (simp <;> omega)) | ((with_reducible apply Kept.via); focus with_reducible assumption))))) H_x
  go_wp2_with fail
  refine (Q2.out _).mono ?_
  rintro e w23 ⟨rfl, k23⟩
  clear cx0 cx1
  go_upto_region 6 with fail
  generalize hW : World.alloc w23 (.cells #[.int .i64 (a + x + y), .int .i64 q] 23) = W_y
  have K_y : Kept w23 W_y := by subst hW; exact (Kept.refl _).alloc _ _
  have H_y := Lib.hid (show W_y.cell? ⟨w23.heap.size, 0, none⟩ = some (.int .i64 (a + x + y)) ∧ W_y.cell? ⟨w23.heap.size, 1, none⟩ = some (.int .i64 q) from by subst hW; simp [go_sem])
  clear hW
  generalize w23.heap.size = g_y at *
  obtain ⟨cb0, cb1⟩ := Kept.alln2 (show Kept W_b W_y from (by (repeat (first | with_reducible exact Kept.refl _ | with_reducible apply Kept.drew | with_reducible apply Kept.alloc | ((with_reducible apply Kept.set); focus (simp <;> omega)) | ((with_reducible apply Kept.via); focus with_reducible assumption))))) H_b
  go_wp2_with fail
  refine (Q3.out _).mono ?_
  rintro e w24 ⟨rfl, k24⟩
  clear cb0 cb1
  go_upto_region 7 with fail
  generalize hW : World.alloc w24 (.cells #[.int .i64 (a + x + y), .int .i64 q] 23) = W_z
  have K_z : Kept w24 W_z := by subst hW; exact (Kept.refl _).alloc _ _
  have H_z := Lib.hid (show W_z.cell? ⟨w24.heap.size, 0, none⟩ = some (.int .i64 (a + x + y)) ∧ W_z.cell? ⟨w24.heap.size, 1, none⟩ = some (.int .i64 q) from by subst hW; simp [go_sem])
  clear hW
  generalize w24.heap.size = g_z at *
  obtain ⟨cx0, cx1⟩ := Kept.alln2 (show Kept W_x W_z from (by (repeat (first | with_reducible exact Kept.refl _ | with_reducible apply Kept.drew | with_reducible apply Kept.alloc | ((with_reducible apply Kept.set); focus (simp <;> omega)) | ((with_reducible apply Kept.via); focus with_reducible assumption))))) H_x
  obtain ⟨cy0, cy1⟩ := Kept.alln2 (show Kept W_y W_z from (by (repeat (first | with_reducible exact Kept.refl _ | with_reducible apply Kept.drew | with_reducible apply Kept.alloc | ((with_reducible apply Kept.set); focus (simp <;> omega)) | ((with_reducible apply Kept.via); focus with_reducible assumption))))) H_y
  obtain ⟨cz0, cz1⟩ := Kept.alln2 (show Kept W_z W_z from (by (repeat (first | with_reducible exact Kept.refl _ | with_reducible apply Kept.drew | with_reducible apply Kept.alloc | ((with_reducible apply Kept.set); focus (simp <;> omega)) | ((with_reducible apply Kept.via); focus with_reducible assumption))))) H_z
  obtain ⟨cb0, cb1⟩ := Kept.alln2 (show Kept W_b W_z from (by (repeat (first | with_reducible exact Kept.refl _ | with_reducible apply Kept.drew | with_reducible apply Kept.alloc | ((with_reducible apply Kept.set); focus (simp <;> omega)) | ((with_reducible apply Kept.via); focus with_reducible assumption))))) H_b
  go_wp2
  go_ret
  exact ⟨rfl, (by (repeat (first | with_reducible exact Kept.refl _ | with_reducible apply Kept.drew | with_reducible apply Kept.alloc | ((with_reducible apply Kept.set); focus (simp <;> omega)) | ((with_reducible apply Kept.via); focus with_reducible assumption))))⟩
theorem bucketParts_walk (CC : BuCheckC) (FC : BuFillC) (TC : BuTakeC) (WC : BuWaitC) (YC : BuBytesC) (a h x y rate most : Int) (w : World) (ia : In64 a) (ih : In64 h) (x0 : 0 ≤ x) (x1 : x ≤ 4294967295) (y0 : 0 ≤ y) (y1 : y ≤ 4294967295) (ir : In64 rate) (im : In64 most) : Calls Try.prog 6 #[.agg #[.int .i64 a, .int .i64 h], .int .u32 x, .int .u32 y, .int .i64 rate, .int .i64 most] w fun e w' => e = .returned (.bool true) ∧ Kept w w' := by
  by_cases m : MayB a h
  · by_cases l : 274877906944 < a
    · exact parts18_far CC FC TC WC YC ia ih m l w
    · have m1 := m.1
      unfold IsTime at m1
      have r := fill_range (h := h) (rate := rate) (d := x) (most := most) m.2.1 m.2.2 x0
      have m2 : MayB (a + x) (fillB h rate x most) := ⟨by unfold IsTime; omega, by have := m.2.1; omega, r.2⟩
      refine parts18_in CC FC TC WC YC m (by omega) x0 x1 y0 y1 ir im m2.2.1 r.2 r.1 (q := fillB h rate (x + y) most) (Or.inr (Or.inr (Or.inr ⟨m, by unfold IsTime; omega, by omega, rfl, ?_, rfl⟩))) (Or.inr (Or.inr (Or.inr ⟨m2, by unfold IsTime; omega, by omega, rfl, ?_, rfl⟩))) (Or.inr (Or.inr (Or.inr ⟨m, by unfold IsTime; omega, by omega, rfl, ?_, rfl⟩))) w
      · rw [show a + x - a = x by omega]
      · rw [show a + x + y - (a + x) = y by omega, fill_parts m.2.1 m.2.2 x0 y0]
      · rw [show a + x + y - a = x + y by omega]
  · exact parts18_no CC FC TC WC YC ia ih m w
end Go.Proofs.Ytlgpeafphanobaa
