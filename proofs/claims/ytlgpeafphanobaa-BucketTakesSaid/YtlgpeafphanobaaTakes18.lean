/-
  The walk of BucketTakes: it answers true, if the calls do what they are to do.
-/
import Derived.Test.YtlgpeafphanobaaAwake18
import Derived.Deep.RegionHeld3
import Derived.Deep.DeepCutAuto
namespace Go.Proofs.Ytlgpeafphanobaa
open Go.RowKit Go.BigFrame
set_option linter.unusedVariables false

set_option maxRecDepth 100000 in
set_option maxHeartbeats 1600000 in
theorem takes18_a201 (CC : BuCheckC) (FC : BuFillC) (TC : BuTakeC) (WC : BuWaitC) (YC : BuBytesC) {a h n m fe r : Int} (ia : In64 a) (ih : In64 h) (n0 : 0 ≤ n) (n1 : n ≤ 4294967295) (m0 : 0 ≤ m) (m1 : m ≤ 4294967295) (f1 : TakeIs a h (1 + n) h 201) (ip : In64 h) (f2 : TakeIs a h (1 + m) r fe) (ir : In64 r) (f3 : TakeIs a h (1 + n + (1 + m)) h 201)  (w : World) : Calls Try.prog 7 #[.agg #[.int .i64 a, .int .i64 h], .int .u32 n, .int .u32 m] w fun e w' => e = .returned (.bool true) ∧ Kept w w' := by
  have CC' := Lib.hid CC
  have FC' := Lib.hid FC
  have TC' := Lib.hid TC
  have WC' := Lib.hid WC
  have YC' := Lib.hid YC
  have AW' := Lib.hid (fun w => awake18 CC FC TC WC YC w)
  clear CC FC TC WC YC
  have Q1 := Lib.hid (fun w_ => TC'.out a h (1 + n) h 201 ia ih (by unfold In64; omega) f1 w_)
  have Q2 := Lib.hid (fun w_ => TC'.out a h (1 + m) r fe ia ip (by unfold In64; omega) f2 w_)
  have Q3 := Lib.hid (fun w_ => TC'.out a h (1 + n + (1 + m)) h 201 ia ih (by unfold In64; omega) f3 w_)
  clear ia ih f1 f2 f3 ip ir
  go_enter Try.func7, Try.ntmps7
  go_upto_region 1 with fail
  generalize hW : World.alloc w (.cells #[.int .i64 a, .int .i64 h] 23) = W_b
  have K_b : Kept w W_b := by subst hW; exact (Kept.refl _).alloc _ _
  have H_b := Lib.hid (show W_b.cell? ⟨w.heap.size, 0, none⟩ = some (.int .i64 a) ∧ W_b.cell? ⟨w.heap.size, 1, none⟩ = some (.int .i64 h) from by subst hW; simp [go_sem])
  clear hW
  generalize w.heap.size = g_b at *
  go_wp2_with fail
  refine (AW'.out _).mono ?_
  rintro e w20 ⟨rfl, k20⟩
  obtain ⟨cb0, cb1⟩ := Kept.alln2 (show Kept W_b w20 from (by (repeat (first | with_reducible exact Kept.refl _ | with_reducible apply Kept.drew | with_reducible apply Kept.alloc | ((with_reducible apply Kept.set); focus (simp <;> omega)) | ((with_reducible apply Kept.via); focus with_reducible assumption))))) H_b
  go_wp2_with fail
  refine (Q1.out _).mono ?_
  rintro e w21 ⟨rfl, k21⟩
  clear cb0 cb1
  go_upto_region 5 with fail
  generalize hW : World.alloc w21 (.cells #[.int .i64 a, .int .i64 h] 23) = W_x
  have K_x : Kept w21 W_x := by subst hW; exact (Kept.refl _).alloc _ _
  have H_x := Lib.hid (show W_x.cell? ⟨w21.heap.size, 0, none⟩ = some (.int .i64 a) ∧ W_x.cell? ⟨w21.heap.size, 1, none⟩ = some (.int .i64 h) from by subst hW; simp [go_sem])
  clear hW
  generalize w21.heap.size = g_x at *
  obtain ⟨cx0, cx1⟩ := Kept.alln2 (show Kept W_x W_x from (by (repeat (first | with_reducible exact Kept.refl _ | with_reducible apply Kept.drew | with_reducible apply Kept.alloc | ((with_reducible apply Kept.set); focus (simp <;> omega)) | ((with_reducible apply Kept.via); focus with_reducible assumption))))) H_x
  go_wp2_with fail
  refine (Q2.out _).mono ?_
  rintro e w22 ⟨rfl, k22⟩
  clear cx0 cx1
  go_upto_region 6 with fail
  generalize hW : World.alloc w22 (.cells #[.int .i64 a, .int .i64 r] 23) = W_y
  have K_y : Kept w22 W_y := by subst hW; exact (Kept.refl _).alloc _ _
  have H_y := Lib.hid (show W_y.cell? ⟨w22.heap.size, 0, none⟩ = some (.int .i64 a) ∧ W_y.cell? ⟨w22.heap.size, 1, none⟩ = some (.int .i64 r) from by subst hW; simp [go_sem])
  clear hW
  generalize w22.heap.size = g_y at *
  obtain ⟨cb0, cb1⟩ := Kept.alln2 (show Kept W_b W_y from (by (repeat (first | with_reducible exact Kept.refl _ | with_reducible apply Kept.drew | with_reducible apply Kept.alloc | ((with_reducible apply Kept.set); focus (simp <;> omega)) | ((with_reducible apply Kept.via); focus with_reducible assumption))))) H_b
  go_wp2_with fail
  refine (Q3.out _).mono ?_
  rintro e w23 ⟨rfl, k23⟩
  clear cb0 cb1
  go_upto_region 7 with fail
  generalize hW : World.alloc w23 (.cells #[.int .i64 a, .int .i64 h] 23) = W_z
  have K_z : Kept w23 W_z := by subst hW; exact (Kept.refl _).alloc _ _
  have H_z := Lib.hid (show W_z.cell? ⟨w23.heap.size, 0, none⟩ = some (.int .i64 a) ∧ W_z.cell? ⟨w23.heap.size, 1, none⟩ = some (.int .i64 h) from by subst hW; simp [go_sem])
  clear hW
  generalize w23.heap.size = g_z at *
  obtain ⟨cx0, cx1⟩ := Kept.alln2 (show Kept W_x W_z from (by (repeat (first | with_reducible exact Kept.refl _ | with_reducible apply Kept.drew | with_reducible apply Kept.alloc | ((with_reducible apply Kept.set); focus (simp <;> omega)) | ((with_reducible apply Kept.via); focus with_reducible assumption))))) H_x
  obtain ⟨cy0, cy1⟩ := Kept.alln2 (show Kept W_y W_z from (by (repeat (first | with_reducible exact Kept.refl _ | with_reducible apply Kept.drew | with_reducible apply Kept.alloc | ((with_reducible apply Kept.set); focus (simp <;> omega)) | ((with_reducible apply Kept.via); focus with_reducible assumption))))) H_y
  obtain ⟨cz0, cz1⟩ := Kept.alln2 (show Kept W_z W_z from (by (repeat (first | with_reducible exact Kept.refl _ | with_reducible apply Kept.drew | with_reducible apply Kept.alloc | ((with_reducible apply Kept.set); focus (simp <;> omega)) | ((with_reducible apply Kept.via); focus with_reducible assumption))))) H_z
  obtain ⟨cb0, cb1⟩ := Kept.alln2 (show Kept W_b W_z from (by (repeat (first | with_reducible exact Kept.refl _ | with_reducible apply Kept.drew | with_reducible apply Kept.alloc | ((with_reducible apply Kept.set); focus (simp <;> omega)) | ((with_reducible apply Kept.via); focus with_reducible assumption))))) H_b
  go_wp2
  go_ret
  exact ⟨rfl, (by (repeat (first | with_reducible exact Kept.refl _ | with_reducible apply Kept.drew | with_reducible apply Kept.alloc | ((with_reducible apply Kept.set); focus (simp <;> omega)) | ((with_reducible apply Kept.via); focus with_reducible assumption))))⟩
set_option maxRecDepth 100000 in
set_option maxHeartbeats 1600000 in
theorem takes18_a203 (CC : BuCheckC) (FC : BuFillC) (TC : BuTakeC) (WC : BuWaitC) (YC : BuBytesC) {a h n m fe r : Int} (ia : In64 a) (ih : In64 h) (n0 : 0 ≤ n) (n1 : n ≤ 4294967295) (m0 : 0 ≤ m) (m1 : m ≤ 4294967295) (f1 : TakeIs a h (1 + n) h 203) (ip : In64 h) (f2 : TakeIs a h (1 + m) r fe) (ir : In64 r) (f3 : TakeIs a h (1 + n + (1 + m)) h 203)  (w : World) : Calls Try.prog 7 #[.agg #[.int .i64 a, .int .i64 h], .int .u32 n, .int .u32 m] w fun e w' => e = .returned (.bool true) ∧ Kept w w' := by
  have CC' := Lib.hid CC
  have FC' := Lib.hid FC
  have TC' := Lib.hid TC
  have WC' := Lib.hid WC
  have YC' := Lib.hid YC
  have AW' := Lib.hid (fun w => awake18 CC FC TC WC YC w)
  clear CC FC TC WC YC
  have Q1 := Lib.hid (fun w_ => TC'.out a h (1 + n) h 203 ia ih (by unfold In64; omega) f1 w_)
  have Q2 := Lib.hid (fun w_ => TC'.out a h (1 + m) r fe ia ip (by unfold In64; omega) f2 w_)
  have Q3 := Lib.hid (fun w_ => TC'.out a h (1 + n + (1 + m)) h 203 ia ih (by unfold In64; omega) f3 w_)
  clear ia ih f1 f2 f3 ip ir
  go_enter Try.func7, Try.ntmps7
  go_upto_region 1 with fail
  generalize hW : World.alloc w (.cells #[.int .i64 a, .int .i64 h] 23) = W_b
  have K_b : Kept w W_b := by subst hW; exact (Kept.refl _).alloc _ _
  have H_b := Lib.hid (show W_b.cell? ⟨w.heap.size, 0, none⟩ = some (.int .i64 a) ∧ W_b.cell? ⟨w.heap.size, 1, none⟩ = some (.int .i64 h) from by subst hW; simp [go_sem])
  clear hW
  generalize w.heap.size = g_b at *
  go_wp2_with fail
  refine (AW'.out _).mono ?_
  rintro e w20 ⟨rfl, k20⟩
  obtain ⟨cb0, cb1⟩ := Kept.alln2 (show Kept W_b w20 from (by (repeat (first | with_reducible exact Kept.refl _ | with_reducible apply Kept.drew | with_reducible apply Kept.alloc | ((with_reducible apply Kept.set); focus (simp <;> omega)) | ((with_reducible apply Kept.via); focus with_reducible assumption))))) H_b
  go_wp2_with fail
  refine (Q1.out _).mono ?_
  rintro e w21 ⟨rfl, k21⟩
  clear cb0 cb1
  go_upto_region 5 with fail
  generalize hW : World.alloc w21 (.cells #[.int .i64 a, .int .i64 h] 23) = W_x
  have K_x : Kept w21 W_x := by subst hW; exact (Kept.refl _).alloc _ _
  have H_x := Lib.hid (show W_x.cell? ⟨w21.heap.size, 0, none⟩ = some (.int .i64 a) ∧ W_x.cell? ⟨w21.heap.size, 1, none⟩ = some (.int .i64 h) from by subst hW; simp [go_sem])
  clear hW
  generalize w21.heap.size = g_x at *
  obtain ⟨cx0, cx1⟩ := Kept.alln2 (show Kept W_x W_x from (by (repeat (first | with_reducible exact Kept.refl _ | with_reducible apply Kept.drew | with_reducible apply Kept.alloc | ((with_reducible apply Kept.set); focus (simp <;> omega)) | ((with_reducible apply Kept.via); focus with_reducible assumption))))) H_x
  go_wp2_with fail
  refine (Q2.out _).mono ?_
  rintro e w22 ⟨rfl, k22⟩
  clear cx0 cx1
  go_upto_region 6 with fail
  generalize hW : World.alloc w22 (.cells #[.int .i64 a, .int .i64 r] 23) = W_y
  have K_y : Kept w22 W_y := by subst hW; exact (Kept.refl _).alloc _ _
  have H_y := Lib.hid (show W_y.cell? ⟨w22.heap.size, 0, none⟩ = some (.int .i64 a) ∧ W_y.cell? ⟨w22.heap.size, 1, none⟩ = some (.int .i64 r) from by subst hW; simp [go_sem])
  clear hW
  generalize w22.heap.size = g_y at *
  obtain ⟨cb0, cb1⟩ := Kept.alln2 (show Kept W_b W_y from (by (repeat (first | with_reducible exact Kept.refl _ | with_reducible apply Kept.drew | with_reducible apply Kept.alloc | ((with_reducible apply Kept.set); focus (simp <;> omega)) | ((with_reducible apply Kept.via); focus with_reducible assumption))))) H_b
  go_wp2_with fail
  refine (Q3.out _).mono ?_
  rintro e w23 ⟨rfl, k23⟩
  clear cb0 cb1
  go_upto_region 7 with fail
  generalize hW : World.alloc w23 (.cells #[.int .i64 a, .int .i64 h] 23) = W_z
  have K_z : Kept w23 W_z := by subst hW; exact (Kept.refl _).alloc _ _
  have H_z := Lib.hid (show W_z.cell? ⟨w23.heap.size, 0, none⟩ = some (.int .i64 a) ∧ W_z.cell? ⟨w23.heap.size, 1, none⟩ = some (.int .i64 h) from by subst hW; simp [go_sem])
  clear hW
  generalize w23.heap.size = g_z at *
  obtain ⟨cx0, cx1⟩ := Kept.alln2 (show Kept W_x W_z from (by (repeat (first | with_reducible exact Kept.refl _ | with_reducible apply Kept.drew | with_reducible apply Kept.alloc | ((with_reducible apply Kept.set); focus (simp <;> omega)) | ((with_reducible apply Kept.via); focus with_reducible assumption))))) H_x
  obtain ⟨cy0, cy1⟩ := Kept.alln2 (show Kept W_y W_z from (by (repeat (first | with_reducible exact Kept.refl _ | with_reducible apply Kept.drew | with_reducible apply Kept.alloc | ((with_reducible apply Kept.set); focus (simp <;> omega)) | ((with_reducible apply Kept.via); focus with_reducible assumption))))) H_y
  obtain ⟨cz0, cz1⟩ := Kept.alln2 (show Kept W_z W_z from (by (repeat (first | with_reducible exact Kept.refl _ | with_reducible apply Kept.drew | with_reducible apply Kept.alloc | ((with_reducible apply Kept.set); focus (simp <;> omega)) | ((with_reducible apply Kept.via); focus with_reducible assumption))))) H_z
  obtain ⟨cb0, cb1⟩ := Kept.alln2 (show Kept W_b W_z from (by (repeat (first | with_reducible exact Kept.refl _ | with_reducible apply Kept.drew | with_reducible apply Kept.alloc | ((with_reducible apply Kept.set); focus (simp <;> omega)) | ((with_reducible apply Kept.via); focus with_reducible assumption))))) H_b
  go_wp2
  go_ret
  exact ⟨rfl, (by (repeat (first | with_reducible exact Kept.refl _ | with_reducible apply Kept.drew | with_reducible apply Kept.alloc | ((with_reducible apply Kept.set); focus (simp <;> omega)) | ((with_reducible apply Kept.via); focus with_reducible assumption))))⟩
set_option maxRecDepth 100000 in
set_option maxHeartbeats 1600000 in
theorem takes18_b (CC : BuCheckC) (FC : BuFillC) (TC : BuTakeC) (WC : BuWaitC) (YC : BuBytesC) {a h n m p : Int} (ia : In64 a) (ih : In64 h) (n0 : 0 ≤ n) (n1 : n ≤ 4294967295) (m0 : 0 ≤ m) (m1 : m ≤ 4294967295) (f1 : TakeIs a h (1 + n) p 0) (ip : In64 p) (f2 : TakeIs a p (1 + m) p 203) (ir : In64 p) (f3 : TakeIs a h (1 + n + (1 + m)) h 203)  (w : World) : Calls Try.prog 7 #[.agg #[.int .i64 a, .int .i64 h], .int .u32 n, .int .u32 m] w fun e w' => e = .returned (.bool true) ∧ Kept w w' := by
  have CC' := Lib.hid CC
  have FC' := Lib.hid FC
  have TC' := Lib.hid TC
  have WC' := Lib.hid WC
  have YC' := Lib.hid YC
  have AW' := Lib.hid (fun w => awake18 CC FC TC WC YC w)
  clear CC FC TC WC YC
  have Q1 := Lib.hid (fun w_ => TC'.out a h (1 + n) p 0 ia ih (by unfold In64; omega) f1 w_)
  have Q2 := Lib.hid (fun w_ => TC'.out a p (1 + m) p 203 ia ip (by unfold In64; omega) f2 w_)
  have Q3 := Lib.hid (fun w_ => TC'.out a h (1 + n + (1 + m)) h 203 ia ih (by unfold In64; omega) f3 w_)
  clear ia ih f1 f2 f3 ip ir
  go_enter Try.func7, Try.ntmps7
  go_upto_region 1 with fail
  generalize hW : World.alloc w (.cells #[.int .i64 a, .int .i64 h] 23) = W_b
  have K_b : Kept w W_b := by subst hW; exact (Kept.refl _).alloc _ _
  have H_b := Lib.hid (show W_b.cell? ⟨w.heap.size, 0, none⟩ = some (.int .i64 a) ∧ W_b.cell? ⟨w.heap.size, 1, none⟩ = some (.int .i64 h) from by subst hW; simp [go_sem])
  clear hW
  generalize w.heap.size = g_b at *
  go_wp2_with fail
  refine (AW'.out _).mono ?_
  rintro e w20 ⟨rfl, k20⟩
  obtain ⟨cb0, cb1⟩ := Kept.alln2 (show Kept W_b w20 from (by (repeat (first | with_reducible exact Kept.refl _ | with_reducible apply Kept.drew | with_reducible apply Kept.alloc | ((with_reducible apply Kept.set); focus (simp <;> omega)) | ((with_reducible apply Kept.via); focus with_reducible assumption))))) H_b
  go_wp2_with fail
  refine (Q1.out _).mono ?_
  rintro e w21 ⟨rfl, k21⟩
  clear cb0 cb1
  go_upto_region 5 with fail
  generalize hW : World.alloc w21 (.cells #[.int .i64 a, .int .i64 p] 23) = W_x
  have K_x : Kept w21 W_x := by subst hW; exact (Kept.refl _).alloc _ _
  have H_x := Lib.hid (show W_x.cell? ⟨w21.heap.size, 0, none⟩ = some (.int .i64 a) ∧ W_x.cell? ⟨w21.heap.size, 1, none⟩ = some (.int .i64 p) from by subst hW; simp [go_sem])
  clear hW
  generalize w21.heap.size = g_x at *
  obtain ⟨cx0, cx1⟩ := Kept.alln2 (show Kept W_x W_x from (by (repeat (first | with_reducible exact Kept.refl _ | with_reducible apply Kept.drew | with_reducible apply Kept.alloc | ((with_reducible apply Kept.set); focus (simp <;> omega)) | ((with_reducible apply Kept.via); focus with_reducible assumption))))) H_x
  go_wp2_with fail
  refine (Q2.out _).mono ?_
  rintro e w22 ⟨rfl, k22⟩
  clear cx0 cx1
  go_upto_region 6 with fail
  generalize hW : World.alloc w22 (.cells #[.int .i64 a, .int .i64 p] 23) = W_y
  have K_y : Kept w22 W_y := by subst hW; exact (Kept.refl _).alloc _ _
  have H_y := Lib.hid (show W_y.cell? ⟨w22.heap.size, 0, none⟩ = some (.int .i64 a) ∧ W_y.cell? ⟨w22.heap.size, 1, none⟩ = some (.int .i64 p) from by subst hW; simp [go_sem])
  clear hW
  generalize w22.heap.size = g_y at *
  obtain ⟨cb0, cb1⟩ := Kept.alln2 (show Kept W_b W_y from (by (repeat (first | with_reducible exact Kept.refl _ | with_reducible apply Kept.drew | with_reducible apply Kept.alloc | ((with_reducible apply Kept.set); focus (simp <;> omega)) | ((with_reducible apply Kept.via); focus with_reducible assumption))))) H_b
  go_wp2_with fail
  refine (Q3.out _).mono ?_
  rintro e w23 ⟨rfl, k23⟩
  clear cb0 cb1
  go_upto_region 7 with fail
  generalize hW : World.alloc w23 (.cells #[.int .i64 a, .int .i64 h] 23) = W_z
  have K_z : Kept w23 W_z := by subst hW; exact (Kept.refl _).alloc _ _
  have H_z := Lib.hid (show W_z.cell? ⟨w23.heap.size, 0, none⟩ = some (.int .i64 a) ∧ W_z.cell? ⟨w23.heap.size, 1, none⟩ = some (.int .i64 h) from by subst hW; simp [go_sem])
  clear hW
  generalize w23.heap.size = g_z at *
  obtain ⟨cx0, cx1⟩ := Kept.alln2 (show Kept W_x W_z from (by (repeat (first | with_reducible exact Kept.refl _ | with_reducible apply Kept.drew | with_reducible apply Kept.alloc | ((with_reducible apply Kept.set); focus (simp <;> omega)) | ((with_reducible apply Kept.via); focus with_reducible assumption))))) H_x
  obtain ⟨cy0, cy1⟩ := Kept.alln2 (show Kept W_y W_z from (by (repeat (first | with_reducible exact Kept.refl _ | with_reducible apply Kept.drew | with_reducible apply Kept.alloc | ((with_reducible apply Kept.set); focus (simp <;> omega)) | ((with_reducible apply Kept.via); focus with_reducible assumption))))) H_y
  obtain ⟨cz0, cz1⟩ := Kept.alln2 (show Kept W_z W_z from (by (repeat (first | with_reducible exact Kept.refl _ | with_reducible apply Kept.drew | with_reducible apply Kept.alloc | ((with_reducible apply Kept.set); focus (simp <;> omega)) | ((with_reducible apply Kept.via); focus with_reducible assumption))))) H_z
  obtain ⟨cb0, cb1⟩ := Kept.alln2 (show Kept W_b W_z from (by (repeat (first | with_reducible exact Kept.refl _ | with_reducible apply Kept.drew | with_reducible apply Kept.alloc | ((with_reducible apply Kept.set); focus (simp <;> omega)) | ((with_reducible apply Kept.via); focus with_reducible assumption))))) H_b
  go_wp2
  go_ret
  exact ⟨rfl, (by (repeat (first | with_reducible exact Kept.refl _ | with_reducible apply Kept.drew | with_reducible apply Kept.alloc | ((with_reducible apply Kept.set); focus (simp <;> omega)) | ((with_reducible apply Kept.via); focus with_reducible assumption))))⟩
set_option maxRecDepth 100000 in
set_option maxHeartbeats 1600000 in
theorem takes18_y (CC : BuCheckC) (FC : BuFillC) (TC : BuTakeC) (WC : BuWaitC) (YC : BuBytesC) {a h n m p r y1 y2 : Int} (ia : In64 a) (ih : In64 h) (n0 : 0 ≤ n) (n1 : n ≤ 4294967295) (m0 : 0 ≤ m) (m1 : m ≤ 4294967295) (f1 : TakeIs a h (1 + n) p 0) (ip : In64 p) (f2 : TakeIs a p (1 + m) r 0) (ir : In64 r) (f3 : TakeIs a h (1 + n + (1 + m)) r 0) (y0 : 0 ≤ y1) (y00 : y1 ≤ 1152921504607) (y3 : y2 = y1 - (1 + n) - (1 + m)) (f4 : bytesB a r = y2) (f5 : bytesB a h = y1) (w : World) : Calls Try.prog 7 #[.agg #[.int .i64 a, .int .i64 h], .int .u32 n, .int .u32 m] w fun e w' => e = .returned (.bool true) ∧ Kept w w' := by
  have CC' := Lib.hid CC
  have FC' := Lib.hid FC
  have TC' := Lib.hid TC
  have WC' := Lib.hid WC
  have YC' := Lib.hid YC
  have AW' := Lib.hid (fun w => awake18 CC FC TC WC YC w)
  clear CC FC TC WC YC
  have Q1 := Lib.hid (fun w_ => TC'.out a h (1 + n) p 0 ia ih (by unfold In64; omega) f1 w_)
  have Q2 := Lib.hid (fun w_ => TC'.out a p (1 + m) r 0 ia ip (by unfold In64; omega) f2 w_)
  have Q3 := Lib.hid (fun w_ => TC'.out a h (1 + n + (1 + m)) r 0 ia ih (by unfold In64; omega) f3 w_)
  have Q4 := Lib.hid (fun w_ => YC'.out a r y2 ia ir f4 w_)
  have Q5 := Lib.hid (fun w_ => YC'.out a h y1 ia ih f5 w_)
  have ew : IntKind.i64.wrap (y1 - (1 + n)) = y1 - (1 + n) := by rw [IntKind.wrap_i64]; omega
  have ew2 : IntKind.i64.wrap (y1 - (1 + n) - (1 + m)) = y2 := by rw [IntKind.wrap_i64]; omega
  clear ia ih f1 f2 f3 ip ir f4 f5
  go_enter Try.func7, Try.ntmps7
  go_upto_region 1 with fail
  generalize hW : World.alloc w (.cells #[.int .i64 a, .int .i64 h] 23) = W_b
  have K_b : Kept w W_b := by subst hW; exact (Kept.refl _).alloc _ _
  have H_b := Lib.hid (show W_b.cell? ⟨w.heap.size, 0, none⟩ = some (.int .i64 a) ∧ W_b.cell? ⟨w.heap.size, 1, none⟩ = some (.int .i64 h) from by subst hW; simp [go_sem])
  clear hW
  generalize w.heap.size = g_b at *
  go_wp2_with fail
  refine (AW'.out _).mono ?_
  rintro e w20 ⟨rfl, k20⟩
  obtain ⟨cb0, cb1⟩ := Kept.alln2 (show Kept W_b w20 from (by (repeat (first | with_reducible exact Kept.refl _ | with_reducible apply Kept.drew | with_reducible apply Kept.alloc | ((with_reducible apply Kept.set); focus (simp <;> omega)) | ((with_reducible apply Kept.via); focus with_reducible assumption))))) H_b
  go_wp2_with fail
  refine (Q1.out _).mono ?_
  rintro e w21 ⟨rfl, k21⟩
  clear cb0 cb1
  go_upto_region 5 with fail
  generalize hW : World.alloc w21 (.cells #[.int .i64 a, .int .i64 p] 23) = W_x
  have K_x : Kept w21 W_x := by subst hW; exact (Kept.refl _).alloc _ _
  have H_x := Lib.hid (show W_x.cell? ⟨w21.heap.size, 0, none⟩ = some (.int .i64 a) ∧ W_x.cell? ⟨w21.heap.size, 1, none⟩ = some (.int .i64 p) from by subst hW; simp [go_sem])
  clear hW
  generalize w21.heap.size = g_x at *
  obtain ⟨cx0, cx1⟩ := Kept.alln2 (show Kept W_x W_x from (by (repeat (first | with_reducible exact Kept.refl _ | with_reducible apply Kept.drew | with_reducible apply Kept.alloc | ((with_reducible apply Kept.set); focus (simp <;> omega)) | ((with_reducible apply Kept.via); focus with_reducible assumption))))) H_x
  go_wp2_with fail
  refine (Q2.out _).mono ?_
  rintro e w22 ⟨rfl, k22⟩
  clear cx0 cx1
  go_upto_region 6 with fail
  generalize hW : World.alloc w22 (.cells #[.int .i64 a, .int .i64 r] 23) = W_y
  have K_y : Kept w22 W_y := by subst hW; exact (Kept.refl _).alloc _ _
  have H_y := Lib.hid (show W_y.cell? ⟨w22.heap.size, 0, none⟩ = some (.int .i64 a) ∧ W_y.cell? ⟨w22.heap.size, 1, none⟩ = some (.int .i64 r) from by subst hW; simp [go_sem])
  clear hW
  generalize w22.heap.size = g_y at *
  obtain ⟨cb0, cb1⟩ := Kept.alln2 (show Kept W_b W_y from (by (repeat (first | with_reducible exact Kept.refl _ | with_reducible apply Kept.drew | with_reducible apply Kept.alloc | ((with_reducible apply Kept.set); focus (simp <;> omega)) | ((with_reducible apply Kept.via); focus with_reducible assumption))))) H_b
  go_wp2_with fail
  refine (Q3.out _).mono ?_
  rintro e w23 ⟨rfl, k23⟩
  clear cb0 cb1
  go_upto_region 7 with fail
  generalize hW : World.alloc w23 (.cells #[.int .i64 a, .int .i64 r] 23) = W_z
  have K_z : Kept w23 W_z := by subst hW; exact (Kept.refl _).alloc _ _
  have H_z := Lib.hid (show W_z.cell? ⟨w23.heap.size, 0, none⟩ = some (.int .i64 a) ∧ W_z.cell? ⟨w23.heap.size, 1, none⟩ = some (.int .i64 r) from by subst hW; simp [go_sem])
  clear hW
  generalize w23.heap.size = g_z at *
  go_upto_region 9 with fail
  have B_x := Lib.hid (Kept.alln2 (show Kept W_x W_z from (by (repeat (first | with_reducible exact Kept.refl _ | with_reducible apply Kept.drew | with_reducible apply Kept.alloc | ((with_reducible apply Kept.set); focus (simp <;> omega)) | ((with_reducible apply Kept.via); focus with_reducible assumption))))) H_x)
  have B_y := Lib.hid (Kept.alln2 (show Kept W_y W_z from (by (repeat (first | with_reducible exact Kept.refl _ | with_reducible apply Kept.drew | with_reducible apply Kept.alloc | ((with_reducible apply Kept.set); focus (simp <;> omega)) | ((with_reducible apply Kept.via); focus with_reducible assumption))))) H_y)
  have B_z := Lib.hid (Kept.alln2 (show Kept W_z W_z from (by (repeat (first | with_reducible exact Kept.refl _ | with_reducible apply Kept.drew | with_reducible apply Kept.alloc | ((with_reducible apply Kept.set); focus (simp <;> omega)) | ((with_reducible apply Kept.via); focus with_reducible assumption))))) H_z)
  have B_b := Lib.hid (Kept.alln2 (show Kept W_b W_z from (by (repeat (first | with_reducible exact Kept.refl _ | with_reducible apply Kept.drew | with_reducible apply Kept.alloc | ((with_reducible apply Kept.set); focus (simp <;> omega)) | ((with_reducible apply Kept.via); focus with_reducible assumption))))) H_b)
  have kall : Kept w W_z := (by (repeat (first | with_reducible exact Kept.refl _ | with_reducible apply Kept.drew | with_reducible apply Kept.alloc | ((with_reducible apply Kept.set); focus (simp <;> omega)) | ((with_reducible apply Kept.via); focus with_reducible assumption))))
  obtain ⟨q_x0, q_x1⟩ := kwn2 B_x
  obtain ⟨q_y0, q_y1⟩ := kwn2 B_y
  obtain ⟨q_z0, q_z1⟩ := kwn2 B_z
  obtain ⟨q_b0, q_b1⟩ := kwn2 B_b
  clear B_x B_y B_z B_b
  refine wp_region_kept (by kernel_rfl) (by as_aux_lemma => kernel_rfl) ?_
  repeat (go_big_quiet_step (first | (with_reducible exact kept_of (Q4.out _)) | (with_reducible exact kept_of (Q5.out _))))
  refine wpQuiet_nil ?_
  intro wq hw'
  have kq : Kept W_z wq := by obtain ⟨p, rfl⟩ := hw'; exact p.k
  clear hw'
  clear kall
  go_wp2
  go_ret
  exact ⟨rfl, Kept.trans (Kept.trans (Kept.trans (Kept.trans (Kept.trans (Kept.trans (Kept.trans (Kept.trans (K_b) k20) k21) K_x) k22) K_y) k23) K_z) kq⟩
theorem bucketTakes_walk (CC : BuCheckC) (FC : BuFillC) (TC : BuTakeC) (WC : BuWaitC) (YC : BuBytesC) (a h n m : Int) (w : World) (ia : In64 a) (ih : In64 h) (n0 : 0 ≤ n) (n1 : n ≤ 4294967295) (m0 : 0 ≤ m) (m1 : m ≤ 4294967295) : Calls Try.prog 7 #[.agg #[.int .i64 a, .int .i64 h], .int .u32 n, .int .u32 m] w fun e w' => e = .returned (.bool true) ∧ Kept w w' := by
  by_cases my : MayB a h
  · have hb : bytesB a h = h / 1000000 := by unfold bytesB; rw [if_pos my]
    have h0 := my.2.1
    have h1 := my.2.2
    by_cases l1 : h / 1000000 < 1 + n
    · obtain ⟨r, fe, f2⟩ := take_ex a h (1 + m)
      exact takes18_a203 CC FC TC WC YC ia ih n0 n1 m0 m1 (Or.inr (Or.inl ⟨my, by omega, l1, rfl, rfl⟩)) ih f2 (take_in64 ih f2) (Or.inr (Or.inl ⟨my, by omega, by omega, rfl, rfl⟩)) w
    · have m2 : MayB a (h - 1000000 * (1 + n)) := ⟨my.1, by omega, by omega⟩
      have i2 : In64 (h - 1000000 * (1 + n)) := by unfold In64; omega
      have f1 : TakeIs a h (1 + n) (h - 1000000 * (1 + n)) 0 := Or.inr (Or.inr ⟨my, by omega, by omega, rfl, rfl⟩)
      by_cases l2 : (h - 1000000 * (1 + n)) / 1000000 < 1 + m
      · exact takes18_b CC FC TC WC YC ia ih n0 n1 m0 m1 f1 i2 (Or.inr (Or.inl ⟨m2, by omega, l2, rfl, rfl⟩)) i2 (Or.inr (Or.inl ⟨my, by omega, by omega, rfl, rfl⟩)) w
      · have m3 : MayB a (h - 1000000 * (1 + n) - 1000000 * (1 + m)) := ⟨my.1, by omega, by omega⟩
        exact takes18_y CC FC TC WC YC ia ih n0 n1 m0 m1 f1 i2 (Or.inr (Or.inr ⟨m2, by omega, by omega, rfl, rfl⟩)) (by unfold In64; omega) (Or.inr (Or.inr ⟨my, by omega, by omega, by omega, rfl⟩)) (y1 := h / 1000000) (by omega) (by omega) rfl (by unfold bytesB; rw [if_pos m3]; omega) hb w
  · have k : ∀ n', TakeIs a h n' h 201 := fun n' => Or.inl ⟨fun z => my z.1, rfl, rfl⟩
    exact takes18_a201 CC FC TC WC YC ia ih n0 n1 m0 m1 (k _) ih (k _) ih (k _) w
end Go.Proofs.Ytlgpeafphanobaa
