/-
  The walk of BucketWaits: it answers true, if the calls do what they are to do.
-/
import Derived.Test.YtlgpeafphanobaaAwake18
import Derived.Deep.RegionHeld3
import Derived.Deep.DeepCutAuto
namespace Go.Proofs.Ytlgpeafphanobaa
open Go.RowKit Go.BigFrame
set_option linter.unusedVariables false

set_option maxRecDepth 100000 in
set_option maxHeartbeats 1600000 in
theorem waits18_no (CC : BuCheckC) (FC : BuFillC) (TC : BuTakeC) (WC : BuWaitC) (YC : BuBytesC) {a h n rate : Int} (ia : In64 a) (ih : In64 h) (n0 : 0 ≤ n) (n1 : n ≤ 65535) (r0 : 0 ≤ rate) (r1 : rate ≤ 4294967295) (f0 : waitB a h n (1 + rate) = 0) (m : ¬ MayB a h) (w : World) : Calls Try.prog 5 #[.agg #[.int .i64 a, .int .i64 h], .int .u16 n, .int .u32 rate] w fun e w' => e = .returned (.bool true) ∧ Kept w w' := by
  have CC' := Lib.hid CC
  have FC' := Lib.hid FC
  have TC' := Lib.hid TC
  have WC' := Lib.hid WC
  have YC' := Lib.hid YC
  have AW' := Lib.hid (fun w => awake18 CC FC TC WC YC w)
  clear CC FC TC WC YC
  have Q9 := Lib.hid (fun w_ => WC'.out a h n (1 + rate) 0 ia ih (by unfold In64; omega) (by unfold In64; omega) f0 w_)
  have Q0 := Lib.hid (fun w_ => CC'.out a h false ia ih (by simp [m]) w_)
  clear ia ih m f0
  go_enter Try.func5, Try.ntmps5
  go_upto_region 1 with fail
  generalize hW : World.alloc w (.cells #[.int .i64 a, .int .i64 h] 23) = W_b
  have K_b : Kept w W_b := by subst hW; exact (Kept.refl _).alloc _ _
  have H_b := Lib.hid (show W_b.cell? ⟨w.heap.size, 0, none⟩ = some (.int .i64 a) ∧ W_b.cell? ⟨w.heap.size, 1, none⟩ = some (.int .i64 h) from by subst hW; simp [go_sem])
  clear hW
  generalize w.heap.size = g_b at *
  go_wp2_with fail
  refine (AW'.out _).mono ?_
  rintro e w20 ⟨rfl, k20⟩
  obtain ⟨cb0, cb1⟩ := Kept.alln2 (show Kept W_b w20 from (by (repeat (first | with_reducible exact Kept.refl _ | with_reducible apply Kept.drew | with_reducible apply Kept.alloc | ((with_reducible apply Kept.set); focus (simp <;> omega)) | ((with_reducible apply Kept.via); focus with_reducible assumption))))) H_b
  go_wp2_with fail
  refine (Q9.out _).mono ?_
  rintro e w21 ⟨rfl, k21⟩
  clear cb0 cb1
  obtain ⟨cb0, cb1⟩ := Kept.alln2 (show Kept W_b w21 from (by (repeat (first | with_reducible exact Kept.refl _ | with_reducible apply Kept.drew | with_reducible apply Kept.alloc | ((with_reducible apply Kept.set); focus (simp <;> omega)) | ((with_reducible apply Kept.via); focus with_reducible assumption))))) H_b
  go_wp2_with fail
  refine (Q0.out _).mono ?_
  rintro e w22 ⟨rfl, k22⟩
  clear cb0 cb1
  obtain ⟨cb0, cb1⟩ := Kept.alln2 (show Kept W_b w22 from (by (repeat (first | with_reducible exact Kept.refl _ | with_reducible apply Kept.drew | with_reducible apply Kept.alloc | ((with_reducible apply Kept.set); focus (simp <;> omega)) | ((with_reducible apply Kept.via); focus with_reducible assumption))))) H_b
  go_wp2_with fail
  refine (Q0.out _).mono ?_
  rintro e w23 ⟨rfl, k23⟩
  clear cb0 cb1
  go_wp2
  go_ret
  exact ⟨rfl, (by (repeat (first | with_reducible exact Kept.refl _ | with_reducible apply Kept.drew | with_reducible apply Kept.alloc | ((with_reducible apply Kept.set); focus (simp <;> omega)) | ((with_reducible apply Kept.via); focus with_reducible assumption))))⟩
set_option maxRecDepth 100000 in
set_option maxHeartbeats 1600000 in
theorem waits18_far (CC : BuCheckC) (FC : BuFillC) (TC : BuTakeC) (WC : BuWaitC) (YC : BuBytesC) {a h n rate u : Int} (ia : In64 a) (ih : In64 h) (n0 : 0 ≤ n) (n1 : n ≤ 65535) (r0 : 0 ≤ rate) (r1 : rate ≤ 4294967295) (f0 : waitB a h n (1 + rate) = u) (m : MayB a h) (l : 549755813888 < a) (w : World) : Calls Try.prog 5 #[.agg #[.int .i64 a, .int .i64 h], .int .u16 n, .int .u32 rate] w fun e w' => e = .returned (.bool true) ∧ Kept w w' := by
  have CC' := Lib.hid CC
  have FC' := Lib.hid FC
  have TC' := Lib.hid TC
  have WC' := Lib.hid WC
  have YC' := Lib.hid YC
  have AW' := Lib.hid (fun w => awake18 CC FC TC WC YC w)
  clear CC FC TC WC YC
  have Q9 := Lib.hid (fun w_ => WC'.out a h n (1 + rate) u ia ih (by unfold In64; omega) (by unfold In64; omega) f0 w_)
  have Q0 := Lib.hid (fun w_ => CC'.out a h true ia ih (by simp [m]) w_)
  clear ia ih m f0
  have d0 : decide (549755813888 < a) = true := by simp [l]
  go_enter Try.func5, Try.ntmps5
  go_upto_region 1 with fail
  generalize hW : World.alloc w (.cells #[.int .i64 a, .int .i64 h] 23) = W_b
  have K_b : Kept w W_b := by subst hW; exact (Kept.refl _).alloc _ _
  have H_b := Lib.hid (show W_b.cell? ⟨w.heap.size, 0, none⟩ = some (.int .i64 a) ∧ W_b.cell? ⟨w.heap.size, 1, none⟩ = some (.int .i64 h) from by subst hW; simp [go_sem])
  clear hW
  generalize w.heap.size = g_b at *
  go_wp2_with fail
  refine (AW'.out _).mono ?_
  rintro e w20 ⟨rfl, k20⟩
  obtain ⟨cb0, cb1⟩ := Kept.alln2 (show Kept W_b w20 from (by (repeat (first | with_reducible exact Kept.refl _ | with_reducible apply Kept.drew | with_reducible apply Kept.alloc | ((with_reducible apply Kept.set); focus (simp <;> omega)) | ((with_reducible apply Kept.via); focus with_reducible assumption))))) H_b
  go_wp2_with fail
  refine (Q9.out _).mono ?_
  rintro e w21 ⟨rfl, k21⟩
  clear cb0 cb1
  obtain ⟨cb0, cb1⟩ := Kept.alln2 (show Kept W_b w21 from (by (repeat (first | with_reducible exact Kept.refl _ | with_reducible apply Kept.drew | with_reducible apply Kept.alloc | ((with_reducible apply Kept.set); focus (simp <;> omega)) | ((with_reducible apply Kept.via); focus with_reducible assumption))))) H_b
  go_wp2_with fail
  refine (Q0.out _).mono ?_
  rintro e w22 ⟨rfl, k22⟩
  clear cb0 cb1
  obtain ⟨cb0, cb1⟩ := Kept.alln2 (show Kept W_b w22 from (by (repeat (first | with_reducible exact Kept.refl _ | with_reducible apply Kept.drew | with_reducible apply Kept.alloc | ((with_reducible apply Kept.set); focus (simp <;> omega)) | ((with_reducible apply Kept.via); focus with_reducible assumption))))) H_b
  go_upto_region 6 with fail
  clear cb0 cb1
  obtain ⟨cb0, cb1⟩ := Kept.alln2 (show Kept W_b w22 from (by (repeat (first | with_reducible exact Kept.refl _ | with_reducible apply Kept.drew | with_reducible apply Kept.alloc | ((with_reducible apply Kept.set); focus (simp <;> omega)) | ((with_reducible apply Kept.via); focus with_reducible assumption))))) H_b
  go_wp2_with fail
  refine (Q0.out _).mono ?_
  rintro e w23 ⟨rfl, k23⟩
  clear cb0 cb1
  go_wp2
  go_ret
  exact ⟨rfl, (by (repeat (first | with_reducible exact Kept.refl _ | with_reducible apply Kept.drew | with_reducible apply Kept.alloc | ((with_reducible apply Kept.set); focus (simp <;> omega)) | ((with_reducible apply Kept.via); focus with_reducible assumption))))⟩
set_option maxRecDepth 100000 in
set_option maxHeartbeats 1600000 in
theorem waits18_long (CC : BuCheckC) (FC : BuFillC) (TC : BuTakeC) (WC : BuWaitC) (YC : BuBytesC) {a h n rate u : Int} (ia : In64 a) (ih : In64 h) (n0 : 0 ≤ n) (n1 : n ≤ 65535) (r0 : 0 ≤ rate) (r1 : rate ≤ 4294967295) (f0 : waitB a h n (1 + rate) = u) (m : MayB a h) (l : a ≤ 549755813888) (l2 : 274877906944 < u) (w : World) : Calls Try.prog 5 #[.agg #[.int .i64 a, .int .i64 h], .int .u16 n, .int .u32 rate] w fun e w' => e = .returned (.bool true) ∧ Kept w w' := by
  have CC' := Lib.hid CC
  have FC' := Lib.hid FC
  have TC' := Lib.hid TC
  have WC' := Lib.hid WC
  have YC' := Lib.hid YC
  have AW' := Lib.hid (fun w => awake18 CC FC TC WC YC w)
  clear CC FC TC WC YC
  have Q9 := Lib.hid (fun w_ => WC'.out a h n (1 + rate) u ia ih (by unfold In64; omega) (by unfold In64; omega) f0 w_)
  have Q0 := Lib.hid (fun w_ => CC'.out a h true ia ih (by simp [m]) w_)
  clear ia ih m f0
  have d0 : decide (549755813888 < a) = false := by simp; omega
  have d1 : decide (274877906944 < u) = true := by simp [l2]
  go_enter Try.func5, Try.ntmps5
  go_upto_region 1 with fail
  generalize hW : World.alloc w (.cells #[.int .i64 a, .int .i64 h] 23) = W_b
  have K_b : Kept w W_b := by subst hW; exact (Kept.refl _).alloc _ _
  have H_b := Lib.hid (show W_b.cell? ⟨w.heap.size, 0, none⟩ = some (.int .i64 a) ∧ W_b.cell? ⟨w.heap.size, 1, none⟩ = some (.int .i64 h) from by subst hW; simp [go_sem])
  clear hW
  generalize w.heap.size = g_b at *
  go_wp2_with fail
  refine (AW'.out _).mono ?_
  rintro e w20 ⟨rfl, k20⟩
  obtain ⟨cb0, cb1⟩ := Kept.alln2 (show Kept W_b w20 from (by (repeat (first | with_reducible exact Kept.refl _ | with_reducible apply Kept.drew | with_reducible apply Kept.alloc | ((with_reducible apply Kept.set); focus (simp <;> omega)) | ((with_reducible apply Kept.via); focus with_reducible assumption))))) H_b
  go_wp2_with fail
  refine (Q9.out _).mono ?_
  rintro e w21 ⟨rfl, k21⟩
  clear cb0 cb1
  obtain ⟨cb0, cb1⟩ := Kept.alln2 (show Kept W_b w21 from (by (repeat (first | with_reducible exact Kept.refl _ | with_reducible apply Kept.drew | with_reducible apply Kept.alloc | ((with_reducible apply Kept.set); focus (simp <;> omega)) | ((with_reducible apply Kept.via); focus with_reducible assumption))))) H_b
  go_wp2_with fail
  refine (Q0.out _).mono ?_
  rintro e w22 ⟨rfl, k22⟩
  clear cb0 cb1
  obtain ⟨cb0, cb1⟩ := Kept.alln2 (show Kept W_b w22 from (by (repeat (first | with_reducible exact Kept.refl _ | with_reducible apply Kept.drew | with_reducible apply Kept.alloc | ((with_reducible apply Kept.set); focus (simp <;> omega)) | ((with_reducible apply Kept.via); focus with_reducible assumption))))) H_b
  go_upto_region 6 with fail
  clear cb0 cb1
  obtain ⟨cb0, cb1⟩ := Kept.alln2 (show Kept W_b w22 from (by (repeat (first | with_reducible exact Kept.refl _ | with_reducible apply Kept.drew | with_reducible apply Kept.alloc | ((with_reducible apply Kept.set); focus (simp <;> omega)) | ((with_reducible apply Kept.via); focus with_reducible assumption))))) H_b
  go_wp2_with fail
  refine (Q0.out _).mono ?_
  rintro e w23 ⟨rfl, k23⟩
  clear cb0 cb1
  go_wp2
  go_ret
  exact ⟨rfl, (by (repeat (first | with_reducible exact Kept.refl _ | with_reducible apply Kept.drew | with_reducible apply Kept.alloc | ((with_reducible apply Kept.set); focus (simp <;> omega)) | ((with_reducible apply Kept.via); focus with_reducible assumption))))⟩
set_option maxRecDepth 100000 in
set_option maxHeartbeats 1600000 in
theorem waits18_now (CC : BuCheckC) (FC : BuFillC) (TC : BuTakeC) (WC : BuWaitC) (YC : BuBytesC) {a h n rate p q y1 y2 u : Int} (m : MayB a h) (l : a ≤ 549755813888) (n0 : 0 ≤ n) (n1 : n ≤ 65535) (r0 : 0 ≤ rate) (r1 : rate ≤ 4294967295) (p0 : In64 p) (q0 : In64 q) (u0 : u = 0) (f0 : waitB a h n (1 + rate) = u) (f1 : FillIs a h (a + u) (1 + rate) n (a + u) p 0) (f2 : FillIs a h a (1 + rate) n a q 0) (f3 : bytesB (a + u) p = y1) (o : n ≤ y1) (w : World) : Calls Try.prog 5 #[.agg #[.int .i64 a, .int .i64 h], .int .u16 n, .int .u32 rate] w fun e w' => e = .returned (.bool true) ∧ Kept w w' := by
  have CC' := Lib.hid CC
  have FC' := Lib.hid FC
  have TC' := Lib.hid TC
  have WC' := Lib.hid WC
  have YC' := Lib.hid YC
  have AW' := Lib.hid (fun w => awake18 CC FC TC WC YC w)
  clear CC FC TC WC YC
  have a0 : 0 ≤ a := m.1.1
  have h0 : 0 ≤ h := m.2.1
  have h1 : h ≤ 1152921504606846976 := m.2.2
  have Q0 := Lib.hid (fun w_ => CC'.out a h true (by unfold In64; omega) (by unfold In64; omega) (by simp [m]) w_)
  have Q9 := Lib.hid (fun w_ => WC'.out a h n (1 + rate) u (by unfold In64; omega) (by unfold In64; omega) (by unfold In64; omega) (by unfold In64; omega) f0 w_)
  have Q1 := Lib.hid (fun w_ => FC'.out a h (a + u) (1 + rate) n (a + u) p 0 (by unfold In64; omega) (by unfold In64; omega) (by unfold In64; omega) (by unfold In64; omega) (by unfold In64; omega) f1 w_)
  have Q2 := Lib.hid (fun w_ => FC'.out a h a (1 + rate) n a q 0 (by unfold In64; omega) (by unfold In64; omega) (by unfold In64; omega) (by unfold In64; omega) (by unfold In64; omega) f2 w_)
  have Y1 := Lib.hid (fun w_ => YC'.out (a + u) p y1 (by unfold In64; omega) p0 f3 w_)
  clear f0 f1 f2 f3 m p0 q0
  have d0 : decide (549755813888 < a) = false := by simp; omega
  have d3 : decide (274877906944 < u) = false := by simp; omega
  have d1 : decide (n ≤ y1) = true := by simp [o]
  have z0 : (u == 0) = true := by simp [u0]
  have mx : max u 1 = 1 := by omega
  have uu := Lib.hid u0
  have v0 : 0 ≤ u := by omega
  have v1 : u ≤ 1 := by omega
  clear u0
  go_enter Try.func5, Try.ntmps5
  go_upto_region 1 with fail
  generalize hW : World.alloc w (.cells #[.int .i64 a, .int .i64 h] 23) = W_b
  have K_b : Kept w W_b := by subst hW; exact (Kept.refl _).alloc _ _
  have H_b := Lib.hid (show W_b.cell? ⟨w.heap.size, 0, none⟩ = some (.int .i64 a) ∧ W_b.cell? ⟨w.heap.size, 1, none⟩ = some (.int .i64 h) from by subst hW; simp [go_sem])
  clear hW
  generalize w.heap.size = g_b at *
  go_wp2_with fail
  refine (AW'.out _).mono ?_
  rintro e w20 ⟨rfl, k20⟩
  obtain ⟨cb0, cb1⟩ := Kept.alln2 (show Kept W_b w20 from (by (repeat (first | with_reducible exact Kept.refl _ | with_reducible apply Kept.drew | with_reducible apply Kept.alloc | ((with_reducible apply Kept.set); focus (simp <;> omega)) | ((with_reducible apply Kept.via); focus with_reducible assumption))))) H_b
  go_wp2_with fail
  refine (Q9.out _).mono ?_
  rintro e w21 ⟨rfl, k21⟩
  clear cb0 cb1
  obtain ⟨cb0, cb1⟩ := Kept.alln2 (show Kept W_b w21 from (by (repeat (first | with_reducible exact Kept.refl _ | with_reducible apply Kept.drew | with_reducible apply Kept.alloc | ((with_reducible apply Kept.set); focus (simp <;> omega)) | ((with_reducible apply Kept.via); focus with_reducible assumption))))) H_b
  go_wp2_with fail
  refine (Q0.out _).mono ?_
  rintro e w22 ⟨rfl, k22⟩
  clear cb0 cb1
  obtain ⟨cb0, cb1⟩ := Kept.alln2 (show Kept W_b w22 from (by (repeat (first | with_reducible exact Kept.refl _ | with_reducible apply Kept.drew | with_reducible apply Kept.alloc | ((with_reducible apply Kept.set); focus (simp <;> omega)) | ((with_reducible apply Kept.via); focus with_reducible assumption))))) H_b
  go_upto_region 7 with fail
  clear cb0 cb1
  obtain ⟨cb0, cb1⟩ := Kept.alln2 (show Kept W_b w22 from (by (repeat (first | with_reducible exact Kept.refl _ | with_reducible apply Kept.drew | with_reducible apply Kept.alloc | ((with_reducible apply Kept.set); focus (simp <;> omega)) | ((with_reducible apply Kept.via); focus with_reducible assumption))))) H_b
  go_wp2_with fail
  refine (Q1.out _).mono ?_
  rintro e w23 ⟨rfl, k23⟩
  clear cb0 cb1
  go_upto_region 8 with fail
  generalize hW : World.alloc w23 (.cells #[.int .i64 (a + u), .int .i64 p] 23) = W_x
  have K_x : Kept w23 W_x := by subst hW; exact (Kept.refl _).alloc _ _
  have H_x := Lib.hid (show W_x.cell? ⟨w23.heap.size, 0, none⟩ = some (.int .i64 (a + u)) ∧ W_x.cell? ⟨w23.heap.size, 1, none⟩ = some (.int .i64 p) from by subst hW; simp [go_sem])
  clear hW
  generalize w23.heap.size = g_x at *
  obtain ⟨cb0, cb1⟩ := Kept.alln2 (show Kept W_b W_x from (by (repeat (first | with_reducible exact Kept.refl _ | with_reducible apply Kept.drew | with_reducible apply Kept.alloc | ((with_reducible apply Kept.set); focus (simp <;> omega)) | ((with_reducible apply Kept.via); focus with_reducible assumption))))) H_b
  go_wp2_with fail
  refine (Q2.out _).mono ?_
  rintro e w24 ⟨rfl, k24⟩
  clear cb0 cb1
  go_upto_region 9 with fail
  generalize hW : World.alloc w24 (.cells #[.int .i64 a, .int .i64 q] 23) = W_y
  have K_y : Kept w24 W_y := by subst hW; exact (Kept.refl _).alloc _ _
  have H_y := Lib.hid (show W_y.cell? ⟨w24.heap.size, 0, none⟩ = some (.int .i64 a) ∧ W_y.cell? ⟨w24.heap.size, 1, none⟩ = some (.int .i64 q) from by subst hW; simp [go_sem])
  clear hW
  generalize w24.heap.size = g_y at *
  obtain ⟨cx0, cx1⟩ := Kept.alln2 (show Kept W_x W_y from (by (repeat (first | with_reducible exact Kept.refl _ | with_reducible apply Kept.drew | with_reducible apply Kept.alloc | ((with_reducible apply Kept.set); focus (simp <;> omega)) | ((with_reducible apply Kept.via); focus with_reducible assumption))))) H_x
  go_wp2_with fail
  refine (Y1.out _).mono ?_
  rintro e w25 ⟨rfl, k25⟩
  clear cx0 cx1
  go_wp2
  go_ret
  exact ⟨rfl, (by (repeat (first | with_reducible exact Kept.refl _ | with_reducible apply Kept.drew | with_reducible apply Kept.alloc | ((with_reducible apply Kept.set); focus (simp <;> omega)) | ((with_reducible apply Kept.via); focus with_reducible assumption))))⟩
set_option maxRecDepth 100000 in
set_option maxHeartbeats 1600000 in
theorem waits18_then (CC : BuCheckC) (FC : BuFillC) (TC : BuTakeC) (WC : BuWaitC) (YC : BuBytesC) {a h n rate p q y1 y2 u : Int} (m : MayB a h) (l : a ≤ 549755813888) (n0 : 0 ≤ n) (n1 : n ≤ 65535) (r0 : 0 ≤ rate) (r1 : rate ≤ 4294967295) (p0 : In64 p) (q0 : In64 q) (u0 : 1 ≤ u) (u1 : u ≤ 274877906944) (f0 : waitB a h n (1 + rate) = u) (f1 : FillIs a h (a + u) (1 + rate) n (a + u) p 0) (f2 : FillIs a h (a + u - 1) (1 + rate) n (a + u - 1) q 0) (f3 : bytesB (a + u) p = y1) (o : n ≤ y1) (f4 : bytesB (a + u - 1) q = y2) (o2 : y2 < n) (w : World) : Calls Try.prog 5 #[.agg #[.int .i64 a, .int .i64 h], .int .u16 n, .int .u32 rate] w fun e w' => e = .returned (.bool true) ∧ Kept w w' := by
  have CC' := Lib.hid CC
  have FC' := Lib.hid FC
  have TC' := Lib.hid TC
  have WC' := Lib.hid WC
  have YC' := Lib.hid YC
  have AW' := Lib.hid (fun w => awake18 CC FC TC WC YC w)
  clear CC FC TC WC YC
  have a0 : 0 ≤ a := m.1.1
  have h0 : 0 ≤ h := m.2.1
  have h1 : h ≤ 1152921504606846976 := m.2.2
  have Q0 := Lib.hid (fun w_ => CC'.out a h true (by unfold In64; omega) (by unfold In64; omega) (by simp [m]) w_)
  have Q9 := Lib.hid (fun w_ => WC'.out a h n (1 + rate) u (by unfold In64; omega) (by unfold In64; omega) (by unfold In64; omega) (by unfold In64; omega) f0 w_)
  have Q1 := Lib.hid (fun w_ => FC'.out a h (a + u) (1 + rate) n (a + u) p 0 (by unfold In64; omega) (by unfold In64; omega) (by unfold In64; omega) (by unfold In64; omega) (by unfold In64; omega) f1 w_)
  have Q2 := Lib.hid (fun w_ => FC'.out a h (a + u - 1) (1 + rate) n (a + u - 1) q 0 (by unfold In64; omega) (by unfold In64; omega) (by unfold In64; omega) (by unfold In64; omega) (by unfold In64; omega) f2 w_)
  have Y1 := Lib.hid (fun w_ => YC'.out (a + u) p y1 (by unfold In64; omega) p0 f3 w_)
  have Y2 := Lib.hid (fun w_ => YC'.out (a + u - 1) q y2 (by unfold In64; omega) q0 f4 w_)
  clear f0 f1 f2 f3 f4 m p0 q0
  have d0 : decide (549755813888 < a) = false := by simp; omega
  have d1 : decide (n ≤ y1) = true := by simp [o]
  have d2 : decide (y2 < n) = true := by simp [o2]
  have d3 : decide (274877906944 < u) = false := by simp; omega
  have z0 : (u == 0) = false := by simp; omega
  have z1 : ¬ u = 0 := by omega
  have mx : max u 1 = u := by omega
  go_enter Try.func5, Try.ntmps5
  go_upto_region 1 with fail
  generalize hW : World.alloc w (.cells #[.int .i64 a, .int .i64 h] 23) = W_b
  have K_b : Kept w W_b := by subst hW; exact (Kept.refl _).alloc _ _
  have H_b := Lib.hid (show W_b.cell? ⟨w.heap.size, 0, none⟩ = some (.int .i64 a) ∧ W_b.cell? ⟨w.heap.size, 1, none⟩ = some (.int .i64 h) from by subst hW; simp [go_sem])
  clear hW
  generalize w.heap.size = g_b at *
  go_wp2_with fail
  refine (AW'.out _).mono ?_
  rintro e w20 ⟨rfl, k20⟩
  obtain ⟨cb0, cb1⟩ := Kept.alln2 (show Kept W_b w20 from (by (repeat (first | with_reducible exact Kept.refl _ | with_reducible apply Kept.drew | with_reducible apply Kept.alloc | ((with_reducible apply Kept.set); focus (simp <;> omega)) | ((with_reducible apply Kept.via); focus with_reducible assumption))))) H_b
  go_wp2_with fail
  refine (Q9.out _).mono ?_
  rintro e w21 ⟨rfl, k21⟩
  clear cb0 cb1
  obtain ⟨cb0, cb1⟩ := Kept.alln2 (show Kept W_b w21 from (by (repeat (first | with_reducible exact Kept.refl _ | with_reducible apply Kept.drew | with_reducible apply Kept.alloc | ((with_reducible apply Kept.set); focus (simp <;> omega)) | ((with_reducible apply Kept.via); focus with_reducible assumption))))) H_b
  go_wp2_with fail
  refine (Q0.out _).mono ?_
  rintro e w22 ⟨rfl, k22⟩
  clear cb0 cb1
  obtain ⟨cb0, cb1⟩ := Kept.alln2 (show Kept W_b w22 from (by (repeat (first | with_reducible exact Kept.refl _ | with_reducible apply Kept.drew | with_reducible apply Kept.alloc | ((with_reducible apply Kept.set); focus (simp <;> omega)) | ((with_reducible apply Kept.via); focus with_reducible assumption))))) H_b
  go_upto_region 7 with fail
  clear cb0 cb1
  obtain ⟨cb0, cb1⟩ := Kept.alln2 (show Kept W_b w22 from (by (repeat (first | with_reducible exact Kept.refl _ | with_reducible apply Kept.drew | with_reducible apply Kept.alloc | ((with_reducible apply Kept.set); focus (simp <;> omega)) | ((with_reducible apply Kept.via); focus with_reducible assumption))))) H_b
  go_wp2_with fail
  refine (Q1.out _).mono ?_
  rintro e w23 ⟨rfl, k23⟩
  clear cb0 cb1
  go_upto_region 8 with fail
  generalize hW : World.alloc w23 (.cells #[.int .i64 (a + u), .int .i64 p] 23) = W_x
  have K_x : Kept w23 W_x := by subst hW; exact (Kept.refl _).alloc _ _
  have H_x := Lib.hid (show W_x.cell? ⟨w23.heap.size, 0, none⟩ = some (.int .i64 (a + u)) ∧ W_x.cell? ⟨w23.heap.size, 1, none⟩ = some (.int .i64 p) from by subst hW; simp [go_sem])
  clear hW
  generalize w23.heap.size = g_x at *
  obtain ⟨cb0, cb1⟩ := Kept.alln2 (show Kept W_b W_x from (by (repeat (first | with_reducible exact Kept.refl _ | with_reducible apply Kept.drew | with_reducible apply Kept.alloc | ((with_reducible apply Kept.set); focus (simp <;> omega)) | ((with_reducible apply Kept.via); focus with_reducible assumption))))) H_b
  go_wp2_with fail
  refine (Q2.out _).mono ?_
  rintro e w24 ⟨rfl, k24⟩
  clear cb0 cb1
  go_upto_region 9 with fail
  generalize hW : World.alloc w24 (.cells #[.int .i64 (a + u - 1), .int .i64 q] 23) = W_y
  have K_y : Kept w24 W_y := by subst hW; exact (Kept.refl _).alloc _ _
  have H_y := Lib.hid (show W_y.cell? ⟨w24.heap.size, 0, none⟩ = some (.int .i64 (a + u - 1)) ∧ W_y.cell? ⟨w24.heap.size, 1, none⟩ = some (.int .i64 q) from by subst hW; simp [go_sem])
  clear hW
  generalize w24.heap.size = g_y at *
  obtain ⟨cx0, cx1⟩ := Kept.alln2 (show Kept W_x W_y from (by (repeat (first | with_reducible exact Kept.refl _ | with_reducible apply Kept.drew | with_reducible apply Kept.alloc | ((with_reducible apply Kept.set); focus (simp <;> omega)) | ((with_reducible apply Kept.via); focus with_reducible assumption))))) H_x
  go_wp2_with fail
  refine (Y1.out _).mono ?_
  rintro e w25 ⟨rfl, k25⟩
  clear cx0 cx1
  obtain ⟨cy0, cy1⟩ := Kept.alln2 (show Kept W_y w25 from (by (repeat (first | with_reducible exact Kept.refl _ | with_reducible apply Kept.drew | with_reducible apply Kept.alloc | ((with_reducible apply Kept.set); focus (simp <;> omega)) | ((with_reducible apply Kept.via); focus with_reducible assumption))))) H_y
  go_wp2_with fail
  refine (Y2.out _).mono ?_
  rintro e w26 ⟨rfl, k26⟩
  clear cy0 cy1
  go_wp2
  go_ret
  exact ⟨rfl, (by (repeat (first | with_reducible exact Kept.refl _ | with_reducible apply Kept.drew | with_reducible apply Kept.alloc | ((with_reducible apply Kept.set); focus (simp <;> omega)) | ((with_reducible apply Kept.via); focus with_reducible assumption))))⟩
theorem bucketWaits_walk (CC : BuCheckC) (FC : BuFillC) (TC : BuTakeC) (WC : BuWaitC) (YC : BuBytesC) (a h n rate : Int) (w : World) (ia : In64 a) (ih : In64 h) (n0 : 0 ≤ n) (n1 : n ≤ 65535) (r0 : 0 ≤ rate) (r1 : rate ≤ 4294967295) : Calls Try.prog 5 #[.agg #[.int .i64 a, .int .i64 h], .int .u16 n, .int .u32 rate] w fun e w' => e = .returned (.bool true) ∧ Kept w w' := by
  by_cases m : MayB a h
  · have m1 := m.1
    unfold IsTime at m1
    have h0 := m.2.1
    have h1 := m.2.2
    by_cases l : 549755813888 < a
    · exact waits18_far CC FC TC WC YC ia ih n0 n1 r0 r1 rfl m l w
    · obtain ⟨u, hu⟩ : ∃ u, waitB a h n (1 + rate) = u := ⟨_, rfl⟩
      by_cases l2 : 274877906944 < u
      · exact waits18_long CC FC TC WC YC ia ih n0 n1 r0 r1 hu m (by omega) l2 w
      · have q := wait_fills m n0 n1 (r := 1 + rate) (by omega) (by omega) (by omega)
        have u0 : 0 ≤ u := by
          rw [← hu]; unfold waitB
          split
          · omega
          · split
            · omega
            · have := ceil_pos (m := needB n - h) (c := heldTime (1 + rate)) (by omega) (by unfold heldTime; split <;> (try split) <;> omega)
              split <;> omega
        rw [hu] at q
        have r2 := fill_range (h := h) (rate := 1 + rate) (d := u) (most := n) h0 h1 u0
        have by_ : ∀ x p, IsTime x → h ≤ p → p ≤ 1152921504606846976 → bytesB x p = p / 1000000 := fun x p hx hp hq => by unfold bytesB; rw [if_pos ⟨hx, by omega, hq⟩]
        by_cases z : u = 0
        · have t1 : IsTime (a + u) := by unfold IsTime; omega
          have b1 := by_ (a + u) _ t1 r2.1 r2.2
          have r4 := fill_range (h := h) (rate := 1 + rate) (d := 0) (most := n) h0 h1 (by omega)
          refine waits18_now CC FC TC WC YC m (by omega) n0 n1 r0 r1 (p := fillB h (1 + rate) u n) (q := fillB h (1 + rate) 0 n) (by unfold In64; omega) (by unfold In64; omega) (y1 := bytesB (a + u) (fillB h (1 + rate) u n)) (y2 := 0) z hu (Or.inr (Or.inr (Or.inr ⟨m, t1, by omega, rfl, ?_, rfl⟩))) (Or.inr (Or.inr (Or.inr ⟨m, m.1, by omega, rfl, ?_, rfl⟩))) rfl (by rw [b1]; exact q.1) w
          · rw [show a + u - a = u by omega]
          · rw [show a - a = 0 by omega]
        · have r3 := fill_range (h := h) (rate := 1 + rate) (d := u - 1) (most := n) h0 h1 (by omega)
          have t1 : IsTime (a + u) := by unfold IsTime; omega
          have t2 : IsTime (a + u - 1) := by unfold IsTime; omega
          have b1 := by_ (a + u) _ t1 r2.1 r2.2
          have b2 := by_ (a + u - 1) _ t2 r3.1 r3.2
          refine waits18_then CC FC TC WC YC m (by omega) n0 n1 r0 r1 (p := fillB h (1 + rate) u n) (q := fillB h (1 + rate) (u - 1) n) (by unfold In64; omega) (by unfold In64; omega) (by omega) (by omega) hu (Or.inr (Or.inr (Or.inr ⟨m, t1, by omega, rfl, ?_, rfl⟩))) (Or.inr (Or.inr (Or.inr ⟨m, t2, by omega, rfl, ?_, rfl⟩))) rfl (by rw [b1]; exact q.1) rfl (by rw [b2]; rcases q.2 with y | y; exact absurd y z; exact y) w
          · rw [show a + u - a = u by omega]
          · rw [show a + u - 1 - a = u - 1 by omega]
  · exact waits18_no CC FC TC WC YC ia ih n0 n1 r0 r1 (by unfold waitB; rw [if_pos (Or.inl m)]) m w
end Go.Proofs.Ytlgpeafphanobaa
