/-
  The walk of RttBetween: it answers true, whatever it is given.
-/
import Derived.Test.YthjchmjpiijfnaaRises06
import Derived.Deep.DeepCutAuto
namespace Go.Proofs.Ythjchmjpiijfnaa
open Go.RowKit Go.BigFrame
set_option linter.unusedVariables false

set_option maxRecDepth 100000 in
set_option maxHeartbeats 1600000 in
theorem between_bad {b : Bool} {m f t : Int} (S1 : ∀ w, Calls Try.prog 10 #[.agg #[.bool b, .int .i64 m, .int .i64 f], .int .i64 t] w fun e w' => e = .returned (.tuple #[.agg #[.bool b, .int .i64 m, .int .i64 f], .int .i64 201]) ∧ Kept w w') (C1 : ∀ w, Calls Try.prog 12 #[.agg #[.bool b, .int .i64 m, .int .i64 f]] w fun e w' => e = .returned (.bool false) ∧ Kept w w') (w : World) :
    Calls Try.prog 4 #[.agg #[.bool b, .int .i64 m, .int .i64 f], .int .i64 t] w fun e w' => e = .returned (.bool true) ∧ Kept w w' := by
  have S1' := Lib.hid S1
  have C1' := Lib.hid C1
  clear S1 C1
  go_enter Try.func4, Try.ntmps4
  go_upto_region 1 with fail
  generalize hW : World.alloc w (.cells #[.bool b, .int .i64 m, .int .i64 f] 23) = W_r
  have K_r : Kept w W_r := by subst hW; exact (Kept.refl _).alloc _ _
  have H_r := Lib.hid (show W_r.cell? ⟨w.heap.size, 0, none⟩ = some (.bool b) ∧ W_r.cell? ⟨w.heap.size, 1, none⟩ = some (.int .i64 m) ∧ W_r.cell? ⟨w.heap.size, 2, none⟩ = some (.int .i64 f) from by subst hW; simp [go_sem])
  clear hW
  generalize w.heap.size = g_r at *
  go_wp2_with fail
  refine (awake06 _).mono ?_
  rintro e w1 ⟨rfl, k1⟩
  obtain ⟨c_r0, c_r1, c_r2⟩ := Kept.all3 (show Kept W_r w1 from (by (repeat (first | with_reducible exact Kept.refl _ | with_reducible apply Kept.drew | with_reducible apply Kept.alloc | ((with_reducible apply Kept.set); focus (simp <;> omega)) | ((with_reducible apply Kept.via); focus with_reducible assumption))))) H_r
  go_wp2_with fail
  refine (S1'.out _).mono ?_
  rintro e w2 ⟨rfl, k2⟩
  clear c_r0 c_r1 c_r2
  go_upto_region 3 with fail
  generalize hW : World.alloc w2 (.cells #[.bool b, .int .i64 m, .int .i64 f] 23) = W_x
  have K_x : Kept w2 W_x := by subst hW; exact (Kept.refl _).alloc _ _
  have H_x := Lib.hid (show W_x.cell? ⟨w2.heap.size, 0, none⟩ = some (.bool b) ∧ W_x.cell? ⟨w2.heap.size, 1, none⟩ = some (.int .i64 m) ∧ W_x.cell? ⟨w2.heap.size, 2, none⟩ = some (.int .i64 f) from by subst hW; simp [go_sem])
  clear hW
  generalize w2.heap.size = g_x at *
  obtain ⟨c_r0, c_r1, c_r2⟩ := Kept.all3 (show Kept W_r W_x from (by (repeat (first | with_reducible exact Kept.refl _ | with_reducible apply Kept.drew | with_reducible apply Kept.alloc | ((with_reducible apply Kept.set); focus (simp <;> omega)) | ((with_reducible apply Kept.via); focus with_reducible assumption))))) H_r
  obtain ⟨c_x0, c_x1, c_x2⟩ := Kept.all3 (show Kept W_x W_x from (by (repeat (first | with_reducible exact Kept.refl _ | with_reducible apply Kept.drew | with_reducible apply Kept.alloc | ((with_reducible apply Kept.set); focus (simp <;> omega)) | ((with_reducible apply Kept.via); focus with_reducible assumption))))) H_x
  go_wp2_with fail
  refine (C1'.out _).mono ?_
  rintro e w3 ⟨rfl, k3⟩
  clear c_r0 c_r1 c_r2 c_x0 c_x1 c_x2
  go_wp2
  go_ret
  exact ⟨rfl, (by (repeat (first | with_reducible exact Kept.refl _ | with_reducible apply Kept.drew | with_reducible apply Kept.alloc | ((with_reducible apply Kept.set); focus (simp <;> omega)) | ((with_reducible apply Kept.via); focus with_reducible assumption))))⟩
set_option maxRecDepth 100000 in
set_option maxHeartbeats 1600000 in
theorem between_low {b : Bool} {m f t : Int} (h : t < 1) (S1 : ∀ w, Calls Try.prog 10 #[.agg #[.bool b, .int .i64 m, .int .i64 f], .int .i64 t] w fun e w' => e = .returned (.tuple #[.agg #[.bool b, .int .i64 m, .int .i64 f], .int .i64 201]) ∧ Kept w w') (C1 : ∀ w, Calls Try.prog 12 #[.agg #[.bool b, .int .i64 m, .int .i64 f]] w fun e w' => e = .returned (.bool true) ∧ Kept w w') (w : World) :
    Calls Try.prog 4 #[.agg #[.bool b, .int .i64 m, .int .i64 f], .int .i64 t] w fun e w' => e = .returned (.bool true) ∧ Kept w w' := by
  have S1' := Lib.hid S1
  have C1' := Lib.hid C1
  clear S1 C1
  go_enter Try.func4, Try.ntmps4
  go_upto_region 1 with fail
  generalize hW : World.alloc w (.cells #[.bool b, .int .i64 m, .int .i64 f] 23) = W_r
  have K_r : Kept w W_r := by subst hW; exact (Kept.refl _).alloc _ _
  have H_r := Lib.hid (show W_r.cell? ⟨w.heap.size, 0, none⟩ = some (.bool b) ∧ W_r.cell? ⟨w.heap.size, 1, none⟩ = some (.int .i64 m) ∧ W_r.cell? ⟨w.heap.size, 2, none⟩ = some (.int .i64 f) from by subst hW; simp [go_sem])
  clear hW
  generalize w.heap.size = g_r at *
  go_wp2_with fail
  refine (awake06 _).mono ?_
  rintro e w1 ⟨rfl, k1⟩
  obtain ⟨c_r0, c_r1, c_r2⟩ := Kept.all3 (show Kept W_r w1 from (by (repeat (first | with_reducible exact Kept.refl _ | with_reducible apply Kept.drew | with_reducible apply Kept.alloc | ((with_reducible apply Kept.set); focus (simp <;> omega)) | ((with_reducible apply Kept.via); focus with_reducible assumption))))) H_r
  go_wp2_with fail
  refine (S1'.out _).mono ?_
  rintro e w2 ⟨rfl, k2⟩
  clear c_r0 c_r1 c_r2
  go_upto_region 3 with fail
  generalize hW : World.alloc w2 (.cells #[.bool b, .int .i64 m, .int .i64 f] 23) = W_x
  have K_x : Kept w2 W_x := by subst hW; exact (Kept.refl _).alloc _ _
  have H_x := Lib.hid (show W_x.cell? ⟨w2.heap.size, 0, none⟩ = some (.bool b) ∧ W_x.cell? ⟨w2.heap.size, 1, none⟩ = some (.int .i64 m) ∧ W_x.cell? ⟨w2.heap.size, 2, none⟩ = some (.int .i64 f) from by subst hW; simp [go_sem])
  clear hW
  generalize w2.heap.size = g_x at *
  obtain ⟨c_r0, c_r1, c_r2⟩ := Kept.all3 (show Kept W_r W_x from (by (repeat (first | with_reducible exact Kept.refl _ | with_reducible apply Kept.drew | with_reducible apply Kept.alloc | ((with_reducible apply Kept.set); focus (simp <;> omega)) | ((with_reducible apply Kept.via); focus with_reducible assumption))))) H_r
  obtain ⟨c_x0, c_x1, c_x2⟩ := Kept.all3 (show Kept W_x W_x from (by (repeat (first | with_reducible exact Kept.refl _ | with_reducible apply Kept.drew | with_reducible apply Kept.alloc | ((with_reducible apply Kept.set); focus (simp <;> omega)) | ((with_reducible apply Kept.via); focus with_reducible assumption))))) H_x
  go_wp2_with fail
  refine (C1'.out _).mono ?_
  rintro e w3 ⟨rfl, k3⟩
  clear c_r0 c_r1 c_r2 c_x0 c_x1 c_x2
  go_wp2
  go_ret
  exact ⟨rfl, (by (repeat (first | with_reducible exact Kept.refl _ | with_reducible apply Kept.drew | with_reducible apply Kept.alloc | ((with_reducible apply Kept.set); focus (simp <;> omega)) | ((with_reducible apply Kept.via); focus with_reducible assumption))))⟩
set_option maxRecDepth 100000 in
set_option maxHeartbeats 1600000 in
theorem between_high {b : Bool} {m f t : Int} (h : 1 ≤ t) (h1 : 1073741824 < t) (S1 : ∀ w, Calls Try.prog 10 #[.agg #[.bool b, .int .i64 m, .int .i64 f], .int .i64 t] w fun e w' => e = .returned (.tuple #[.agg #[.bool b, .int .i64 m, .int .i64 f], .int .i64 201]) ∧ Kept w w') (C1 : ∀ w, Calls Try.prog 12 #[.agg #[.bool b, .int .i64 m, .int .i64 f]] w fun e w' => e = .returned (.bool true) ∧ Kept w w') (w : World) :
    Calls Try.prog 4 #[.agg #[.bool b, .int .i64 m, .int .i64 f], .int .i64 t] w fun e w' => e = .returned (.bool true) ∧ Kept w w' := by
  have S1' := Lib.hid S1
  have C1' := Lib.hid C1
  clear S1 C1
  go_enter Try.func4, Try.ntmps4
  go_upto_region 1 with fail
  generalize hW : World.alloc w (.cells #[.bool b, .int .i64 m, .int .i64 f] 23) = W_r
  have K_r : Kept w W_r := by subst hW; exact (Kept.refl _).alloc _ _
  have H_r := Lib.hid (show W_r.cell? ⟨w.heap.size, 0, none⟩ = some (.bool b) ∧ W_r.cell? ⟨w.heap.size, 1, none⟩ = some (.int .i64 m) ∧ W_r.cell? ⟨w.heap.size, 2, none⟩ = some (.int .i64 f) from by subst hW; simp [go_sem])
  clear hW
  generalize w.heap.size = g_r at *
  go_wp2_with fail
  refine (awake06 _).mono ?_
  rintro e w1 ⟨rfl, k1⟩
  obtain ⟨c_r0, c_r1, c_r2⟩ := Kept.all3 (show Kept W_r w1 from (by (repeat (first | with_reducible exact Kept.refl _ | with_reducible apply Kept.drew | with_reducible apply Kept.alloc | ((with_reducible apply Kept.set); focus (simp <;> omega)) | ((with_reducible apply Kept.via); focus with_reducible assumption))))) H_r
  go_wp2_with fail
  refine (S1'.out _).mono ?_
  rintro e w2 ⟨rfl, k2⟩
  clear c_r0 c_r1 c_r2
  go_upto_region 3 with fail
  generalize hW : World.alloc w2 (.cells #[.bool b, .int .i64 m, .int .i64 f] 23) = W_x
  have K_x : Kept w2 W_x := by subst hW; exact (Kept.refl _).alloc _ _
  have H_x := Lib.hid (show W_x.cell? ⟨w2.heap.size, 0, none⟩ = some (.bool b) ∧ W_x.cell? ⟨w2.heap.size, 1, none⟩ = some (.int .i64 m) ∧ W_x.cell? ⟨w2.heap.size, 2, none⟩ = some (.int .i64 f) from by subst hW; simp [go_sem])
  clear hW
  generalize w2.heap.size = g_x at *
  obtain ⟨c_r0, c_r1, c_r2⟩ := Kept.all3 (show Kept W_r W_x from (by (repeat (first | with_reducible exact Kept.refl _ | with_reducible apply Kept.drew | with_reducible apply Kept.alloc | ((with_reducible apply Kept.set); focus (simp <;> omega)) | ((with_reducible apply Kept.via); focus with_reducible assumption))))) H_r
  obtain ⟨c_x0, c_x1, c_x2⟩ := Kept.all3 (show Kept W_x W_x from (by (repeat (first | with_reducible exact Kept.refl _ | with_reducible apply Kept.drew | with_reducible apply Kept.alloc | ((with_reducible apply Kept.set); focus (simp <;> omega)) | ((with_reducible apply Kept.via); focus with_reducible assumption))))) H_x
  go_wp2_with fail
  refine (C1'.out _).mono ?_
  rintro e w3 ⟨rfl, k3⟩
  clear c_r0 c_r1 c_r2 c_x0 c_x1 c_x2
  go_wp2
  go_ret
  exact ⟨rfl, (by (repeat (first | with_reducible exact Kept.refl _ | with_reducible apply Kept.drew | with_reducible apply Kept.alloc | ((with_reducible apply Kept.set); focus (simp <;> omega)) | ((with_reducible apply Kept.via); focus with_reducible assumption))))⟩
set_option maxRecDepth 100000 in
set_option maxHeartbeats 1600000 in
theorem between_first {m f t m1 f1 : Int} (h : 1 ≤ t) (h1 : t ≤ 1073741824) (S1 : ∀ w, Calls Try.prog 10 #[.agg #[.bool false, .int .i64 m, .int .i64 f], .int .i64 t] w fun e w' => e = .returned (.tuple #[.agg #[.bool true, .int .i64 m1, .int .i64 f1], .int .i64 0]) ∧ Kept w w') (M1 : ∀ w, Calls Try.prog 14 #[.agg #[.bool true, .int .i64 m1, .int .i64 f1]] w fun e w' => e = .returned (.int .i64 t) ∧ Kept w w') (F1 : ∀ w, Calls Try.prog 16 #[.agg #[.bool true, .int .i64 m1, .int .i64 f1]] w fun e w' => e = .returned (.int .i64 (t / 2)) ∧ Kept w w') (C1 : ∀ w, Calls Try.prog 12 #[.agg #[.bool true, .int .i64 m1, .int .i64 f1]] w fun e w' => e = .returned (.bool true) ∧ Kept w w') (w : World) :
    Calls Try.prog 4 #[.agg #[.bool false, .int .i64 m, .int .i64 f], .int .i64 t] w fun e w' => e = .returned (.bool true) ∧ Kept w w' := by
  have S1' := Lib.hid S1
  have M1' := Lib.hid M1
  have F1' := Lib.hid F1
  have C1' := Lib.hid C1
  clear S1 M1 F1 C1
  go_enter Try.func4, Try.ntmps4
  go_upto_region 1 with fail
  generalize hW : World.alloc w (.cells #[.bool false, .int .i64 m, .int .i64 f] 23) = W_r
  have K_r : Kept w W_r := by subst hW; exact (Kept.refl _).alloc _ _
  have H_r := Lib.hid (show W_r.cell? ⟨w.heap.size, 0, none⟩ = some (.bool false) ∧ W_r.cell? ⟨w.heap.size, 1, none⟩ = some (.int .i64 m) ∧ W_r.cell? ⟨w.heap.size, 2, none⟩ = some (.int .i64 f) from by subst hW; simp [go_sem])
  clear hW
  generalize w.heap.size = g_r at *
  go_wp2_with fail
  refine (awake06 _).mono ?_
  rintro e w1 ⟨rfl, k1⟩
  obtain ⟨c_r0, c_r1, c_r2⟩ := Kept.all3 (show Kept W_r w1 from (by (repeat (first | with_reducible exact Kept.refl _ | with_reducible apply Kept.drew | with_reducible apply Kept.alloc | ((with_reducible apply Kept.set); focus (simp <;> omega)) | ((with_reducible apply Kept.via); focus with_reducible assumption))))) H_r
  go_wp2_with fail
  refine (S1'.out _).mono ?_
  rintro e w2 ⟨rfl, k2⟩
  clear c_r0 c_r1 c_r2
  go_upto_region 3 with fail
  generalize hW : World.alloc w2 (.cells #[.bool true, .int .i64 m1, .int .i64 f1] 23) = W_x
  have K_x : Kept w2 W_x := by subst hW; exact (Kept.refl _).alloc _ _
  have H_x := Lib.hid (show W_x.cell? ⟨w2.heap.size, 0, none⟩ = some (.bool true) ∧ W_x.cell? ⟨w2.heap.size, 1, none⟩ = some (.int .i64 m1) ∧ W_x.cell? ⟨w2.heap.size, 2, none⟩ = some (.int .i64 f1) from by subst hW; simp [go_sem])
  clear hW
  generalize w2.heap.size = g_x at *
  obtain ⟨c_r0, c_r1, c_r2⟩ := Kept.all3 (show Kept W_r W_x from (by (repeat (first | with_reducible exact Kept.refl _ | with_reducible apply Kept.drew | with_reducible apply Kept.alloc | ((with_reducible apply Kept.set); focus (simp <;> omega)) | ((with_reducible apply Kept.via); focus with_reducible assumption))))) H_r
  obtain ⟨c_x0, c_x1, c_x2⟩ := Kept.all3 (show Kept W_x W_x from (by (repeat (first | with_reducible exact Kept.refl _ | with_reducible apply Kept.drew | with_reducible apply Kept.alloc | ((with_reducible apply Kept.set); focus (simp <;> omega)) | ((with_reducible apply Kept.via); focus with_reducible assumption))))) H_x
  go_wp2_with fail
  refine (M1'.out _).mono ?_
  rintro e w3 ⟨rfl, k3⟩
  clear c_r0 c_r1 c_r2 c_x0 c_x1 c_x2
  obtain ⟨c_x0, c_x1, c_x2⟩ := Kept.all3 (show Kept W_x w3 from (by (repeat (first | with_reducible exact Kept.refl _ | with_reducible apply Kept.drew | with_reducible apply Kept.alloc | ((with_reducible apply Kept.set); focus (simp <;> omega)) | ((with_reducible apply Kept.via); focus with_reducible assumption))))) H_x
  go_wp2_with fail
  refine (F1'.out _).mono ?_
  rintro e w4 ⟨rfl, k4⟩
  clear c_x0 c_x1 c_x2
  obtain ⟨c_x0, c_x1, c_x2⟩ := Kept.all3 (show Kept W_x w4 from (by (repeat (first | with_reducible exact Kept.refl _ | with_reducible apply Kept.drew | with_reducible apply Kept.alloc | ((with_reducible apply Kept.set); focus (simp <;> omega)) | ((with_reducible apply Kept.via); focus with_reducible assumption))))) H_x
  go_wp2_with fail
  refine (C1'.out _).mono ?_
  rintro e w5 ⟨rfl, k5⟩
  clear c_x0 c_x1 c_x2
  go_wp2
  go_ret
  exact ⟨rfl, (by (repeat (first | with_reducible exact Kept.refl _ | with_reducible apply Kept.drew | with_reducible apply Kept.alloc | ((with_reducible apply Kept.set); focus (simp <;> omega)) | ((with_reducible apply Kept.via); focus with_reducible assumption))))⟩
set_option maxRecDepth 100000 in
set_option maxHeartbeats 1600000 in
theorem between_lt {m f t p m1 f1 p1 q1 : Int} (t0 : 1 ≤ t) (t1 : t ≤ 1073741824) (p0 : 0 ≤ p) (p2 : p ≤ 1073741824) (f0 : 0 ≤ f) (f2 : f ≤ 4294967296) (f3 : 0 ≤ f1) (f4 : f1 ≤ 4294967296) (q0 : 0 ≤ q1) (q2 : q1 ≤ 1073741824) (h1 : p ≤ p1) (h2 : p1 ≤ t) (h3 : f1 - f ≤ (t - p)) (h5 : 4 * q1 ≤ f + (t - p)) (ho : p < t) (S1 : ∀ w, Calls Try.prog 10 #[.agg #[.bool true, .int .i64 m, .int .i64 f], .int .i64 t] w fun e w' => e = .returned (.tuple #[.agg #[.bool true, .int .i64 m1, .int .i64 f1], .int .i64 0]) ∧ Kept w w') (M0 : ∀ w, Calls Try.prog 14 #[.agg #[.bool true, .int .i64 m, .int .i64 f]] w fun e w' => e = .returned (.int .i64 p) ∧ Kept w w') (M1 : ∀ w, Calls Try.prog 14 #[.agg #[.bool true, .int .i64 m1, .int .i64 f1]] w fun e w' => e = .returned (.int .i64 p1) ∧ Kept w w') (F1 : ∀ w, Calls Try.prog 16 #[.agg #[.bool true, .int .i64 m1, .int .i64 f1]] w fun e w' => e = .returned (.int .i64 q1) ∧ Kept w w') (C1 : ∀ w, Calls Try.prog 12 #[.agg #[.bool true, .int .i64 m1, .int .i64 f1]] w fun e w' => e = .returned (.bool true) ∧ Kept w w') (w : World) :
    Calls Try.prog 4 #[.agg #[.bool true, .int .i64 m, .int .i64 f], .int .i64 t] w fun e w' => e = .returned (.bool true) ∧ Kept w w' := by
  have S1' := Lib.hid S1
  have M0' := Lib.hid M0
  have M1' := Lib.hid M1
  have F1' := Lib.hid F1
  have C1' := Lib.hid C1
  clear S1 M0 M1 F1 C1
  have d1 : decide (p ≤ p1) = true := by simp [h1]
  have d2 : decide (p1 ≤ t) = true := by simp [h2]
  have d3 : decide (f1 - f ≤ (t - p)) = true := by simp; omega
  have d4 : decide (0 ≤ f1) = true := by simp [f3]
  have d5 : decide (4 * q1 ≤ f + (t - p)) = true := by simp; omega
  have w3 : IntKind.i64.wrap (f1 - f) = f1 - f := by rw [IntKind.wrap_i64]; omega
  have w5 : IntKind.i64.wrap (4 * q1) = 4 * q1 := by rw [IntKind.wrap_i64]; omega
  have w6 : IntKind.i64.wrap (f + (t - p)) = f + (t - p) := by rw [IntKind.wrap_i64]; omega
  have g1 : max (t - p) (p - t) = (t - p) := by omega
  have g2 : min p t = p := by omega
  have g3 : max p t = t := by omega
  go_enter Try.func4, Try.ntmps4
  go_upto_region 1 with fail
  generalize hW : World.alloc w (.cells #[.bool true, .int .i64 m, .int .i64 f] 23) = W_r
  have K_r : Kept w W_r := by subst hW; exact (Kept.refl _).alloc _ _
  have H_r := Lib.hid (show W_r.cell? ⟨w.heap.size, 0, none⟩ = some (.bool true) ∧ W_r.cell? ⟨w.heap.size, 1, none⟩ = some (.int .i64 m) ∧ W_r.cell? ⟨w.heap.size, 2, none⟩ = some (.int .i64 f) from by subst hW; simp [go_sem])
  clear hW
  generalize w.heap.size = g_r at *
  go_wp2_with fail
  refine (awake06 _).mono ?_
  rintro e w1 ⟨rfl, k1⟩
  obtain ⟨c_r0, c_r1, c_r2⟩ := Kept.all3 (show Kept W_r w1 from (by (repeat (first | with_reducible exact Kept.refl _ | with_reducible apply Kept.drew | with_reducible apply Kept.alloc | ((with_reducible apply Kept.set); focus (simp <;> omega)) | ((with_reducible apply Kept.via); focus with_reducible assumption))))) H_r
  go_wp2_with fail
  refine (S1'.out _).mono ?_
  rintro e w2 ⟨rfl, k2⟩
  clear c_r0 c_r1 c_r2
  go_upto_region 3 with fail
  generalize hW : World.alloc w2 (.cells #[.bool true, .int .i64 m1, .int .i64 f1] 23) = W_x
  have K_x : Kept w2 W_x := by subst hW; exact (Kept.refl _).alloc _ _
  have H_x := Lib.hid (show W_x.cell? ⟨w2.heap.size, 0, none⟩ = some (.bool true) ∧ W_x.cell? ⟨w2.heap.size, 1, none⟩ = some (.int .i64 m1) ∧ W_x.cell? ⟨w2.heap.size, 2, none⟩ = some (.int .i64 f1) from by subst hW; simp [go_sem])
  clear hW
  generalize w2.heap.size = g_x at *
  obtain ⟨c_r0, c_r1, c_r2⟩ := Kept.all3 (show Kept W_r W_x from (by (repeat (first | with_reducible exact Kept.refl _ | with_reducible apply Kept.drew | with_reducible apply Kept.alloc | ((with_reducible apply Kept.set); focus (simp <;> omega)) | ((with_reducible apply Kept.via); focus with_reducible assumption))))) H_r
  obtain ⟨c_x0, c_x1, c_x2⟩ := Kept.all3 (show Kept W_x W_x from (by (repeat (first | with_reducible exact Kept.refl _ | with_reducible apply Kept.drew | with_reducible apply Kept.alloc | ((with_reducible apply Kept.set); focus (simp <;> omega)) | ((with_reducible apply Kept.via); focus with_reducible assumption))))) H_x
  go_wp2_with fail
  refine (M0'.out _).mono ?_
  rintro e w3 ⟨rfl, k3⟩
  clear c_r0 c_r1 c_r2 c_x0 c_x1 c_x2
  go_upto_region 9 with fail
  have B_r := Lib.hid (Kept.all3 (show Kept W_r w3 from (by (repeat (first | with_reducible exact Kept.refl _ | with_reducible apply Kept.drew | with_reducible apply Kept.alloc | ((with_reducible apply Kept.set); focus (simp <;> omega)) | ((with_reducible apply Kept.via); focus with_reducible assumption))))) H_r)
  have B_x := Lib.hid (Kept.all3 (show Kept W_x w3 from (by (repeat (first | with_reducible exact Kept.refl _ | with_reducible apply Kept.drew | with_reducible apply Kept.alloc | ((with_reducible apply Kept.set); focus (simp <;> omega)) | ((with_reducible apply Kept.via); focus with_reducible assumption))))) H_x)
  have kall : Kept w w3 := (by (repeat (first | with_reducible exact Kept.refl _ | with_reducible apply Kept.drew | with_reducible apply Kept.alloc | ((with_reducible apply Kept.set); focus (simp <;> omega)) | ((with_reducible apply Kept.via); focus with_reducible assumption))))
  obtain ⟨q_r0, q_r1, q_r2⟩ := kw3 B_r
  obtain ⟨q_x0, q_x1, q_x2⟩ := kw3 B_x
  clear B_r B_x
  refine wp_region_kept (by kernel_rfl) (by as_aux_lemma => kernel_rfl) ?_
  repeat (go_big_quiet_step (first | (with_reducible exact kept_of (M1'.out _)) | (with_reducible exact kept_of (F1'.out _)) | (with_reducible exact kept_of (C1'.out _))))
  refine wpQuiet_nil ?_
  intro wq hw'
  have kq : Kept w3 wq := by obtain ⟨p, rfl⟩ := hw'; exact p.k
  clear hw'
  go_wp2
  go_ret
  exact ⟨rfl, kall.trans kq⟩
set_option maxRecDepth 100000 in
set_option maxHeartbeats 1600000 in
theorem between_gt {m f t p m1 f1 p1 q1 : Int} (t0 : 1 ≤ t) (t1 : t ≤ 1073741824) (p0 : 0 ≤ p) (p2 : p ≤ 1073741824) (f0 : 0 ≤ f) (f2 : f ≤ 4294967296) (f3 : 0 ≤ f1) (f4 : f1 ≤ 4294967296) (q0 : 0 ≤ q1) (q2 : q1 ≤ 1073741824) (h1 : t ≤ p1) (h2 : p1 ≤ p) (h3 : f1 - f ≤ (p - t)) (h5 : 4 * q1 ≤ f + (p - t)) (ho : t < p) (S1 : ∀ w, Calls Try.prog 10 #[.agg #[.bool true, .int .i64 m, .int .i64 f], .int .i64 t] w fun e w' => e = .returned (.tuple #[.agg #[.bool true, .int .i64 m1, .int .i64 f1], .int .i64 0]) ∧ Kept w w') (M0 : ∀ w, Calls Try.prog 14 #[.agg #[.bool true, .int .i64 m, .int .i64 f]] w fun e w' => e = .returned (.int .i64 p) ∧ Kept w w') (M1 : ∀ w, Calls Try.prog 14 #[.agg #[.bool true, .int .i64 m1, .int .i64 f1]] w fun e w' => e = .returned (.int .i64 p1) ∧ Kept w w') (F1 : ∀ w, Calls Try.prog 16 #[.agg #[.bool true, .int .i64 m1, .int .i64 f1]] w fun e w' => e = .returned (.int .i64 q1) ∧ Kept w w') (C1 : ∀ w, Calls Try.prog 12 #[.agg #[.bool true, .int .i64 m1, .int .i64 f1]] w fun e w' => e = .returned (.bool true) ∧ Kept w w') (w : World) :
    Calls Try.prog 4 #[.agg #[.bool true, .int .i64 m, .int .i64 f], .int .i64 t] w fun e w' => e = .returned (.bool true) ∧ Kept w w' := by
  have S1' := Lib.hid S1
  have M0' := Lib.hid M0
  have M1' := Lib.hid M1
  have F1' := Lib.hid F1
  have C1' := Lib.hid C1
  clear S1 M0 M1 F1 C1
  have d1 : decide (t ≤ p1) = true := by simp [h1]
  have d2 : decide (p1 ≤ p) = true := by simp [h2]
  have d3 : decide (f1 - f ≤ (p - t)) = true := by simp; omega
  have d4 : decide (0 ≤ f1) = true := by simp [f3]
  have d5 : decide (4 * q1 ≤ f + (p - t)) = true := by simp; omega
  have w3 : IntKind.i64.wrap (f1 - f) = f1 - f := by rw [IntKind.wrap_i64]; omega
  have w5 : IntKind.i64.wrap (4 * q1) = 4 * q1 := by rw [IntKind.wrap_i64]; omega
  have w6 : IntKind.i64.wrap (f + (p - t)) = f + (p - t) := by rw [IntKind.wrap_i64]; omega
  have g1 : max (t - p) (p - t) = (p - t) := by omega
  have g2 : min p t = t := by omega
  have g3 : max p t = p := by omega
  go_enter Try.func4, Try.ntmps4
  go_upto_region 1 with fail
  generalize hW : World.alloc w (.cells #[.bool true, .int .i64 m, .int .i64 f] 23) = W_r
  have K_r : Kept w W_r := by subst hW; exact (Kept.refl _).alloc _ _
  have H_r := Lib.hid (show W_r.cell? ⟨w.heap.size, 0, none⟩ = some (.bool true) ∧ W_r.cell? ⟨w.heap.size, 1, none⟩ = some (.int .i64 m) ∧ W_r.cell? ⟨w.heap.size, 2, none⟩ = some (.int .i64 f) from by subst hW; simp [go_sem])
  clear hW
  generalize w.heap.size = g_r at *
  go_wp2_with fail
  refine (awake06 _).mono ?_
  rintro e w1 ⟨rfl, k1⟩
  obtain ⟨c_r0, c_r1, c_r2⟩ := Kept.all3 (show Kept W_r w1 from (by (repeat (first | with_reducible exact Kept.refl _ | with_reducible apply Kept.drew | with_reducible apply Kept.alloc | ((with_reducible apply Kept.set); focus (simp <;> omega)) | ((with_reducible apply Kept.via); focus with_reducible assumption))))) H_r
  go_wp2_with fail
  refine (S1'.out _).mono ?_
  rintro e w2 ⟨rfl, k2⟩
  clear c_r0 c_r1 c_r2
  go_upto_region 3 with fail
  generalize hW : World.alloc w2 (.cells #[.bool true, .int .i64 m1, .int .i64 f1] 23) = W_x
  have K_x : Kept w2 W_x := by subst hW; exact (Kept.refl _).alloc _ _
  have H_x := Lib.hid (show W_x.cell? ⟨w2.heap.size, 0, none⟩ = some (.bool true) ∧ W_x.cell? ⟨w2.heap.size, 1, none⟩ = some (.int .i64 m1) ∧ W_x.cell? ⟨w2.heap.size, 2, none⟩ = some (.int .i64 f1) from by subst hW; simp [go_sem])
  clear hW
  generalize w2.heap.size = g_x at *
  obtain ⟨c_r0, c_r1, c_r2⟩ := Kept.all3 (show Kept W_r W_x from (by (repeat (first | with_reducible exact Kept.refl _ | with_reducible apply Kept.drew | with_reducible apply Kept.alloc | ((with_reducible apply Kept.set); focus (simp <;> omega)) | ((with_reducible apply Kept.via); focus with_reducible assumption))))) H_r
  obtain ⟨c_x0, c_x1, c_x2⟩ := Kept.all3 (show Kept W_x W_x from (by (repeat (first | with_reducible exact Kept.refl _ | with_reducible apply Kept.drew | with_reducible apply Kept.alloc | ((with_reducible apply Kept.set); focus (simp <;> omega)) | ((with_reducible apply Kept.via); focus with_reducible assumption))))) H_x
  go_wp2_with fail
  refine (M0'.out _).mono ?_
  rintro e w3 ⟨rfl, k3⟩
  clear c_r0 c_r1 c_r2 c_x0 c_x1 c_x2
  go_upto_region 9 with fail
  have B_r := Lib.hid (Kept.all3 (show Kept W_r w3 from (by (repeat (first | with_reducible exact Kept.refl _ | with_reducible apply Kept.drew | with_reducible apply Kept.alloc | ((with_reducible apply Kept.set); focus (simp <;> omega)) | ((with_reducible apply Kept.via); focus with_reducible assumption))))) H_r)
  have B_x := Lib.hid (Kept.all3 (show Kept W_x w3 from (by (repeat (first | with_reducible exact Kept.refl _ | with_reducible apply Kept.drew | with_reducible apply Kept.alloc | ((with_reducible apply Kept.set); focus (simp <;> omega)) | ((with_reducible apply Kept.via); focus with_reducible assumption))))) H_x)
  have kall : Kept w w3 := (by (repeat (first | with_reducible exact Kept.refl _ | with_reducible apply Kept.drew | with_reducible apply Kept.alloc | ((with_reducible apply Kept.set); focus (simp <;> omega)) | ((with_reducible apply Kept.via); focus with_reducible assumption))))
  obtain ⟨q_r0, q_r1, q_r2⟩ := kw3 B_r
  obtain ⟨q_x0, q_x1, q_x2⟩ := kw3 B_x
  clear B_r B_x
  refine wp_region_kept (by kernel_rfl) (by as_aux_lemma => kernel_rfl) ?_
  repeat (go_big_quiet_step (first | (with_reducible exact kept_of (M1'.out _)) | (with_reducible exact kept_of (F1'.out _)) | (with_reducible exact kept_of (C1'.out _))))
  refine wpQuiet_nil ?_
  intro wq hw'
  have kq : Kept w3 wq := by obtain ⟨p, rfl⟩ := hw'; exact p.k
  clear hw'
  go_wp2
  go_ret
  exact ⟨rfl, kall.trans kq⟩
set_option maxRecDepth 100000 in
set_option maxHeartbeats 1600000 in
theorem between_eq {m f t m1 f1 p1 q1 : Int} (t0 : 1 ≤ t) (t1 : t ≤ 1073741824) (f0 : 0 ≤ f) (f2 : f ≤ 4294967296) (f3 : 0 ≤ f1) (f4 : f1 ≤ 4294967296) (q0 : 0 ≤ q1) (q2 : q1 ≤ 1073741824) (h1 : t ≤ p1) (h2 : p1 ≤ t) (h3 : f1 - f ≤ 0) (h5 : 4 * q1 ≤ f + 0)  (S1 : ∀ w, Calls Try.prog 10 #[.agg #[.bool true, .int .i64 m, .int .i64 f], .int .i64 t] w fun e w' => e = .returned (.tuple #[.agg #[.bool true, .int .i64 m1, .int .i64 f1], .int .i64 0]) ∧ Kept w w') (M0 : ∀ w, Calls Try.prog 14 #[.agg #[.bool true, .int .i64 m, .int .i64 f]] w fun e w' => e = .returned (.int .i64 t) ∧ Kept w w') (M1 : ∀ w, Calls Try.prog 14 #[.agg #[.bool true, .int .i64 m1, .int .i64 f1]] w fun e w' => e = .returned (.int .i64 p1) ∧ Kept w w') (F1 : ∀ w, Calls Try.prog 16 #[.agg #[.bool true, .int .i64 m1, .int .i64 f1]] w fun e w' => e = .returned (.int .i64 q1) ∧ Kept w w') (C1 : ∀ w, Calls Try.prog 12 #[.agg #[.bool true, .int .i64 m1, .int .i64 f1]] w fun e w' => e = .returned (.bool true) ∧ Kept w w') (w : World) :
    Calls Try.prog 4 #[.agg #[.bool true, .int .i64 m, .int .i64 f], .int .i64 t] w fun e w' => e = .returned (.bool true) ∧ Kept w w' := by
  have S1' := Lib.hid S1
  have M0' := Lib.hid M0
  have M1' := Lib.hid M1
  have F1' := Lib.hid F1
  have C1' := Lib.hid C1
  clear S1 M0 M1 F1 C1
  have d1 : decide (t ≤ p1) = true := by simp [h1]
  have d2 : decide (p1 ≤ t) = true := by simp [h2]
  have d3 : decide (f1 - f ≤ 0) = true := by simp; omega
  have d4 : decide (0 ≤ f1) = true := by simp [f3]
  have d5 : decide (4 * q1 ≤ f) = true := by simp; omega
  have w3 : IntKind.i64.wrap (f1 - f) = f1 - f := by rw [IntKind.wrap_i64]; omega
  have w5 : IntKind.i64.wrap (4 * q1) = 4 * q1 := by rw [IntKind.wrap_i64]; omega
  go_enter Try.func4, Try.ntmps4
  go_upto_region 1 with fail
  generalize hW : World.alloc w (.cells #[.bool true, .int .i64 m, .int .i64 f] 23) = W_r
  have K_r : Kept w W_r := by subst hW; exact (Kept.refl _).alloc _ _
  have H_r := Lib.hid (show W_r.cell? ⟨w.heap.size, 0, none⟩ = some (.bool true) ∧ W_r.cell? ⟨w.heap.size, 1, none⟩ = some (.int .i64 m) ∧ W_r.cell? ⟨w.heap.size, 2, none⟩ = some (.int .i64 f) from by subst hW; simp [go_sem])
  clear hW
  generalize w.heap.size = g_r at *
  go_wp2_with fail
  refine (awake06 _).mono ?_
  rintro e w1 ⟨rfl, k1⟩
  obtain ⟨c_r0, c_r1, c_r2⟩ := Kept.all3 (show Kept W_r w1 from (by (repeat (first | with_reducible exact Kept.refl _ | with_reducible apply Kept.drew | with_reducible apply Kept.alloc | ((with_reducible apply Kept.set); focus (simp <;> omega)) | ((with_reducible apply Kept.via); focus with_reducible assumption))))) H_r
  go_wp2_with fail
  refine (S1'.out _).mono ?_
  rintro e w2 ⟨rfl, k2⟩
  clear c_r0 c_r1 c_r2
  go_upto_region 3 with fail
  generalize hW : World.alloc w2 (.cells #[.bool true, .int .i64 m1, .int .i64 f1] 23) = W_x
  have K_x : Kept w2 W_x := by subst hW; exact (Kept.refl _).alloc _ _
  have H_x := Lib.hid (show W_x.cell? ⟨w2.heap.size, 0, none⟩ = some (.bool true) ∧ W_x.cell? ⟨w2.heap.size, 1, none⟩ = some (.int .i64 m1) ∧ W_x.cell? ⟨w2.heap.size, 2, none⟩ = some (.int .i64 f1) from by subst hW; simp [go_sem])
  clear hW
  generalize w2.heap.size = g_x at *
  obtain ⟨c_r0, c_r1, c_r2⟩ := Kept.all3 (show Kept W_r W_x from (by (repeat (first | with_reducible exact Kept.refl _ | with_reducible apply Kept.drew | with_reducible apply Kept.alloc | ((with_reducible apply Kept.set); focus (simp <;> omega)) | ((with_reducible apply Kept.via); focus with_reducible assumption))))) H_r
  obtain ⟨c_x0, c_x1, c_x2⟩ := Kept.all3 (show Kept W_x W_x from (by (repeat (first | with_reducible exact Kept.refl _ | with_reducible apply Kept.drew | with_reducible apply Kept.alloc | ((with_reducible apply Kept.set); focus (simp <;> omega)) | ((with_reducible apply Kept.via); focus with_reducible assumption))))) H_x
  go_wp2_with fail
  refine (M0'.out _).mono ?_
  rintro e w3 ⟨rfl, k3⟩
  clear c_r0 c_r1 c_r2 c_x0 c_x1 c_x2
  go_upto_region 9 with fail
  have B_r := Lib.hid (Kept.all3 (show Kept W_r w3 from (by (repeat (first | with_reducible exact Kept.refl _ | with_reducible apply Kept.drew | with_reducible apply Kept.alloc | ((with_reducible apply Kept.set); focus (simp <;> omega)) | ((with_reducible apply Kept.via); focus with_reducible assumption))))) H_r)
  have B_x := Lib.hid (Kept.all3 (show Kept W_x w3 from (by (repeat (first | with_reducible exact Kept.refl _ | with_reducible apply Kept.drew | with_reducible apply Kept.alloc | ((with_reducible apply Kept.set); focus (simp <;> omega)) | ((with_reducible apply Kept.via); focus with_reducible assumption))))) H_x)
  have kall : Kept w w3 := (by (repeat (first | with_reducible exact Kept.refl _ | with_reducible apply Kept.drew | with_reducible apply Kept.alloc | ((with_reducible apply Kept.set); focus (simp <;> omega)) | ((with_reducible apply Kept.via); focus with_reducible assumption))))
  obtain ⟨q_r0, q_r1, q_r2⟩ := kw3 B_r
  obtain ⟨q_x0, q_x1, q_x2⟩ := kw3 B_x
  clear B_r B_x
  refine wp_region_kept (by kernel_rfl) (by as_aux_lemma => kernel_rfl) ?_
  repeat (go_big_quiet_step (first | (with_reducible exact kept_of (M1'.out _)) | (with_reducible exact kept_of (F1'.out _)) | (with_reducible exact kept_of (C1'.out _))))
  refine wpQuiet_nil ?_
  intro wq hw'
  have kq : Kept w3 wq := by obtain ⟨p, rfl⟩ := hw'; exact p.k
  clear hw'
  go_wp2
  go_ret
  exact ⟨rfl, kall.trans kq⟩
theorem rttBetween_walk (b : Bool) (m f t : Int) (w : World) : Calls Try.prog 4 #[.agg #[.bool b, .int .i64 m, .int .i64 f], .int .i64 t] w fun e w' => e = .returned (.bool true) ∧ Kept w w' := by
  obtain ⟨b1, m1, f1, er, s⟩ := sample_ex b m f t
  have S : ∀ w, Calls Try.prog 10 #[.agg #[.bool b, .int .i64 m, .int .i64 f], .int .i64 t] w fun e w' => e = .returned (.tuple #[.agg #[.bool b1, .int .i64 m1, .int .i64 f1], .int .i64 er]) ∧ Kept w w' := fun w => Sample_ok s w
  have my := fun h => sample_may s h
  rcases s with ⟨hn, rfl, rfl, rfl, rfl⟩ | ⟨hr, ht, rfl, rfl, rfl, rfl, rfl⟩ | ⟨hr, ht, rfl, rfl, rfl, rfl, rfl⟩
  · by_cases hr : MayRtt b1 m1 f1
    · by_cases h0 : t < 1
      · exact between_low h0 S (fun w => Check_yes hr w) w
      · exact between_high (by omega) (by have : ¬ IsTrip t := fun hh => hn ⟨hr, hh⟩; unfold IsTrip at this; omega) S (fun w => Check_yes hr w) w
    · exact between_bad S (fun w => Check_no hr w) w
  · obtain ⟨t0, t1⟩ := ht
    exact between_first t0 t1 S (fun w => Mean_ok ⟨by unfold In64; omega, by rw [Int.tdiv_eq_ediv_of_nonneg (by omega)]; omega⟩ w) (fun w => Far_ok ⟨by unfold In64; omega, by rw [Int.tdiv_eq_ediv_of_nonneg (by omega)]; omega⟩ w) (fun w => Check_yes (my hr) w) w
  · have hm := my hr
    have k : 8 ≤ m ∧ m ≤ 8589934592 ∧ 0 ≤ f ∧ f ≤ 4294967296 := by unfold MayRtt at hr; simpa using hr
    have k2 : 8 ≤ m + t - m / 8 ∧ m + t - m / 8 ≤ 8589934592 ∧ 0 ≤ f + gapOf t (m / 8) - f / 4 ∧ f + gapOf t (m / 8) - f / 4 ≤ 4294967296 := by unfold MayRtt at hm; simpa using hm
    obtain ⟨k0, k1, k4, k5⟩ := k
    obtain ⟨j0, j1, j2, j3⟩ := k2
    obtain ⟨t0, t1⟩ := ht
    rcases Int.lt_trichotomy (m / 8) t with ho | ho | ho
    · have e : gapOf t (m / 8) = t - m / 8 := by unfold gapOf; rw [if_neg (by omega)]
      rw [e] at j2 j3 hm S
      exact between_lt t0 t1 (by omega) (by omega) k4 k5 j2 j3 (show 0 ≤ (f + (t - m / 8) - f / 4) / 4 by omega) (by omega) (show m / 8 ≤ (m + t - m / 8) / 8 by omega) (by omega) (by omega) (by omega) ho S (fun w => mean_val hr w) (fun w => mean_val hm w) (fun w => far_val hm w) (fun w => Check_yes hm w) w
    · have e : gapOf t (m / 8) = 0 := by unfold gapOf; rw [if_neg (by omega)]; omega
      rw [e] at j2 j3 hm S
      have V := fun w => mean_val hr w
      rw [ho] at V hm S j0 j1
      exact between_eq t0 t1 k4 k5 j2 j3 (show 0 ≤ (f + 0 - f / 4) / 4 by omega) (by omega) (show t ≤ (m + t - t) / 8 by omega) (by omega) (by omega) (by omega) S V (fun w => mean_val hm w) (fun w => far_val hm w) (fun w => Check_yes hm w) w
    · have e : gapOf t (m / 8) = m / 8 - t := by unfold gapOf; rw [if_pos ho]
      rw [e] at j2 j3 hm S
      exact between_gt t0 t1 (by omega) (by omega) k4 k5 j2 j3 (show 0 ≤ (f + (m / 8 - t) - f / 4) / 4 by omega) (by omega) (show t ≤ (m + t - m / 8) / 8 by omega) (by omega) (by omega) (by omega) ho S (fun w => mean_val hr w) (fun w => mean_val hm w) (fun w => far_val hm w) (fun w => Check_yes hm w) w
end Go.Proofs.Ythjchmjpiijfnaa
