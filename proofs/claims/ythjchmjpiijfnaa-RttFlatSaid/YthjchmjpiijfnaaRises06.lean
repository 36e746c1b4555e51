/-
  The walk of RttRises: it answers true, whatever it is given.
-/
import Derived.Test.YthjchmjpiijfnaaAwake06
import Derived.Deep.DeepCutAuto
namespace Go.Proofs.Ythjchmjpiijfnaa
open Go.RowKit Go.BigFrame
set_option linter.unusedVariables false

set_option maxRecDepth 100000 in
set_option maxHeartbeats 1600000 in
theorem rises_lt_low {b b1 b2 : Bool} {m f a c m1 f1 m2 f2 er : Int} (ho : a < c)  (S1 : ∀ w, Calls Try.prog 10 #[.agg #[.bool b, .int .i64 m, .int .i64 f], .int .i64 a] w fun e w' => e = .returned (.tuple #[.agg #[.bool b1, .int .i64 m1, .int .i64 f1], .int .i64 201]) ∧ Kept w w') (S2 : ∀ w, Calls Try.prog 10 #[.agg #[.bool b, .int .i64 m, .int .i64 f], .int .i64 c] w fun e w' => e = .returned (.tuple #[.agg #[.bool b2, .int .i64 m2, .int .i64 f2], .int .i64 er]) ∧ Kept w w') (w : World) :
    Calls Try.prog 6 #[.agg #[.bool b, .int .i64 m, .int .i64 f], .int .i64 a, .int .i64 c] w fun e w' => e = .returned (.bool true) ∧ Kept w w' := by
  have S1' := Lib.hid S1
  have S2' := Lib.hid S2
  clear S1 S2
  have g1 : min a c = a := by omega
  have g2 : max a c = c := by omega
  go_enter Try.func6, Try.ntmps6
  go_upto_region 1 with fail
  generalize hW : World.alloc w (.cells #[.bool b, .int .i64 m, .int .i64 f] 23) = W_r
  have K_r : Kept w W_r := by subst hW; exact (Kept.refl _).alloc _ _
  have H_r := Lib.hid (show W_r.cell? ⟨w.heap.size, 0, none⟩ = some (.bool b) ∧ W_r.cell? ⟨w.heap.size, 1, none⟩ = some (.int .i64 m) ∧ W_r.cell? ⟨w.heap.size, 2, none⟩ = some (.int .i64 f) from by subst hW; simp [go_sem])
  clear hW
  generalize w.heap.size = g_r at *
  go_wp2_with fail
  refine (awake06 _).mono ?_
  rintro e w1 ⟨rfl, k1⟩
  obtain ⟨c_r0, c_r1, c_r2⟩ := Kept.all3 (show Kept W_r w1 from (by (repeat (first | with_reducible exact Kept.refl _ | with_reducible apply Kept.drew | with_reducible apply Kept.alloc | ((with_reducible apply Kept.set); focus (simp <;> omega)) | ((with_reducible apply Kept.via); focus with_reducible assumption))))) H_r
  go_wp2_with fail
  refine (S1'.out _).mono ?_
  rintro e w2 ⟨rfl, k2⟩
  clear c_r0 c_r1 c_r2
  go_upto_region 3 with fail
  generalize hW : World.alloc w2 (.cells #[.bool b1, .int .i64 m1, .int .i64 f1] 23) = W_x
  have K_x : Kept w2 W_x := by subst hW; exact (Kept.refl _).alloc _ _
  have H_x := Lib.hid (show W_x.cell? ⟨w2.heap.size, 0, none⟩ = some (.bool b1) ∧ W_x.cell? ⟨w2.heap.size, 1, none⟩ = some (.int .i64 m1) ∧ W_x.cell? ⟨w2.heap.size, 2, none⟩ = some (.int .i64 f1) from by subst hW; simp [go_sem])
  clear hW
  generalize w2.heap.size = g_x at *
  obtain ⟨c_r0, c_r1, c_r2⟩ := Kept.all3 (show Kept W_r W_x from (by (repeat (first | with_reducible exact Kept.refl _ | with_reducible apply Kept.drew | with_reducible apply Kept.alloc | ((with_reducible apply Kept.set); focus (simp <;> omega)) | ((with_reducible apply Kept.via); focus with_reducible assumption))))) H_r
  go_wp2_with fail
  refine (S2'.out _).mono ?_
  rintro e w3 ⟨rfl, k3⟩
  clear c_r0 c_r1 c_r2
  go_upto_region 4 with fail
  generalize hW : World.alloc w3 (.cells #[.bool b2, .int .i64 m2, .int .i64 f2] 23) = W_y
  have K_y : Kept w3 W_y := by subst hW; exact (Kept.refl _).alloc _ _
  have H_y := Lib.hid (show W_y.cell? ⟨w3.heap.size, 0, none⟩ = some (.bool b2) ∧ W_y.cell? ⟨w3.heap.size, 1, none⟩ = some (.int .i64 m2) ∧ W_y.cell? ⟨w3.heap.size, 2, none⟩ = some (.int .i64 f2) from by subst hW; simp [go_sem])
  clear hW
  generalize w3.heap.size = g_y at *
  have B_x := Lib.hid (Kept.all3 (show Kept W_x W_y from (by (repeat (first | with_reducible exact Kept.refl _ | with_reducible apply Kept.drew | with_reducible apply Kept.alloc | ((with_reducible apply Kept.set); focus (simp <;> omega)) | ((with_reducible apply Kept.via); focus with_reducible assumption))))) H_x)
  have B_y := Lib.hid (Kept.all3 (show Kept W_y W_y from (by (repeat (first | with_reducible exact Kept.refl _ | with_reducible apply Kept.drew | with_reducible apply Kept.alloc | ((with_reducible apply Kept.set); focus (simp <;> omega)) | ((with_reducible apply Kept.via); focus with_reducible assumption))))) H_y)
  have kall : Kept w W_y := (by (repeat (first | with_reducible exact Kept.refl _ | with_reducible apply Kept.drew | with_reducible apply Kept.alloc | ((with_reducible apply Kept.set); focus (simp <;> omega)) | ((with_reducible apply Kept.via); focus with_reducible assumption))))
  obtain ⟨q_x0, q_x1, q_x2⟩ := kw3 B_x
  obtain ⟨q_y0, q_y1, q_y2⟩ := kw3 B_y
  clear B_x B_y
  refine wp_region_kept (by kernel_rfl) (by as_aux_lemma => kernel_rfl) ?_
  repeat (go_big_quiet_step (first | fail))
  refine wpQuiet_nil ?_
  intro wq hw'
  have kq : Kept W_y wq := by obtain ⟨p, rfl⟩ := hw'; exact p.k
  clear hw'
  go_wp2
  go_ret
  exact ⟨rfl, kall.trans kq⟩
set_option maxRecDepth 100000 in
set_option maxHeartbeats 1600000 in
theorem rises_lt_high {b b1 b2 : Bool} {m f a c m1 f1 m2 f2 : Int} (ho : a < c)  (S1 : ∀ w, Calls Try.prog 10 #[.agg #[.bool b, .int .i64 m, .int .i64 f], .int .i64 a] w fun e w' => e = .returned (.tuple #[.agg #[.bool b1, .int .i64 m1, .int .i64 f1], .int .i64 0]) ∧ Kept w w') (S2 : ∀ w, Calls Try.prog 10 #[.agg #[.bool b, .int .i64 m, .int .i64 f], .int .i64 c] w fun e w' => e = .returned (.tuple #[.agg #[.bool b2, .int .i64 m2, .int .i64 f2], .int .i64 201]) ∧ Kept w w') (w : World) :
    Calls Try.prog 6 #[.agg #[.bool b, .int .i64 m, .int .i64 f], .int .i64 a, .int .i64 c] w fun e w' => e = .returned (.bool true) ∧ Kept w w' := by
  have S1' := Lib.hid S1
  have S2' := Lib.hid S2
  clear S1 S2
  have g1 : min a c = a := by omega
  have g2 : max a c = c := by omega
  go_enter Try.func6, Try.ntmps6
  go_upto_region 1 with fail
  generalize hW : World.alloc w (.cells #[.bool b, .int .i64 m, .int .i64 f] 23) = W_r
  have K_r : Kept w W_r := by subst hW; exact (Kept.refl _).alloc _ _
  have H_r := Lib.hid (show W_r.cell? ⟨w.heap.size, 0, none⟩ = some (.bool b) ∧ W_r.cell? ⟨w.heap.size, 1, none⟩ = some (.int .i64 m) ∧ W_r.cell? ⟨w.heap.size, 2, none⟩ = some (.int .i64 f) from by subst hW; simp [go_sem])
  clear hW
  generalize w.heap.size = g_r at *
  go_wp2_with fail
  refine (awake06 _).mono ?_
  rintro e w1 ⟨rfl, k1⟩
  obtain ⟨c_r0, c_r1, c_r2⟩ := Kept.all3 (show Kept W_r w1 from (by (repeat (first | with_reducible exact Kept.refl _ | with_reducible apply Kept.drew | with_reducible apply Kept.alloc | ((with_reducible apply Kept.set); focus (simp <;> omega)) | ((with_reducible apply Kept.via); focus with_reducible assumption))))) H_r
  go_wp2_with fail
  refine (S1'.out _).mono ?_
  rintro e w2 ⟨rfl, k2⟩
  clear c_r0 c_r1 c_r2
  go_upto_region 3 with fail
  generalize hW : World.alloc w2 (.cells #[.bool b1, .int .i64 m1, .int .i64 f1] 23) = W_x
  have K_x : Kept w2 W_x := by subst hW; exact (Kept.refl _).alloc _ _
  have H_x := Lib.hid (show W_x.cell? ⟨w2.heap.size, 0, none⟩ = some (.bool b1) ∧ W_x.cell? ⟨w2.heap.size, 1, none⟩ = some (.int .i64 m1) ∧ W_x.cell? ⟨w2.heap.size, 2, none⟩ = some (.int .i64 f1) from by subst hW; simp [go_sem])
  clear hW
  generalize w2.heap.size = g_x at *
  obtain ⟨c_r0, c_r1, c_r2⟩ := Kept.all3 (show Kept W_r W_x from (by (repeat (first | with_reducible exact Kept.refl _ | with_reducible apply Kept.drew | with_reducible apply Kept.alloc | ((with_reducible apply Kept.set); focus (simp <;> omega)) | ((with_reducible apply Kept.via); focus with_reducible assumption))))) H_r
  go_wp2_with fail
  refine (S2'.out _).mono ?_
  rintro e w3 ⟨rfl, k3⟩
  clear c_r0 c_r1 c_r2
  go_upto_region 4 with fail
  generalize hW : World.alloc w3 (.cells #[.bool b2, .int .i64 m2, .int .i64 f2] 23) = W_y
  have K_y : Kept w3 W_y := by subst hW; exact (Kept.refl _).alloc _ _
  have H_y := Lib.hid (show W_y.cell? ⟨w3.heap.size, 0, none⟩ = some (.bool b2) ∧ W_y.cell? ⟨w3.heap.size, 1, none⟩ = some (.int .i64 m2) ∧ W_y.cell? ⟨w3.heap.size, 2, none⟩ = some (.int .i64 f2) from by subst hW; simp [go_sem])
  clear hW
  generalize w3.heap.size = g_y at *
  have B_x := Lib.hid (Kept.all3 (show Kept W_x W_y from (by (repeat (first | with_reducible exact Kept.refl _ | with_reducible apply Kept.drew | with_reducible apply Kept.alloc | ((with_reducible apply Kept.set); focus (simp <;> omega)) | ((with_reducible apply Kept.via); focus with_reducible assumption))))) H_x)
  have B_y := Lib.hid (Kept.all3 (show Kept W_y W_y from (by (repeat (first | with_reducible exact Kept.refl _ | with_reducible apply Kept.drew | with_reducible apply Kept.alloc | ((with_reducible apply Kept.set); focus (simp <;> omega)) | ((with_reducible apply Kept.via); focus with_reducible assumption))))) H_y)
  have kall : Kept w W_y := (by (repeat (first | with_reducible exact Kept.refl _ | with_reducible apply Kept.drew | with_reducible apply Kept.alloc | ((with_reducible apply Kept.set); focus (simp <;> omega)) | ((with_reducible apply Kept.via); focus with_reducible assumption))))
  obtain ⟨q_x0, q_x1, q_x2⟩ := kw3 B_x
  obtain ⟨q_y0, q_y1, q_y2⟩ := kw3 B_y
  clear B_x B_y
  refine wp_region_kept (by kernel_rfl) (by as_aux_lemma => kernel_rfl) ?_
  repeat (go_big_quiet_step (first | fail))
  refine wpQuiet_nil ?_
  intro wq hw'
  have kq : Kept W_y wq := by obtain ⟨p, rfl⟩ := hw'; exact p.k
  clear hw'
  go_wp2
  go_ret
  exact ⟨rfl, kall.trans kq⟩
set_option maxRecDepth 100000 in
set_option maxHeartbeats 1600000 in
theorem rises_lt_both {b b1 b2 : Bool} {m f a c m1 f1 m2 f2 p1 p2 : Int} (ho : a < c) (h1 : m1 ≤ m2) (h2 : p1 ≤ p2) (S1 : ∀ w, Calls Try.prog 10 #[.agg #[.bool b, .int .i64 m, .int .i64 f], .int .i64 a] w fun e w' => e = .returned (.tuple #[.agg #[.bool b1, .int .i64 m1, .int .i64 f1], .int .i64 0]) ∧ Kept w w') (S2 : ∀ w, Calls Try.prog 10 #[.agg #[.bool b, .int .i64 m, .int .i64 f], .int .i64 c] w fun e w' => e = .returned (.tuple #[.agg #[.bool b2, .int .i64 m2, .int .i64 f2], .int .i64 0]) ∧ Kept w w') (M1 : ∀ w, Calls Try.prog 14 #[.agg #[.bool b1, .int .i64 m1, .int .i64 f1]] w fun e w' => e = .returned (.int .i64 p1) ∧ Kept w w') (M2 : ∀ w, Calls Try.prog 14 #[.agg #[.bool b2, .int .i64 m2, .int .i64 f2]] w fun e w' => e = .returned (.int .i64 p2) ∧ Kept w w') (w : World) :
    Calls Try.prog 6 #[.agg #[.bool b, .int .i64 m, .int .i64 f], .int .i64 a, .int .i64 c] w fun e w' => e = .returned (.bool true) ∧ Kept w w' := by
  have S1' := Lib.hid S1
  have S2' := Lib.hid S2
  have M1' := Lib.hid M1
  have M2' := Lib.hid M2
  clear S1 S2 M1 M2
  have g1 : min a c = a := by omega
  have g2 : max a c = c := by omega
  have d1 : decide (m1 ≤ m2) = true := by simp [h1]
  have d2 : decide (p1 ≤ p2) = true := by simp [h2]
  go_enter Try.func6, Try.ntmps6
  go_upto_region 1 with fail
  generalize hW : World.alloc w (.cells #[.bool b, .int .i64 m, .int .i64 f] 23) = W_r
  have K_r : Kept w W_r := by subst hW; exact (Kept.refl _).alloc _ _
  have H_r := Lib.hid (show W_r.cell? ⟨w.heap.size, 0, none⟩ = some (.bool b) ∧ W_r.cell? ⟨w.heap.size, 1, none⟩ = some (.int .i64 m) ∧ W_r.cell? ⟨w.heap.size, 2, none⟩ = some (.int .i64 f) from by subst hW; simp [go_sem])
  clear hW
  generalize w.heap.size = g_r at *
  go_wp2_with fail
  refine (awake06 _).mono ?_
  rintro e w1 ⟨rfl, k1⟩
  obtain ⟨c_r0, c_r1, c_r2⟩ := Kept.all3 (show Kept W_r w1 from (by (repeat (first | with_reducible exact Kept.refl _ | with_reducible apply Kept.drew | with_reducible apply Kept.alloc | ((with_reducible apply Kept.set); focus (simp <;> omega)) | ((with_reducible apply Kept.via); focus with_reducible assumption))))) H_r
  go_wp2_with fail
  refine (S1'.out _).mono ?_
  rintro e w2 ⟨rfl, k2⟩
  clear c_r0 c_r1 c_r2
  go_upto_region 3 with fail
  generalize hW : World.alloc w2 (.cells #[.bool b1, .int .i64 m1, .int .i64 f1] 23) = W_x
  have K_x : Kept w2 W_x := by subst hW; exact (Kept.refl _).alloc _ _
  have H_x := Lib.hid (show W_x.cell? ⟨w2.heap.size, 0, none⟩ = some (.bool b1) ∧ W_x.cell? ⟨w2.heap.size, 1, none⟩ = some (.int .i64 m1) ∧ W_x.cell? ⟨w2.heap.size, 2, none⟩ = some (.int .i64 f1) from by subst hW; simp [go_sem])
  clear hW
  generalize w2.heap.size = g_x at *
  obtain ⟨c_r0, c_r1, c_r2⟩ := Kept.all3 (show Kept W_r W_x from (by (repeat (first | with_reducible exact Kept.refl _ | with_reducible apply Kept.drew | with_reducible apply Kept.alloc | ((with_reducible apply Kept.set); focus (simp <;> omega)) | ((with_reducible apply Kept.via); focus with_reducible assumption))))) H_r
  go_wp2_with fail
  refine (S2'.out _).mono ?_
  rintro e w3 ⟨rfl, k3⟩
  clear c_r0 c_r1 c_r2
  go_upto_region 4 with fail
  generalize hW : World.alloc w3 (.cells #[.bool b2, .int .i64 m2, .int .i64 f2] 23) = W_y
  have K_y : Kept w3 W_y := by subst hW; exact (Kept.refl _).alloc _ _
  have H_y := Lib.hid (show W_y.cell? ⟨w3.heap.size, 0, none⟩ = some (.bool b2) ∧ W_y.cell? ⟨w3.heap.size, 1, none⟩ = some (.int .i64 m2) ∧ W_y.cell? ⟨w3.heap.size, 2, none⟩ = some (.int .i64 f2) from by subst hW; simp [go_sem])
  clear hW
  generalize w3.heap.size = g_y at *
  have B_x := Lib.hid (Kept.all3 (show Kept W_x W_y from (by (repeat (first | with_reducible exact Kept.refl _ | with_reducible apply Kept.drew | with_reducible apply Kept.alloc | ((with_reducible apply Kept.set); focus (simp <;> omega)) | ((with_reducible apply Kept.via); focus with_reducible assumption))))) H_x)
  have B_y := Lib.hid (Kept.all3 (show Kept W_y W_y from (by (repeat (first | with_reducible exact Kept.refl _ | with_reducible apply Kept.drew | with_reducible apply Kept.alloc | ((with_reducible apply Kept.set); focus (simp <;> omega)) | ((with_reducible apply Kept.via); focus with_reducible assumption))))) H_y)
  have kall : Kept w W_y := (by (repeat (first | with_reducible exact Kept.refl _ | with_reducible apply Kept.drew | with_reducible apply Kept.alloc | ((with_reducible apply Kept.set); focus (simp <;> omega)) | ((with_reducible apply Kept.via); focus with_reducible assumption))))
  obtain ⟨q_x0, q_x1, q_x2⟩ := kw3 B_x
  obtain ⟨q_y0, q_y1, q_y2⟩ := kw3 B_y
  clear B_x B_y
  refine wp_region_kept (by kernel_rfl) (by as_aux_lemma => kernel_rfl) ?_
  repeat (go_big_quiet_step (first | (with_reducible exact kept_of (M1'.out _)) | (with_reducible exact kept_of (M2'.out _))))
  refine wpQuiet_nil ?_
  intro wq hw'
  have kq : Kept W_y wq := by obtain ⟨p, rfl⟩ := hw'; exact p.k
  clear hw'
  go_wp2
  go_ret
  exact ⟨rfl, kall.trans kq⟩
set_option maxRecDepth 100000 in
set_option maxHeartbeats 1600000 in
theorem rises_eq_low {b b1 b2 : Bool} {m f a m1 f1 m2 f2 er : Int}  (S1 : ∀ w, Calls Try.prog 10 #[.agg #[.bool b, .int .i64 m, .int .i64 f], .int .i64 a] w fun e w' => e = .returned (.tuple #[.agg #[.bool b1, .int .i64 m1, .int .i64 f1], .int .i64 201]) ∧ Kept w w') (S2 : ∀ w, Calls Try.prog 10 #[.agg #[.bool b, .int .i64 m, .int .i64 f], .int .i64 a] w fun e w' => e = .returned (.tuple #[.agg #[.bool b2, .int .i64 m2, .int .i64 f2], .int .i64 er]) ∧ Kept w w') (w : World) :
    Calls Try.prog 6 #[.agg #[.bool b, .int .i64 m, .int .i64 f], .int .i64 a, .int .i64 a] w fun e w' => e = .returned (.bool true) ∧ Kept w w' := by
  have S1' := Lib.hid S1
  have S2' := Lib.hid S2
  clear S1 S2
  go_enter Try.func6, Try.ntmps6
  go_upto_region 1 with fail
  generalize hW : World.alloc w (.cells #[.bool b, .int .i64 m, .int .i64 f] 23) = W_r
  have K_r : Kept w W_r := by subst hW; exact (Kept.refl _).alloc _ _
  have H_r := Lib.hid (show W_r.cell? ⟨w.heap.size, 0, none⟩ = some (.bool b) ∧ W_r.cell? ⟨w.heap.size, 1, none⟩ = some (.int .i64 m) ∧ W_r.cell? ⟨w.heap.size, 2, none⟩ = some (.int .i64 f) from by subst hW; simp [go_sem])
  clear hW
  generalize w.heap.size = g_r at *
  go_wp2_with fail
  refine (awake06 _).mono ?_
  rintro e w1 ⟨rfl, k1⟩
  obtain ⟨c_r0, c_r1, c_r2⟩ := Kept.all3 (show Kept W_r w1 from (by (repeat (first | with_reducible exact Kept.refl _ | with_reducible apply Kept.drew | with_reducible apply Kept.alloc | ((with_reducible apply Kept.set); focus (simp <;> omega)) | ((with_reducible apply Kept.via); focus with_reducible assumption))))) H_r
  go_wp2_with fail
  refine (S1'.out _).mono ?_
  rintro e w2 ⟨rfl, k2⟩
  clear c_r0 c_r1 c_r2
  go_upto_region 3 with fail
  generalize hW : World.alloc w2 (.cells #[.bool b1, .int .i64 m1, .int .i64 f1] 23) = W_x
  have K_x : Kept w2 W_x := by subst hW; exact (Kept.refl _).alloc _ _
  have H_x := Lib.hid (show W_x.cell? ⟨w2.heap.size, 0, none⟩ = some (.bool b1) ∧ W_x.cell? ⟨w2.heap.size, 1, none⟩ = some (.int .i64 m1) ∧ W_x.cell? ⟨w2.heap.size, 2, none⟩ = some (.int .i64 f1) from by subst hW; simp [go_sem])
  clear hW
  generalize w2.heap.size = g_x at *
  obtain ⟨c_r0, c_r1, c_r2⟩ := Kept.all3 (show Kept W_r W_x from (by (repeat (first | with_reducible exact Kept.refl _ | with_reducible apply Kept.drew | with_reducible apply Kept.alloc | ((with_reducible apply Kept.set); focus (simp <;> omega)) | ((with_reducible apply Kept.via); focus with_reducible assumption))))) H_r
  go_wp2_with fail
  refine (S2'.out _).mono ?_
  rintro e w3 ⟨rfl, k3⟩
  clear c_r0 c_r1 c_r2
  go_upto_region 4 with fail
  generalize hW : World.alloc w3 (.cells #[.bool b2, .int .i64 m2, .int .i64 f2] 23) = W_y
  have K_y : Kept w3 W_y := by subst hW; exact (Kept.refl _).alloc _ _
  have H_y := Lib.hid (show W_y.cell? ⟨w3.heap.size, 0, none⟩ = some (.bool b2) ∧ W_y.cell? ⟨w3.heap.size, 1, none⟩ = some (.int .i64 m2) ∧ W_y.cell? ⟨w3.heap.size, 2, none⟩ = some (.int .i64 f2) from by subst hW; simp [go_sem])
  clear hW
  generalize w3.heap.size = g_y at *
  have B_x := Lib.hid (Kept.all3 (show Kept W_x W_y from (by (repeat (first | with_reducible exact Kept.refl _ | with_reducible apply Kept.drew | with_reducible apply Kept.alloc | ((with_reducible apply Kept.set); focus (simp <;> omega)) | ((with_reducible apply Kept.via); focus with_reducible assumption))))) H_x)
  have B_y := Lib.hid (Kept.all3 (show Kept W_y W_y from (by (repeat (first | with_reducible exact Kept.refl _ | with_reducible apply Kept.drew | with_reducible apply Kept.alloc | ((with_reducible apply Kept.set); focus (simp <;> omega)) | ((with_reducible apply Kept.via); focus with_reducible assumption))))) H_y)
  have kall : Kept w W_y := (by (repeat (first | with_reducible exact Kept.refl _ | with_reducible apply Kept.drew | with_reducible apply Kept.alloc | ((with_reducible apply Kept.set); focus (simp <;> omega)) | ((with_reducible apply Kept.via); focus with_reducible assumption))))
  obtain ⟨q_x0, q_x1, q_x2⟩ := kw3 B_x
  obtain ⟨q_y0, q_y1, q_y2⟩ := kw3 B_y
  clear B_x B_y
  refine wp_region_kept (by kernel_rfl) (by as_aux_lemma => kernel_rfl) ?_
  repeat (go_big_quiet_step (first | fail))
  refine wpQuiet_nil ?_
  intro wq hw'
  have kq : Kept W_y wq := by obtain ⟨p, rfl⟩ := hw'; exact p.k
  clear hw'
  go_wp2
  go_ret
  exact ⟨rfl, kall.trans kq⟩
set_option maxRecDepth 100000 in
set_option maxHeartbeats 1600000 in
theorem rises_eq_high {b b1 b2 : Bool} {m f a m1 f1 m2 f2 : Int}  (S1 : ∀ w, Calls Try.prog 10 #[.agg #[.bool b, .int .i64 m, .int .i64 f], .int .i64 a] w fun e w' => e = .returned (.tuple #[.agg #[.bool b1, .int .i64 m1, .int .i64 f1], .int .i64 0]) ∧ Kept w w') (S2 : ∀ w, Calls Try.prog 10 #[.agg #[.bool b, .int .i64 m, .int .i64 f], .int .i64 a] w fun e w' => e = .returned (.tuple #[.agg #[.bool b2, .int .i64 m2, .int .i64 f2], .int .i64 201]) ∧ Kept w w') (w : World) :
    Calls Try.prog 6 #[.agg #[.bool b, .int .i64 m, .int .i64 f], .int .i64 a, .int .i64 a] w fun e w' => e = .returned (.bool true) ∧ Kept w w' := by
  have S1' := Lib.hid S1
  have S2' := Lib.hid S2
  clear S1 S2
  go_enter Try.func6, Try.ntmps6
  go_upto_region 1 with fail
  generalize hW : World.alloc w (.cells #[.bool b, .int .i64 m, .int .i64 f] 23) = W_r
  have K_r : Kept w W_r := by subst hW; exact (Kept.refl _).alloc _ _
  have H_r := Lib.hid (show W_r.cell? ⟨w.heap.size, 0, none⟩ = some (.bool b) ∧ W_r.cell? ⟨w.heap.size, 1, none⟩ = some (.int .i64 m) ∧ W_r.cell? ⟨w.heap.size, 2, none⟩ = some (.int .i64 f) from by subst hW; simp [go_sem])
  clear hW
  generalize w.heap.size = g_r at *
  go_wp2_with fail
  refine (awake06 _).mono ?_
  rintro e w1 ⟨rfl, k1⟩
  obtain ⟨c_r0, c_r1, c_r2⟩ := Kept.all3 (show Kept W_r w1 from (by (repeat (first | with_reducible exact Kept.refl _ | with_reducible apply Kept.drew | with_reducible apply Kept.alloc | ((with_reducible apply Kept.set); focus (simp <;> omega)) | ((with_reducible apply Kept.via); focus with_reducible assumption))))) H_r
  go_wp2_with fail
  refine (S1'.out _).mono ?_
  rintro e w2 ⟨rfl, k2⟩
  clear c_r0 c_r1 c_r2
  go_upto_region 3 with fail
  generalize hW : World.alloc w2 (.cells #[.bool b1, .int .i64 m1, .int .i64 f1] 23) = W_x
  have K_x : Kept w2 W_x := by subst hW; exact (Kept.refl _).alloc _ _
  have H_x := Lib.hid (show W_x.cell? ⟨w2.heap.size, 0, none⟩ = some (.bool b1) ∧ W_x.cell? ⟨w2.heap.size, 1, none⟩ = some (.int .i64 m1) ∧ W_x.cell? ⟨w2.heap.size, 2, none⟩ = some (.int .i64 f1) from by subst hW; simp [go_sem])
  clear hW
  generalize w2.heap.size = g_x at *
  obtain ⟨c_r0, c_r1, c_r2⟩ := Kept.all3 (show Kept W_r W_x from (by (repeat (first | with_reducible exact Kept.refl _ | with_reducible apply Kept.drew | with_reducible apply Kept.alloc | ((with_reducible apply Kept.set); focus (simp <;> omega)) | ((with_reducible apply Kept.via); focus with_reducible assumption))))) H_r
  go_wp2_with fail
  refine (S2'.out _).mono ?_
  rintro e w3 ⟨rfl, k3⟩
  clear c_r0 c_r1 c_r2
  go_upto_region 4 with fail
  generalize hW : World.alloc w3 (.cells #[.bool b2, .int .i64 m2, .int .i64 f2] 23) = W_y
  have K_y : Kept w3 W_y := by subst hW; exact (Kept.refl _).alloc _ _
  have H_y := Lib.hid (show W_y.cell? ⟨w3.heap.size, 0, none⟩ = some (.bool b2) ∧ W_y.cell? ⟨w3.heap.size, 1, none⟩ = some (.int .i64 m2) ∧ W_y.cell? ⟨w3.heap.size, 2, none⟩ = some (.int .i64 f2) from by subst hW; simp [go_sem])
  clear hW
  generalize w3.heap.size = g_y at *
  have B_x := Lib.hid (Kept.all3 (show Kept W_x W_y from (by (repeat (first | with_reducible exact Kept.refl _ | with_reducible apply Kept.drew | with_reducible apply Kept.alloc | ((with_reducible apply Kept.set); focus (simp <;> omega)) | ((with_reducible apply Kept.via); focus with_reducible assumption))))) H_x)
  have B_y := Lib.hid (Kept.all3 (show Kept W_y W_y from (by (repeat (first | with_reducible exact Kept.refl _ | with_reducible apply Kept.drew | with_reducible apply Kept.alloc | ((with_reducible apply Kept.set); focus (simp <;> omega)) | ((with_reducible apply Kept.via); focus with_reducible assumption))))) H_y)
  have kall : Kept w W_y := (by (repeat (first | with_reducible exact Kept.refl _ | with_reducible apply Kept.drew | with_reducible apply Kept.alloc | ((with_reducible apply Kept.set); focus (simp <;> omega)) | ((with_reducible apply Kept.via); focus with_reducible assumption))))
  obtain ⟨q_x0, q_x1, q_x2⟩ := kw3 B_x
  obtain ⟨q_y0, q_y1, q_y2⟩ := kw3 B_y
  clear B_x B_y
  refine wp_region_kept (by kernel_rfl) (by as_aux_lemma => kernel_rfl) ?_
  repeat (go_big_quiet_step (first | fail))
  refine wpQuiet_nil ?_
  intro wq hw'
  have kq : Kept W_y wq := by obtain ⟨p, rfl⟩ := hw'; exact p.k
  clear hw'
  go_wp2
  go_ret
  exact ⟨rfl, kall.trans kq⟩
set_option maxRecDepth 100000 in
set_option maxHeartbeats 1600000 in
theorem rises_eq_both {b b1 b2 : Bool} {m f a m1 f1 m2 f2 p1 p2 : Int} (h1 : m1 ≤ m2) (h2 : p1 ≤ p2) (S1 : ∀ w, Calls Try.prog 10 #[.agg #[.bool b, .int .i64 m, .int .i64 f], .int .i64 a] w fun e w' => e = .returned (.tuple #[.agg #[.bool b1, .int .i64 m1, .int .i64 f1], .int .i64 0]) ∧ Kept w w') (S2 : ∀ w, Calls Try.prog 10 #[.agg #[.bool b, .int .i64 m, .int .i64 f], .int .i64 a] w fun e w' => e = .returned (.tuple #[.agg #[.bool b2, .int .i64 m2, .int .i64 f2], .int .i64 0]) ∧ Kept w w') (M1 : ∀ w, Calls Try.prog 14 #[.agg #[.bool b1, .int .i64 m1, .int .i64 f1]] w fun e w' => e = .returned (.int .i64 p1) ∧ Kept w w') (M2 : ∀ w, Calls Try.prog 14 #[.agg #[.bool b2, .int .i64 m2, .int .i64 f2]] w fun e w' => e = .returned (.int .i64 p2) ∧ Kept w w') (w : World) :
    Calls Try.prog 6 #[.agg #[.bool b, .int .i64 m, .int .i64 f], .int .i64 a, .int .i64 a] w fun e w' => e = .returned (.bool true) ∧ Kept w w' := by
  have S1' := Lib.hid S1
  have S2' := Lib.hid S2
  have M1' := Lib.hid M1
  have M2' := Lib.hid M2
  clear S1 S2 M1 M2
  have d1 : decide (m1 ≤ m2) = true := by simp [h1]
  have d2 : decide (p1 ≤ p2) = true := by simp [h2]
  go_enter Try.func6, Try.ntmps6
  go_upto_region 1 with fail
  generalize hW : World.alloc w (.cells #[.bool b, .int .i64 m, .int .i64 f] 23) = W_r
  have K_r : Kept w W_r := by subst hW; exact (Kept.refl _).alloc _ _
  have H_r := Lib.hid (show W_r.cell? ⟨w.heap.size, 0, none⟩ = some (.bool b) ∧ W_r.cell? ⟨w.heap.size, 1, none⟩ = some (.int .i64 m) ∧ W_r.cell? ⟨w.heap.size, 2, none⟩ = some (.int .i64 f) from by subst hW; simp [go_sem])
  clear hW
  generalize w.heap.size = g_r at *
  go_wp2_with fail
  refine (awake06 _).mono ?_
  rintro e w1 ⟨rfl, k1⟩
  obtain ⟨c_r0, c_r1, c_r2⟩ := Kept.all3 (show Kept W_r w1 from (by (repeat (first | with_reducible exact Kept.refl _ | with_reducible apply Kept.drew | with_reducible apply Kept.alloc | ((with_reducible apply Kept.set); focus (simp <;> omega)) | ((with_reducible apply Kept.via); focus with_reducible assumption))))) H_r
  go_wp2_with fail
  refine (S1'.out _).mono ?_
  rintro e w2 ⟨rfl, k2⟩
  clear c_r0 c_r1 c_r2
  go_upto_region 3 with fail
  generalize hW : World.alloc w2 (.cells #[.bool b1, .int .i64 m1, .int .i64 f1] 23) = W_x
  have K_x : Kept w2 W_x := by subst hW; exact (Kept.refl _).alloc _ _
  have H_x := Lib.hid (show W_x.cell? ⟨w2.heap.size, 0, none⟩ = some (.bool b1) ∧ W_x.cell? ⟨w2.heap.size, 1, none⟩ = some (.int .i64 m1) ∧ W_x.cell? ⟨w2.heap.size, 2, none⟩ = some (.int .i64 f1) from by subst hW; simp [go_sem])
  clear hW
  generalize w2.heap.size = g_x at *
  obtain ⟨c_r0, c_r1, c_r2⟩ := Kept.all3 (show Kept W_r W_x from (by (repeat (first | with_reducible exact Kept.refl _ | with_reducible apply Kept.drew | with_reducible apply Kept.alloc | ((with_reducible apply Kept.set); focus (simp <;> omega)) | ((with_reducible apply Kept.via); focus with_reducible assumption))))) H_r
  go_wp2_with fail
  refine (S2'.out _).mono ?_
  rintro e w3 ⟨rfl, k3⟩
  clear c_r0 c_r1 c_r2
  go_upto_region 4 with fail
  generalize hW : World.alloc w3 (.cells #[.bool b2, .int .i64 m2, .int .i64 f2] 23) = W_y
  have K_y : Kept w3 W_y := by subst hW; exact (Kept.refl _).alloc _ _
  have H_y := Lib.hid (show W_y.cell? ⟨w3.heap.size, 0, none⟩ = some (.bool b2) ∧ W_y.cell? ⟨w3.heap.size, 1, none⟩ = some (.int .i64 m2) ∧ W_y.cell? ⟨w3.heap.size, 2, none⟩ = some (.int .i64 f2) from by subst hW; simp [go_sem])
  clear hW
  generalize w3.heap.size = g_y at *
  have B_x := Lib.hid (Kept.all3 (show Kept W_x W_y from (by (repeat (first | with_reducible exact Kept.refl _ | with_reducible apply Kept.drew | with_reducible apply Kept.alloc | ((with_reducible apply Kept.set); focus (simp <;> omega)) | ((with_reducible apply Kept.via); focus with_reducible assumption))))) H_x)
  have B_y := Lib.hid (Kept.all3 (show Kept W_y W_y from (by (repeat (first | with_reducible exact Kept.refl _ | with_reducible apply Kept.drew | with_reducible apply Kept.alloc | ((with_reducible apply Kept.set); focus (simp <;> omega)) | ((with_reducible apply Kept.via); focus with_reducible assumption))))) H_y)
  have kall : Kept w W_y := (by (repeat (first | with_reducible exact Kept.refl _ | with_reducible apply Kept.drew | with_reducible apply Kept.alloc | ((with_reducible apply Kept.set); focus (simp <;> omega)) | ((with_reducible apply Kept.via); focus with_reducible assumption))))
  obtain ⟨q_x0, q_x1, q_x2⟩ := kw3 B_x
  obtain ⟨q_y0, q_y1, q_y2⟩ := kw3 B_y
  clear B_x B_y
  refine wp_region_kept (by kernel_rfl) (by as_aux_lemma => kernel_rfl) ?_
  repeat (go_big_quiet_step (first | (with_reducible exact kept_of (M1'.out _)) | (with_reducible exact kept_of (M2'.out _))))
  refine wpQuiet_nil ?_
  intro wq hw'
  have kq : Kept W_y wq := by obtain ⟨p, rfl⟩ := hw'; exact p.k
  clear hw'
  go_wp2
  go_ret
  exact ⟨rfl, kall.trans kq⟩
set_option maxRecDepth 100000 in
set_option maxHeartbeats 1600000 in
theorem rises_gt_low {b b1 b2 : Bool} {m f a c m1 f1 m2 f2 er : Int} (ho : c < a)  (S1 : ∀ w, Calls Try.prog 10 #[.agg #[.bool b, .int .i64 m, .int .i64 f], .int .i64 c] w fun e w' => e = .returned (.tuple #[.agg #[.bool b1, .int .i64 m1, .int .i64 f1], .int .i64 201]) ∧ Kept w w') (S2 : ∀ w, Calls Try.prog 10 #[.agg #[.bool b, .int .i64 m, .int .i64 f], .int .i64 a] w fun e w' => e = .returned (.tuple #[.agg #[.bool b2, .int .i64 m2, .int .i64 f2], .int .i64 er]) ∧ Kept w w') (w : World) :
    Calls Try.prog 6 #[.agg #[.bool b, .int .i64 m, .int .i64 f], .int .i64 a, .int .i64 c] w fun e w' => e = .returned (.bool true) ∧ Kept w w' := by
  have S1' := Lib.hid S1
  have S2' := Lib.hid S2
  clear S1 S2
  have g1 : min a c = c := by omega
  have g2 : max a c = a := by omega
  go_enter Try.func6, Try.ntmps6
  go_upto_region 1 with fail
  generalize hW : World.alloc w (.cells #[.bool b, .int .i64 m, .int .i64 f] 23) = W_r
  have K_r : Kept w W_r := by subst hW; exact (Kept.refl _).alloc _ _
  have H_r := Lib.hid (show W_r.cell? ⟨w.heap.size, 0, none⟩ = some (.bool b) ∧ W_r.cell? ⟨w.heap.size, 1, none⟩ = some (.int .i64 m) ∧ W_r.cell? ⟨w.heap.size, 2, none⟩ = some (.int .i64 f) from by subst hW; simp [go_sem])
  clear hW
  generalize w.heap.size = g_r at *
  go_wp2_with fail
  refine (awake06 _).mono ?_
  rintro e w1 ⟨rfl, k1⟩
  obtain ⟨c_r0, c_r1, c_r2⟩ := Kept.all3 (show Kept W_r w1 from (by (repeat (first | with_reducible exact Kept.refl _ | with_reducible apply Kept.drew | with_reducible apply Kept.alloc | ((with_reducible apply Kept.set); focus (simp <;> omega)) | ((with_reducible apply Kept.via); focus with_reducible assumption))))) H_r
  go_wp2_with fail
  refine (S1'.out _).mono ?_
  rintro e w2 ⟨rfl, k2⟩
  clear c_r0 c_r1 c_r2
  go_upto_region 3 with fail
  generalize hW : World.alloc w2 (.cells #[.bool b1, .int .i64 m1, .int .i64 f1] 23) = W_x
  have K_x : Kept w2 W_x := by subst hW; exact (Kept.refl _).alloc _ _
  have H_x := Lib.hid (show W_x.cell? ⟨w2.heap.size, 0, none⟩ = some (.bool b1) ∧ W_x.cell? ⟨w2.heap.size, 1, none⟩ = some (.int .i64 m1) ∧ W_x.cell? ⟨w2.heap.size, 2, none⟩ = some (.int .i64 f1) from by subst hW; simp [go_sem])
  clear hW
  generalize w2.heap.size = g_x at *
  obtain ⟨c_r0, c_r1, c_r2⟩ := Kept.all3 (show Kept W_r W_x from (by (repeat (first | with_reducible exact Kept.refl _ | with_reducible apply Kept.drew | with_reducible apply Kept.alloc | ((with_reducible apply Kept.set); focus (simp <;> omega)) | ((with_reducible apply Kept.via); focus with_reducible assumption))))) H_r
  go_wp2_with fail
  refine (S2'.out _).mono ?_
  rintro e w3 ⟨rfl, k3⟩
  clear c_r0 c_r1 c_r2
  go_upto_region 4 with fail
  generalize hW : World.alloc w3 (.cells #[.bool b2, .int .i64 m2, .int .i64 f2] 23) = W_y
  have K_y : Kept w3 W_y := by subst hW; exact (Kept.refl _).alloc _ _
  have H_y := Lib.hid (show W_y.cell? ⟨w3.heap.size, 0, none⟩ = some (.bool b2) ∧ W_y.cell? ⟨w3.heap.size, 1, none⟩ = some (.int .i64 m2) ∧ W_y.cell? ⟨w3.heap.size, 2, none⟩ = some (.int .i64 f2) from by subst hW; simp [go_sem])
  clear hW
  generalize w3.heap.size = g_y at *
  have B_x := Lib.hid (Kept.all3 (show Kept W_x W_y from (by (repeat (first | with_reducible exact Kept.refl _ | with_reducible apply Kept.drew | with_reducible apply Kept.alloc | ((with_reducible apply Kept.set); focus (simp <;> omega)) | ((with_reducible apply Kept.via); focus with_reducible assumption))))) H_x)
  have B_y := Lib.hid (Kept.all3 (show Kept W_y W_y from (by (repeat (first | with_reducible exact Kept.refl _ | with_reducible apply Kept.drew | with_reducible apply Kept.alloc | ((with_reducible apply Kept.set); focus (simp <;> omega)) | ((with_reducible apply Kept.via); focus with_reducible assumption))))) H_y)
  have kall : Kept w W_y := (by (repeat (first | with_reducible exact Kept.refl _ | with_reducible apply Kept.drew | with_reducible apply Kept.alloc | ((with_reducible apply Kept.set); focus (simp <;> omega)) | ((with_reducible apply Kept.via); focus with_reducible assumption))))
  obtain ⟨q_x0, q_x1, q_x2⟩ := kw3 B_x
  obtain ⟨q_y0, q_y1, q_y2⟩ := kw3 B_y
  clear B_x B_y
  refine wp_region_kept (by kernel_rfl) (by as_aux_lemma => kernel_rfl) ?_
  repeat (go_big_quiet_step (first | fail))
  refine wpQuiet_nil ?_
  intro wq hw'
  have kq : Kept W_y wq := by obtain ⟨p, rfl⟩ := hw'; exact p.k
  clear hw'
  go_wp2
  go_ret
  exact ⟨rfl, kall.trans kq⟩
set_option maxRecDepth 100000 in
set_option maxHeartbeats 1600000 in
theorem rises_gt_high {b b1 b2 : Bool} {m f a c m1 f1 m2 f2 : Int} (ho : c < a)  (S1 : ∀ w, Calls Try.prog 10 #[.agg #[.bool b, .int .i64 m, .int .i64 f], .int .i64 c] w fun e w' => e = .returned (.tuple #[.agg #[.bool b1, .int .i64 m1, .int .i64 f1], .int .i64 0]) ∧ Kept w w') (S2 : ∀ w, Calls Try.prog 10 #[.agg #[.bool b, .int .i64 m, .int .i64 f], .int .i64 a] w fun e w' => e = .returned (.tuple #[.agg #[.bool b2, .int .i64 m2, .int .i64 f2], .int .i64 201]) ∧ Kept w w') (w : World) :
    Calls Try.prog 6 #[.agg #[.bool b, .int .i64 m, .int .i64 f], .int .i64 a, .int .i64 c] w fun e w' => e = .returned (.bool true) ∧ Kept w w' := by
  have S1' := Lib.hid S1
  have S2' := Lib.hid S2
  clear S1 S2
  have g1 : min a c = c := by omega
  have g2 : max a c = a := by omega
  go_enter Try.func6, Try.ntmps6
  go_upto_region 1 with fail
  generalize hW : World.alloc w (.cells #[.bool b, .int .i64 m, .int .i64 f] 23) = W_r
  have K_r : Kept w W_r := by subst hW; exact (Kept.refl _).alloc _ _
  have H_r := Lib.hid (show W_r.cell? ⟨w.heap.size, 0, none⟩ = some (.bool b) ∧ W_r.cell? ⟨w.heap.size, 1, none⟩ = some (.int .i64 m) ∧ W_r.cell? ⟨w.heap.size, 2, none⟩ = some (.int .i64 f) from by subst hW; simp [go_sem])
  clear hW
  generalize w.heap.size = g_r at *
  go_wp2_with fail
  refine (awake06 _).mono ?_
  rintro e w1 ⟨rfl, k1⟩
  obtain ⟨c_r0, c_r1, c_r2⟩ := Kept.all3 (show Kept W_r w1 from (by (repeat (first | with_reducible exact Kept.refl _ | with_reducible apply Kept.drew | with_reducible apply Kept.alloc | ((with_reducible apply Kept.set); focus (simp <;> omega)) | ((with_reducible apply Kept.via); focus with_reducible assumption))))) H_r
  go_wp2_with fail
  refine (S1'.out _).mono ?_
  rintro e w2 ⟨rfl, k2⟩
  clear c_r0 c_r1 c_r2
  go_upto_region 3 with fail
  generalize hW : World.alloc w2 (.cells #[.bool b1, .int .i64 m1, .int .i64 f1] 23) = W_x
  have K_x : Kept w2 W_x := by subst hW; exact (Kept.refl _).alloc _ _
  have H_x := Lib.hid (show W_x.cell? ⟨w2.heap.size, 0, none⟩ = some (.bool b1) ∧ W_x.cell? ⟨w2.heap.size, 1, none⟩ = some (.int .i64 m1) ∧ W_x.cell? ⟨w2.heap.size, 2, none⟩ = some (.int .i64 f1) from by subst hW; simp [go_sem])
  clear hW
  generalize w2.heap.size = g_x at *
  obtain ⟨c_r0, c_r1, c_r2⟩ := Kept.all3 (show Kept W_r W_x from (by (repeat (first | with_reducible exact Kept.refl _ | with_reducible apply Kept.drew | with_reducible apply Kept.alloc | ((with_reducible apply Kept.set); focus (simp <;> omega)) | ((with_reducible apply Kept.via); focus with_reducible assumption))))) H_r
  go_wp2_with fail
  refine (S2'.out _).mono ?_
  rintro e w3 ⟨rfl, k3⟩
  clear c_r0 c_r1 c_r2
  go_upto_region 4 with fail
  generalize hW : World.alloc w3 (.cells #[.bool b2, .int .i64 m2, .int .i64 f2] 23) = W_y
  have K_y : Kept w3 W_y := by subst hW; exact (Kept.refl _).alloc _ _
  have H_y := Lib.hid (show W_y.cell? ⟨w3.heap.size, 0, none⟩ = some (.bool b2) ∧ W_y.cell? ⟨w3.heap.size, 1, none⟩ = some (.int .i64 m2) ∧ W_y.cell? ⟨w3.heap.size, 2, none⟩ = some (.int .i64 f2) from by subst hW; simp [go_sem])
  clear hW
  generalize w3.heap.size = g_y at *
  have B_x := Lib.hid (Kept.all3 (show Kept W_x W_y from (by (repeat (first | with_reducible exact Kept.refl _ | with_reducible apply Kept.drew | with_reducible apply Kept.alloc | ((with_reducible apply Kept.set); focus (simp <;> omega)) | ((with_reducible apply Kept.via); focus with_reducible assumption))))) H_x)
  have B_y := Lib.hid (Kept.all3 (show Kept W_y W_y from (by (repeat (first | with_reducible exact Kept.refl _ | with_reducible apply Kept.drew | with_reducible apply Kept.alloc | ((with_reducible apply Kept.set); focus (simp <;> omega)) | ((with_reducible apply Kept.via); focus with_reducible assumption))))) H_y)
  have kall : Kept w W_y := (by (repeat (first | with_reducible exact Kept.refl _ | with_reducible apply Kept.drew | with_reducible apply Kept.alloc | ((with_reducible apply Kept.set); focus (simp <;> omega)) | ((with_reducible apply Kept.via); focus with_reducible assumption))))
  obtain ⟨q_x0, q_x1, q_x2⟩ := kw3 B_x
  obtain ⟨q_y0, q_y1, q_y2⟩ := kw3 B_y
  clear B_x B_y
  refine wp_region_kept (by kernel_rfl) (by as_aux_lemma => kernel_rfl) ?_
  repeat (go_big_quiet_step (first | fail))
  refine wpQuiet_nil ?_
  intro wq hw'
  have kq : Kept W_y wq := by obtain ⟨p, rfl⟩ := hw'; exact p.k
  clear hw'
  go_wp2
  go_ret
  exact ⟨rfl, kall.trans kq⟩
set_option maxRecDepth 100000 in
set_option maxHeartbeats 1600000 in
theorem rises_gt_both {b b1 b2 : Bool} {m f a c m1 f1 m2 f2 p1 p2 : Int} (ho : c < a) (h1 : m1 ≤ m2) (h2 : p1 ≤ p2) (S1 : ∀ w, Calls Try.prog 10 #[.agg #[.bool b, .int .i64 m, .int .i64 f], .int .i64 c] w fun e w' => e = .returned (.tuple #[.agg #[.bool b1, .int .i64 m1, .int .i64 f1], .int .i64 0]) ∧ Kept w w') (S2 : ∀ w, Calls Try.prog 10 #[.agg #[.bool b, .int .i64 m, .int .i64 f], .int .i64 a] w fun e w' => e = .returned (.tuple #[.agg #[.bool b2, .int .i64 m2, .int .i64 f2], .int .i64 0]) ∧ Kept w w') (M1 : ∀ w, Calls Try.prog 14 #[.agg #[.bool b1, .int .i64 m1, .int .i64 f1]] w fun e w' => e = .returned (.int .i64 p1) ∧ Kept w w') (M2 : ∀ w, Calls Try.prog 14 #[.agg #[.bool b2, .int .i64 m2, .int .i64 f2]] w fun e w' => e = .returned (.int .i64 p2) ∧ Kept w w') (w : World) :
    Calls Try.prog 6 #[.agg #[.bool b, .int .i64 m, .int .i64 f], .int .i64 a, .int .i64 c] w fun e w' => e = .returned (.bool true) ∧ Kept w w' := by
  have S1' := Lib.hid S1
  have S2' := Lib.hid S2
  have M1' := Lib.hid M1
  have M2' := Lib.hid M2
  clear S1 S2 M1 M2
  have g1 : min a c = c := by omega
  have g2 : max a c = a := by omega
  have d1 : decide (m1 ≤ m2) = true := by simp [h1]
  have d2 : decide (p1 ≤ p2) = true := by simp [h2]
  go_enter Try.func6, Try.ntmps6
  go_upto_region 1 with fail
  generalize hW : World.alloc w (.cells #[.bool b, .int .i64 m, .int .i64 f] 23) = W_r
  have K_r : Kept w W_r := by subst hW; exact (Kept.refl _).alloc _ _
  have H_r := Lib.hid (show W_r.cell? ⟨w.heap.size, 0, none⟩ = some (.bool b) ∧ W_r.cell? ⟨w.heap.size, 1, none⟩ = some (.int .i64 m) ∧ W_r.cell? ⟨w.heap.size, 2, none⟩ = some (.int .i64 f) from by subst hW; simp [go_sem])
  clear hW
  generalize w.heap.size = g_r at *
  go_wp2_with fail
  refine (awake06 _).mono ?_
  rintro e w1 ⟨rfl, k1⟩
  obtain ⟨c_r0, c_r1, c_r2⟩ := Kept.all3 (show Kept W_r w1 from (by (repeat (first | with_reducible exact Kept.refl _ | with_reducible apply Kept.drew | with_reducible apply Kept.alloc | ((with_reducible apply Kept.set); focus (simp <;> omega)) | ((with_reducible apply Kept.via); focus with_reducible assumption))))) H_r
  go_wp2_with fail
  refine (S1'.out _).mono ?_
  rintro e w2 ⟨rfl, k2⟩
  clear c_r0 c_r1 c_r2
  go_upto_region 3 with fail
  generalize hW : World.alloc w2 (.cells #[.bool b1, .int .i64 m1, .int .i64 f1] 23) = W_x
  have K_x : Kept w2 W_x := by subst hW; exact (Kept.refl _).alloc _ _
  have H_x := Lib.hid (show W_x.cell? ⟨w2.heap.size, 0, none⟩ = some (.bool b1) ∧ W_x.cell? ⟨w2.heap.size, 1, none⟩ = some (.int .i64 m1) ∧ W_x.cell? ⟨w2.heap.size, 2, none⟩ = some (.int .i64 f1) from by subst hW; simp [go_sem])
  clear hW
  generalize w2.heap.size = g_x at *
  obtain ⟨c_r0, c_r1, c_r2⟩ := Kept.all3 (show Kept W_r W_x from (by (repeat (first | with_reducible exact Kept.refl _ | with_reducible apply Kept.drew | with_reducible apply Kept.alloc | ((with_reducible apply Kept.set); focus (simp <;> omega)) | ((with_reducible apply Kept.via); focus with_reducible assumption))))) H_r
  go_wp2_with fail
  refine (S2'.out _).mono ?_
  rintro e w3 ⟨rfl, k3⟩
  clear c_r0 c_r1 c_r2
  go_upto_region 4 with fail
  generalize hW : World.alloc w3 (.cells #[.bool b2, .int .i64 m2, .int .i64 f2] 23) = W_y
  have K_y : Kept w3 W_y := by subst hW; exact (Kept.refl _).alloc _ _
  have H_y := Lib.hid (show W_y.cell? ⟨w3.heap.size, 0, none⟩ = some (.bool b2) ∧ W_y.cell? ⟨w3.heap.size, 1, none⟩ = some (.int .i64 m2) ∧ W_y.cell? ⟨w3.heap.size, 2, none⟩ = some (.int .i64 f2) from by subst hW; simp [go_sem])
  clear hW
  generalize w3.heap.size = g_y at *
  have B_x := Lib.hid (Kept.all3 (show Kept W_x W_y from (by (repeat (first | with_reducible exact Kept.refl _ | with_reducible apply Kept.drew | with_reducible apply Kept.alloc | ((with_reducible apply Kept.set); focus (simp <;> omega)) | ((with_reducible apply Kept.via); focus with_reducible assumption))))) H_x)
  have B_y := Lib.hid (Kept.all3 (show Kept W_y W_y from (by (repeat (first | with_reducible exact Kept.refl _ | with_reducible apply Kept.drew | with_reducible apply Kept.alloc | ((with_reducible apply Kept.set); focus (simp <;> omega)) | ((with_reducible apply Kept.via); focus with_reducible assumption))))) H_y)
  have kall : Kept w W_y := (by (repeat (first | with_reducible exact Kept.refl _ | with_reducible apply Kept.drew | with_reducible apply Kept.alloc | ((with_reducible apply Kept.set); focus (simp <;> omega)) | ((with_reducible apply Kept.via); focus with_reducible assumption))))
  obtain ⟨q_x0, q_x1, q_x2⟩ := kw3 B_x
  obtain ⟨q_y0, q_y1, q_y2⟩ := kw3 B_y
  clear B_x B_y
  refine wp_region_kept (by kernel_rfl) (by as_aux_lemma => kernel_rfl) ?_
  repeat (go_big_quiet_step (first | (with_reducible exact kept_of (M1'.out _)) | (with_reducible exact kept_of (M2'.out _))))
  refine wpQuiet_nil ?_
  intro wq hw'
  have kq : Kept W_y wq := by obtain ⟨p, rfl⟩ := hw'; exact p.k
  clear hw'
  go_wp2
  go_ret
  exact ⟨rfl, kall.trans kq⟩
theorem sample_err {b b' : Bool} {m f t m' f' er : Int} (h : SampleIs b m f t b' m' f' er) : (er = 201 ∧ b' = b ∧ m' = m ∧ f' = f ∧ ¬ (MayRtt b m f ∧ IsTrip t)) ∨ (er = 0 ∧ MayRtt b m f ∧ IsTrip t) := by
  rcases h with ⟨h, rfl, rfl, rfl, rfl⟩ | ⟨h, ht, rfl, rfl, rfl, rfl, rfl⟩ | ⟨h, ht, rfl, rfl, rfl, rfl, rfl⟩
  · exact Or.inl ⟨rfl, rfl, rfl, rfl, h⟩
  · exact Or.inr ⟨rfl, h, ht⟩
  · exact Or.inr ⟨rfl, h, ht⟩
theorem sample_mean {b b' : Bool} {m f t m' f' : Int} (h : SampleIs b m f t b' m' f' 0) : (b = false ∧ m' = 8 * t) ∨ (b = true ∧ m' = m + t - m / 8) := by
  rcases h with ⟨_, _, _, _, h⟩ | ⟨_, _, h, _, e, _⟩ | ⟨_, _, h, _, e, _⟩
  · omega
  · exact Or.inl ⟨h, e⟩
  · exact Or.inr ⟨h, e⟩
theorem may_in {b : Bool} {m f : Int} (h : MayRtt b m f) : 0 ≤ m ∧ m ≤ 8589934592 ∧ 0 ≤ f ∧ f ≤ 4294967296 := by
  rcases h with ⟨_, rfl, rfl⟩ | ⟨_, h⟩ <;> omega
theorem mean_val {b : Bool} {m f : Int} (h : MayRtt b m f) (w : World) : Calls Try.prog 14 #[.agg #[.bool b, .int .i64 m, .int .i64 f]] w fun e w' => e = .returned (.int .i64 (m / 8)) ∧ Kept w w' := by
  have := may_in h
  exact Mean_ok ⟨by unfold In64; omega, Int.tdiv_eq_ediv_of_nonneg (by omega)⟩ w
theorem far_val {b : Bool} {m f : Int} (h : MayRtt b m f) (w : World) : Calls Try.prog 16 #[.agg #[.bool b, .int .i64 m, .int .i64 f]] w fun e w' => e = .returned (.int .i64 (f / 4)) ∧ Kept w w' := by
  have := may_in h
  exact Far_ok ⟨by unfold In64; omega, Int.tdiv_eq_ediv_of_nonneg (by omega)⟩ w
theorem rises_mean {b b1 b2 : Bool} {m f t u m1 f1 m2 f2 : Int} (h1 : SampleIs b m f t b1 m1 f1 0) (h2 : SampleIs b m f u b2 m2 f2 0) (h : t ≤ u) : m1 ≤ m2 := by
  rcases sample_mean h1 with ⟨a1, e1⟩ | ⟨a1, e1⟩ <;> rcases sample_mean h2 with ⟨a2, e2⟩ | ⟨a2, e2⟩
  · omega
  · rw [a1] at a2; cases a2
  · rw [a1] at a2; cases a2
  · omega
theorem rttRises_walk (b : Bool) (m f a c : Int) (w : World) : Calls Try.prog 6 #[.agg #[.bool b, .int .i64 m, .int .i64 f], .int .i64 a, .int .i64 c] w fun e w' => e = .returned (.bool true) ∧ Kept w w' := by
  rcases Int.lt_trichotomy a c with ho | ho | ho
  · obtain ⟨b1, m1, f1, er1, s1⟩ := sample_ex b m f a
    obtain ⟨b2, m2, f2, er2, s2⟩ := sample_ex b m f c
    rcases sample_err s1 with ⟨rfl, _⟩ | ⟨rfl, y1, _⟩
    · exact rises_lt_low ho (fun w => Sample_ok s1 w) (fun w => Sample_ok s2 w) w
    · rcases sample_err s2 with ⟨rfl, _⟩ | ⟨rfl, y2, _⟩
      · exact rises_lt_high ho (fun w => Sample_ok s1 w) (fun w => Sample_ok s2 w) w
      · have k := rises_mean s1 s2 (by omega)
        exact rises_lt_both ho k (show m1 / 8 ≤ m2 / 8 by omega) (fun w => Sample_ok s1 w) (fun w => Sample_ok s2 w) (fun w => mean_val (sample_may s1 y1) w) (fun w => mean_val (sample_may s2 y2) w) w
  · subst ho
    obtain ⟨b1, m1, f1, er1, s1⟩ := sample_ex b m f a
    obtain ⟨b2, m2, f2, er2, s2⟩ := sample_ex b m f a
    rcases sample_err s1 with ⟨rfl, _⟩ | ⟨rfl, y1, _⟩
    · exact rises_eq_low (fun w => Sample_ok s1 w) (fun w => Sample_ok s2 w) w
    · rcases sample_err s2 with ⟨rfl, _⟩ | ⟨rfl, y2, _⟩
      · exact rises_eq_high (fun w => Sample_ok s1 w) (fun w => Sample_ok s2 w) w
      · have k := rises_mean s1 s2 (by omega)
        exact rises_eq_both k (show m1 / 8 ≤ m2 / 8 by omega) (fun w => Sample_ok s1 w) (fun w => Sample_ok s2 w) (fun w => mean_val (sample_may s1 y1) w) (fun w => mean_val (sample_may s2 y2) w) w
  · obtain ⟨b1, m1, f1, er1, s1⟩ := sample_ex b m f c
    obtain ⟨b2, m2, f2, er2, s2⟩ := sample_ex b m f a
    rcases sample_err s1 with ⟨rfl, _⟩ | ⟨rfl, y1, _⟩
    · exact rises_gt_low ho (fun w => Sample_ok s1 w) (fun w => Sample_ok s2 w) w
    · rcases sample_err s2 with ⟨rfl, _⟩ | ⟨rfl, y2, _⟩
      · exact rises_gt_high ho (fun w => Sample_ok s1 w) (fun w => Sample_ok s2 w) w
      · have k := rises_mean s1 s2 (by omega)
        exact rises_gt_both ho k (show m1 / 8 ≤ m2 / 8 by omega) (fun w => Sample_ok s1 w) (fun w => Sample_ok s2 w) (fun w => mean_val (sample_may s1 y1) w) (fun w => mean_val (sample_may s2 y2) w) w
end Go.Proofs.Ythjchmjpiijfnaa
