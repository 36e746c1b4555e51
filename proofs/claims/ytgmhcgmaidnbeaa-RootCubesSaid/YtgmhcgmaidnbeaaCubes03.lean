/-
  The walk of RootCubes: it answers true, whatever it is given.
-/
import Derived.Test.YtgmhcgmaidnbeaaAwake03
namespace Go.Proofs.Ytgmhcgmaidnbeaa
open Go.RowKit Go.BigFrame

set_option linter.unusedVariables false
set_option maxRecDepth 100000 in
set_option maxHeartbeats 1600000 in
theorem cubes_lt_in (a b ch cl dh dl : Int) (a0 : 0 ≤ a) (a1 : a ≤ 18446744073709551615) (b0 : 0 ≤ b) (b1 : b ≤ 18446744073709551615) (hab : a < b) (hr : b ≤ 6981463658331) (w : World) (Q1 : ∀ w, Calls Try.prog 10 #[.int .u64 a] w fun e w' => e = .returned (.tuple #[.agg #[.bool false, .int .u64 ch, .int .u64 cl], .int .i64 0]) ∧ Kept w w') (Q2 : ∀ w, Calls Try.prog 10 #[.int .u64 b] w fun e w' => e = .returned (.tuple #[.agg #[.bool false, .int .u64 dh, .int .u64 dl], .int .i64 0]) ∧ Kept w w') (C1 : ∀ w, Calls Try.prog 18 #[.agg #[.bool false, .int .u64 ch, .int .u64 cl], .agg #[.bool false, .int .u64 dh, .int .u64 dl]] w fun e w' => e = .returned (.int .i64 (-1)) ∧ Kept w w') :
    Calls Try.prog 7 #[.int .u64 a, .int .u64 b] w fun e w' => e = .returned (.bool true) ∧ Kept w w' := by
  have Q1' := Lib.hid Q1
  have Q2' := Lib.hid Q2
  have C1' := Lib.hid C1
  clear Q1 Q2 C1
  have f1 : (a == b) = false := by simp; omega
  have f2 : ¬ a = b := by omega
  have f3 : (a != b) = true := by simp; omega
  have g0 : decide (6981463658331 < a) = false := by simp; omega
  have g1 : decide (6981463658331 < b) = false := by simp; omega
  go_enter Try.func7, Try.ntmps7
  go_wp2_with fail
  refine (awake03 _).mono ?_
  rintro e w1 ⟨rfl, k1⟩
  go_wp2_with fail
  refine (Q1'.out _).mono ?_
  rintro e w2 ⟨rfl, k2⟩
  go_upto_region 3 with fail
  generalize hW : World.alloc w2 (.cells #[.bool false, .int .u64 ch, .int .u64 cl] 24) = W_c
  have K_c : Kept w2 W_c := by subst hW; exact (Kept.refl _).alloc _ _
  have H_c := Lib.hid (show W_c.cell? ⟨w2.heap.size, 0, none⟩ = some (.bool false) ∧ W_c.cell? ⟨w2.heap.size, 1, none⟩ = some (.int .u64 ch) ∧ W_c.cell? ⟨w2.heap.size, 2, none⟩ = some (.int .u64 cl) from by subst hW; simp [go_sem])
  clear hW
  generalize w2.heap.size = g_c at *
  go_wp2_with fail
  refine (Q2'.out _).mono ?_
  rintro e w3 ⟨rfl, k3⟩
  go_upto_region 4 with fail
  generalize hW : World.alloc w3 (.cells #[.bool false, .int .u64 dh, .int .u64 dl] 24) = W_d
  have K_d : Kept w3 W_d := by subst hW; exact (Kept.refl _).alloc _ _
  have H_d := Lib.hid (show W_d.cell? ⟨w3.heap.size, 0, none⟩ = some (.bool false) ∧ W_d.cell? ⟨w3.heap.size, 1, none⟩ = some (.int .u64 dh) ∧ W_d.cell? ⟨w3.heap.size, 2, none⟩ = some (.int .u64 dl) from by subst hW; simp [go_sem])
  clear hW
  generalize w3.heap.size = g_d at *
  go_upto_region 5 with fail
  obtain ⟨c_c0, c_c1, c_c2⟩ := Kept.all3 (show Kept W_c W_d from (by (repeat (first | with_reducible exact Kept.refl _ | with_reducible apply Kept.drew | with_reducible apply Kept.alloc | ((with_reducible apply Kept.set); focus (simp <;> omega)) | ((with_reducible apply Kept.via); focus with_reducible assumption))))) H_c
  obtain ⟨c_d0, c_d1, c_d2⟩ := Kept.all3 (show Kept W_d W_d from (by (repeat (first | with_reducible exact Kept.refl _ | with_reducible apply Kept.drew | with_reducible apply Kept.alloc | ((with_reducible apply Kept.set); focus (simp <;> omega)) | ((with_reducible apply Kept.via); focus with_reducible assumption))))) H_d
  go_wp2_with fail
  refine (C1'.out _).mono ?_
  rintro e w4 ⟨rfl, k4⟩
  clear c_c0 c_c1 c_c2 c_d0 c_d1 c_d2
  obtain ⟨c_c0, c_c1, c_c2⟩ := Kept.all3 (show Kept W_c w4 from (by (repeat (first | with_reducible exact Kept.refl _ | with_reducible apply Kept.drew | with_reducible apply Kept.alloc | ((with_reducible apply Kept.set); focus (simp <;> omega)) | ((with_reducible apply Kept.via); focus with_reducible assumption))))) H_c
  go_wp2
  go_ret
  exact ⟨rfl, (by (repeat (first | with_reducible exact Kept.refl _ | with_reducible apply Kept.drew | with_reducible apply Kept.alloc | ((with_reducible apply Kept.set); focus (simp <;> omega)) | ((with_reducible apply Kept.via); focus with_reducible assumption))))⟩
set_option maxRecDepth 100000 in
set_option maxHeartbeats 1600000 in
theorem cubes_lt_mid (a b ch cl dh dl : Int) (a0 : 0 ≤ a) (a1 : a ≤ 18446744073709551615) (b0 : 0 ≤ b) (b1 : b ≤ 18446744073709551615) (hab : a < b) (hr : a ≤ 6981463658331) (hs : 6981463658331 < b) (w : World) (Q1 : ∀ w, Calls Try.prog 10 #[.int .u64 a] w fun e w' => e = .returned (.tuple #[.agg #[.bool false, .int .u64 ch, .int .u64 cl], .int .i64 0]) ∧ Kept w w') (Q2 : ∀ w, Calls Try.prog 10 #[.int .u64 b] w fun e w' => e = .returned (.tuple #[.agg #[.bool false, .int .u64 0, .int .u64 0], .int .i64 10]) ∧ Kept w w') :
    Calls Try.prog 7 #[.int .u64 a, .int .u64 b] w fun e w' => e = .returned (.bool true) ∧ Kept w w' := by
  have Q1' := Lib.hid Q1
  have Q2' := Lib.hid Q2
  clear Q1 Q2
  have f1 : (a == b) = false := by simp; omega
  have f2 : ¬ a = b := by omega
  have f3 : (a != b) = true := by simp; omega
  have g0 : decide (6981463658331 < a) = false := by simp; omega
  have g1 : decide (6981463658331 < b) = true := by simp; omega
  go_enter Try.func7, Try.ntmps7
  go_wp2_with fail
  refine (awake03 _).mono ?_
  rintro e w1 ⟨rfl, k1⟩
  go_wp2_with fail
  refine (Q1'.out _).mono ?_
  rintro e w2 ⟨rfl, k2⟩
  go_upto_region 3 with fail
  generalize hW : World.alloc w2 (.cells #[.bool false, .int .u64 ch, .int .u64 cl] 24) = W_c
  have K_c : Kept w2 W_c := by subst hW; exact (Kept.refl _).alloc _ _
  have H_c := Lib.hid (show W_c.cell? ⟨w2.heap.size, 0, none⟩ = some (.bool false) ∧ W_c.cell? ⟨w2.heap.size, 1, none⟩ = some (.int .u64 ch) ∧ W_c.cell? ⟨w2.heap.size, 2, none⟩ = some (.int .u64 cl) from by subst hW; simp [go_sem])
  clear hW
  generalize w2.heap.size = g_c at *
  go_wp2_with fail
  refine (Q2'.out _).mono ?_
  rintro e w3 ⟨rfl, k3⟩
  go_upto_region 4 with fail
  generalize hW : World.alloc w3 (.cells #[.bool false, .int .u64 0, .int .u64 0] 24) = W_d
  have K_d : Kept w3 W_d := by subst hW; exact (Kept.refl _).alloc _ _
  have H_d := Lib.hid (show W_d.cell? ⟨w3.heap.size, 0, none⟩ = some (.bool false) ∧ W_d.cell? ⟨w3.heap.size, 1, none⟩ = some (.int .u64 0) ∧ W_d.cell? ⟨w3.heap.size, 2, none⟩ = some (.int .u64 0) from by subst hW; simp [go_sem])
  clear hW
  generalize w3.heap.size = g_d at *
  go_upto_region 5 with fail
  obtain ⟨c_c0, c_c1, c_c2⟩ := Kept.all3 (show Kept W_c W_d from (by (repeat (first | with_reducible exact Kept.refl _ | with_reducible apply Kept.drew | with_reducible apply Kept.alloc | ((with_reducible apply Kept.set); focus (simp <;> omega)) | ((with_reducible apply Kept.via); focus with_reducible assumption))))) H_c
  obtain ⟨c_d0, c_d1, c_d2⟩ := Kept.all3 (show Kept W_d W_d from (by (repeat (first | with_reducible exact Kept.refl _ | with_reducible apply Kept.drew | with_reducible apply Kept.alloc | ((with_reducible apply Kept.set); focus (simp <;> omega)) | ((with_reducible apply Kept.via); focus with_reducible assumption))))) H_d
  go_wp2
  go_ret
  exact ⟨rfl, (by (repeat (first | with_reducible exact Kept.refl _ | with_reducible apply Kept.drew | with_reducible apply Kept.alloc | ((with_reducible apply Kept.set); focus (simp <;> omega)) | ((with_reducible apply Kept.via); focus with_reducible assumption))))⟩
set_option maxRecDepth 100000 in
set_option maxHeartbeats 1600000 in
theorem cubes_lt_out (a b ch cl dh dl : Int) (a0 : 0 ≤ a) (a1 : a ≤ 18446744073709551615) (b0 : 0 ≤ b) (b1 : b ≤ 18446744073709551615) (hab : a < b) (hr : 6981463658331 < a) (w : World) (Q1 : ∀ w, Calls Try.prog 10 #[.int .u64 a] w fun e w' => e = .returned (.tuple #[.agg #[.bool false, .int .u64 0, .int .u64 0], .int .i64 10]) ∧ Kept w w') (Q2 : ∀ w, Calls Try.prog 10 #[.int .u64 b] w fun e w' => e = .returned (.tuple #[.agg #[.bool false, .int .u64 0, .int .u64 0], .int .i64 10]) ∧ Kept w w') :
    Calls Try.prog 7 #[.int .u64 a, .int .u64 b] w fun e w' => e = .returned (.bool true) ∧ Kept w w' := by
  have Q1' := Lib.hid Q1
  have Q2' := Lib.hid Q2
  clear Q1 Q2
  have f1 : (a == b) = false := by simp; omega
  have f2 : ¬ a = b := by omega
  have f3 : (a != b) = true := by simp; omega
  have g0 : decide (6981463658331 < a) = true := by simp; omega
  have g1 : decide (6981463658331 < b) = true := by simp; omega
  go_enter Try.func7, Try.ntmps7
  go_wp2_with fail
  refine (awake03 _).mono ?_
  rintro e w1 ⟨rfl, k1⟩
  go_wp2_with fail
  refine (Q1'.out _).mono ?_
  rintro e w2 ⟨rfl, k2⟩
  go_upto_region 3 with fail
  generalize hW : World.alloc w2 (.cells #[.bool false, .int .u64 0, .int .u64 0] 24) = W_c
  have K_c : Kept w2 W_c := by subst hW; exact (Kept.refl _).alloc _ _
  have H_c := Lib.hid (show W_c.cell? ⟨w2.heap.size, 0, none⟩ = some (.bool false) ∧ W_c.cell? ⟨w2.heap.size, 1, none⟩ = some (.int .u64 0) ∧ W_c.cell? ⟨w2.heap.size, 2, none⟩ = some (.int .u64 0) from by subst hW; simp [go_sem])
  clear hW
  generalize w2.heap.size = g_c at *
  go_wp2_with fail
  refine (Q2'.out _).mono ?_
  rintro e w3 ⟨rfl, k3⟩
  go_upto_region 4 with fail
  generalize hW : World.alloc w3 (.cells #[.bool false, .int .u64 0, .int .u64 0] 24) = W_d
  have K_d : Kept w3 W_d := by subst hW; exact (Kept.refl _).alloc _ _
  have H_d := Lib.hid (show W_d.cell? ⟨w3.heap.size, 0, none⟩ = some (.bool false) ∧ W_d.cell? ⟨w3.heap.size, 1, none⟩ = some (.int .u64 0) ∧ W_d.cell? ⟨w3.heap.size, 2, none⟩ = some (.int .u64 0) from by subst hW; simp [go_sem])
  clear hW
  generalize w3.heap.size = g_d at *
  go_upto_region 5 with fail
  obtain ⟨c_c0, c_c1, c_c2⟩ := Kept.all3 (show Kept W_c W_d from (by (repeat (first | with_reducible exact Kept.refl _ | with_reducible apply Kept.drew | with_reducible apply Kept.alloc | ((with_reducible apply Kept.set); focus (simp <;> omega)) | ((with_reducible apply Kept.via); focus with_reducible assumption))))) H_c
  obtain ⟨c_d0, c_d1, c_d2⟩ := Kept.all3 (show Kept W_d W_d from (by (repeat (first | with_reducible exact Kept.refl _ | with_reducible apply Kept.drew | with_reducible apply Kept.alloc | ((with_reducible apply Kept.set); focus (simp <;> omega)) | ((with_reducible apply Kept.via); focus with_reducible assumption))))) H_d
  go_wp2
  go_ret
  exact ⟨rfl, (by (repeat (first | with_reducible exact Kept.refl _ | with_reducible apply Kept.drew | with_reducible apply Kept.alloc | ((with_reducible apply Kept.set); focus (simp <;> omega)) | ((with_reducible apply Kept.via); focus with_reducible assumption))))⟩
set_option maxRecDepth 100000 in
set_option maxHeartbeats 1600000 in
theorem cubes_eq_in (a ch cl dh dl : Int) (a0 : 0 ≤ a) (a1 : a ≤ 18446744073709551615)   (hr : a ≤ 6981463658331) (w : World) (Q1 : ∀ w, Calls Try.prog 10 #[.int .u64 a] w fun e w' => e = .returned (.tuple #[.agg #[.bool false, .int .u64 ch, .int .u64 cl], .int .i64 0]) ∧ Kept w w') :
    Calls Try.prog 7 #[.int .u64 a, .int .u64 a] w fun e w' => e = .returned (.bool true) ∧ Kept w w' := by
  have Q1' := Lib.hid Q1
  clear Q1
  have g0 : decide (6981463658331 < a) = false := by simp; omega
  go_enter Try.func7, Try.ntmps7
  go_wp2_with fail
  refine (awake03 _).mono ?_
  rintro e w1 ⟨rfl, k1⟩
  go_wp2_with fail
  refine (Q1'.out _).mono ?_
  rintro e w2 ⟨rfl, k2⟩
  go_upto_region 3 with fail
  generalize hW : World.alloc w2 (.cells #[.bool false, .int .u64 ch, .int .u64 cl] 24) = W_c
  have K_c : Kept w2 W_c := by subst hW; exact (Kept.refl _).alloc _ _
  have H_c := Lib.hid (show W_c.cell? ⟨w2.heap.size, 0, none⟩ = some (.bool false) ∧ W_c.cell? ⟨w2.heap.size, 1, none⟩ = some (.int .u64 ch) ∧ W_c.cell? ⟨w2.heap.size, 2, none⟩ = some (.int .u64 cl) from by subst hW; simp [go_sem])
  clear hW
  generalize w2.heap.size = g_c at *
  go_wp2_with fail
  refine (Q1'.out _).mono ?_
  rintro e w3 ⟨rfl, k3⟩
  go_upto_region 4 with fail
  generalize hW : World.alloc w3 (.cells #[.bool false, .int .u64 ch, .int .u64 cl] 24) = W_d
  have K_d : Kept w3 W_d := by subst hW; exact (Kept.refl _).alloc _ _
  have H_d := Lib.hid (show W_d.cell? ⟨w3.heap.size, 0, none⟩ = some (.bool false) ∧ W_d.cell? ⟨w3.heap.size, 1, none⟩ = some (.int .u64 ch) ∧ W_d.cell? ⟨w3.heap.size, 2, none⟩ = some (.int .u64 cl) from by subst hW; simp [go_sem])
  clear hW
  generalize w3.heap.size = g_d at *
  go_upto_region 5 with fail
  obtain ⟨c_c0, c_c1, c_c2⟩ := Kept.all3 (show Kept W_c W_d from (by (repeat (first | with_reducible exact Kept.refl _ | with_reducible apply Kept.drew | with_reducible apply Kept.alloc | ((with_reducible apply Kept.set); focus (simp <;> omega)) | ((with_reducible apply Kept.via); focus with_reducible assumption))))) H_c
  obtain ⟨c_d0, c_d1, c_d2⟩ := Kept.all3 (show Kept W_d W_d from (by (repeat (first | with_reducible exact Kept.refl _ | with_reducible apply Kept.drew | with_reducible apply Kept.alloc | ((with_reducible apply Kept.set); focus (simp <;> omega)) | ((with_reducible apply Kept.via); focus with_reducible assumption))))) H_d
  go_wp2
  go_ret
  exact ⟨rfl, (by (repeat (first | with_reducible exact Kept.refl _ | with_reducible apply Kept.drew | with_reducible apply Kept.alloc | ((with_reducible apply Kept.set); focus (simp <;> omega)) | ((with_reducible apply Kept.via); focus with_reducible assumption))))⟩
set_option maxRecDepth 100000 in
set_option maxHeartbeats 1600000 in
theorem cubes_eq_out (a ch cl dh dl : Int) (a0 : 0 ≤ a) (a1 : a ≤ 18446744073709551615)   (hr : 6981463658331 < a) (w : World) (Q1 : ∀ w, Calls Try.prog 10 #[.int .u64 a] w fun e w' => e = .returned (.tuple #[.agg #[.bool false, .int .u64 0, .int .u64 0], .int .i64 10]) ∧ Kept w w') :
    Calls Try.prog 7 #[.int .u64 a, .int .u64 a] w fun e w' => e = .returned (.bool true) ∧ Kept w w' := by
  have Q1' := Lib.hid Q1
  clear Q1
  have g0 : decide (6981463658331 < a) = true := by simp; omega
  go_enter Try.func7, Try.ntmps7
  go_wp2_with fail
  refine (awake03 _).mono ?_
  rintro e w1 ⟨rfl, k1⟩
  go_wp2_with fail
  refine (Q1'.out _).mono ?_
  rintro e w2 ⟨rfl, k2⟩
  go_upto_region 3 with fail
  generalize hW : World.alloc w2 (.cells #[.bool false, .int .u64 0, .int .u64 0] 24) = W_c
  have K_c : Kept w2 W_c := by subst hW; exact (Kept.refl _).alloc _ _
  have H_c := Lib.hid (show W_c.cell? ⟨w2.heap.size, 0, none⟩ = some (.bool false) ∧ W_c.cell? ⟨w2.heap.size, 1, none⟩ = some (.int .u64 0) ∧ W_c.cell? ⟨w2.heap.size, 2, none⟩ = some (.int .u64 0) from by subst hW; simp [go_sem])
  clear hW
  generalize w2.heap.size = g_c at *
  go_wp2_with fail
  refine (Q1'.out _).mono ?_
  rintro e w3 ⟨rfl, k3⟩
  go_upto_region 4 with fail
  generalize hW : World.alloc w3 (.cells #[.bool false, .int .u64 0, .int .u64 0] 24) = W_d
  have K_d : Kept w3 W_d := by subst hW; exact (Kept.refl _).alloc _ _
  have H_d := Lib.hid (show W_d.cell? ⟨w3.heap.size, 0, none⟩ = some (.bool false) ∧ W_d.cell? ⟨w3.heap.size, 1, none⟩ = some (.int .u64 0) ∧ W_d.cell? ⟨w3.heap.size, 2, none⟩ = some (.int .u64 0) from by subst hW; simp [go_sem])
  clear hW
  generalize w3.heap.size = g_d at *
  go_upto_region 5 with fail
  obtain ⟨c_c0, c_c1, c_c2⟩ := Kept.all3 (show Kept W_c W_d from (by (repeat (first | with_reducible exact Kept.refl _ | with_reducible apply Kept.drew | with_reducible apply Kept.alloc | ((with_reducible apply Kept.set); focus (simp <;> omega)) | ((with_reducible apply Kept.via); focus with_reducible assumption))))) H_c
  obtain ⟨c_d0, c_d1, c_d2⟩ := Kept.all3 (show Kept W_d W_d from (by (repeat (first | with_reducible exact Kept.refl _ | with_reducible apply Kept.drew | with_reducible apply Kept.alloc | ((with_reducible apply Kept.set); focus (simp <;> omega)) | ((with_reducible apply Kept.via); focus with_reducible assumption))))) H_d
  go_wp2
  go_ret
  exact ⟨rfl, (by (repeat (first | with_reducible exact Kept.refl _ | with_reducible apply Kept.drew | with_reducible apply Kept.alloc | ((with_reducible apply Kept.set); focus (simp <;> omega)) | ((with_reducible apply Kept.via); focus with_reducible assumption))))⟩
set_option maxRecDepth 100000 in
set_option maxHeartbeats 1600000 in
theorem cubes_gt_in (a b ch cl dh dl : Int) (a0 : 0 ≤ a) (a1 : a ≤ 18446744073709551615) (b0 : 0 ≤ b) (b1 : b ≤ 18446744073709551615) (hab : b < a) (hr : a ≤ 6981463658331) (w : World) (Q1 : ∀ w, Calls Try.prog 10 #[.int .u64 b] w fun e w' => e = .returned (.tuple #[.agg #[.bool false, .int .u64 ch, .int .u64 cl], .int .i64 0]) ∧ Kept w w') (Q2 : ∀ w, Calls Try.prog 10 #[.int .u64 a] w fun e w' => e = .returned (.tuple #[.agg #[.bool false, .int .u64 dh, .int .u64 dl], .int .i64 0]) ∧ Kept w w') (C1 : ∀ w, Calls Try.prog 18 #[.agg #[.bool false, .int .u64 ch, .int .u64 cl], .agg #[.bool false, .int .u64 dh, .int .u64 dl]] w fun e w' => e = .returned (.int .i64 (-1)) ∧ Kept w w') :
    Calls Try.prog 7 #[.int .u64 a, .int .u64 b] w fun e w' => e = .returned (.bool true) ∧ Kept w w' := by
  have Q1' := Lib.hid Q1
  have Q2' := Lib.hid Q2
  have C1' := Lib.hid C1
  clear Q1 Q2 C1
  have f1 : (a == b) = false := by simp; omega
  have f2 : ¬ a = b := by omega
  have f3 : (a != b) = true := by simp; omega
  have f4 : ¬ a < b := by omega
  have g0 : decide (6981463658331 < b) = false := by simp; omega
  have g1 : decide (6981463658331 < a) = false := by simp; omega
  go_enter Try.func7, Try.ntmps7
  go_wp2_with fail
  refine (awake03 _).mono ?_
  rintro e w1 ⟨rfl, k1⟩
  go_wp2_with fail
  refine (Q1'.out _).mono ?_
  rintro e w2 ⟨rfl, k2⟩
  go_upto_region 3 with fail
  generalize hW : World.alloc w2 (.cells #[.bool false, .int .u64 ch, .int .u64 cl] 24) = W_c
  have K_c : Kept w2 W_c := by subst hW; exact (Kept.refl _).alloc _ _
  have H_c := Lib.hid (show W_c.cell? ⟨w2.heap.size, 0, none⟩ = some (.bool false) ∧ W_c.cell? ⟨w2.heap.size, 1, none⟩ = some (.int .u64 ch) ∧ W_c.cell? ⟨w2.heap.size, 2, none⟩ = some (.int .u64 cl) from by subst hW; simp [go_sem])
  clear hW
  generalize w2.heap.size = g_c at *
  go_wp2_with fail
  refine (Q2'.out _).mono ?_
  rintro e w3 ⟨rfl, k3⟩
  go_upto_region 4 with fail
  generalize hW : World.alloc w3 (.cells #[.bool false, .int .u64 dh, .int .u64 dl] 24) = W_d
  have K_d : Kept w3 W_d := by subst hW; exact (Kept.refl _).alloc _ _
  have H_d := Lib.hid (show W_d.cell? ⟨w3.heap.size, 0, none⟩ = some (.bool false) ∧ W_d.cell? ⟨w3.heap.size, 1, none⟩ = some (.int .u64 dh) ∧ W_d.cell? ⟨w3.heap.size, 2, none⟩ = some (.int .u64 dl) from by subst hW; simp [go_sem])
  clear hW
  generalize w3.heap.size = g_d at *
  go_upto_region 5 with fail
  obtain ⟨c_c0, c_c1, c_c2⟩ := Kept.all3 (show Kept W_c W_d from (by (repeat (first | with_reducible exact Kept.refl _ | with_reducible apply Kept.drew | with_reducible apply Kept.alloc | ((with_reducible apply Kept.set); focus (simp <;> omega)) | ((with_reducible apply Kept.via); focus with_reducible assumption))))) H_c
  obtain ⟨c_d0, c_d1, c_d2⟩ := Kept.all3 (show Kept W_d W_d from (by (repeat (first | with_reducible exact Kept.refl _ | with_reducible apply Kept.drew | with_reducible apply Kept.alloc | ((with_reducible apply Kept.set); focus (simp <;> omega)) | ((with_reducible apply Kept.via); focus with_reducible assumption))))) H_d
  go_wp2_with fail
  refine (C1'.out _).mono ?_
  rintro e w4 ⟨rfl, k4⟩
  clear c_c0 c_c1 c_c2 c_d0 c_d1 c_d2
  obtain ⟨c_c0, c_c1, c_c2⟩ := Kept.all3 (show Kept W_c w4 from (by (repeat (first | with_reducible exact Kept.refl _ | with_reducible apply Kept.drew | with_reducible apply Kept.alloc | ((with_reducible apply Kept.set); focus (simp <;> omega)) | ((with_reducible apply Kept.via); focus with_reducible assumption))))) H_c
  go_wp2
  go_ret
  exact ⟨rfl, (by (repeat (first | with_reducible exact Kept.refl _ | with_reducible apply Kept.drew | with_reducible apply Kept.alloc | ((with_reducible apply Kept.set); focus (simp <;> omega)) | ((with_reducible apply Kept.via); focus with_reducible assumption))))⟩
set_option maxRecDepth 100000 in
set_option maxHeartbeats 1600000 in
theorem cubes_gt_mid (a b ch cl dh dl : Int) (a0 : 0 ≤ a) (a1 : a ≤ 18446744073709551615) (b0 : 0 ≤ b) (b1 : b ≤ 18446744073709551615) (hab : b < a) (hr : b ≤ 6981463658331) (hs : 6981463658331 < a) (w : World) (Q1 : ∀ w, Calls Try.prog 10 #[.int .u64 b] w fun e w' => e = .returned (.tuple #[.agg #[.bool false, .int .u64 ch, .int .u64 cl], .int .i64 0]) ∧ Kept w w') (Q2 : ∀ w, Calls Try.prog 10 #[.int .u64 a] w fun e w' => e = .returned (.tuple #[.agg #[.bool false, .int .u64 0, .int .u64 0], .int .i64 10]) ∧ Kept w w') :
    Calls Try.prog 7 #[.int .u64 a, .int .u64 b] w fun e w' => e = .returned (.bool true) ∧ Kept w w' := by
  have Q1' := Lib.hid Q1
  have Q2' := Lib.hid Q2
  clear Q1 Q2
  have f1 : (a == b) = false := by simp; omega
  have f2 : ¬ a = b := by omega
  have f3 : (a != b) = true := by simp; omega
  have f4 : ¬ a < b := by omega
  have g0 : decide (6981463658331 < b) = false := by simp; omega
  have g1 : decide (6981463658331 < a) = true := by simp; omega
  go_enter Try.func7, Try.ntmps7
  go_wp2_with fail
  refine (awake03 _).mono ?_
  rintro e w1 ⟨rfl, k1⟩
  go_wp2_with fail
  refine (Q1'.out _).mono ?_
  rintro e w2 ⟨rfl, k2⟩
  go_upto_region 3 with fail
  generalize hW : World.alloc w2 (.cells #[.bool false, .int .u64 ch, .int .u64 cl] 24) = W_c
  have K_c : Kept w2 W_c := by subst hW; exact (Kept.refl _).alloc _ _
  have H_c := Lib.hid (show W_c.cell? ⟨w2.heap.size, 0, none⟩ = some (.bool false) ∧ W_c.cell? ⟨w2.heap.size, 1, none⟩ = some (.int .u64 ch) ∧ W_c.cell? ⟨w2.heap.size, 2, none⟩ = some (.int .u64 cl) from by subst hW; simp [go_sem])
  clear hW
  generalize w2.heap.size = g_c at *
  go_wp2_with fail
  refine (Q2'.out _).mono ?_
  rintro e w3 ⟨rfl, k3⟩
  go_upto_region 4 with fail
  generalize hW : World.alloc w3 (.cells #[.bool false, .int .u64 0, .int .u64 0] 24) = W_d
  have K_d : Kept w3 W_d := by subst hW; exact (Kept.refl _).alloc _ _
  have H_d := Lib.hid (show W_d.cell? ⟨w3.heap.size, 0, none⟩ = some (.bool false) ∧ W_d.cell? ⟨w3.heap.size, 1, none⟩ = some (.int .u64 0) ∧ W_d.cell? ⟨w3.heap.size, 2, none⟩ = some (.int .u64 0) from by subst hW; simp [go_sem])
  clear hW
  generalize w3.heap.size = g_d at *
  go_upto_region 5 with fail
  obtain ⟨c_c0, c_c1, c_c2⟩ := Kept.all3 (show Kept W_c W_d from (by (repeat (first | with_reducible exact Kept.refl _ | with_reducible apply Kept.drew | with_reducible apply Kept.alloc | ((with_reducible apply Kept.set); focus (simp <;> omega)) | ((with_reducible apply Kept.via); focus with_reducible assumption))))) H_c
  obtain ⟨c_d0, c_d1, c_d2⟩ := Kept.all3 (show Kept W_d W_d from (by (repeat (first | with_reducible exact Kept.refl _ | with_reducible apply Kept.drew | with_reducible apply Kept.alloc | ((with_reducible apply Kept.set); focus (simp <;> omega)) | ((with_reducible apply Kept.via); focus with_reducible assumption))))) H_d
  go_wp2
  go_ret
  exact ⟨rfl, (by (repeat (first | with_reducible exact Kept.refl _ | with_reducible apply Kept.drew | with_reducible apply Kept.alloc | ((with_reducible apply Kept.set); focus (simp <;> omega)) | ((with_reducible apply Kept.via); focus with_reducible assumption))))⟩
set_option maxRecDepth 100000 in
set_option maxHeartbeats 1600000 in
theorem cubes_gt_out (a b ch cl dh dl : Int) (a0 : 0 ≤ a) (a1 : a ≤ 18446744073709551615) (b0 : 0 ≤ b) (b1 : b ≤ 18446744073709551615) (hab : b < a) (hr : 6981463658331 < b) (w : World) (Q1 : ∀ w, Calls Try.prog 10 #[.int .u64 b] w fun e w' => e = .returned (.tuple #[.agg #[.bool false, .int .u64 0, .int .u64 0], .int .i64 10]) ∧ Kept w w') (Q2 : ∀ w, Calls Try.prog 10 #[.int .u64 a] w fun e w' => e = .returned (.tuple #[.agg #[.bool false, .int .u64 0, .int .u64 0], .int .i64 10]) ∧ Kept w w') :
    Calls Try.prog 7 #[.int .u64 a, .int .u64 b] w fun e w' => e = .returned (.bool true) ∧ Kept w w' := by
  have Q1' := Lib.hid Q1
  have Q2' := Lib.hid Q2
  clear Q1 Q2
  have f1 : (a == b) = false := by simp; omega
  have f2 : ¬ a = b := by omega
  have f3 : (a != b) = true := by simp; omega
  have f4 : ¬ a < b := by omega
  have g0 : decide (6981463658331 < b) = true := by simp; omega
  have g1 : decide (6981463658331 < a) = true := by simp; omega
  go_enter Try.func7, Try.ntmps7
  go_wp2_with fail
  refine (awake03 _).mono ?_
  rintro e w1 ⟨rfl, k1⟩
  go_wp2_with fail
  refine (Q1'.out _).mono ?_
  rintro e w2 ⟨rfl, k2⟩
  go_upto_region 3 with fail
  generalize hW : World.alloc w2 (.cells #[.bool false, .int .u64 0, .int .u64 0] 24) = W_c
  have K_c : Kept w2 W_c := by subst hW; exact (Kept.refl _).alloc _ _
  have H_c := Lib.hid (show W_c.cell? ⟨w2.heap.size, 0, none⟩ = some (.bool false) ∧ W_c.cell? ⟨w2.heap.size, 1, none⟩ = some (.int .u64 0) ∧ W_c.cell? ⟨w2.heap.size, 2, none⟩ = some (.int .u64 0) from by subst hW; simp [go_sem])
  clear hW
  generalize w2.heap.size = g_c at *
  go_wp2_with fail
  refine (Q2'.out _).mono ?_
  rintro e w3 ⟨rfl, k3⟩
  go_upto_region 4 with fail
  generalize hW : World.alloc w3 (.cells #[.bool false, .int .u64 0, .int .u64 0] 24) = W_d
  have K_d : Kept w3 W_d := by subst hW; exact (Kept.refl _).alloc _ _
  have H_d := Lib.hid (show W_d.cell? ⟨w3.heap.size, 0, none⟩ = some (.bool false) ∧ W_d.cell? ⟨w3.heap.size, 1, none⟩ = some (.int .u64 0) ∧ W_d.cell? ⟨w3.heap.size, 2, none⟩ = some (.int .u64 0) from by subst hW; simp [go_sem])
  clear hW
  generalize w3.heap.size = g_d at *
  go_upto_region 5 with fail
  obtain ⟨c_c0, c_c1, c_c2⟩ := Kept.all3 (show Kept W_c W_d from (by (repeat (first | with_reducible exact Kept.refl _ | with_reducible apply Kept.drew | with_reducible apply Kept.alloc | ((with_reducible apply Kept.set); focus (simp <;> omega)) | ((with_reducible apply Kept.via); focus with_reducible assumption))))) H_c
  obtain ⟨c_d0, c_d1, c_d2⟩ := Kept.all3 (show Kept W_d W_d from (by (repeat (first | with_reducible exact Kept.refl _ | with_reducible apply Kept.drew | with_reducible apply Kept.alloc | ((with_reducible apply Kept.set); focus (simp <;> omega)) | ((with_reducible apply Kept.via); focus with_reducible assumption))))) H_d
  go_wp2
  go_ret
  exact ⟨rfl, (by (repeat (first | with_reducible exact Kept.refl _ | with_reducible apply Kept.drew | with_reducible apply Kept.alloc | ((with_reducible apply Kept.set); focus (simp <;> omega)) | ((with_reducible apply Kept.via); focus with_reducible assumption))))⟩

theorem rootCubes_walk (a b : Int) (w : World) (ha : Word a) (hb : Word b) :
    Calls Try.prog 7 #[.int .u64 a, .int .u64 b] w fun e w' => e = .returned (.bool true) ∧ Kept w w' := by
  have a0 := ha.1; have b0 := hb.1
  have a1 : a ≤ 18446744073709551615 := by unfold Word at ha; omega
  have b1 : b ≤ 18446744073709551615 := by unfold Word at hb; omega
  have cl : ∀ x y : Int, 0 ≤ x → x < y → cmpI (x * x * x) (y * y * y) = -1 := fun x y x0 l => by
    have := cu_le (a := x + 1) (b := y) (by omega) (by omega)
    have := cu_next x; have := sq_nonneg x0
    unfold cmpI; rw [if_neg (by omega), if_pos (by omega)]
  rcases Int.lt_trichotomy a b with h | h | h
  · rcases Int.lt_or_le 6981463658331 a with k | k
    · exact cubes_lt_out a b 0 0 0 0 a0 a1 b0 b1 h k w (Cube_no ha (cube_over a0 k)) (Cube_no hb (cube_over b0 (by omega)))
    · obtain ⟨ch, cl', rc⟩ := cube_rep a0 k
      rcases Int.lt_or_le 6981463658331 b with l | l
      · exact cubes_lt_mid a b ch cl' 0 0 a0 a1 b0 b1 h k l w (Cube_ok ha rc) (Cube_no hb (cube_over b0 l))
      · obtain ⟨dh, dl, rd⟩ := cube_rep b0 l
        refine cubes_lt_in a b ch cl' dh dl a0 a1 b0 b1 h l w (Cube_ok ha rc) (Cube_ok hb rd) (fun w => ?_)
        have := Cmp_ok (b1 := false) (b2 := false) rc.1 rc.2.1 rd.1 rd.2.1 w
        rw [rc.2.2.1, rd.2.2.1, cl a b a0 h] at this
        exact this
  · subst h
    rcases Int.lt_or_le 6981463658331 a with k | k
    · exact cubes_eq_out a 0 0 0 0 a0 a1 k w (Cube_no ha (cube_over a0 k))
    · obtain ⟨ch, cl', rc⟩ := cube_rep a0 k
      exact cubes_eq_in a ch cl' 0 0 a0 a1 k w (Cube_ok ha rc)
  · rcases Int.lt_or_le 6981463658331 b with k | k
    · exact cubes_gt_out a b 0 0 0 0 a0 a1 b0 b1 h k w (Cube_no hb (cube_over b0 k)) (Cube_no ha (cube_over a0 (by omega)))
    · obtain ⟨ch, cl', rc⟩ := cube_rep b0 k
      rcases Int.lt_or_le 6981463658331 a with l | l
      · exact cubes_gt_mid a b ch cl' 0 0 a0 a1 b0 b1 h k l w (Cube_ok hb rc) (Cube_no ha (cube_over a0 l))
      · obtain ⟨dh, dl, rd⟩ := cube_rep a0 l
        refine cubes_gt_in a b ch cl' dh dl a0 a1 b0 b1 h l w (Cube_ok hb rc) (Cube_ok ha rd) (fun w => ?_)
        have := Cmp_ok (b1 := false) (b2 := false) rc.1 rc.2.1 rd.1 rd.2.1 w
        rw [rc.2.2.1, rd.2.2.1, cl b a b0 h] at this
        exact this
end Go.Proofs.Ytgmhcgmaidnbeaa
