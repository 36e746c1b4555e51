/-
  The walk of FracParts: it answers true, whatever it is given.
-/
import Derived.Test.YtfkdbelajideiaaRefI02
import Derived.Test.YtfkdbelajideiaaAwake04
namespace Go.Proofs.Ytfkdbelajideiaa
open Go.RowKit Go.BigFrame

set_option maxRecDepth 100000 in
set_option maxHeartbeats 1600000 in
theorem between_zero (a b c : Int) (c0 : c < 1) (w : World) (F1 : ∀ w, Calls Try.prog 10 #[.int .i64 a, .int .i64 b, .int .i64 c] w fun e w' => e = .returned (.tuple #[.int .i64 0, .int .i64 20]) ∧ Kept w w') (N1 : ∀ w, Calls Try.prog 14 #[.int .i64 a, .int .i64 b, .int .i64 c] w fun e w' => e = .returned (.tuple #[.int .i64 0, .int .i64 20]) ∧ Kept w w') (C1 : ∀ w, Calls Try.prog 12 #[.int .i64 a, .int .i64 b, .int .i64 c] w fun e w' => e = .returned (.tuple #[.int .i64 0, .int .i64 20]) ∧ Kept w w') :
    Calls Try.prog 4 #[.int .i64 a, .int .i64 b, .int .i64 c] w fun e w' => e = .returned (.bool true) ∧ Kept w w' := by
  have F1' := Lib.hid F1
  have N1' := Lib.hid N1
  have C1' := Lib.hid C1
  clear F1 N1 C1
  have hc : decide (c < 1) = true := by simp; omega
  go_enter Try.func4, Try.ntmps4
  go_wp2_with fail
  refine (awake04 _).mono ?_
  rintro e w1 ⟨rfl, k1⟩
  go_wp2_with fail
  refine (F1'.out _).mono ?_
  rintro e w2 ⟨rfl, k2⟩
  go_wp2_with fail
  refine (N1'.out _).mono ?_
  rintro e w3 ⟨rfl, k3⟩
  go_wp2_with fail
  refine (C1'.out _).mono ?_
  rintro e w4 ⟨rfl, k4⟩
  go_wp2
  go_ret
  exact ⟨rfl, (by (repeat (first | with_reducible exact Kept.refl _ | with_reducible apply Kept.drew | with_reducible apply Kept.alloc | ((with_reducible apply Kept.set); focus (simp <;> omega)) | ((with_reducible apply Kept.via); focus with_reducible assumption))))⟩
set_option maxRecDepth 100000 in
set_option maxHeartbeats 1600000 in
theorem between_yyy (a b c x y z p q nh nl xh xl zh zl : Int) (nb xb zb : Bool) (h1 : x ≤ y) (h2 : y ≤ z) (h3 : z - x ≤ 1) (hp : p ≤ 0) (hq : 0 ≤ q) (w : World) (F1 : ∀ w, Calls Try.prog 10 #[.int .i64 a, .int .i64 b, .int .i64 c] w fun e w' => e = .returned (.tuple #[.int .i64 x, .int .i64 0]) ∧ Kept w w') (N1 : ∀ w, Calls Try.prog 14 #[.int .i64 a, .int .i64 b, .int .i64 c] w fun e w' => e = .returned (.tuple #[.int .i64 y, .int .i64 0]) ∧ Kept w w') (C1 : ∀ w, Calls Try.prog 12 #[.int .i64 a, .int .i64 b, .int .i64 c] w fun e w' => e = .returned (.tuple #[.int .i64 z, .int .i64 0]) ∧ Kept w w') (M0 : ∀ w, Calls Try.prog 22 #[.int .i64 a, .int .i64 b] w fun e w' => e = .returned (.agg #[.bool nb, .int .u64 nh, .int .u64 nl]) ∧ Kept w w') (M1 : ∀ w, Calls Try.prog 22 #[.int .i64 x, .int .i64 c] w fun e w' => e = .returned (.agg #[.bool xb, .int .u64 xh, .int .u64 xl]) ∧ Kept w w') (K1 : ∀ w, Calls Try.prog 23 #[.agg #[.bool xb, .int .u64 xh, .int .u64 xl], .agg #[.bool nb, .int .u64 nh, .int .u64 nl]] w fun e w' => e = .returned (.int .i64 p) ∧ Kept w w') (M2 : ∀ w, Calls Try.prog 22 #[.int .i64 z, .int .i64 c] w fun e w' => e = .returned (.agg #[.bool zb, .int .u64 zh, .int .u64 zl]) ∧ Kept w w') (K2 : ∀ w, Calls Try.prog 23 #[.agg #[.bool zb, .int .u64 zh, .int .u64 zl], .agg #[.bool nb, .int .u64 nh, .int .u64 nl]] w fun e w' => e = .returned (.int .i64 q) ∧ Kept w w') :
    Calls Try.prog 4 #[.int .i64 a, .int .i64 b, .int .i64 c] w fun e w' => e = .returned (.bool true) ∧ Kept w w' := by
  have F1' := Lib.hid F1
  have N1' := Lib.hid N1
  have C1' := Lib.hid C1
  have M0' := Lib.hid M0
  have M1' := Lib.hid M1
  have K1' := Lib.hid K1
  have M2' := Lib.hid M2
  have K2' := Lib.hid K2
  clear F1 N1 C1 M0 M1 K1 M2 K2
  have d1 : decide (x ≤ y) = true := by simp [h1]
  have d2 : decide (y ≤ z) = true := by simp [h2]
  have g1 : IntKind.i64.wrap (z - x) = z - x := by rw [IntKind.wrap_i64]; omega
  have d3 : decide (z - x ≤ 1) = true := by simp [h3]
  have d4 : decide (p ≤ 0) = true := by simp [hp]
  have d5 : decide (0 ≤ q) = true := by simp [hq]
  go_enter Try.func4, Try.ntmps4
  go_wp2_with fail
  refine (awake04 _).mono ?_
  rintro e w1 ⟨rfl, k1⟩
  go_wp2_with fail
  refine (F1'.out _).mono ?_
  rintro e w2 ⟨rfl, k2⟩
  go_wp2_with fail
  refine (N1'.out _).mono ?_
  rintro e w3 ⟨rfl, k3⟩
  go_wp2_with fail
  refine (C1'.out _).mono ?_
  rintro e w4 ⟨rfl, k4⟩
  go_wp2_with fail
  refine (M0'.out _).mono ?_
  rintro e w5 ⟨rfl, k5⟩
  go_upto_region 8 with fail
  generalize hW : World.alloc w5 (.cells #[.bool nb, .int .u64 nh, .int .u64 nl] 31) = W_n
  have K_n : Kept w5 W_n := by subst hW; exact (Kept.refl _).alloc _ _
  have H_n := Lib.hid (show W_n.cell? ⟨w5.heap.size, 0, none⟩ = some (.bool nb) ∧ W_n.cell? ⟨w5.heap.size, 1, none⟩ = some (.int .u64 nh) ∧ W_n.cell? ⟨w5.heap.size, 2, none⟩ = some (.int .u64 nl) from by subst hW; simp [go_sem])
  clear hW
  generalize w5.heap.size = g_n at *
  have B_n := Lib.hid (Kept.all3 (show Kept W_n W_n from (by (repeat (first | with_reducible exact Kept.refl _ | with_reducible apply Kept.drew | with_reducible apply Kept.alloc | ((with_reducible apply Kept.set); focus (simp <;> omega)) | ((with_reducible apply Kept.via); focus with_reducible assumption))))) H_n)
  have kall : Kept w W_n := (by (repeat (first | with_reducible exact Kept.refl _ | with_reducible apply Kept.drew | with_reducible apply Kept.alloc | ((with_reducible apply Kept.set); focus (simp <;> omega)) | ((with_reducible apply Kept.via); focus with_reducible assumption))))
  obtain ⟨q_n0, q_n1, q_n2⟩ := kw3 B_n
  clear B_n
  refine wp_region_kept (by kernel_rfl) (by as_aux_lemma => kernel_rfl) ?_
  repeat (go_big_quiet_step (first | (with_reducible exact kept_of (M1'.out _)) | (with_reducible exact kept_of (K1'.out _)) | (with_reducible exact kept_of (M2'.out _)) | (with_reducible exact kept_of (K2'.out _))))
  refine wpQuiet_nil ?_
  intro wq hw'
  have kq : Kept W_n wq := by obtain ⟨p, rfl⟩ := hw'; exact p.k
  clear hw'
  go_wp2
  go_ret
  exact ⟨rfl, kall.trans kq⟩
set_option maxRecDepth 100000 in
set_option maxHeartbeats 1600000 in
theorem between_yyo (a b c x y : Int) (c0 : 1 ≤ c) (w : World) (F1 : ∀ w, Calls Try.prog 10 #[.int .i64 a, .int .i64 b, .int .i64 c] w fun e w' => e = .returned (.tuple #[.int .i64 x, .int .i64 0]) ∧ Kept w w') (N1 : ∀ w, Calls Try.prog 14 #[.int .i64 a, .int .i64 b, .int .i64 c] w fun e w' => e = .returned (.tuple #[.int .i64 y, .int .i64 0]) ∧ Kept w w') (C1 : ∀ w, Calls Try.prog 12 #[.int .i64 a, .int .i64 b, .int .i64 c] w fun e w' => e = .returned (.tuple #[.int .i64 0, .int .i64 10]) ∧ Kept w w') :
    Calls Try.prog 4 #[.int .i64 a, .int .i64 b, .int .i64 c] w fun e w' => e = .returned (.bool true) ∧ Kept w w' := by
  have F1' := Lib.hid F1
  have N1' := Lib.hid N1
  have C1' := Lib.hid C1
  clear F1 N1 C1
  have hc : decide (c < 1) = false := by simp; omega
  go_enter Try.func4, Try.ntmps4
  go_wp2_with fail
  refine (awake04 _).mono ?_
  rintro e w1 ⟨rfl, k1⟩
  go_wp2_with fail
  refine (F1'.out _).mono ?_
  rintro e w2 ⟨rfl, k2⟩
  go_wp2_with fail
  refine (N1'.out _).mono ?_
  rintro e w3 ⟨rfl, k3⟩
  go_wp2_with fail
  refine (C1'.out _).mono ?_
  rintro e w4 ⟨rfl, k4⟩
  go_wp2
  go_ret
  exact ⟨rfl, (by (repeat (first | with_reducible exact Kept.refl _ | with_reducible apply Kept.drew | with_reducible apply Kept.alloc | ((with_reducible apply Kept.set); focus (simp <;> omega)) | ((with_reducible apply Kept.via); focus with_reducible assumption))))⟩
set_option maxRecDepth 100000 in
set_option maxHeartbeats 1600000 in
theorem between_yoy (a b c x z : Int) (c0 : 1 ≤ c) (w : World) (F1 : ∀ w, Calls Try.prog 10 #[.int .i64 a, .int .i64 b, .int .i64 c] w fun e w' => e = .returned (.tuple #[.int .i64 x, .int .i64 0]) ∧ Kept w w') (N1 : ∀ w, Calls Try.prog 14 #[.int .i64 a, .int .i64 b, .int .i64 c] w fun e w' => e = .returned (.tuple #[.int .i64 0, .int .i64 10]) ∧ Kept w w') (C1 : ∀ w, Calls Try.prog 12 #[.int .i64 a, .int .i64 b, .int .i64 c] w fun e w' => e = .returned (.tuple #[.int .i64 z, .int .i64 0]) ∧ Kept w w') :
    Calls Try.prog 4 #[.int .i64 a, .int .i64 b, .int .i64 c] w fun e w' => e = .returned (.bool true) ∧ Kept w w' := by
  have F1' := Lib.hid F1
  have N1' := Lib.hid N1
  have C1' := Lib.hid C1
  clear F1 N1 C1
  have hc : decide (c < 1) = false := by simp; omega
  go_enter Try.func4, Try.ntmps4
  go_wp2_with fail
  refine (awake04 _).mono ?_
  rintro e w1 ⟨rfl, k1⟩
  go_wp2_with fail
  refine (F1'.out _).mono ?_
  rintro e w2 ⟨rfl, k2⟩
  go_wp2_with fail
  refine (N1'.out _).mono ?_
  rintro e w3 ⟨rfl, k3⟩
  go_wp2_with fail
  refine (C1'.out _).mono ?_
  rintro e w4 ⟨rfl, k4⟩
  go_wp2
  go_ret
  exact ⟨rfl, (by (repeat (first | with_reducible exact Kept.refl _ | with_reducible apply Kept.drew | with_reducible apply Kept.alloc | ((with_reducible apply Kept.set); focus (simp <;> omega)) | ((with_reducible apply Kept.via); focus with_reducible assumption))))⟩
set_option maxRecDepth 100000 in
set_option maxHeartbeats 1600000 in
theorem between_yoo (a b c x : Int) (c0 : 1 ≤ c) (w : World) (F1 : ∀ w, Calls Try.prog 10 #[.int .i64 a, .int .i64 b, .int .i64 c] w fun e w' => e = .returned (.tuple #[.int .i64 x, .int .i64 0]) ∧ Kept w w') (N1 : ∀ w, Calls Try.prog 14 #[.int .i64 a, .int .i64 b, .int .i64 c] w fun e w' => e = .returned (.tuple #[.int .i64 0, .int .i64 10]) ∧ Kept w w') (C1 : ∀ w, Calls Try.prog 12 #[.int .i64 a, .int .i64 b, .int .i64 c] w fun e w' => e = .returned (.tuple #[.int .i64 0, .int .i64 10]) ∧ Kept w w') :
    Calls Try.prog 4 #[.int .i64 a, .int .i64 b, .int .i64 c] w fun e w' => e = .returned (.bool true) ∧ Kept w w' := by
  have F1' := Lib.hid F1
  have N1' := Lib.hid N1
  have C1' := Lib.hid C1
  clear F1 N1 C1
  have hc : decide (c < 1) = false := by simp; omega
  go_enter Try.func4, Try.ntmps4
  go_wp2_with fail
  refine (awake04 _).mono ?_
  rintro e w1 ⟨rfl, k1⟩
  go_wp2_with fail
  refine (F1'.out _).mono ?_
  rintro e w2 ⟨rfl, k2⟩
  go_wp2_with fail
  refine (N1'.out _).mono ?_
  rintro e w3 ⟨rfl, k3⟩
  go_wp2_with fail
  refine (C1'.out _).mono ?_
  rintro e w4 ⟨rfl, k4⟩
  go_wp2
  go_ret
  exact ⟨rfl, (by (repeat (first | with_reducible exact Kept.refl _ | with_reducible apply Kept.drew | with_reducible apply Kept.alloc | ((with_reducible apply Kept.set); focus (simp <;> omega)) | ((with_reducible apply Kept.via); focus with_reducible assumption))))⟩
set_option maxRecDepth 100000 in
set_option maxHeartbeats 1600000 in
theorem between_oyy (a b c y z : Int) (c0 : 1 ≤ c) (w : World) (F1 : ∀ w, Calls Try.prog 10 #[.int .i64 a, .int .i64 b, .int .i64 c] w fun e w' => e = .returned (.tuple #[.int .i64 0, .int .i64 10]) ∧ Kept w w') (N1 : ∀ w, Calls Try.prog 14 #[.int .i64 a, .int .i64 b, .int .i64 c] w fun e w' => e = .returned (.tuple #[.int .i64 y, .int .i64 0]) ∧ Kept w w') (C1 : ∀ w, Calls Try.prog 12 #[.int .i64 a, .int .i64 b, .int .i64 c] w fun e w' => e = .returned (.tuple #[.int .i64 z, .int .i64 0]) ∧ Kept w w') :
    Calls Try.prog 4 #[.int .i64 a, .int .i64 b, .int .i64 c] w fun e w' => e = .returned (.bool true) ∧ Kept w w' := by
  have F1' := Lib.hid F1
  have N1' := Lib.hid N1
  have C1' := Lib.hid C1
  clear F1 N1 C1
  have hc : decide (c < 1) = false := by simp; omega
  go_enter Try.func4, Try.ntmps4
  go_wp2_with fail
  refine (awake04 _).mono ?_
  rintro e w1 ⟨rfl, k1⟩
  go_wp2_with fail
  refine (F1'.out _).mono ?_
  rintro e w2 ⟨rfl, k2⟩
  go_wp2_with fail
  refine (N1'.out _).mono ?_
  rintro e w3 ⟨rfl, k3⟩
  go_wp2_with fail
  refine (C1'.out _).mono ?_
  rintro e w4 ⟨rfl, k4⟩
  go_wp2
  go_ret
  exact ⟨rfl, (by (repeat (first | with_reducible exact Kept.refl _ | with_reducible apply Kept.drew | with_reducible apply Kept.alloc | ((with_reducible apply Kept.set); focus (simp <;> omega)) | ((with_reducible apply Kept.via); focus with_reducible assumption))))⟩
set_option maxRecDepth 100000 in
set_option maxHeartbeats 1600000 in
theorem between_oyo (a b c y : Int) (c0 : 1 ≤ c) (w : World) (F1 : ∀ w, Calls Try.prog 10 #[.int .i64 a, .int .i64 b, .int .i64 c] w fun e w' => e = .returned (.tuple #[.int .i64 0, .int .i64 10]) ∧ Kept w w') (N1 : ∀ w, Calls Try.prog 14 #[.int .i64 a, .int .i64 b, .int .i64 c] w fun e w' => e = .returned (.tuple #[.int .i64 y, .int .i64 0]) ∧ Kept w w') (C1 : ∀ w, Calls Try.prog 12 #[.int .i64 a, .int .i64 b, .int .i64 c] w fun e w' => e = .returned (.tuple #[.int .i64 0, .int .i64 10]) ∧ Kept w w') :
    Calls Try.prog 4 #[.int .i64 a, .int .i64 b, .int .i64 c] w fun e w' => e = .returned (.bool true) ∧ Kept w w' := by
  have F1' := Lib.hid F1
  have N1' := Lib.hid N1
  have C1' := Lib.hid C1
  clear F1 N1 C1
  have hc : decide (c < 1) = false := by simp; omega
  go_enter Try.func4, Try.ntmps4
  go_wp2_with fail
  refine (awake04 _).mono ?_
  rintro e w1 ⟨rfl, k1⟩
  go_wp2_with fail
  refine (F1'.out _).mono ?_
  rintro e w2 ⟨rfl, k2⟩
  go_wp2_with fail
  refine (N1'.out _).mono ?_
  rintro e w3 ⟨rfl, k3⟩
  go_wp2_with fail
  refine (C1'.out _).mono ?_
  rintro e w4 ⟨rfl, k4⟩
  go_wp2
  go_ret
  exact ⟨rfl, (by (repeat (first | with_reducible exact Kept.refl _ | with_reducible apply Kept.drew | with_reducible apply Kept.alloc | ((with_reducible apply Kept.set); focus (simp <;> omega)) | ((with_reducible apply Kept.via); focus with_reducible assumption))))⟩
set_option maxRecDepth 100000 in
set_option maxHeartbeats 1600000 in
theorem between_ooy (a b c z : Int) (c0 : 1 ≤ c) (w : World) (F1 : ∀ w, Calls Try.prog 10 #[.int .i64 a, .int .i64 b, .int .i64 c] w fun e w' => e = .returned (.tuple #[.int .i64 0, .int .i64 10]) ∧ Kept w w') (N1 : ∀ w, Calls Try.prog 14 #[.int .i64 a, .int .i64 b, .int .i64 c] w fun e w' => e = .returned (.tuple #[.int .i64 0, .int .i64 10]) ∧ Kept w w') (C1 : ∀ w, Calls Try.prog 12 #[.int .i64 a, .int .i64 b, .int .i64 c] w fun e w' => e = .returned (.tuple #[.int .i64 z, .int .i64 0]) ∧ Kept w w') :
    Calls Try.prog 4 #[.int .i64 a, .int .i64 b, .int .i64 c] w fun e w' => e = .returned (.bool true) ∧ Kept w w' := by
  have F1' := Lib.hid F1
  have N1' := Lib.hid N1
  have C1' := Lib.hid C1
  clear F1 N1 C1
  have hc : decide (c < 1) = false := by simp; omega
  go_enter Try.func4, Try.ntmps4
  go_wp2_with fail
  refine (awake04 _).mono ?_
  rintro e w1 ⟨rfl, k1⟩
  go_wp2_with fail
  refine (F1'.out _).mono ?_
  rintro e w2 ⟨rfl, k2⟩
  go_wp2_with fail
  refine (N1'.out _).mono ?_
  rintro e w3 ⟨rfl, k3⟩
  go_wp2_with fail
  refine (C1'.out _).mono ?_
  rintro e w4 ⟨rfl, k4⟩
  go_wp2
  go_ret
  exact ⟨rfl, (by (repeat (first | with_reducible exact Kept.refl _ | with_reducible apply Kept.drew | with_reducible apply Kept.alloc | ((with_reducible apply Kept.set); focus (simp <;> omega)) | ((with_reducible apply Kept.via); focus with_reducible assumption))))⟩
set_option maxRecDepth 100000 in
set_option maxHeartbeats 1600000 in
theorem between_ooo (a b c : Int) (c0 : 1 ≤ c) (w : World) (F1 : ∀ w, Calls Try.prog 10 #[.int .i64 a, .int .i64 b, .int .i64 c] w fun e w' => e = .returned (.tuple #[.int .i64 0, .int .i64 10]) ∧ Kept w w') (N1 : ∀ w, Calls Try.prog 14 #[.int .i64 a, .int .i64 b, .int .i64 c] w fun e w' => e = .returned (.tuple #[.int .i64 0, .int .i64 10]) ∧ Kept w w') (C1 : ∀ w, Calls Try.prog 12 #[.int .i64 a, .int .i64 b, .int .i64 c] w fun e w' => e = .returned (.tuple #[.int .i64 0, .int .i64 10]) ∧ Kept w w') :
    Calls Try.prog 4 #[.int .i64 a, .int .i64 b, .int .i64 c] w fun e w' => e = .returned (.bool true) ∧ Kept w w' := by
  have F1' := Lib.hid F1
  have N1' := Lib.hid N1
  have C1' := Lib.hid C1
  clear F1 N1 C1
  have hc : decide (c < 1) = false := by simp; omega
  go_enter Try.func4, Try.ntmps4
  go_wp2_with fail
  refine (awake04 _).mono ?_
  rintro e w1 ⟨rfl, k1⟩
  go_wp2_with fail
  refine (F1'.out _).mono ?_
  rintro e w2 ⟨rfl, k2⟩
  go_wp2_with fail
  refine (N1'.out _).mono ?_
  rintro e w3 ⟨rfl, k3⟩
  go_wp2_with fail
  refine (C1'.out _).mono ?_
  rintro e w4 ⟨rfl, k4⟩
  go_wp2
  go_ret
  exact ⟨rfl, (by (repeat (first | with_reducible exact Kept.refl _ | with_reducible apply Kept.drew | with_reducible apply Kept.alloc | ((with_reducible apply Kept.set); focus (simp <;> omega)) | ((with_reducible apply Kept.via); focus with_reducible assumption))))⟩
theorem between_near {m c : Int} (hc : 1 ≤ c) : m / c ≤ nearOf m c ∧ nearOf m c ≤ ceilOf m c ∧ ceilOf m c - m / c ≤ 1 := by
  rw [ceil_part hc, near_part hc]
  have a2 := Int.emod_nonneg m (show c ≠ 0 by omega)
  have a3 := Int.emod_lt_of_pos m (show 0 < c by omega)
  refine ⟨?_, ?_, ?_⟩ <;> (repeat' split) <;> omega
theorem between_mul {m c : Int} (hc : 1 ≤ c) : m / c * c ≤ m ∧ m ≤ ceilOf m c * c := by
  have a := Int.mul_ediv_add_emod m c
  have a2 := Int.emod_nonneg m (show c ≠ 0 by omega)
  have a3 := Int.emod_lt_of_pos m (show 0 < c by omega)
  rw [ceil_part hc, Int.mul_comm (m / c) c]
  refine ⟨by omega, ?_⟩
  split
  · rw [Int.mul_comm]; omega
  · rw [Int.add_mul, Int.mul_comm (m / c) c, Int.one_mul]; omega
theorem fracParts_walk (a b c : Int) (w : World) (ha : In64 a) (hb : In64 b) (hc : In64 c) :
    Calls Try.prog 4 #[.int .i64 a, .int .i64 b, .int .i64 c] w fun e w' => e = .returned (.bool true) ∧ Kept w w' := by
  by_cases c0 : c < 1
  · exact between_zero a b c c0 w (Floor_ok ha hb hc (part_zero c0)) (Near_ok ha hb hc (part_zero c0)) (Ceil_ok ha hb hc (part_zero c0))
  have c1 : 1 ≤ c := by omega
  by_cases i1 : In64 (a * b / c) <;> by_cases i2 : In64 (nearOf (a * b) c) <;> by_cases i3 : In64 (ceilOf (a * b) c)
  · obtain ⟨h1, h2, h3⟩ := between_near (m := a * b) c1
    obtain ⟨h4, h5⟩ := between_mul (m := a * b) c1
    obtain ⟨nb, nh, nl, rn⟩ := rep_ex _ (mul_in ha hb)
    obtain ⟨xb, xh, xl, rx⟩ := rep_ex _ (mul_in i1 hc)
    obtain ⟨zb, zh, zl, rz⟩ := rep_ex _ (mul_in i3 hc)
    have K1 := fun w => refCmp_ok (b1 := xb) (b2 := nb) rx.1 rx.2.1 rn.1 rn.2.1 w
    have K2 := fun w => refCmp_ok (b1 := zb) (b2 := nb) rz.1 rz.2.1 rn.1 rn.2.1 w
    rw [rx.2.2.1, rn.2.2.1] at K1
    rw [rz.2.2.1, rn.2.2.1] at K2
    refine between_yyy a b c _ _ _ _ _ nh nl xh xl zh zl nb xb zb h1 h2 h3 ?_ ?_ w (Floor_ok ha hb hc (part_yes c1 i1)) (Near_ok ha hb hc (part_yes c1 i2)) (Ceil_ok ha hb hc (part_yes c1 i3)) (refMul_rep ha hb rn) (refMul_rep i1 hc rx) K1 (refMul_rep i3 hc rz) K2
    · unfold cmpI; split; omega; rw [if_pos (by omega)]; omega
    · unfold cmpI; split; omega; rw [if_neg (by omega)]; omega
  · exact between_yyo a b c _ _ c1 w (Floor_ok ha hb hc (part_yes c1 i1)) (Near_ok ha hb hc (part_yes c1 i2)) (Ceil_ok ha hb hc (part_over c1 i3))
  · exact between_yoy a b c _ _ c1 w (Floor_ok ha hb hc (part_yes c1 i1)) (Near_ok ha hb hc (part_over c1 i2)) (Ceil_ok ha hb hc (part_yes c1 i3))
  · exact between_yoo a b c _ c1 w (Floor_ok ha hb hc (part_yes c1 i1)) (Near_ok ha hb hc (part_over c1 i2)) (Ceil_ok ha hb hc (part_over c1 i3))
  · exact between_oyy a b c _ _ c1 w (Floor_ok ha hb hc (part_over c1 i1)) (Near_ok ha hb hc (part_yes c1 i2)) (Ceil_ok ha hb hc (part_yes c1 i3))
  · exact between_oyo a b c _ c1 w (Floor_ok ha hb hc (part_over c1 i1)) (Near_ok ha hb hc (part_yes c1 i2)) (Ceil_ok ha hb hc (part_over c1 i3))
  · exact between_ooy a b c _ c1 w (Floor_ok ha hb hc (part_over c1 i1)) (Near_ok ha hb hc (part_over c1 i2)) (Ceil_ok ha hb hc (part_yes c1 i3))
  · exact between_ooo a b c c1 w (Floor_ok ha hb hc (part_over c1 i1)) (Near_ok ha hb hc (part_over c1 i2)) (Ceil_ok ha hb hc (part_over c1 i3))
end Go.Proofs.Ytfkdbelajideiaa
