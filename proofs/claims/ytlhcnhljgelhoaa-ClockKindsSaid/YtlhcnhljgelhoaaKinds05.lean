/-
  The walk of ClockKinds: it answers true, whatever it is given.
-/
import Derived.Test.YtlhcnhljgelhoaaAwake05
import Derived.Deep.DeepCutAuto
namespace Go.Proofs.Ytlhcnhljgelhoaa
open Go.RowKit Go.BigFrame

set_option maxRecDepth 100000 in
set_option maxHeartbeats 1600000 in
theorem kinds_none (a b : Int) (w : World) (K1 : ∀ w, Calls Try.prog 17 #[.int .i64 a] w fun e w' => e = .returned (.int .i64 0) ∧ Kept w w') (C1 : ∀ w, Calls Try.prog 11 #[.int .i64 a] w fun e w' => e = .returned (.bool false) ∧ Kept w w') :
    Calls Try.prog 7 #[.int .i64 a, .int .i64 b] w fun e w' => e = .returned (.bool true) ∧ Kept w w' := by
  have K1' := Lib.hid K1
  have C1' := Lib.hid C1
  clear K1 C1
  go_enter Try.func7, Try.ntmps7
  go_wp2_with fail
  refine (awake05 _).mono ?_
  rintro e w1 ⟨rfl, k1⟩
  go_wp2_with fail
  refine (K1'.out _).mono ?_
  rintro e w2 ⟨rfl, k2⟩
  go_wp2_with fail
  refine (C1'.out _).mono ?_
  rintro e w3 ⟨rfl, k3⟩
  go_wp2_with fail
  refine (C1'.out _).mono ?_
  rintro e w4 ⟨rfl, k4⟩
  go_wp2
  go_ret
  exact ⟨rfl, (by (repeat (first | with_reducible exact Kept.refl _ | with_reducible apply Kept.drew | with_reducible apply Kept.alloc | ((with_reducible apply Kept.set); focus (simp <;> omega)) | ((with_reducible apply Kept.via); focus with_reducible assumption))))⟩
set_option maxRecDepth 100000 in
set_option maxHeartbeats 1600000 in
theorem kinds_one (a b n : Int) (n0 : 1 ≤ n) (n3 : n ≤ 3) (w : World) (K1 : ∀ w, Calls Try.prog 17 #[.int .i64 a] w fun e w' => e = .returned (.int .i64 n) ∧ Kept w w') (C1 : ∀ w, Calls Try.prog 11 #[.int .i64 a] w fun e w' => e = .returned (.bool true) ∧ Kept w w') (C2 : ∀ w, Calls Try.prog 11 #[.int .i64 b] w fun e w' => e = .returned (.bool false) ∧ Kept w w') :
    Calls Try.prog 7 #[.int .i64 a, .int .i64 b] w fun e w' => e = .returned (.bool true) ∧ Kept w w' := by
  have K1' := Lib.hid K1
  have C1' := Lib.hid C1
  have C2' := Lib.hid C2
  clear K1 C1 C2
  have nz : (n == 0) = false := by simp; omega
  go_enter Try.func7, Try.ntmps7
  go_wp2_with fail
  refine (awake05 _).mono ?_
  rintro e w1 ⟨rfl, k1⟩
  go_wp2_with fail
  refine (K1'.out _).mono ?_
  rintro e w2 ⟨rfl, k2⟩
  go_wp2_with fail
  refine (C1'.out _).mono ?_
  rintro e w3 ⟨rfl, k3⟩
  go_wp2_with fail
  refine (C2'.out _).mono ?_
  rintro e w4 ⟨rfl, k4⟩
  go_wp2_with fail
  refine (C1'.out _).mono ?_
  rintro e w5 ⟨rfl, k5⟩
  go_wp2
  go_ret
  exact ⟨rfl, (by (repeat (first | with_reducible exact Kept.refl _ | with_reducible apply Kept.drew | with_reducible apply Kept.alloc | ((with_reducible apply Kept.set); focus (simp <;> omega)) | ((with_reducible apply Kept.via); focus with_reducible assumption))))⟩
set_option maxRecDepth 100000 in
set_option maxHeartbeats 1600000 in
theorem kinds_gt (a b n : Int) (h : b < a) (n0 : 1 ≤ n) (n3 : n ≤ 3) (w : World) (K1 : ∀ w, Calls Try.prog 17 #[.int .i64 a] w fun e w' => e = .returned (.int .i64 n) ∧ Kept w w') (C1 : ∀ w, Calls Try.prog 11 #[.int .i64 a] w fun e w' => e = .returned (.bool true) ∧ Kept w w') (C2 : ∀ w, Calls Try.prog 11 #[.int .i64 b] w fun e w' => e = .returned (.bool true) ∧ Kept w w') :
    Calls Try.prog 7 #[.int .i64 a, .int .i64 b] w fun e w' => e = .returned (.bool true) ∧ Kept w w' := by
  have K1' := Lib.hid K1
  have C1' := Lib.hid C1
  have C2' := Lib.hid C2
  clear K1 C1 C2
  have nz : (n == 0) = false := by simp; omega
  go_enter Try.func7, Try.ntmps7
  go_wp2_with fail
  refine (awake05 _).mono ?_
  rintro e w1 ⟨rfl, k1⟩
  go_wp2_with fail
  refine (K1'.out _).mono ?_
  rintro e w2 ⟨rfl, k2⟩
  go_wp2_with fail
  refine (C1'.out _).mono ?_
  rintro e w3 ⟨rfl, k3⟩
  go_wp2_with fail
  refine (C2'.out _).mono ?_
  rintro e w4 ⟨rfl, k4⟩
  go_wp2_with fail
  refine (C1'.out _).mono ?_
  rintro e w5 ⟨rfl, k5⟩
  go_wp2
  go_ret
  exact ⟨rfl, (by (repeat (first | with_reducible exact Kept.refl _ | with_reducible apply Kept.drew | with_reducible apply Kept.alloc | ((with_reducible apply Kept.set); focus (simp <;> omega)) | ((with_reducible apply Kept.via); focus with_reducible assumption))))⟩
set_option maxRecDepth 100000 in
set_option maxHeartbeats 1600000 in
theorem kinds_le (a b n m : Int) (h : a ≤ b) (hm : n ≤ m) (n0 : 1 ≤ n) (n3 : n ≤ 3) (w : World) (K1 : ∀ w, Calls Try.prog 17 #[.int .i64 a] w fun e w' => e = .returned (.int .i64 n) ∧ Kept w w') (K2 : ∀ w, Calls Try.prog 17 #[.int .i64 b] w fun e w' => e = .returned (.int .i64 m) ∧ Kept w w') (C1 : ∀ w, Calls Try.prog 11 #[.int .i64 a] w fun e w' => e = .returned (.bool true) ∧ Kept w w') (C2 : ∀ w, Calls Try.prog 11 #[.int .i64 b] w fun e w' => e = .returned (.bool true) ∧ Kept w w') :
    Calls Try.prog 7 #[.int .i64 a, .int .i64 b] w fun e w' => e = .returned (.bool true) ∧ Kept w w' := by
  have K1' := Lib.hid K1
  have K2' := Lib.hid K2
  have C1' := Lib.hid C1
  have C2' := Lib.hid C2
  clear K1 K2 C1 C2
  have nz : (n == 0) = false := by simp; omega
  go_enter Try.func7, Try.ntmps7
  go_wp2_with fail
  refine (awake05 _).mono ?_
  rintro e w1 ⟨rfl, k1⟩
  go_wp2_with fail
  refine (K1'.out _).mono ?_
  rintro e w2 ⟨rfl, k2⟩
  go_wp2_with fail
  refine (C1'.out _).mono ?_
  rintro e w3 ⟨rfl, k3⟩
  go_wp2_with fail
  refine (C2'.out _).mono ?_
  rintro e w4 ⟨rfl, k4⟩
  go_wp2_with fail
  refine (K2'.out _).mono ?_
  rintro e w5 ⟨rfl, k5⟩
  go_wp2_with fail
  refine (C1'.out _).mono ?_
  rintro e w6 ⟨rfl, k6⟩
  go_wp2
  go_ret
  exact ⟨rfl, (by (repeat (first | with_reducible exact Kept.refl _ | with_reducible apply Kept.drew | with_reducible apply Kept.alloc | ((with_reducible apply Kept.set); focus (simp <;> omega)) | ((with_reducible apply Kept.via); focus with_reducible assumption))))⟩
theorem kind_range {t : Int} (h : IsTime t) : 1 ≤ kindOf t ∧ kindOf t ≤ 3 := by
  unfold IsTime at h; unfold kindOf; repeat' split
  all_goals omega
theorem kind_out {t : Int} (h : ¬ IsTime t) : kindOf t = 0 := by
  unfold IsTime at h; unfold kindOf; repeat' split
  all_goals omega
theorem kind_rises {a b : Int} (h : a ≤ b) (hb : IsTime b) : kindOf a ≤ kindOf b := by
  unfold IsTime at hb; unfold kindOf; repeat' split
  all_goals omega
theorem clockKinds_walk (a b : Int) (w : World) : Calls Try.prog 7 #[.int .i64 a, .int .i64 b] w fun e w' => e = .returned (.bool true) ∧ Kept w w' := by
  by_cases ha : IsTime a
  · obtain ⟨n0, n3⟩ := kind_range ha
    by_cases hb : IsTime b
    · by_cases h : a ≤ b
      · exact kinds_le a b _ _ h (kind_rises h hb) n0 n3 w (Kind_ok rfl) (Kind_ok rfl) (check_yes ha) (check_yes hb)
      · exact kinds_gt a b _ (by omega) n0 n3 w (Kind_ok rfl) (check_yes ha) (check_yes hb)
    · exact kinds_one a b _ n0 n3 w (Kind_ok rfl) (check_yes ha) (check_no hb)
  · exact kinds_none a b w (Kind_ok (kind_out ha)) (check_no ha)
end Go.Proofs.Ytlhcnhljgelhoaa
