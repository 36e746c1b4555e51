/-
  The walk of ClockTells: it answers true, whatever it is given.
-/
import Derived.Test.YtlhcnhljgelhoaaAwake05
import Derived.Test.YtlhcnhljgelhoaaRef05
import Derived.Deep.DeepCutAuto
namespace Go.Proofs.Ytlhcnhljgelhoaa
open Go.RowKit Go.BigFrame

set_option maxRecDepth 100000 in
set_option maxHeartbeats 1600000 in
theorem tells_all (a b v er x y z : Int) (c : Bool) (w : World) (S1 : ∀ w, Calls Try.prog 9 #[.int .i64 a, .int .i64 b] w fun e w' => e = .returned (.tuple #[.int .i64 v, .int .i64 er]) ∧ Kept w w') (S2 : ∀ w, Calls Try.prog 10 #[.int .i64 a, .int .i64 b] w fun e w' => e = .returned (.tuple #[.int .i64 v, .int .i64 er]) ∧ Kept w w') (C1 : ∀ w, Calls Try.prog 11 #[.int .i64 a] w fun e w' => e = .returned (.bool c) ∧ Kept w w') (C2 : ∀ w, Calls Try.prog 12 #[.int .i64 a] w fun e w' => e = .returned (.bool c) ∧ Kept w w') (A1 : ∀ w, Calls Try.prog 13 #[.int .i64 a, .int .i64 b] w fun e w' => e = .returned (.int .i64 x) ∧ Kept w w') (A2 : ∀ w, Calls Try.prog 14 #[.int .i64 a, .int .i64 b] w fun e w' => e = .returned (.int .i64 x) ∧ Kept w w') (G1 : ∀ w, Calls Try.prog 15 #[.int .i64 a, .int .i64 b] w fun e w' => e = .returned (.int .i64 y) ∧ Kept w w') (G2 : ∀ w, Calls Try.prog 16 #[.int .i64 a, .int .i64 b] w fun e w' => e = .returned (.int .i64 y) ∧ Kept w w') (K1 : ∀ w, Calls Try.prog 17 #[.int .i64 a] w fun e w' => e = .returned (.int .i64 z) ∧ Kept w w') (K2 : ∀ w, Calls Try.prog 18 #[.int .i64 a] w fun e w' => e = .returned (.int .i64 z) ∧ Kept w w') :
    Calls Try.prog 3 #[.int .i64 a, .int .i64 b] w fun e w' => e = .returned (.bool true) ∧ Kept w w' := by
  have S1' := Lib.hid S1
  have S2' := Lib.hid S2
  have C1' := Lib.hid C1
  have C2' := Lib.hid C2
  have A1' := Lib.hid A1
  have A2' := Lib.hid A2
  have G1' := Lib.hid G1
  have G2' := Lib.hid G2
  have K1' := Lib.hid K1
  have K2' := Lib.hid K2
  clear S1 S2 C1 C2 A1 A2 G1 G2 K1 K2
  go_enter Try.func3, Try.ntmps3
  go_wp2_with fail
  refine (awake05 _).mono ?_
  rintro e w1 ⟨rfl, k1⟩
  go_wp2_with fail
  refine (S1'.out _).mono ?_
  rintro e w2 ⟨rfl, k2⟩
  go_wp2_with fail
  refine (S2'.out _).mono ?_
  rintro e w3 ⟨rfl, k3⟩
  go_wp2_with fail
  refine (C1'.out _).mono ?_
  rintro e w4 ⟨rfl, k4⟩
  go_wp2_with fail
  refine (C2'.out _).mono ?_
  rintro e w5 ⟨rfl, k5⟩
  go_wp2_with fail
  refine (A1'.out _).mono ?_
  rintro e w6 ⟨rfl, k6⟩
  go_wp2_with fail
  refine (A2'.out _).mono ?_
  rintro e w7 ⟨rfl, k7⟩
  go_wp2_with fail
  refine (G1'.out _).mono ?_
  rintro e w8 ⟨rfl, k8⟩
  go_wp2_with fail
  refine (G2'.out _).mono ?_
  rintro e w9 ⟨rfl, k9⟩
  go_wp2_with fail
  refine (K1'.out _).mono ?_
  rintro e w10 ⟨rfl, k10⟩
  go_wp2_with fail
  refine (K2'.out _).mono ?_
  rintro e w11 ⟨rfl, k11⟩
  go_wp2
  go_ret
  exact ⟨rfl, (by (repeat (first | with_reducible exact Kept.refl _ | with_reducible apply Kept.drew | with_reducible apply Kept.alloc | ((with_reducible apply Kept.set); focus (simp <;> omega)) | ((with_reducible apply Kept.via); focus with_reducible assumption))))⟩
theorem clockTells_walk (a b : Int) (w : World) (ha : In64 a) (hb : In64 b) : Calls Try.prog 3 #[.int .i64 a, .int .i64 b] w fun e w' => e = .returned (.bool true) ∧ Kept w w' := by
  obtain ⟨v, er, s⟩ := step_ex a b
  by_cases h : IsTime a
  · exact tells_all a b v er _ _ _ true w (Step_ok s) (refStep_ok s) (check_yes h) (refCheck_yes h) (After_ok ha hb rfl) (refAfter_ok ha hb rfl) (Grain_ok ha hb rfl) (refGrain_ok ha hb rfl) (Kind_ok rfl) (refKind_ok rfl)
  · exact tells_all a b v er _ _ _ false w (Step_ok s) (refStep_ok s) (check_no h) (refCheck_no h) (After_ok ha hb rfl) (refAfter_ok ha hb rfl) (Grain_ok ha hb rfl) (refGrain_ok ha hb rfl) (Kind_ok rfl) (refKind_ok rfl)
end Go.Proofs.Ytlhcnhljgelhoaa
