/-
  The walk of ClockGrains: it answers true, whatever it is given.
-/
import Derived.Test.YtlhcnhljgelhoaaAwake05
import Derived.Deep.DeepCutAuto
namespace Go.Proofs.Ytlhcnhljgelhoaa
open Go.RowKit Go.BigFrame

set_option maxRecDepth 100000 in
set_option maxHeartbeats 1600000 in
theorem grains_small (t g : Int) (t0 : -2147483648 ≤ t) (t1 : t ≤ 2147483647) (g1 : g ≤ 2147483647) (g0 : -2147483648 ≤ g) (h : g < 1) (w : World) (G1 : ∀ w, Calls Try.prog 15 #[.int .i64 t, .int .i64 g] w fun e w' => e = .returned (.int .i64 t) ∧ Kept w w') :
    Calls Try.prog 5 #[.int .i32 t, .int .i32 g] w fun e w' => e = .returned (.bool true) ∧ Kept w w' := by
  have G1' := Lib.hid G1
  clear G1
  go_enter Try.func5, Try.ntmps5
  go_wp2_with fail
  refine (awake05 _).mono ?_
  rintro e w1 ⟨rfl, k1⟩
  go_wp2_with fail
  refine (G1'.out _).mono ?_
  rintro e w2 ⟨rfl, k2⟩
  go_wp2
  go_ret
  exact ⟨rfl, (by (repeat (first | with_reducible exact Kept.refl _ | with_reducible apply Kept.drew | with_reducible apply Kept.alloc | ((with_reducible apply Kept.set); focus (simp <;> omega)) | ((with_reducible apply Kept.via); focus with_reducible assumption))))⟩
set_option maxRecDepth 100000 in
set_option maxHeartbeats 1600000 in
theorem grains_some (t g n : Int) (t0 : -2147483648 ≤ t) (t1 : t ≤ 2147483647) (g1 : g ≤ 2147483647) (h : 1 ≤ g) (h0 : t ≤ n) (h1 : n - t < g) (hm : n.tmod g = 0) (w : World) (G1 : ∀ w, Calls Try.prog 15 #[.int .i64 t, .int .i64 g] w fun e w' => e = .returned (.int .i64 n) ∧ Kept w w') (G2 : ∀ w, Calls Try.prog 15 #[.int .i64 n, .int .i64 g] w fun e w' => e = .returned (.int .i64 n) ∧ Kept w w') (G3 : ∀ w, Calls Try.prog 15 #[.int .i64 t, .int .i64 1] w fun e w' => e = .returned (.int .i64 t) ∧ Kept w w') :
    Calls Try.prog 5 #[.int .i32 t, .int .i32 g] w fun e w' => e = .returned (.bool true) ∧ Kept w w' := by
  have G1' := Lib.hid G1
  have G2' := Lib.hid G2
  have G3' := Lib.hid G3
  clear G1 G2 G3
  have gz : (g == 0) = false := by simp; omega
  go_enter Try.func5, Try.ntmps5
  go_wp2_with fail
  refine (awake05 _).mono ?_
  rintro e w1 ⟨rfl, k1⟩
  go_wp2_with fail
  refine (G1'.out _).mono ?_
  rintro e w2 ⟨rfl, k2⟩
  go_wp2_with fail
  refine (G2'.out _).mono ?_
  rintro e w3 ⟨rfl, k3⟩
  go_wp2_with fail
  refine (G3'.out _).mono ?_
  rintro e w4 ⟨rfl, k4⟩
  go_wp2
  go_ret
  exact ⟨rfl, (by (repeat (first | with_reducible exact Kept.refl _ | with_reducible apply Kept.drew | with_reducible apply Kept.alloc | ((with_reducible apply Kept.set); focus (simp <;> omega)) | ((with_reducible apply Kept.via); focus with_reducible assumption))))⟩
theorem grain_facts {t g : Int} (t1 : t ≤ 2147483647) (g1 : g ≤ 2147483647) (h : 1 ≤ g) : t ≤ grainOf t g ∧ grainOf t g - t < g ∧ (grainOf t g).tmod g = 0 ∧ grainOf (grainOf t g) g = grainOf t g := by
  have e1 := Int.mul_ediv_add_emod (-t) g
  have e2 := Int.emod_nonneg (-t) (show g ≠ 0 by omega)
  have e3 := Int.emod_lt_of_pos (-t) (show 0 < g by omega)
  have e4 : -(-t / g) * g = -(g * (-t / g)) := by rw [Int.neg_mul, Int.mul_comm]
  have e : grainOf t g = -(-t / g) * g := by
    unfold grainOf; rw [if_neg (by omega), if_neg (by omega)]
  have f : grainOf (-(-t / g) * g) g = -(-t / g) * g := by
    have q : -(-(-(-t / g) * g) / g) * g = -(-t / g) * g := by
      rw [← Int.neg_mul, Int.neg_neg, Int.mul_ediv_cancel _ (by omega)]
    unfold grainOf; rw [if_neg (by omega), q, if_neg (by omega)]
  rw [e]
  exact ⟨by omega, by omega, Int.mul_tmod_left _ _, f⟩
theorem grain_one (t : Int) : grainOf t 1 = t := by
  unfold grainOf; rw [if_neg (by omega)]; simp
theorem clockGrains_walk (t g : Int) (w : World) (ht : -2147483648 ≤ t ∧ t ≤ 2147483647) (hg : -2147483648 ≤ g ∧ g ≤ 2147483647) : Calls Try.prog 5 #[.int .i32 t, .int .i32 g] w fun e w' => e = .returned (.bool true) ∧ Kept w w' := by
  have it : In64 t := by unfold In64; omega
  have ig : In64 g := by unfold In64; omega
  by_cases h : g < 1
  · exact grains_small t g ht.1 ht.2 hg.2 hg.1 h w (Grain_ok it ig (by unfold grainOf; rw [if_pos h]))
  · have h' : 1 ≤ g := by omega
    obtain ⟨a, b, c, d⟩ := grain_facts ht.2 hg.2 h'
    exact grains_some t g _ ht.1 ht.2 hg.2 h' a b c w (Grain_ok it ig rfl) (Grain_ok (by unfold In64; omega) ig d) (Grain_ok it (by unfold In64; omega) (grain_one t))
end Go.Proofs.Ytlhcnhljgelhoaa
