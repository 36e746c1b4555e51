/-
  Contracts of package clock.
-/
import Derived.Test.YtbpdimogigcacaaRoom
namespace Go.Proofs.Ytbpdimogigcacaa
open Go.RowKit

theorem ret_same {k : IntKind} {a b : Int} (h : a = b) : Ending.returned (.int k a) = Ending.returned (.int k b) := by rw [h]
/-- A time. -/
def IsTime (n : Int) : Prop := 0 ≤ n ∧ n ≤ 1099511627776
/-- The nearest time. -/
def heldTime (n : Int) : Int := if n < 0 then 0 else if 1099511627776 < n then 1099511627776 else n
/-- A time's kind. -/
def kindOf (t : Int) : Int := if t < 0 then 0 else if 1099511627776 < t then 0 else if t < 1000 then 1 else if t < 1000000 then 2 else 3
/-- The least multiple of a grain that is not below a number, if it is one of 64 bits. -/
def grainOf (t g : Int) : Int := if g < 1 then t else if 9223372036854775807 < -(-t / g) * g then t else -(-t / g) * g
/-- What a step tells. -/
def StepIs (now at_ v er : Int) : Prop := (¬ IsTime at_ ∧ v = now ∧ er = 51) ∨ (IsTime at_ ∧ at_ < now ∧ v = now ∧ er = 50) ∨ (IsTime at_ ∧ now ≤ at_ ∧ v = at_ ∧ er = 0)

theorem check_yes {t : Int} (h : IsTime t) (w : World) : Calls Try.prog 22 #[.int .i64 t] w fun e w' => e = .returned (.bool true) ∧ Kept w w' := by
  obtain ⟨h0, h1⟩ := h
  go_enter Try.func22, Try.ntmps22
  go_wp2
  go_ret
  exact ⟨rfl, Kept.refl _⟩
theorem check_no {t : Int} (h : ¬ IsTime t) (w : World) : Calls Try.prog 22 #[.int .i64 t] w fun e w' => e = .returned (.bool false) ∧ Kept w w' := by
  have h' : t < 0 ∨ 1099511627776 < t := by unfold IsTime at h; omega
  clear h
  rcases h' with h | h
  · go_enter Try.func22, Try.ntmps22
    go_wp2
    go_ret
    exact ⟨rfl, Kept.refl _⟩
  · have h0 : 0 ≤ t := by omega
    have g : decide (t ≤ 1099511627776) = false := by simp; omega
    go_enter Try.func22, Try.ntmps22
    go_wp2
    go_ret
    exact ⟨rfl, Kept.refl _⟩
theorem step1_ok (g : Nat) (er now : Int) (w : World) (h : w.cell? ⟨g, 0, none⟩ = some (.int .i64 now)) : Calls Try.prog 23 #[.int .i64 er, .pointer (some ⟨g, 0, none⟩)] w fun e w' => e = .returned (.tuple #[.int .i64 now, .int .i64 er]) ∧ Kept w w' := by
  go_enter Try.func23, Try.ntmps23
  go_wp2
  go_ret2
  exact ⟨rfl, Kept.refl _⟩
set_option maxHeartbeats 400000 in
theorem step_time {now t : Int} (h : ¬ IsTime t) (w : World) : Calls Try.prog 20 #[.int .i64 now, .int .i64 t] w fun e w' => e = .returned (.tuple #[.int .i64 now, .int .i64 51]) ∧ Kept w w' := by
  have H := Lib.hid h
  clear h
  go_enter Try.func20, Try.ntmps20
  go_wp2_with fail
  refine (check_no H.out _).mono ?_
  rintro e w1 ⟨rfl, k1⟩
  have c := k1.read (show (w.alloc (.cells #[.int .i64 now] 3)).cell? ⟨w.heap.size, 0, none⟩ = some (.int .i64 now) by simp [go_sem])
  go_wp2_with fail
  refine (step1_ok _ _ _ _ c).mono ?_
  rintro e w2 ⟨rfl, k2⟩
  go_wp2
  go_ret2
  exact ⟨rfl, (((Kept.refl _).alloc _ _).trans k1).trans k2⟩
set_option maxHeartbeats 400000 in
theorem step_back {now t : Int} (h : IsTime t) (hb : t < now) (w : World) : Calls Try.prog 20 #[.int .i64 now, .int .i64 t] w fun e w' => e = .returned (.tuple #[.int .i64 now, .int .i64 50]) ∧ Kept w w' := by
  have H := Lib.hid h
  clear h
  go_enter Try.func20, Try.ntmps20
  go_wp2_with fail
  refine (check_yes H.out _).mono ?_
  rintro e w1 ⟨rfl, k1⟩
  have c := k1.read (show (w.alloc (.cells #[.int .i64 now] 3)).cell? ⟨w.heap.size, 0, none⟩ = some (.int .i64 now) by simp [go_sem])
  go_wp2_with fail
  refine (step1_ok _ _ _ _ c).mono ?_
  rintro e w2 ⟨rfl, k2⟩
  go_wp2
  go_ret2
  exact ⟨rfl, (((Kept.refl _).alloc _ _).trans k1).trans k2⟩
set_option maxHeartbeats 400000 in
theorem step_on {now t : Int} (h : IsTime t) (hb : now ≤ t) (w : World) : Calls Try.prog 20 #[.int .i64 now, .int .i64 t] w fun e w' => e = .returned (.tuple #[.int .i64 t, .int .i64 0]) ∧ Kept w w' := by
  have H := Lib.hid h
  clear h
  go_enter Try.func20, Try.ntmps20
  go_wp2_with fail
  refine (check_yes H.out _).mono ?_
  rintro e w1 ⟨rfl, k1⟩
  have c := k1.read (show (w.alloc (.cells #[.int .i64 now] 3)).cell? ⟨w.heap.size, 0, none⟩ = some (.int .i64 now) by simp [go_sem])
  go_wp2
  go_ret2
  exact ⟨rfl, ((Kept.refl _).alloc _ _).trans k1⟩
theorem Step_ok {now t v er : Int} (h : StepIs now t v er) (w : World) : Calls Try.prog 20 #[.int .i64 now, .int .i64 t] w fun e w' => e = .returned (.tuple #[.int .i64 v, .int .i64 er]) ∧ Kept w w' := by
  rcases h with ⟨h, rfl, rfl⟩ | ⟨h, hb, rfl, rfl⟩ | ⟨h, hb, rfl, rfl⟩
  · exact step_time h w
  · exact step_back h hb w
  · exact step_on h hb w
theorem step_ex (now t : Int) : ∃ v er, StepIs now t v er := by
  by_cases h : IsTime t
  · by_cases hb : t < now
    · exact ⟨_, _, Or.inr (Or.inl ⟨h, hb, rfl, rfl⟩)⟩
    · exact ⟨_, _, Or.inr (Or.inr ⟨h, by omega, rfl, rfl⟩)⟩
  · exact ⟨_, _, Or.inl ⟨h, rfl, rfl⟩⟩

/-- What is over, and the multiple. -/
theorem grain_parts {t g : Int} (h : 1 ≤ g) : (t ≤ 0 ∧ -g < t.tmod g ∧ t.tmod g ≤ 0 ∧ t ≤ t.tmod g ∧ -(-t / g) * g = t - t.tmod g) ∨ (0 < t ∧ t.tmod g = 0 ∧ -(-t / g) * g = t) ∨ (0 < t ∧ 0 < t.tmod g ∧ t.tmod g < g ∧ t.tmod g ≤ t ∧ -(-t / g) * g = t + (g - t.tmod g)) := by
  have e1 := Int.mul_ediv_add_emod (-t) g
  have e2 := Int.emod_nonneg (-t) (show g ≠ 0 by omega)
  have e3 := Int.emod_lt_of_pos (-t) (show 0 < g by omega)
  have e4 : -(-t / g) * g = -(g * (-t / g)) := by rw [Int.neg_mul, Int.mul_comm]
  rw [e4]
  by_cases ht : t ≤ 0
  · have q : t.tmod g = -((-t) % g) := by
      rw [← Int.tmod_eq_emod_of_nonneg (show 0 ≤ -t by omega), Int.neg_tmod, Int.neg_neg]
    have l := Int.mul_nonneg (show 0 ≤ g by omega) (Int.ediv_nonneg (show 0 ≤ -t by omega) (show 0 ≤ g by omega))
    left; omega
  · have q : t.tmod g = t % g := Int.tmod_eq_emod_of_nonneg (by omega)
    have l := Int.mul_nonneg (show 0 ≤ g by omega) (Int.ediv_nonneg (show 0 ≤ t by omega) (show 0 ≤ g by omega))
    have f1 := Int.mul_ediv_add_emod t g
    have f2 := Int.emod_nonneg t (show g ≠ 0 by omega)
    have f3 := Int.emod_lt_of_pos t (show 0 < g by omega)
    have z : (-t) % g = 0 ∧ t % g = 0 ∨ 0 < t % g ∧ (-t) % g = g - t % g := by
      by_cases hz : t % g = 0
      · left; exact ⟨Int.emod_eq_zero_of_dvd (Int.dvd_neg.mpr (Int.dvd_of_emod_eq_zero hz)), hz⟩
      · right
        refine ⟨by omega, ?_⟩
        have s : (-t) = (g - t % g) + g * (-(t / g) - 1) := by rw [Int.mul_sub, Int.mul_neg]; omega
        rw [s, Int.add_mul_emod_self_left]
        exact Int.emod_eq_of_lt (by omega) (by omega)
    right
    rcases z with ⟨z, z'⟩ | ⟨z, z'⟩
    · left; omega
    · right; omega
end Go.Proofs.Ytbpdimogigcacaa
