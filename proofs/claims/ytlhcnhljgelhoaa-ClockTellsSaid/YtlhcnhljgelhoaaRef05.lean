/-
  Contracts of the document's answers of layer 5.
-/
import Derived.Test.YtlhcnhljgelhoaaClock05
import Derived.Test.YtlhcnhljgelhoaaRef01
namespace Go.Proofs.Ytlhcnhljgelhoaa
open Go.RowKit

theorem refCheck_yes {t : Int} (h : IsTime t) (w : World) : Calls Try.prog 12 #[.int .i64 t] w fun e w' => e = .returned (.bool true) ∧ Kept w w' := by
  obtain ⟨h0, h1⟩ := h
  go_enter Try.func12, Try.ntmps12
  go_wp2
  go_ret
  exact ⟨rfl, Kept.refl _⟩
theorem refCheck_no {t : Int} (h : ¬ IsTime t) (w : World) : Calls Try.prog 12 #[.int .i64 t] w fun e w' => e = .returned (.bool false) ∧ Kept w w' := by
  have h' : t < 0 ∨ 1099511627776 < t := by unfold IsTime at h; omega
  clear h
  rcases h' with h | h
  · go_enter Try.func12, Try.ntmps12
    go_wp2
    go_ret
    exact ⟨rfl, Kept.refl _⟩
  · have h0 : 0 ≤ t := by omega
    have g : decide (t ≤ 1099511627776) = false := by simp; omega
    go_enter Try.func12, Try.ntmps12
    go_wp2
    go_ret
    exact ⟨rfl, Kept.refl _⟩
theorem refStep_ok {now t v er : Int} (h : StepIs now t v er) (w : World) : Calls Try.prog 10 #[.int .i64 now, .int .i64 t] w fun e w' => e = .returned (.tuple #[.int .i64 v, .int .i64 er]) ∧ Kept w w' := by
  have h' : (t < 0 ∧ v = now ∧ er = 51) ∨ (0 ≤ t ∧ 1099511627776 < t ∧ v = now ∧ er = 51) ∨ (0 ≤ t ∧ t ≤ 1099511627776 ∧ t < now ∧ v = now ∧ er = 50) ∨ (0 ≤ t ∧ t ≤ 1099511627776 ∧ now ≤ t ∧ v = t ∧ er = 0) := by
    unfold StepIs IsTime at h; omega
  clear h
  rcases h' with ⟨a, rfl, rfl⟩ | ⟨a, b, rfl, rfl⟩ | ⟨a, b, c, rfl, rfl⟩ | ⟨a, b, c, rfl, rfl⟩
  all_goals
    go_enter Try.func10, Try.ntmps10
    go_wp2
    go_ret2
    exact ⟨rfl, Kept.refl _⟩
theorem refAfter_ok {now by_ n : Int} (ha : In64 now) (hb : In64 by_) (hn : heldTime (now + by_) = n) (w : World) : Calls Try.prog 14 #[.int .i64 now, .int .i64 by_] w fun e w' => e = .returned (.int .i64 n) ∧ Kept w w' := by
  have e1 : clampAt (heldAt (now + by_)) 0 1099511627776 = n := by
    subst hn
    unfold clampAt heldAt heldTime
    repeat' split
    all_goals omega
  have C1 := Lib.hid (fun w => refAdd_lit_s now by_ _ w ha hb rfl)
  have C2 := Lib.hid (fun w => refClamp_lit_s (heldAt (now + by_)) 0 1099511627776 n w e1)
  clear hn e1
  generalize heldAt (now + by_) = m at *
  go_enter Try.func14, Try.ntmps14
  go_wp2_with fail
  refine (C1.out _).mono ?_
  rintro e w1 ⟨rfl, rfl⟩
  go_wp2_with fail
  refine (C2.out _).mono ?_
  rintro e w1 ⟨rfl, rfl⟩
  go_wp2
  go_ret
  exact ⟨rfl, Kept.refl _⟩
theorem refGrain_small {t g : Int} (h : g < 1) (w : World) : Calls Try.prog 16 #[.int .i64 t, .int .i64 g] w fun e w' => e = .returned (.int .i64 t) ∧ Kept w w' := by
  go_enter Try.func16, Try.ntmps16
  go_wp2
  go_ret
  exact ⟨rfl, Kept.refl _⟩
theorem refGrain_down {t g q n : Int} (h : 1 ≤ g) (hq : wrap64 (t.tdiv g) = q) (q0 : -9223372036854775808 ≤ q * g) (q1 : q * g ≤ 9223372036854775807) (t1 : t ≤ q * g) (hn : q * g = n) (w : World) :
    Calls Try.prog 16 #[.int .i64 t, .int .i64 g] w fun e w' => e = .returned (.int .i64 n) ∧ Kept w w' := by
  have gz : (g == 0) = false := by simp; omega
  have HN := Lib.hid hn
  clear hn
  go_enter Try.func16, Try.ntmps16
  go_wp2
  go_ret
  exact ⟨ret_same HN.out, Kept.refl _⟩
theorem refGrain_even {t g q n : Int} (h : 1 ≤ g) (t0 : 0 < t) (hq : t / g = q) (q0 : -9223372036854775808 ≤ q * g) (q1 : q * g ≤ 9223372036854775807) (t1 : t ≤ q * g) (hn : q * g = n) (w : World) :
    Calls Try.prog 16 #[.int .i64 t, .int .i64 g] w fun e w' => e = .returned (.int .i64 n) ∧ Kept w w' := by
  have gz : (g == 0) = false := by simp; omega
  have HN := Lib.hid hn
  clear hn
  go_enter Try.func16, Try.ntmps16
  go_wp2
  go_ret
  exact ⟨ret_same HN.out, Kept.refl _⟩
theorem refGrain_up {t g q p n : Int} (h : 1 ≤ g) (t0 : 0 < t) (t2 : t ≤ 9223372036854775807) (hq : t / g = q) (q0 : -9223372036854775808 ≤ q * g) (q1 : q * g ≤ 9223372036854775807) (t1 : q * g < t) (hp : q * g = p) (w : World)
    (C : ∀ w, Calls Try.prog 22 #[.int .i64 p, .int .i64 g] w fun e w' => e = .returned (.tuple #[.int .i64 n, .int .i64 0]) ∧ w = w') :
    Calls Try.prog 16 #[.int .i64 t, .int .i64 g] w fun e w' => e = .returned (.int .i64 n) ∧ Kept w w' := by
  have gz : (g == 0) = false := by simp; omega
  subst hp
  have C' := Lib.hid C
  clear C
  go_enter Try.func16, Try.ntmps16
  go_wp2_with fail
  refine (C'.out _).mono ?_
  rintro e w1 ⟨rfl, rfl⟩
  go_wp2
  go_ret
  exact ⟨rfl, Kept.refl _⟩
theorem refGrain_none {t g q p : Int} (h : 1 ≤ g) (t0 : 0 < t) (t2 : t ≤ 9223372036854775807) (hq : t / g = q) (q0 : -9223372036854775808 ≤ q * g) (q1 : q * g ≤ 9223372036854775807) (t1 : q * g < t) (hp : q * g = p) (w : World)
    (C : ∀ w, Calls Try.prog 22 #[.int .i64 p, .int .i64 g] w fun e w' => e = .returned (.tuple #[.int .i64 0, .int .i64 10]) ∧ w = w') :
    Calls Try.prog 16 #[.int .i64 t, .int .i64 g] w fun e w' => e = .returned (.int .i64 t) ∧ Kept w w' := by
  have gz : (g == 0) = false := by simp; omega
  subst hp
  have C' := Lib.hid C
  clear C
  go_enter Try.func16, Try.ntmps16
  go_wp2_with fail
  refine (C'.out _).mono ?_
  rintro e w1 ⟨rfl, rfl⟩
  go_wp2
  go_ret
  exact ⟨rfl, Kept.refl _⟩
theorem refGrain_ok {t g n : Int} (ht : In64 t) (hg : In64 g) (hn : grainOf t g = n) (w : World) : Calls Try.prog 16 #[.int .i64 t, .int .i64 g] w fun e w' => e = .returned (.int .i64 n) ∧ Kept w w' := by
  have ht' := ht
  have hg' := hg
  unfold In64 at ht hg
  unfold grainOf at hn
  by_cases h : g < 1
  · rw [if_pos h] at hn; subst hn; exact refGrain_small h w
  · rw [if_neg h] at hn
    have h' : 1 ≤ g := by omega
    have hd := Int.mul_tdiv_add_tmod t g
    rw [Int.mul_comm g] at hd
    rcases grain_parts (t := t) h' with ⟨a, b, c, d, e⟩ | ⟨a, b, e⟩ | ⟨a, b, c, d, e⟩
    · rw [e, if_neg (by omega)] at hn
      have hw : wrap64 (t.tdiv g) = t.tdiv g := wrap64_quo ht' (by omega) (by omega)
      exact refGrain_down h' hw (by omega) (by omega) (by omega) (by omega) w
    · rw [e, if_neg (by omega)] at hn
      have hq : t.tdiv g = t / g := Int.tdiv_eq_ediv_of_nonneg (by omega)
      rw [hq] at hd
      exact refGrain_even h' a rfl (by omega) (by omega) (by omega) (by omega) w
    · rw [e] at hn
      have hq : t.tdiv g = t / g := Int.tdiv_eq_ediv_of_nonneg (by omega)
      rw [hq] at hd
      by_cases k : 9223372036854775807 < t + (g - t.tmod g)
      · rw [if_pos k] at hn
        subst hn
        exact refGrain_none h' a ht.2 rfl (by omega) (by omega) (by omega) rfl w (fun w => refPlus_no_s _ g w (by unfold In64; omega) hg' (by unfold In64; omega))
      · rw [if_neg k] at hn
        have C := fun w => refPlus_ok_s (t / g * g) g w (by unfold In64; omega) hg' (by unfold In64; omega)
        rw [show t / g * g + g = n by omega] at C
        exact refGrain_up h' a ht.2 rfl (by omega) (by omega) (by omega) rfl w C
theorem refKind_ok {t n : Int} (hn : kindOf t = n) (w : World) : Calls Try.prog 18 #[.int .i64 t] w fun e w' => e = .returned (.int .i64 n) ∧ Kept w w' := by
  have h' : (t < 0 ∧ n = 0) ∨ (0 ≤ t ∧ 1099511627776 < t ∧ n = 0) ∨ (0 ≤ t ∧ t ≤ 1099511627776 ∧ 1000000 ≤ t ∧ n = 3) ∨ (0 ≤ t ∧ t ≤ 1099511627776 ∧ t < 1000000 ∧ 1000 ≤ t ∧ n = 2) ∨ (0 ≤ t ∧ t ≤ 1099511627776 ∧ t < 1000 ∧ n = 1) := by
    subst hn; unfold kindOf; repeat' split
    all_goals omega
  clear hn
  rcases h' with ⟨a, rfl⟩ | ⟨a, b, rfl⟩ | ⟨a, b, c, rfl⟩ | ⟨a, b, c, d, rfl⟩ | ⟨a, b, c, rfl⟩
  all_goals
    go_enter Try.func18, Try.ntmps18
    go_wp2
    go_ret
    exact ⟨rfl, Kept.refl _⟩

end Go.Proofs.Ytlhcnhljgelhoaa
