/-
  Plain arithmetic of layer 3: squares, cubes, and whole roots.
-/
import Derived.Test.YtdbikeehoildlaaDoorWide
namespace Go.Proofs.YtdbikeehoildlaaDoor
open Go.RowKit

/-- The whole square root. -/
def IsHalf (s n : Int) : Prop := 0 ≤ n ∧ n * n ≤ s ∧ s < (n + 1) * (n + 1)
/-- The whole cube root. -/
def IsThird (s n : Int) : Prop := 0 ≤ n ∧ n * n * n ≤ s ∧ s < (n + 1) * (n + 1) * (n + 1)

theorem sq_le {a b : Int} (h0 : 0 ≤ a) (h : a ≤ b) : a * a ≤ b * b := Int.mul_le_mul h h h0 (by omega)
theorem cu_le {a b : Int} (h0 : 0 ≤ a) (h : a ≤ b) : a * a * a ≤ b * b * b := Int.mul_le_mul (sq_le h0 h) h h0 (Int.mul_nonneg (by omega) (by omega))
theorem sq_nonneg {a : Int} (h0 : 0 ≤ a) : 0 ≤ a * a := Int.mul_nonneg h0 h0
theorem cu_nonneg {a : Int} (h0 : 0 ≤ a) : 0 ≤ a * a * a := Int.mul_nonneg (sq_nonneg h0) h0
theorem sq_next (a : Int) : (a + 1) * (a + 1) = a * a + 2 * a + 1 := by rw [Int.add_mul, Int.mul_add]; omega
theorem cu_next (a : Int) : (a + 1) * (a + 1) * (a + 1) = a * a * a + 3 * (a * a) + 3 * a + 1 := by
  rw [sq_next, Int.mul_add, Int.add_mul, Int.add_mul, Int.mul_assoc 2 a a]; omega
theorem half_iff {s n m : Int} (h : IsHalf s n) (h0 : 0 ≤ m) : m * m ≤ s ↔ m ≤ n := by
  obtain ⟨a, b, c⟩ := h
  constructor
  · intro k
    rcases Int.lt_or_le n m with l | l
    · have := sq_le (a := n + 1) (b := m) (by omega) (by omega); omega
    · exact l
  · intro k; have := sq_le h0 k; omega
theorem third_iff {s n m : Int} (h : IsThird s n) (h0 : 0 ≤ m) : m * m * m ≤ s ↔ m ≤ n := by
  obtain ⟨a, b, c⟩ := h
  constructor
  · intro k
    rcases Int.lt_or_le n m with l | l
    · have := cu_le (a := n + 1) (b := m) (by omega) (by omega); omega
    · exact l
  · intro k; have := cu_le h0 k; omega
theorem half_uniq {s m n : Int} (h : IsHalf s m) (k : IsHalf s n) : m = n := by
  have := (half_iff h k.1).1 k.2.1
  have := (half_iff k h.1).1 h.2.1
  omega
theorem third_uniq {s m n : Int} (h : IsThird s m) (k : IsThird s n) : m = n := by
  have := (third_iff h k.1).1 k.2.1
  have := (third_iff k h.1).1 h.2.1
  omega
theorem half_rises {s t m n : Int} (h : IsHalf s m) (k : IsHalf t n) (l : s ≤ t) : m ≤ n := (half_iff k h.1).1 (Int.le_trans h.2.1 l)
theorem third_rises {s t m n : Int} (h : IsThird s m) (k : IsThird t n) (l : s ≤ t) : m ≤ n := (third_iff k h.1).1 (Int.le_trans h.2.1 l)
theorem half_exN (k : Nat) : ∃ n, IsHalf (k : Int) n := by
  induction k with
  | zero => exact ⟨0, by decide, by decide, by decide⟩
  | succ k ih =>
    obtain ⟨n, a, b, c⟩ := ih
    by_cases h : (k : Int) + 1 < (n + 1) * (n + 1)
    · exact ⟨n, a, by omega, by omega⟩
    · refine ⟨n + 1, by omega, by omega, ?_⟩
      have := sq_next (n + 1); omega
theorem third_exN (k : Nat) : ∃ n, IsThird (k : Int) n := by
  induction k with
  | zero => exact ⟨0, by decide, by decide, by decide⟩
  | succ k ih =>
    obtain ⟨n, a, b, c⟩ := ih
    by_cases h : (k : Int) + 1 < (n + 1) * (n + 1) * (n + 1)
    · exact ⟨n, a, by omega, by omega⟩
    · refine ⟨n + 1, by omega, by omega, ?_⟩
      have := cu_next (n + 1); have := sq_nonneg (a := n + 1) (by omega); omega
theorem half_ex {s : Int} (h : 0 ≤ s) : ∃ n, IsHalf s n := by obtain ⟨k, rfl⟩ := Int.eq_ofNat_of_zero_le h; exact half_exN k
theorem third_ex {s : Int} (h : 0 ≤ s) : ∃ n, IsThird s n := by obtain ⟨k, rfl⟩ := Int.eq_ofNat_of_zero_le h; exact third_exN k
theorem half_top : IsHalf 340282366920938463463374607431768211455 18446744073709551615 := ⟨by decide, by decide, by decide⟩
theorem third_top : IsThird 340282366920938463463374607431768211455 6981463658331 := ⟨by decide, by decide, by decide⟩
theorem half_most {s n : Int} (h : IsHalf s n) (l : s < 340282366920938463463374607431768211456) : n ≤ 18446744073709551615 := half_rises h half_top (by omega)
theorem third_most {s n : Int} (h : IsThird s n) (l : s < 340282366920938463463374607431768211456) : n ≤ 6981463658331 := third_rises h third_top (by omega)
/-- A cube goes into 128 bits just up to this number. -/
theorem cube_fits {n : Int} (h0 : 0 ≤ n) : n * n * n < 340282366920938463463374607431768211456 ↔ n ≤ 6981463658331 := by
  have := third_iff (m := n) third_top h0
  constructor
  · intro h; exact this.1 (by omega)
  · intro h; have := this.2 h; omega
theorem half_of_sq {n : Int} (h0 : 0 ≤ n) : IsHalf (n * n) n := ⟨h0, Int.le_refl _, by rw [sq_next]; omega⟩
theorem third_of_cu {n : Int} (h0 : 0 ≤ n) : IsThird (n * n * n) n := ⟨h0, Int.le_refl _, by rw [cu_next]; have := sq_nonneg h0; omega⟩
theorem half_under {n : Int} (h0 : 1 ≤ n) : IsHalf (n * n - 1) (n - 1) := by
  refine ⟨by omega, ?_, ?_⟩
  · have := sq_next (n - 1); rw [show n - 1 + 1 = n by omega] at this; omega
  · rw [show n - 1 + 1 = n by omega]; omega
theorem third_under {n : Int} (h0 : 1 ≤ n) : IsThird (n * n * n - 1) (n - 1) := by
  refine ⟨by omega, ?_, ?_⟩
  · have := cu_next (n - 1); rw [show n - 1 + 1 = n by omega] at this; have := sq_nonneg (a := n - 1) (by omega); omega
  · rw [show n - 1 + 1 = n by omega]; omega
theorem cu_double (a : Int) : 2 * a * (2 * a) * (2 * a) = 8 * (a * a * a) := by
  rw [show (2 : Int) * a * (2 * a) = 4 * (a * a) by rw [Int.mul_assoc 2 a, Int.mul_left_comm a 2 a]; omega, Int.mul_assoc 4, Int.mul_left_comm (a * a) 2 a]; omega
theorem sq_double (a : Int) : 2 * a * (2 * a) = 4 * (a * a) := by rw [Int.mul_assoc 2 a, Int.mul_left_comm a 2 a]; omega
/-- The cube root of eight times a number is twice its root, or one more. -/
theorem third_eight {s n m : Int} (h : IsThird s n) (k : IsThird (s * 8) m) : 0 ≤ m - 2 * n ∧ m - 2 * n ≤ 1 := by
  have a : 2 * n ≤ m := (third_iff k (by have := h.1; omega)).1 (by rw [cu_double]; have := h.2.1; omega)
  have b : ¬ 2 * (n + 1) ≤ m := fun l => by
    have := (third_iff k (by have := h.1; omega)).2 l
    rw [cu_double] at this; have := h.2.2; omega
  omega
theorem half_four {s n m : Int} (h : IsHalf s n) (k : IsHalf (s * 4) m) : 0 ≤ m - 2 * n ∧ m - 2 * n ≤ 1 := by
  have a : 2 * n ≤ m := (half_iff k (by have := h.1; omega)).1 (by rw [sq_double]; have := h.2.1; omega)
  have b : ¬ 2 * (n + 1) ≤ m := fun l => by
    have := (half_iff k (by have := h.1; omega)).2 l
    rw [sq_double] at this; have := h.2.2; omega
  omega

/-- The halving: between two numbers, k steps in. -/
theorem halve {lo hi n d : Int} (h1 : lo ≤ n) (h2 : n ≤ hi) (h3 : hi - lo < 2 * d) (ne : ¬ lo = hi) :
    lo < hi - (hi - lo) / 2 ∧ hi - (hi - lo) / 2 ≤ hi ∧ (hi - (hi - lo) / 2 ≤ n → hi - (hi - (hi - lo) / 2) < d) ∧ (n < hi - (hi - lo) / 2 → n ≤ hi - (hi - lo) / 2 - 1 ∧ hi - (hi - lo) / 2 - 1 - lo < d) := by
  refine ⟨by omega, by omega, fun _ => by omega, fun _ => ⟨by omega, by omega⟩⟩

end Go.Proofs.YtdbikeehoildlaaDoor
