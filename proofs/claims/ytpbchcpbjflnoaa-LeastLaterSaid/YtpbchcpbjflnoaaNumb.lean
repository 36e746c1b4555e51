/-
  More plain arithmetic of layer 1.
-/
import Derived.Test.YtpbchcpbjflnoaaNums
namespace Go.Proofs.Ytpbchcpbjflnoaa

theorem in64_neg {a t : Int} (h : In64 a) (h1 : (a == -9223372036854775808) = false) (e : -a = t) : In64 t := by
  have h2 : a ≠ -9223372036854775808 := by simpa using h1
  unfold In64 at *; omega
theorem heldAt_pos {n : Int} (h : 0 < n) : 0 < heldAt n := by unfold heldAt; split <;> (try split) <;> omega
theorem heldAt_neg {n : Int} (h : n < 0) : heldAt n < 0 := by unfold heldAt; split <;> (try split) <;> omega
theorem absAt_nonneg (a : Int) : 0 ≤ absAt a := by unfold absAt heldAt; split <;> (try split) <;> (try split) <;> omega
theorem absAt_neg_of {a : Int} (h : In64 a) (h1 : (a == -9223372036854775808) = false) : absAt (-a) = absAt a := by
  have h2 : a ≠ -9223372036854775808 := by simpa using h1
  unfold In64 at h
  unfold absAt heldAt
  split <;> split <;> (repeat split) <;> omega

/-- The sum, the product, where it is a number of 64 bits; else 0. -/
def overV (n : Int) : Int := if -9223372036854775808 ≤ n ∧ n ≤ 9223372036854775807 then n else 0
/-- The error's number: 0, or 10. -/
def overE (n : Int) : Int := if -9223372036854775808 ≤ n ∧ n ≤ 9223372036854775807 then 0 else 10
theorem overV_in {n : Int} (h : In64 n) : overV n = n := by unfold In64 at h; unfold overV; rw [if_pos h]
theorem overE_in {n : Int} (h : In64 n) : overE n = 0 := by unfold In64 at h; unfold overE; rw [if_pos h]
theorem overV_no {n : Int} (h : ¬ In64 n) : overV n = 0 := by unfold In64 at h; unfold overV; rw [if_neg h]
theorem overE_no {n : Int} (h : ¬ In64 n) : overE n = 10 := by unfold In64 at h; unfold overE; rw [if_neg h]
theorem in64_overV (n : Int) : In64 (overV n) := by
  by_cases h : In64 n
  · rw [overV_in h]; exact h
  · rw [overV_no h]; unfold In64; omega

theorem small_mul {i b : Int} (hi : -2147483648 ≤ i ∧ i ≤ 2147483647) (hb : -2147483648 ≤ b ∧ b ≤ 2147483647) : In64 (i * b) := by
  have h1 : i.natAbs ≤ 2147483648 := by omega
  have h2 : b.natAbs ≤ 2147483648 := by omega
  have h3 := Nat.mul_le_mul h1 h2
  rw [← Int.natAbs_mul] at h3
  unfold In64
  omega

end Go.Proofs.Ytpbchcpbjflnoaa
