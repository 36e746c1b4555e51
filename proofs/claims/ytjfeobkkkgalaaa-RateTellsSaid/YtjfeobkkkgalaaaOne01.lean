/-
  In one text: Numb, Leaf, Vars01, Ref01.
-/
import Derived.Test.YtjfeobkkkgalaaaNums
import Derived.Test.YtjfeobkkkgalaaaRows
import Derived.WalkKit
import Derived.WalkSpells
import Derived.Lib.Hide
import Derived.WalkLawsBesides
namespace Go.Proofs.Ytjfeobkkkgalaaa

theorem in64_neg {a t : Int} (h : In64 a) (h1 : (a == -9223372036854775808) = false) (e : -a = t) : In64 t := by
  have h2 : a ≠ -9223372036854775808 := by simpa using h1
  unfold In64 at *; omega
theorem heldAt_pos {n : Int} (h : 0 < n) : 0 < heldAt n := by unfold heldAt; split <;> (try split) <;> omega
theorem heldAt_neg {n : Int} (h : n < 0) : heldAt n < 0 := by unfold heldAt; split <;> (try split) <;> omega
theorem absAt_nonneg (a : Int) : 0 ≤ absAt a := by unfold absAt heldAt; split <;> (try split) <;> (try split) <;> omega
theorem absAt_neg_of {a : Int} (h : In64 a) (h1 : (a == -9223372036854775808) = false) : absAt (-a) = absAt a := by
  have h2 : a ≠ -9223372036854775808 := by simpa using h1
  unfold In64 at h
  unfold absAt heldAt
  split <;> split <;> (repeat split) <;> omega

/-- The sum, the product, where it is a number of 64 bits; else 0. -/
def overV (n : Int) : Int := if -9223372036854775808 ≤ n ∧ n ≤ 9223372036854775807 then n else 0
/-- The error's number: 0, or 10. -/
def overE (n : Int) : Int := if -9223372036854775808 ≤ n ∧ n ≤ 9223372036854775807 then 0 else 10
theorem overV_in {n : Int} (h : In64 n) : overV n = n := by unfold In64 at h; unfold overV; rw [if_pos h]
theorem overE_in {n : Int} (h : In64 n) : overE n = 0 := by unfold In64 at h; unfold overE; rw [if_pos h]
theorem overV_no {n : Int} (h : ¬ In64 n) : overV n = 0 := by unfold In64 at h; unfold overV; rw [if_neg h]
theorem overE_no {n : Int} (h : ¬ In64 n) : overE n = 10 := by unfold In64 at h; unfold overE; rw [if_neg h]
theorem in64_overV (n : Int) : In64 (overV n) := by
  by_cases h : In64 n
  · rw [overV_in h]; exact h
  · rw [overV_no h]; unfold In64; omega

theorem small_mul {i b : Int} (hi : -2147483648 ≤ i ∧ i ≤ 2147483647) (hb : -2147483648 ≤ b ∧ b ≤ 2147483647) : In64 (i * b) := by
  have h1 : i.natAbs ≤ 2147483648 := by omega
  have h2 : b.natAbs ≤ 2147483648 := by omega
  have h3 := Nat.mul_le_mul h1 h2
  rw [← Int.natAbs_mul] at h3
  unfold In64
  omega

end Go.Proofs.Ytjfeobkkkgalaaa
namespace Go.Proofs.Ytjfeobkkkgalaaa
open Go.RowKit

end Go.Proofs.Ytjfeobkkkgalaaa
namespace Go.Proofs.Ytjfeobkkkgalaaa
open Go.RowKit

end Go.Proofs.Ytjfeobkkkgalaaa
namespace Go.Proofs.Ytjfeobkkkgalaaa
open Go.RowKit

theorem q_pp_s {a b : Int} (hb : 0 < b) : 9223372036854775807 / b < a ↔ 9223372036854775807 < a * b := Int.ediv_lt_iff_lt_mul hb
theorem q_n_s {b : Int} (hb : 0 < b) : wrap64 (-Int.tdiv 9223372036854775808 b) = -(9223372036854775808 / b) := by
  rw [Int.tdiv_eq_ediv_of_nonneg (by omega)]
  apply wrap64_in
  have h1 := Int.ediv_le_self b (a := 9223372036854775808) (by omega)
  have h2 := Int.ediv_nonneg (a := 9223372036854775808) (b := b) (by omega) (by omega)
  unfold In64; omega
theorem q_np_s {a b : Int} (hb : 0 < b) : a < wrap64 (-Int.tdiv 9223372036854775808 b) ↔ a * b < -9223372036854775808 := by
  rw [q_n_s hb]
  have h := Int.ediv_lt_iff_lt_mul (a := 9223372036854775808) (b := -a) hb
  rw [Int.neg_mul] at h
  omega
theorem q_m_s {a : Int} (ha : a < 0) : wrap64 (Int.tdiv 9223372036854775807 a) = -(9223372036854775807 / (-a)) := by
  have e : Int.tdiv 9223372036854775807 a = -(9223372036854775807 / (-a)) := by
    rw [← Int.tdiv_eq_ediv_of_nonneg (by omega), Int.tdiv_neg, Int.neg_neg]
  rw [e]
  apply wrap64_in
  have h1 := Int.ediv_le_self (-a) (a := 9223372036854775807) (by omega)
  have h2 := Int.ediv_nonneg (a := 9223372036854775807) (b := -a) (by omega) (by omega)
  unfold In64; omega
theorem q_nn_s {a b : Int} (ha : a < 0) : b < wrap64 (Int.tdiv 9223372036854775807 a) ↔ 9223372036854775807 < a * b := by
  rw [q_m_s ha]
  have h := Int.ediv_lt_iff_lt_mul (a := 9223372036854775807) (b := -b) (c := -a) (by omega)
  rw [Int.neg_mul_neg, Int.mul_comm b a] at h
  omega

theorem refClamp_lit_s (a b c n : Int) (w : World) (hn : clampAt a b c = n) :
    Calls Try.prog 25 #[.int .i64 a, .int .i64 b, .int .i64 c] w fun e w' => e = .returned (.int .i64 n) ∧ w = w' := by
  subst hn
  by_cases h1 : a < b
  · rw [clampAt_low h1]
    go_enter Try.func25, Try.ntmps25
    go_wp2
    go_ret
    exact ⟨rfl, rfl⟩
  · by_cases h2 : c < a
    · rw [clampAt_high h1 h2]
      go_enter Try.func25, Try.ntmps25
      go_wp2
      go_ret
      exact ⟨rfl, rfl⟩
    · rw [clampAt_in h1 h2]
      go_enter Try.func25, Try.ntmps25
      go_wp2
      go_ret
      exact ⟨rfl, rfl⟩

end Go.Proofs.Ytjfeobkkkgalaaa
