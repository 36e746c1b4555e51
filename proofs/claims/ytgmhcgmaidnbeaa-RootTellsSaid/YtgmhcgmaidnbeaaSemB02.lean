/-
  What Of, Mul, Div and Int of package big do, said of whole numbers.
-/
import Derived.Test.YtgmhcgmaidnbeaaSem02
namespace Go.Proofs.Ytgmhcgmaidnbeaa
open Go.RowKit

/-- A number without its sign. -/
def mag (n : Int) : Int := if n < 0 then -n else n
theorem mag_word {n : Int} (h : In64 n) : Word (mag n) := by unfold In64 at h; unfold Word mag; split <;> omega
theorem magnitude_ok (n : Int) (h : In64 n) (w : World) : Calls Try.prog 37 #[.int .i64 n] w fun e w' => e = .returned (.int .u64 (mag n)) ∧ w = w' := by
  unfold In64 at h
  by_cases c : n < 0
  · rw [show mag n = -n by unfold mag; rw [if_pos c]]; exact magnitude_neg n w c h.1
  · rw [show mag n = n by unfold mag; rw [if_neg c]]; exact magnitude_pos n w c h.2
theorem word_zero : Word 0 := by unfold Word; omega
theorem Of_ok (n : Int) (h : In64 n) : Rep (decide (n < 0)) 0 (mag n) n ∧ ∀ w, Calls Try.prog 20 #[.int .i64 n] w fun e w' => e = .returned (.agg #[.bool (decide (n < 0)), .int .u64 0, .int .u64 (mag n)]) ∧ Kept w w' := by
  have r : Rep (decide (n < 0)) 0 (mag n) n := by
    refine ⟨word_zero, mag_word h, ?_, rfl⟩
    by_cases c : n < 0
    · simp [numOf, sz, mag, c]
    · simp [numOf, sz, mag, c]
  refine ⟨r, fun w => ?_⟩
  have := Of_any n (mag n) w _ rfl (magnitude_ok n h)
  rwa [rep_sign (s := decide (n < 0)) r (by by_cases c : n < 0 <;> simp [sz, mag, c])] at this
theorem Of_rep {n : Int} (h : In64 n) {b : Bool} {xh xl : Int} (r : Rep b xh xl n) (w : World) : Calls Try.prog 20 #[.int .i64 n] w fun e w' => e = .returned (.agg #[.bool b, .int .u64 xh, .int .u64 xl]) ∧ Kept w w' := by
  obtain ⟨r', C⟩ := Of_ok n h
  obtain ⟨rfl, rfl, rfl⟩ := rep_uniq r r'
  exact C w
theorem mag_mul (a c : Int) : mag (a * c) = mag a * mag c := by
  unfold mag
  by_cases h1 : a < 0 <;> by_cases h2 : c < 0
  · have := Int.mul_pos_of_neg_of_neg h1 h2; rw [if_pos h1, if_pos h2, if_neg (by omega), Int.neg_mul_neg]
  · by_cases h3 : c = 0
    · subst h3; simp
    · have := Int.mul_neg_of_neg_of_pos h1 (show 0 < c by omega); rw [if_pos h1, if_neg h2, if_pos this, Int.neg_mul]
  · by_cases h3 : a = 0
    · subst h3; simp
    · have := Int.mul_neg_of_pos_of_neg (show 0 < a by omega) h2; rw [if_neg h1, if_pos h2, if_pos this, Int.mul_neg]
  · have := Int.mul_nonneg (show 0 ≤ a by omega) (show 0 ≤ c by omega); rw [if_neg h1, if_neg h2, if_neg (by omega)]
theorem mul_in {a c : Int} (h : In64 a) (k : In64 c) : InBig (a * c) := by
  have e := mag_mul a c
  have m1 : 0 ≤ mag a ∧ mag a ≤ 9223372036854775808 := by unfold In64 at h; unfold mag; split <;> omega
  have m2 : 0 ≤ mag c ∧ mag c ≤ 9223372036854775808 := by unfold In64 at k; unfold mag; split <;> omega
  have := Int.mul_le_mul m1.2 m2.2 m2.1 (by omega)
  rw [← e] at this
  unfold InBig; unfold mag at this; split at this <;> omega
/-- A quotient, by halves. -/
theorem quo_halves {xh xl d : Int} (hd : 0 < d) : sz xh xl / d = sz (xh / d) ((xh % d * 18446744073709551616 + xl) / d) ∧ sz xh xl % d = (xh % d * 18446744073709551616 + xl) % d := by
  have a := Int.mul_ediv_add_emod xh d
  have b := Int.mul_ediv_add_emod (xh % d * 18446744073709551616 + xl) d
  have b2 := Int.emod_nonneg (xh % d * 18446744073709551616 + xl) (show d ≠ 0 by omega)
  have b3 := Int.emod_lt_of_pos (xh % d * 18446744073709551616 + xl) hd
  rw [Int.ediv_emod_unique hd]
  refine ⟨?_, b2, b3⟩
  unfold sz
  rw [Int.mul_add, ← Int.mul_assoc]
  omega
theorem neg_quo {S d : Int} (hd : 0 < d) : (S % d = 0 → (-S) / d = -(S / d) ∧ (-S) % d = 0) ∧ (S % d ≠ 0 → (-S) / d = -(S / d + 1) ∧ (-S) % d = d - S % d) := by
  have a := Int.mul_ediv_add_emod S d
  have a2 := Int.emod_nonneg S (show d ≠ 0 by omega)
  have a3 := Int.emod_lt_of_pos S hd
  constructor
  · intro h
    rw [Int.ediv_emod_unique hd]
    refine ⟨?_, by omega, hd⟩
    rw [Int.mul_neg]; omega
  · intro h
    rw [Int.ediv_emod_unique hd]
    refine ⟨?_, by omega, by omega⟩
    rw [Int.mul_neg, Int.mul_add, Int.mul_one]; omega
end Go.Proofs.Ytgmhcgmaidnbeaa
