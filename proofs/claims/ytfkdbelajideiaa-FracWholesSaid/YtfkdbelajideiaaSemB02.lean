/-
  What Of, Mul, Div and Int of package big do, said of whole numbers.
-/
import Derived.Test.YtfkdbelajideiaaSem02
namespace Go.Proofs.Ytfkdbelajideiaa
open Go.RowKit

/-- A number without its sign. -/
def mag (n : Int) : Int := if n < 0 then -n else n
theorem mag_word {n : Int} (h : In64 n) : Word (mag n) := by unfold In64 at h; unfold Word mag; split <;> omega
theorem magnitude_ok (n : Int) (h : In64 n) (w : World) : Calls Try.prog 50 #[.int .i64 n] w fun e w' => e = .returned (.int .u64 (mag n)) ∧ w = w' := by
  unfold In64 at h
  by_cases c : n < 0
  · rw [show mag n = -n by unfold mag; rw [if_pos c]]; exact magnitude_neg n w c h.1
  · rw [show mag n = n by unfold mag; rw [if_neg c]]; exact magnitude_pos n w c h.2
theorem word_zero : Word 0 := by unfold Word; omega
theorem Of_ok (n : Int) (h : In64 n) : Rep (decide (n < 0)) 0 (mag n) n ∧ ∀ w, Calls Try.prog 39 #[.int .i64 n] w fun e w' => e = .returned (.agg #[.bool (decide (n < 0)), .int .u64 0, .int .u64 (mag n)]) ∧ Kept w w' := by
  have r : Rep (decide (n < 0)) 0 (mag n) n := by
    refine ⟨word_zero, mag_word h, ?_, rfl⟩
    by_cases c : n < 0
    · simp [numOf, sz, mag, c]
    · simp [numOf, sz, mag, c]
  refine ⟨r, fun w => ?_⟩
  have := Of_any n (mag n) w _ rfl (magnitude_ok n h)
  rwa [rep_sign (s := decide (n < 0)) r (by by_cases c : n < 0 <;> simp [sz, mag, c])] at this
theorem Of_rep {n : Int} (h : In64 n) {b : Bool} {xh xl : Int} (r : Rep b xh xl n) (w : World) : Calls Try.prog 39 #[.int .i64 n] w fun e w' => e = .returned (.agg #[.bool b, .int .u64 xh, .int .u64 xl]) ∧ Kept w w' := by
  obtain ⟨r', C⟩ := Of_ok n h
  obtain ⟨rfl, rfl, rfl⟩ := rep_uniq r r'
  exact C w
theorem mag_mul (a c : Int) : mag (a * c) = mag a * mag c := by
  unfold mag
  by_cases h1 : a < 0 <;> by_cases h2 : c < 0
  · have := Int.mul_pos_of_neg_of_neg h1 h2; rw [if_pos h1, if_pos h2, if_neg (by omega), Int.neg_mul_neg]
  · by_cases h3 : c = 0
    · subst h3; simp
    · have := Int.mul_neg_of_neg_of_pos h1 (show 0 < c by omega); rw [if_pos h1, if_neg h2, if_pos this, Int.neg_mul]
  · by_cases h3 : a = 0
    · subst h3; simp
    · have := Int.mul_neg_of_pos_of_neg (show 0 < a by omega) h2; rw [if_neg h1, if_pos h2, if_pos this, Int.mul_neg]
  · have := Int.mul_nonneg (show 0 ≤ a by omega) (show 0 ≤ c by omega); rw [if_neg h1, if_neg h2, if_neg (by omega)]
theorem mul_in {a c : Int} (h : In64 a) (k : In64 c) : InBig (a * c) := by
  have e := mag_mul a c
  have m1 : 0 ≤ mag a ∧ mag a ≤ 9223372036854775808 := by unfold In64 at h; unfold mag; split <;> omega
  have m2 : 0 ≤ mag c ∧ mag c ≤ 9223372036854775808 := by unfold In64 at k; unfold mag; split <;> omega
  have := Int.mul_le_mul m1.2 m2.2 m2.1 (by omega)
  rw [← e] at this
  unfold InBig; unfold mag at this; split at this <;> omega
theorem Mul_rep {a c : Int} (h : In64 a) (k : In64 c) {b : Bool} {xh xl : Int} (r : Rep b xh xl (a * c)) (w : World) : Calls Try.prog 37 #[.int .i64 a, .int .i64 c] w fun e w' => e = .returned (.agg #[.bool b, .int .u64 xh, .int .u64 xl]) ∧ Kept w w' := by
  have s := rep_size r
  have e := mag_mul a c
  have e2 : sz xh xl = mag a * mag c := by rw [← e]; unfold mag; exact s
  obtain ⟨w1, w2, _, _⟩ := id r
  have M : ∀ w, Calls Try.prog 49 #[.int .u64 (mag a), .int .u64 (mag c)] w fun e w' => e = .returned (.tuple #[.int .u64 xh, .int .u64 xl]) ∧ w = w' := fun w => by
    have := mul64 (mag a) (mag c) (mag_word h) (mag_word k) w
    rw [← e2] at this
    unfold Word at w1 w2
    rwa [show sz xh xl / 18446744073709551616 = xh by unfold sz; omega, show sz xh xl % 18446744073709551616 = xl by unfold sz; omega] at this
  have := Mul_any a c (mag a) (mag c) xh xl _ _ w rfl rfl (magnitude_ok a h) (magnitude_ok c k) M
  rwa [rep_sign (s := decide (a < 0) != decide (c < 0)) r ?_] at this
  have n0 := sz_nonneg w1 w2
  by_cases h1 : a < 0 <;> by_cases h2 : c < 0
  · have := Int.mul_pos_of_neg_of_neg h1 h2; simp [h1, h2]; rw [s, if_neg (by omega)]
  · by_cases h3 : c = 0
    · subst h3; simp [h1] at *; omega
    · have := Int.mul_neg_of_neg_of_pos h1 (show 0 < c by omega); simp [h1, h2]; rw [s, if_pos (by omega)]; omega
  · by_cases h3 : a = 0
    · subst h3; simp [h2] at *; omega
    · have := Int.mul_neg_of_pos_of_neg (show 0 < a by omega) h2; simp [h1, h2]; rw [s, if_pos (by omega)]; omega
  · have := Int.mul_nonneg (show 0 ≤ a by omega) (show 0 ≤ c by omega); simp [h1, h2]; rw [s, if_neg (by omega)]

theorem Int_ok {b : Bool} {xh xl : Int} (h1 : Word xh) (h2 : Word xl) (w : World) : Calls Try.prog 54 #[.agg #[.bool b, .int .u64 xh, .int .u64 xl]] w fun e w' => e = .returned (.int .i64 (heldAt (numOf b xh xl))) ∧ Kept w w' := by
  obtain ⟨r1, O1⟩ := Of_ok 9223372036854775807 (by unfold In64; omega)
  obtain ⟨r2, O2⟩ := Of_ok (-9223372036854775808) (by unfold In64; omega)
  have n0 := sz_nonneg h1 h2
  have k1 : Word 9223372036854775807 := by unfold Word; omega
  have k2 : Word 9223372036854775808 := by unfold Word; omega
  have X1 := fun w => Cmp_ok (b1 := b) (b2 := false) h1 h2 word_zero k1 w
  have X2 := fun w => Cmp_ok (b1 := b) (b2 := true) h1 h2 word_zero k2 w
  rw [show numOf false 0 9223372036854775807 = 9223372036854775807 by decide] at X1
  rw [show numOf true 0 9223372036854775808 = -9223372036854775808 by decide] at X2
  by_cases c1 : 9223372036854775807 ≤ numOf b xh xl
  · rw [show heldAt (numOf b xh xl) = 9223372036854775807 by unfold heldAt; split; rfl; rw [if_neg (by omega)]; omega]
    exact Int_high b xh xl _ w (by unfold cmpI; split; omega; rw [if_neg (by omega)]; omega) O1 X1
  · by_cases c2 : numOf b xh xl ≤ -9223372036854775808
    · rw [show heldAt (numOf b xh xl) = -9223372036854775808 by unfold heldAt; rw [if_neg (by omega)]; split <;> omega]
      exact Int_low b xh xl _ _ w (by unfold cmpI; rw [if_neg (by omega), if_pos (by omega)]; omega) (by unfold cmpI; split; omega; rw [if_pos (by omega)]; omega) O1 X1 O2 X2
    · rw [show heldAt (numOf b xh xl) = numOf b xh xl by exact heldAt_of (by unfold In64; omega)]
      have g1 : cmpI (numOf b xh xl) 9223372036854775807 < 0 := by unfold cmpI; rw [if_neg (by omega), if_pos (by omega)]; omega
      have g2 : 0 < cmpI (numOf b xh xl) (-9223372036854775808) := by unfold cmpI; rw [if_neg (by omega), if_neg (by omega)]; omega
      have s1 : sz xh xl = xl ∧ xl < 9223372036854775808 := by
        unfold Word at h1 h2
        cases b
        · rw [numOf_false] at c1 c2; unfold sz at *; omega
        · rw [numOf_true] at c1 c2; unfold sz at *; omega
      cases b
      · have := Int_pos xh xl _ _ w g1 g2 h2.1 s1.2 O1 X1 O2 X2
        rwa [numOf_false, s1.1]
      · have := Int_neg xh xl _ _ w g1 g2 h2.1 s1.2 O1 X1 O2 X2
        rwa [numOf_true, s1.1]

/-- A quotient, by halves. -/
theorem quo_halves {xh xl d : Int} (hd : 0 < d) : sz xh xl / d = sz (xh / d) ((xh % d * 18446744073709551616 + xl) / d) ∧ sz xh xl % d = (xh % d * 18446744073709551616 + xl) % d := by
  have a := Int.mul_ediv_add_emod xh d
  have b := Int.mul_ediv_add_emod (xh % d * 18446744073709551616 + xl) d
  have b2 := Int.emod_nonneg (xh % d * 18446744073709551616 + xl) (show d ≠ 0 by omega)
  have b3 := Int.emod_lt_of_pos (xh % d * 18446744073709551616 + xl) hd
  rw [Int.ediv_emod_unique hd]
  refine ⟨?_, b2, b3⟩
  unfold sz
  rw [Int.mul_add, ← Int.mul_assoc]
  omega
theorem neg_quo {S d : Int} (hd : 0 < d) : (S % d = 0 → (-S) / d = -(S / d) ∧ (-S) % d = 0) ∧ (S % d ≠ 0 → (-S) / d = -(S / d + 1) ∧ (-S) % d = d - S % d) := by
  have a := Int.mul_ediv_add_emod S d
  have a2 := Int.emod_nonneg S (show d ≠ 0 by omega)
  have a3 := Int.emod_lt_of_pos S hd
  constructor
  · intro h
    rw [Int.ediv_emod_unique hd]
    refine ⟨?_, by omega, hd⟩
    rw [Int.mul_neg]; omega
  · intro h
    rw [Int.ediv_emod_unique hd]
    refine ⟨?_, by omega, by omega⟩
    rw [Int.mul_neg, Int.mul_add, Int.mul_one]; omega
theorem Div_ok {b1 b : Bool} {xh xl h l d : Int} (h1 : Word xh) (h2 : Word xl) (h3 : Word d) (hd : 0 < d) (r : Rep b h l (numOf b1 xh xl / d)) (w : World) : Calls Try.prog 36 #[.agg #[.bool b1, .int .u64 xh, .int .u64 xl], .int .u64 d] w fun e w' => e = .returned (.tuple #[.agg #[.bool b, .int .u64 h, .int .u64 l], .int .u64 (numOf b1 xh xl % d), .int .i64 0]) ∧ Kept w w' := by
  obtain ⟨v1, v2⟩ := quo_halves (xh := xh) (xl := xl) hd
  have n0 := sz_nonneg h1 h2
  have n1 := sz_lt h1 h2
  have q0 := Int.ediv_nonneg n0 (show 0 ≤ d by omega)
  have q1 : sz xh xl / d ≤ sz xh xl := Int.ediv_le_self _ n0
  have a2 := Int.emod_nonneg (sz xh xl) (show d ≠ 0 by omega)
  have a3 := Int.emod_lt_of_pos (sz xh xl) hd
  have C := fun w => quotient_any xh xl d _ _ w h1 h2 h3 hd rfl rfl
  have w1 : Word (xh / d) := by
    have := Int.ediv_nonneg h1.1 (show 0 ≤ d by omega); have := Int.ediv_le_self d h1.1; have := h1.2; unfold Word; omega
  have w2 : Word ((xh % d * 18446744073709551616 + xl) / d) := by
    have m0 := Int.emod_nonneg xh (show d ≠ 0 by omega)
    have m1 := Int.emod_lt_of_pos xh hd
    have := h2.1; have := h2.2
    refine ⟨Int.ediv_nonneg (by omega) (by omega), ?_⟩
    rw [Int.ediv_lt_iff_lt_mul hd]; omega
  rw [← v2] at C
  generalize (xh % d * 18446744073709551616 + xl) / d = ql at *
  generalize xh / d = qh at *
  obtain ⟨p1, p2, _, _⟩ := id r
  have s := rep_size r
  cases b1
  · rw [numOf_false] at r s ⊢
    have e : sz h l = sz qh ql := by rw [s, if_neg (by omega), v1]
    obtain ⟨rfl, rfl⟩ := sz_inj p1 p2 w1 w2 e
    have := Div_even false xh xl d h l _ w (by omega) C (by simp)
    rwa [rep_sign (s := false) r (by simp [v1])] at this
  · rw [numOf_true] at r s ⊢
    obtain ⟨g1, g2⟩ := neg_quo (S := sz xh xl) hd
    by_cases z : sz xh xl % d = 0
    · obtain ⟨g3, g4⟩ := g1 z
      rw [g3] at r s
      rw [g4]
      have e : sz h l = sz qh ql := by rw [s, ← v1]; split <;> omega
      obtain ⟨rfl, rfl⟩ := sz_inj p1 p2 w1 w2 e
      rw [z] at C
      have := Div_even true xh xl d h l _ w (by omega) C (by simp)
      rwa [rep_sign (s := true) r (by simp [v1])] at this
    · obtain ⟨g3, g4⟩ := g2 z
      rw [g3] at r s
      rw [g4]
      have e : sz h l = sz qh ql + sz 0 1 := by rw [s, ← v1, show sz 0 1 = 1 by decide]; split <;> omega
      have S := fun w => sum_ok w w1 w2 word_zero (show Word 1 by unfold Word; omega) p1 p2 e
      have := Div_rest xh xl d qh ql _ w (by omega) C true h l h3.2 a2 a3 (by simp [z]) S
      rwa [rep_sign (s := true) r (by simp [e, v1, show sz 0 1 = 1 by decide])] at this
end Go.Proofs.Ytfkdbelajideiaa
