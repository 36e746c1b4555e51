/-
  What each function of package big does, said of whole numbers.
-/
import Derived.Test.YtfkdbelajideiaaAdd02
import Derived.Test.YtfkdbelajideiaaLess02
import Derived.Test.YtfkdbelajideiaaMore02
import Derived.Test.YtfkdbelajideiaaScale02
import Derived.Test.YtfkdbelajideiaaInt02
import Derived.Test.YtfkdbelajideiaaQuo02
namespace Go.Proofs.Ytfkdbelajideiaa
open Go.RowKit

/-- A size of two words. -/
def sz (h l : Int) : Int := h * 18446744073709551616 + l
/-- The number that a sign and two words are. -/
def numOf (b : Bool) (h l : Int) : Int := if b then -(sz h l) else sz h l
/-- The number n is told by this sign and these words. -/
def Rep (b : Bool) (h l n : Int) : Prop := Word h ∧ Word l ∧ numOf b h l = n ∧ b = decide (n < 0)
/-- Goes into 128 bits and a sign. -/
def InBig (n : Int) : Prop := -340282366920938463463374607431768211456 < n ∧ n < 340282366920938463463374607431768211456

theorem numOf_true (h l : Int) : numOf true h l = -(sz h l) := by simp [numOf]
theorem numOf_false (h l : Int) : numOf false h l = sz h l := by simp [numOf]
theorem sz_nonneg {h l : Int} (h1 : Word h) (h2 : Word l) : 0 ≤ sz h l := by unfold Word at *; unfold sz; omega
theorem sz_lt {h l : Int} (h1 : Word h) (h2 : Word l) : sz h l < 340282366920938463463374607431768211456 := by unfold Word at *; unfold sz; omega
theorem numOf_in {b : Bool} {h l : Int} (h1 : Word h) (h2 : Word l) : InBig (numOf b h l) := by
  have := sz_nonneg h1 h2; have := sz_lt h1 h2
  unfold InBig; cases b
  · rw [numOf_false]; omega
  · rw [numOf_true]; omega
theorem sz_inj {h l h' l' : Int} (_h1 : Word h) (h2 : Word l) (_h3 : Word h') (h4 : Word l') (e : sz h l = sz h' l') : h = h' ∧ l = l' := by unfold Word sz at *; omega
theorem nz_iff {h l : Int} (h1 : Word h) (h2 : Word l) : nz h l = decide (0 < sz h l) := by
  unfold Word at *
  by_cases z : h = 0 ∧ l = 0
  · obtain ⟨rfl, rfl⟩ := z; decide
  · have p : 0 < sz h l := by unfold sz; omega
    have q : (h == 0 && l == 0) = false := by
      rw [Bool.and_eq_false_iff]
      by_cases a : h = 0
      · exact Or.inr (by simp; omega)
      · exact Or.inl (by simp [a])
    unfold nz; rw [q]; simp [p]
theorem word_sz (n : Int) (h0 : 0 ≤ n) (h1 : n < 340282366920938463463374607431768211456) : Word (n / 18446744073709551616) ∧ Word (n % 18446744073709551616) ∧ sz (n / 18446744073709551616) (n % 18446744073709551616) = n := by unfold Word sz; omega
theorem rep_ex (n : Int) (hn : InBig n) : ∃ b h l, Rep b h l n := by
  unfold InBig at hn
  by_cases h : n < 0
  · obtain ⟨a, b, c⟩ := word_sz (-n) (by omega) (by omega)
    exact ⟨true, _, _, a, b, by rw [numOf_true, c]; omega, by simp [h]⟩
  · obtain ⟨a, b, c⟩ := word_sz n (by omega) (by omega)
    exact ⟨false, _, _, a, b, by rw [numOf_false, c], by simp [h]⟩
theorem rep_uniq {b b' : Bool} {h l h' l' n : Int} (r : Rep b h l n) (r' : Rep b' h' l' n) : b = b' ∧ h = h' ∧ l = l' := by
  obtain ⟨a1, a2, a3, a4⟩ := r
  obtain ⟨c1, c2, c3, c4⟩ := r'
  have e : b = b' := by rw [a4, c4]
  subst e
  have s : sz h l = sz h' l' := by
    rw [← c3] at a3; cases b
    · rw [numOf_false, numOf_false] at a3; exact a3
    · rw [numOf_true, numOf_true] at a3; omega
  exact ⟨rfl, sz_inj a1 a2 c1 c2 s⟩
/-- The sign that 'on' puts. -/
theorem rep_sign {b s : Bool} {h l n : Int} (r : Rep b h l n) (e : n = if s then -(sz h l) else sz h l) : (s && nz h l) = b := by
  obtain ⟨a1, a2, _, a4⟩ := r
  have := sz_nonneg a1 a2
  rw [nz_iff a1 a2, a4]
  cases s
  · simp at e ⊢; omega
  · simp at e ⊢; omega
theorem rep_size {b : Bool} {h l n : Int} (r : Rep b h l n) : sz h l = if n < 0 then -n else n := by
  obtain ⟨_, _, a3, a4⟩ := r
  by_cases hn : n < 0
  · rw [if_pos hn]; rw [show b = true by rw [a4]; simp [hn]] at a3; rw [numOf_true] at a3; omega
  · rw [if_neg hn]; rw [show b = false by rw [a4]; simp [hn]] at a3; rw [numOf_false] at a3; omega

section
variable {xh xl yh yl h l : Int} (w : World)
theorem less_any (_h1 : Word xh) (h2 : Word xl) (_h3 : Word yh) (h4 : Word yl) : Calls Try.prog 52 #[.agg #[.int .u64 xh, .int .u64 xl], .agg #[.int .u64 yh, .int .u64 yl]] w fun e w' => e = .returned (.bool (decide (sz xh xl < sz yh yl))) ∧ Kept w w' := by
  unfold Word at *
  by_cases e : xh = yh
  · subst e
    rw [show decide (sz xh xl < sz xh yl) = decide (xl < yl) by unfold sz; rw [decide_eq_decide]; omega]
    exact less_lo xh xl yl w
  · rw [show decide (sz xh xl < sz yh yl) = decide (xh < yh) by unfold sz; rw [decide_eq_decide]; omega]
    exact less_hi xh xl yh yl w (by simp [e])
theorem sum_ok (h1 : Word xh) (h2 : Word xl) (h3 : Word yh) (h4 : Word yl) (h5 : Word h) (h6 : Word l) (e : sz h l = sz xh xl + sz yh yl) : Calls Try.prog 47 #[.agg #[.int .u64 xh, .int .u64 xl], .agg #[.int .u64 yh, .int .u64 yl]] w fun e w' => e = .returned (.tuple #[.agg #[.int .u64 h, .int .u64 l], .bool true]) ∧ Kept w w' := by
  have C := sum_raw xh xl yh yl w h1 h2 h3 h4
  unfold Word sz at *
  rw [show (xh + yh + (xl + yl) / 18446744073709551616) % 18446744073709551616 = h by omega, show (xl + yl) % 18446744073709551616 = l by omega,
    show ((xh + yh + (xl + yl) / 18446744073709551616) / 18446744073709551616 == 0) = true by simp; omega] at C
  exact C
theorem sum_no (h1 : Word xh) (h2 : Word xl) (h3 : Word yh) (h4 : Word yl) (e : 340282366920938463463374607431768211456 ≤ sz xh xl + sz yh yl) : ∃ h l : Int, ∀ w, Calls Try.prog 47 #[.agg #[.int .u64 xh, .int .u64 xl], .agg #[.int .u64 yh, .int .u64 yl]] w fun e w' => e = .returned (.tuple #[.agg #[.int .u64 h, .int .u64 l], .bool false]) ∧ Kept w w' := by
  refine ⟨(xh + yh + (xl + yl) / 18446744073709551616) % 18446744073709551616, (xl + yl) % 18446744073709551616, fun w => ?_⟩
  have C := sum_raw xh xl yh yl w h1 h2 h3 h4
  unfold Word sz at *
  rw [show ((xh + yh + (xl + yl) / 18446744073709551616) / 18446744073709551616 == 0) = false by simp; omega] at C
  exact C
theorem difference_ok (h1 : Word xh) (h2 : Word xl) (h3 : Word yh) (h4 : Word yl) (h5 : Word h) (h6 : Word l) (e : sz h l = sz xh xl - sz yh yl) : Calls Try.prog 53 #[.agg #[.int .u64 xh, .int .u64 xl], .agg #[.int .u64 yh, .int .u64 yl]] w fun e w' => e = .returned (.agg #[.int .u64 h, .int .u64 l]) ∧ Kept w w' := by
  have C := difference_raw xh xl yh yl w h1 h2 h3 h4
  unfold Word sz at *
  rw [show (xh - yh - bor xl yl) % 18446744073709551616 = h by unfold bor; split <;> omega, show (xl - yl) % 18446744073709551616 = l by omega] at C
  exact C
end

section
variable {b1 b2 b : Bool} {xh xl yh yl h l : Int}
theorem Add_ok (h1 : Word xh) (h2 : Word xl) (h3 : Word yh) (h4 : Word yl) (r : Rep b h l (numOf b1 xh xl + numOf b2 yh yl)) (w : World) : Calls Try.prog 38 #[.agg #[.bool b1, .int .u64 xh, .int .u64 xl], .agg #[.bool b2, .int .u64 yh, .int .u64 yl]] w fun e w' => e = .returned (.tuple #[.agg #[.bool b, .int .u64 h, .int .u64 l], .int .i64 0]) ∧ Kept w w' := by
  have r' := r
  obtain ⟨h5, h6, _, _⟩ := r'
  have s := rep_size r
  have n1 := sz_nonneg h1 h2; have n2 := sz_nonneg h3 h4
  by_cases e : b1 = b2
  · subst e
    have s2 : sz h l = sz xh xl + sz yh yl := by
      cases b1
      · rw [numOf_false, numOf_false] at s; split at s <;> omega
      · rw [numOf_true, numOf_true] at s; split at s <;> omega
    rw [← rep_sign (s := b1) r (by cases b1 <;> simp [numOf, s2] <;> omega)]
    exact Add_same b1 xh xl yh yl h l w fun w => sum_ok w h1 h2 h3 h4 h5 h6 s2
  · have ne : (b1 == b2) = false := by simp [e]
    have eb : b2 = !b1 := by cases b1 <;> cases b2 <;> simp_all
    by_cases c : sz xh xl < sz yh yl
    · have s2 : sz h l = sz yh yl - sz xh xl := by
        subst eb; cases b1
        · simp only [Bool.not_false, numOf_false, numOf_true] at s; split at s <;> omega
        · simp only [Bool.not_true, numOf_false, numOf_true] at s; split at s <;> omega
      rw [← rep_sign (s := b2) r (by subst eb; cases b1 <;> simp [numOf, s2] <;> omega)]
      exact Add_less b1 b2 xh xl yh yl h l w ne (fun w => by have := less_any w h1 h2 h3 h4; rwa [show decide (sz xh xl < sz yh yl) = true by simp [c]] at this) fun w => difference_ok w h3 h4 h1 h2 h5 h6 s2
    · have s2 : sz h l = sz xh xl - sz yh yl := by
        subst eb; cases b1
        · simp only [Bool.not_false, numOf_false, numOf_true] at s; split at s <;> omega
        · simp only [Bool.not_true, numOf_false, numOf_true] at s; split at s <;> omega
      rw [← rep_sign (s := b1) r (by subst eb; cases b1 <;> simp [numOf, s2] <;> omega)]
      exact Add_more b1 b2 xh xl yh yl h l w ne (fun w => by have := less_any w h1 h2 h3 h4; rwa [show decide (sz xh xl < sz yh yl) = false by simp [c]] at this) fun w => difference_ok w h1 h2 h3 h4 h5 h6 s2
theorem Add_no (h1 : Word xh) (h2 : Word xl) (h3 : Word yh) (h4 : Word yl) (r : ¬ InBig (numOf b1 xh xl + numOf b2 yh yl)) (w : World) : Calls Try.prog 38 #[.agg #[.bool b1, .int .u64 xh, .int .u64 xl], .agg #[.bool b2, .int .u64 yh, .int .u64 yl]] w fun e w' => e = .returned (.tuple #[.agg #[.bool false, .int .u64 0, .int .u64 0], .int .i64 10]) ∧ Kept w w' := by
  have n1 := sz_nonneg h1 h2; have n2 := sz_nonneg h3 h4
  have m1 := sz_lt h1 h2; have m2 := sz_lt h3 h4
  have e : b1 = b2 := by
    unfold InBig at r
    cases b1 <;> cases b2 <;> first | rfl | (simp only [numOf_false, numOf_true] at r; exfalso; omega)
  subst e
  have o : 340282366920938463463374607431768211456 ≤ sz xh xl + sz yh yl := by
    unfold InBig at r
    cases b1
    · simp only [numOf_false] at r; omega
    · simp only [numOf_true] at r; omega
  obtain ⟨h, l, C⟩ := sum_no h1 h2 h3 h4 o
  exact Add_over b1 xh xl yh yl h l w C
theorem Neg_rep (h1 : Word xh) (h2 : Word xl) : ∃ b, Rep b xh xl (-(numOf b1 xh xl)) := by
  have n1 := sz_nonneg h1 h2
  refine ⟨decide (-(numOf b1 xh xl) < 0), h1, h2, ?_, rfl⟩
  cases b1
  · rw [numOf_false]
    by_cases z : sz xh xl = 0
    · simp [numOf, z]
    · simp [numOf]; omega
  · rw [numOf_true]; simp [numOf]; omega

/-- Which of two is greater. -/
def cmpI (x y : Int) : Int := if x = y then 0 else if x < y then -1 else 1
theorem Cmp_ok (h1 : Word xh) (h2 : Word xl) (h3 : Word yh) (h4 : Word yl) (w : World) : Calls Try.prog 55 #[.agg #[.bool b1, .int .u64 xh, .int .u64 xl], .agg #[.bool b2, .int .u64 yh, .int .u64 yl]] w fun e w' => e = .returned (.int .i64 (cmpI (numOf b1 xh xl) (numOf b2 yh yl))) ∧ Kept w w' := by
  have n1 := sz_nonneg h1 h2; have n2 := sz_nonneg h3 h4
  have z1 := nz_iff h1 h2; have z2 := nz_iff h3 h4
  generalize e1 : (b1 && nz xh xl) = c1
  generalize e2 : (b2 && nz yh yl) = c2
  have x1 : numOf c1 xh xl = numOf b1 xh xl := by
    subst e1; cases b1
    · rfl
    · rw [Bool.true_and, z1]; by_cases z : 0 < sz xh xl
      · simp [z]
      · simp [numOf, z]; omega
  have y1 : numOf c2 yh yl = numOf b2 yh yl := by
    subst e2; cases b2
    · rfl
    · rw [Bool.true_and, z2]; by_cases z : 0 < sz yh yl
      · simp [z]
      · simp [numOf, z]; omega
  have x2 : c1 = true → 0 < sz xh xl := by intro h; subst e1; cases b1 <;> simp_all
  have y2 : c2 = true → 0 < sz yh yl := by intro h; subst e2; cases b2 <;> simp_all
  rw [← x1, ← y1]
  refine Cmp_any b1 b2 c1 c2 xh xl yh yl _ w e1 e2 ?_
  by_cases q : c1 = c2 ∧ xh = yh ∧ xl = yl
  · exact Or.inl ⟨q.1, q.2.1, q.2.2, by rw [q.1, q.2.1, q.2.2]; simp [cmpI]⟩
  · refine Or.inr ⟨q, decide (numOf c1 xh xl < numOf c2 yh yl), ?_, fun w => ?_⟩
    · have ne : ¬ numOf c1 xh xl = numOf c2 yh yl := by
        intro h
        apply q
        have ec : c1 = c2 := by
          clear q e1 e2
          cases c1 <;> cases c2 <;> simp only [numOf_false, numOf_true] at h <;> simp_all <;> omega
        subst ec
        refine ⟨rfl, sz_inj h1 h2 h3 h4 ?_⟩
        cases c1
        · simpa only [numOf_false] using h
        · simp only [numOf_true] at h; omega
      unfold cmpI
      rw [if_neg ne]
      simp
    · by_cases ec : c1 = c2
      · subst ec
        cases c1
        · rw [numOf_false, numOf_false]
          exact below_pos _ xh xl yh yl w fun w => less_any w h1 h2 h3 h4
        · rw [numOf_true, numOf_true, show decide (-sz xh xl < -sz yh yl) = decide (sz yh yl < sz xh xl) by rw [decide_eq_decide]; omega]
          exact below_neg _ xh xl yh yl w fun w => less_any w h3 h4 h1 h2
      · have eb : c2 = !c1 := by cases c1 <;> cases c2 <;> simp_all
        have : decide (numOf c1 xh xl < numOf c2 yh yl) = c1 := by
          subst eb; cases c1
          · have := y2 rfl; simp only [Bool.not_false, numOf_false, numOf_true]; simp; omega
          · have := x2 rfl; simp only [Bool.not_true, numOf_false, numOf_true]; simp; omega
        rw [this]
        exact below_diff c1 c2 xh xl yh yl w eb
end

end Go.Proofs.Ytfkdbelajideiaa
