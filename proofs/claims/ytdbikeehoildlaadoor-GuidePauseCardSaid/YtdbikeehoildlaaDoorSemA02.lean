/-
  In one text: Sem02, SemB02.
-/
import Derived.Test.YtdbikeehoildlaaDoorLowB02
import Derived.Test.YtdbikeehoildlaaDoorLowC02
import Derived.Test.YtdbikeehoildlaaDoorKnu02
namespace Go.Proofs.YtdbikeehoildlaaDoor
open Go.RowKit

/-- A size of two words. -/
def sz (h l : Int) : Int := h * 18446744073709551616 + l
/-- The number that a sign and two words are. -/
def numOf (b : Bool) (h l : Int) : Int := if b then -(sz h l) else sz h l
/-- The number n is told by this sign and these words. -/
def Rep (b : Bool) (h l n : Int) : Prop := Word h ∧ Word l ∧ numOf b h l = n ∧ b = decide (n < 0)
/-- Goes into 128 bits and a sign. -/
def InBig (n : Int) : Prop := -340282366920938463463374607431768211456 < n ∧ n < 340282366920938463463374607431768211456

theorem numOf_true (h l : Int) : numOf true h l = -(sz h l) := by simp [numOf]
theorem numOf_false (h l : Int) : numOf false h l = sz h l := by simp [numOf]
theorem sz_nonneg {h l : Int} (h1 : Word h) (h2 : Word l) : 0 ≤ sz h l := by unfold Word at *; unfold sz; omega
theorem sz_lt {h l : Int} (h1 : Word h) (h2 : Word l) : sz h l < 340282366920938463463374607431768211456 := by unfold Word at *; unfold sz; omega
theorem numOf_in {b : Bool} {h l : Int} (h1 : Word h) (h2 : Word l) : InBig (numOf b h l) := by
  have := sz_nonneg h1 h2; have := sz_lt h1 h2
  unfold InBig; cases b
  · rw [numOf_false]; omega
  · rw [numOf_true]; omega
theorem sz_inj {h l h' l' : Int} (_h1 : Word h) (h2 : Word l) (_h3 : Word h') (h4 : Word l') (e : sz h l = sz h' l') : h = h' ∧ l = l' := by unfold Word sz at *; omega
theorem nz_iff {h l : Int} (h1 : Word h) (h2 : Word l) : nz h l = decide (0 < sz h l) := by
  unfold Word at *
  by_cases z : h = 0 ∧ l = 0
  · obtain ⟨rfl, rfl⟩ := z; decide
  · have p : 0 < sz h l := by unfold sz; omega
    have q : (h == 0 && l == 0) = false := by
      rw [Bool.and_eq_false_iff]
      by_cases a : h = 0
      · exact Or.inr (by simp; omega)
      · exact Or.inl (by simp [a])
    unfold nz; rw [q]; simp [p]
theorem word_sz (n : Int) (h0 : 0 ≤ n) (h1 : n < 340282366920938463463374607431768211456) : Word (n / 18446744073709551616) ∧ Word (n % 18446744073709551616) ∧ sz (n / 18446744073709551616) (n % 18446744073709551616) = n := by unfold Word sz; omega
theorem rep_ex (n : Int) (hn : InBig n) : ∃ b h l, Rep b h l n := by
  unfold InBig at hn
  by_cases h : n < 0
  · obtain ⟨a, b, c⟩ := word_sz (-n) (by omega) (by omega)
    exact ⟨true, _, _, a, b, by rw [numOf_true, c]; omega, by simp [h]⟩
  · obtain ⟨a, b, c⟩ := word_sz n (by omega) (by omega)
    exact ⟨false, _, _, a, b, by rw [numOf_false, c], by simp [h]⟩
theorem rep_uniq {b b' : Bool} {h l h' l' n : Int} (r : Rep b h l n) (r' : Rep b' h' l' n) : b = b' ∧ h = h' ∧ l = l' := by
  obtain ⟨a1, a2, a3, a4⟩ := r
  obtain ⟨c1, c2, c3, c4⟩ := r'
  have e : b = b' := by rw [a4, c4]
  subst e
  have s : sz h l = sz h' l' := by
    rw [← c3] at a3; cases b
    · rw [numOf_false, numOf_false] at a3; exact a3
    · rw [numOf_true, numOf_true] at a3; omega
  exact ⟨rfl, sz_inj a1 a2 c1 c2 s⟩
/-- The sign that 'on' puts. -/
theorem rep_sign {b s : Bool} {h l n : Int} (r : Rep b h l n) (e : n = if s then -(sz h l) else sz h l) : (s && nz h l) = b := by
  obtain ⟨a1, a2, _, a4⟩ := r
  have := sz_nonneg a1 a2
  rw [nz_iff a1 a2, a4]
  cases s
  · simp at e ⊢; omega
  · simp at e ⊢; omega
theorem rep_size {b : Bool} {h l n : Int} (r : Rep b h l n) : sz h l = if n < 0 then -n else n := by
  obtain ⟨_, _, a3, a4⟩ := r
  by_cases hn : n < 0
  · rw [if_pos hn]; rw [show b = true by rw [a4]; simp [hn]] at a3; rw [numOf_true] at a3; omega
  · rw [if_neg hn]; rw [show b = false by rw [a4]; simp [hn]] at a3; rw [numOf_false] at a3; omega

section
variable {xh xl yh yl h l : Int} (w : World)
theorem less_any (_h1 : Word xh) (h2 : Word xl) (_h3 : Word yh) (h4 : Word yl) : Calls Tryd.prog 69 #[.agg #[.int .u64 xh, .int .u64 xl], .agg #[.int .u64 yh, .int .u64 yl]] w fun e w' => e = .returned (.bool (decide (sz xh xl < sz yh yl))) ∧ Kept w w' := by
  unfold Word at *
  by_cases e : xh = yh
  · subst e
    rw [show decide (sz xh xl < sz xh yl) = decide (xl < yl) by unfold sz; rw [decide_eq_decide]; omega]
    exact less_lo xh xl yl w
  · rw [show decide (sz xh xl < sz yh yl) = decide (xh < yh) by unfold sz; rw [decide_eq_decide]; omega]
    exact less_hi xh xl yh yl w (by simp [e])
theorem sum_ok (h1 : Word xh) (h2 : Word xl) (h3 : Word yh) (h4 : Word yl) (h5 : Word h) (h6 : Word l) (e : sz h l = sz xh xl + sz yh yl) : Calls Tryd.prog 74 #[.agg #[.int .u64 xh, .int .u64 xl], .agg #[.int .u64 yh, .int .u64 yl]] w fun e w' => e = .returned (.tuple #[.agg #[.int .u64 h, .int .u64 l], .bool true]) ∧ Kept w w' := by
  have C := sum_raw xh xl yh yl w h1 h2 h3 h4
  unfold Word sz at *
  rw [show (xh + yh + (xl + yl) / 18446744073709551616) % 18446744073709551616 = h by omega, show (xl + yl) % 18446744073709551616 = l by omega,
    show ((xh + yh + (xl + yl) / 18446744073709551616) / 18446744073709551616 == 0) = true by simp; omega] at C
  exact C
theorem sum_no (h1 : Word xh) (h2 : Word xl) (h3 : Word yh) (h4 : Word yl) (e : 340282366920938463463374607431768211456 ≤ sz xh xl + sz yh yl) : ∃ h l : Int, ∀ w, Calls Tryd.prog 74 #[.agg #[.int .u64 xh, .int .u64 xl], .agg #[.int .u64 yh, .int .u64 yl]] w fun e w' => e = .returned (.tuple #[.agg #[.int .u64 h, .int .u64 l], .bool false]) ∧ Kept w w' := by
  refine ⟨(xh + yh + (xl + yl) / 18446744073709551616) % 18446744073709551616, (xl + yl) % 18446744073709551616, fun w => ?_⟩
  have C := sum_raw xh xl yh yl w h1 h2 h3 h4
  unfold Word sz at *
  rw [show ((xh + yh + (xl + yl) / 18446744073709551616) / 18446744073709551616 == 0) = false by simp; omega] at C
  exact C
theorem product_ok {n : Int} (h1 : Word xh) (h2 : Word xl) (h3 : Word n) (h5 : Word h) (h6 : Word l) (e : sz h l = sz xh xl * n) : Calls Tryd.prog 71 #[.agg #[.int .u64 xh, .int .u64 xl], .int .u64 n] w fun e w' => e = .returned (.tuple #[.agg #[.int .u64 h, .int .u64 l], .bool true]) ∧ Kept w w' := by
  have C := product_raw xh xl n w h1 h2 h3
  have p1 := Int.mul_nonneg h1.1 h3.1
  have p2 := Int.mul_nonneg h2.1 h3.1
  have e' : sz h l = xh * n * 18446744073709551616 + xl * n := by rw [e]; unfold sz; rw [Int.add_mul, Int.mul_right_comm]
  generalize xh * n = A at *
  generalize xl * n = D at *
  clear e
  unfold Word sz at *
  rw [show (A % 18446744073709551616 + D / 18446744073709551616) % 18446744073709551616 = h by omega, show D % 18446744073709551616 = l by omega,
    show (A / 18446744073709551616 == 0) = true by simp; omega, show ((A % 18446744073709551616 + D / 18446744073709551616) / 18446744073709551616 == 0) = true by simp; omega] at C
  exact C
theorem product_no {n : Int} (h1 : Word xh) (h2 : Word xl) (h3 : Word n) (e : 340282366920938463463374607431768211456 ≤ sz xh xl * n) : ∃ h l : Int, ∀ w, Calls Tryd.prog 71 #[.agg #[.int .u64 xh, .int .u64 xl], .int .u64 n] w fun e w' => e = .returned (.tuple #[.agg #[.int .u64 h, .int .u64 l], .bool false]) ∧ Kept w w' := by
  refine ⟨(xh * n % 18446744073709551616 + xl * n / 18446744073709551616) % 18446744073709551616, xl * n % 18446744073709551616, fun w => ?_⟩
  have C := product_raw xh xl n w h1 h2 h3
  have p1 := Int.mul_nonneg h1.1 h3.1
  have p2 := Int.mul_nonneg h2.1 h3.1
  have e' : 340282366920938463463374607431768211456 ≤ xh * n * 18446744073709551616 + xl * n := by
    have : sz xh xl * n = xh * n * 18446744073709551616 + xl * n := by unfold sz; rw [Int.add_mul, Int.mul_right_comm]
    omega
  clear e
  generalize xh * n = A at *
  generalize xl * n = D at *
  unfold Word at *
  rw [show ((A / 18446744073709551616 == 0) && ((A % 18446744073709551616 + D / 18446744073709551616) / 18446744073709551616 == 0)) = false by simp; omega] at C
  exact C
end

section
variable {b1 b2 b : Bool} {xh xl yh yl h l : Int}
theorem Scale_yes {n : Int} (h1 : Word xh) (h2 : Word xl) (h3 : Word n) (r : Rep b h l (numOf b1 xh xl * n)) (w : World) : Calls Tryd.prog 62 #[.agg #[.bool b1, .int .u64 xh, .int .u64 xl], .int .u64 n] w fun e w' => e = .returned (.tuple #[.agg #[.bool b, .int .u64 h, .int .u64 l], .int .i64 0]) ∧ Kept w w' := by
  have r' := r
  obtain ⟨h5, h6, _, _⟩ := r'
  have s := rep_size r
  have n1 := Int.mul_nonneg (sz_nonneg h1 h2) h3.1
  have s2 : sz h l = sz xh xl * n := by
    cases b1
    · rw [numOf_false] at s; split at s <;> omega
    · rw [numOf_true, Int.neg_mul] at s; split at s <;> omega
  rw [← rep_sign (s := b1) r (by cases b1 <;> simp [numOf, s2, Int.neg_mul])]
  exact Scale_ok b1 xh xl n h l w fun w => product_ok w h1 h2 h3 h5 h6 s2
theorem Scale_over {n : Int} (h1 : Word xh) (h2 : Word xl) (h3 : Word n) (r : ¬ InBig (numOf b1 xh xl * n)) (w : World) : Calls Tryd.prog 62 #[.agg #[.bool b1, .int .u64 xh, .int .u64 xl], .int .u64 n] w fun e w' => e = .returned (.tuple #[.agg #[.bool false, .int .u64 0, .int .u64 0], .int .i64 10]) ∧ Kept w w' := by
  have n1 := Int.mul_nonneg (sz_nonneg h1 h2) h3.1
  have o : 340282366920938463463374607431768211456 ≤ sz xh xl * n := by
    unfold InBig at r
    cases b1
    · rw [numOf_false] at r; omega
    · rw [numOf_true, Int.neg_mul] at r; omega
  obtain ⟨h, l, C⟩ := product_no h1 h2 h3 o
  exact Scale_no b1 xh xl n h l w C
theorem Neg_rep (h1 : Word xh) (h2 : Word xl) : ∃ b, Rep b xh xl (-(numOf b1 xh xl)) := by
  have n1 := sz_nonneg h1 h2
  refine ⟨decide (-(numOf b1 xh xl) < 0), h1, h2, ?_, rfl⟩
  cases b1
  · rw [numOf_false]
    by_cases z : sz xh xl = 0
    · simp [numOf, z]
    · simp [numOf]; omega
  · rw [numOf_true]; simp [numOf]; omega

/-- Which of two is greater. -/
def cmpI (x y : Int) : Int := if x = y then 0 else if x < y then -1 else 1
theorem Cmp_ok (h1 : Word xh) (h2 : Word xl) (h3 : Word yh) (h4 : Word yl) (w : World) : Calls Tryd.prog 33 #[.agg #[.bool b1, .int .u64 xh, .int .u64 xl], .agg #[.bool b2, .int .u64 yh, .int .u64 yl]] w fun e w' => e = .returned (.int .i64 (cmpI (numOf b1 xh xl) (numOf b2 yh yl))) ∧ Kept w w' := by
  have n1 := sz_nonneg h1 h2; have n2 := sz_nonneg h3 h4
  have z1 := nz_iff h1 h2; have z2 := nz_iff h3 h4
  generalize e1 : (b1 && nz xh xl) = c1
  generalize e2 : (b2 && nz yh yl) = c2
  have x1 : numOf c1 xh xl = numOf b1 xh xl := by
    subst e1; cases b1
    · rfl
    · rw [Bool.true_and, z1]; by_cases z : 0 < sz xh xl
      · simp [z]
      · simp [numOf, z]; omega
  have y1 : numOf c2 yh yl = numOf b2 yh yl := by
    subst e2; cases b2
    · rfl
    · rw [Bool.true_and, z2]; by_cases z : 0 < sz yh yl
      · simp [z]
      · simp [numOf, z]; omega
  have x2 : c1 = true → 0 < sz xh xl := by intro h; subst e1; cases b1 <;> simp_all
  have y2 : c2 = true → 0 < sz yh yl := by intro h; subst e2; cases b2 <;> simp_all
  rw [← x1, ← y1]
  refine Cmp_any b1 b2 c1 c2 xh xl yh yl _ w e1 e2 ?_
  by_cases q : c1 = c2 ∧ xh = yh ∧ xl = yl
  · exact Or.inl ⟨q.1, q.2.1, q.2.2, by rw [q.1, q.2.1, q.2.2]; simp [cmpI]⟩
  · refine Or.inr ⟨q, decide (numOf c1 xh xl < numOf c2 yh yl), ?_, fun w => ?_⟩
    · have ne : ¬ numOf c1 xh xl = numOf c2 yh yl := by
        intro h
        apply q
        have ec : c1 = c2 := by
          clear q e1 e2
          cases c1 <;> cases c2 <;> simp only [numOf_false, numOf_true] at h <;> simp_all <;> omega
        subst ec
        refine ⟨rfl, sz_inj h1 h2 h3 h4 ?_⟩
        cases c1
        · simpa only [numOf_false] using h
        · simp only [numOf_true] at h; omega
      unfold cmpI
      rw [if_neg ne]
      simp
    · by_cases ec : c1 = c2
      · subst ec
        cases c1
        · rw [numOf_false, numOf_false]
          exact below_pos _ xh xl yh yl w fun w => less_any w h1 h2 h3 h4
        · rw [numOf_true, numOf_true, show decide (-sz xh xl < -sz yh yl) = decide (sz yh yl < sz xh xl) by rw [decide_eq_decide]; omega]
          exact below_neg _ xh xl yh yl w fun w => less_any w h3 h4 h1 h2
      · have eb : c2 = !c1 := by cases c1 <;> cases c2 <;> simp_all
        have : decide (numOf c1 xh xl < numOf c2 yh yl) = c1 := by
          subst eb; cases c1
          · have := y2 rfl; simp only [Bool.not_false, numOf_false, numOf_true]; simp; omega
          · have := x2 rfl; simp only [Bool.not_true, numOf_false, numOf_true]; simp; omega
        rw [this]
        exact below_diff c1 c2 xh xl yh yl w eb
end

end Go.Proofs.YtdbikeehoildlaaDoor
namespace Go.Proofs.YtdbikeehoildlaaDoor
open Go.RowKit

/-- A number without its sign. -/
def mag (n : Int) : Int := if n < 0 then -n else n
theorem mag_word {n : Int} (h : In64 n) : Word (mag n) := by unfold In64 at h; unfold Word mag; split <;> omega
theorem magnitude_ok (n : Int) (h : In64 n) (w : World) : Calls Tryd.prog 51 #[.int .i64 n] w fun e w' => e = .returned (.int .u64 (mag n)) ∧ w = w' := by
  unfold In64 at h
  by_cases c : n < 0
  · rw [show mag n = -n by unfold mag; rw [if_pos c]]; exact magnitude_neg n w c h.1
  · rw [show mag n = n by unfold mag; rw [if_neg c]]; exact magnitude_pos n w c h.2
theorem word_zero : Word 0 := by unfold Word; omega
theorem Of_ok (n : Int) (h : In64 n) : Rep (decide (n < 0)) 0 (mag n) n ∧ ∀ w, Calls Tryd.prog 60 #[.int .i64 n] w fun e w' => e = .returned (.agg #[.bool (decide (n < 0)), .int .u64 0, .int .u64 (mag n)]) ∧ Kept w w' := by
  have r : Rep (decide (n < 0)) 0 (mag n) n := by
    refine ⟨word_zero, mag_word h, ?_, rfl⟩
    by_cases c : n < 0
    · simp [numOf, sz, mag, c]
    · simp [numOf, sz, mag, c]
  refine ⟨r, fun w => ?_⟩
  have := Of_any n (mag n) w _ rfl (magnitude_ok n h)
  rwa [rep_sign (s := decide (n < 0)) r (by by_cases c : n < 0 <;> simp [sz, mag, c])] at this
theorem Of_rep {n : Int} (h : In64 n) {b : Bool} {xh xl : Int} (r : Rep b xh xl n) (w : World) : Calls Tryd.prog 60 #[.int .i64 n] w fun e w' => e = .returned (.agg #[.bool b, .int .u64 xh, .int .u64 xl]) ∧ Kept w w' := by
  obtain ⟨r', C⟩ := Of_ok n h
  obtain ⟨rfl, rfl, rfl⟩ := rep_uniq r r'
  exact C w
theorem mag_mul (a c : Int) : mag (a * c) = mag a * mag c := by
  unfold mag
  by_cases h1 : a < 0 <;> by_cases h2 : c < 0
  · have := Int.mul_pos_of_neg_of_neg h1 h2; rw [if_pos h1, if_pos h2, if_neg (by omega), Int.neg_mul_neg]
  · by_cases h3 : c = 0
    · subst h3; simp
    · have := Int.mul_neg_of_neg_of_pos h1 (show 0 < c by omega); rw [if_pos h1, if_neg h2, if_pos this, Int.neg_mul]
  · by_cases h3 : a = 0
    · subst h3; simp
    · have := Int.mul_neg_of_pos_of_neg (show 0 < a by omega) h2; rw [if_neg h1, if_pos h2, if_pos this, Int.mul_neg]
  · have := Int.mul_nonneg (show 0 ≤ a by omega) (show 0 ≤ c by omega); rw [if_neg h1, if_neg h2, if_neg (by omega)]
theorem mul_in {a c : Int} (h : In64 a) (k : In64 c) : InBig (a * c) := by
  have e := mag_mul a c
  have m1 : 0 ≤ mag a ∧ mag a ≤ 9223372036854775808 := by unfold In64 at h; unfold mag; split <;> omega
  have m2 : 0 ≤ mag c ∧ mag c ≤ 9223372036854775808 := by unfold In64 at k; unfold mag; split <;> omega
  have := Int.mul_le_mul m1.2 m2.2 m2.1 (by omega)
  rw [← e] at this
  unfold InBig; unfold mag at this; split at this <;> omega
theorem Mul_rep {a c : Int} (h : In64 a) (k : In64 c) {b : Bool} {xh xl : Int} (r : Rep b xh xl (a * c)) (w : World) : Calls Tryd.prog 34 #[.int .i64 a, .int .i64 c] w fun e w' => e = .returned (.agg #[.bool b, .int .u64 xh, .int .u64 xl]) ∧ Kept w w' := by
  have s := rep_size r
  have e := mag_mul a c
  have e2 : sz xh xl = mag a * mag c := by rw [← e]; unfold mag; exact s
  obtain ⟨w1, w2, _, _⟩ := id r
  have M : ∀ w, Calls Tryd.prog 50 #[.int .u64 (mag a), .int .u64 (mag c)] w fun e w' => e = .returned (.tuple #[.int .u64 xh, .int .u64 xl]) ∧ w = w' := fun w => by
    have := mul64 (mag a) (mag c) (mag_word h) (mag_word k) w
    rw [← e2] at this
    unfold Word at w1 w2
    rwa [show sz xh xl / 18446744073709551616 = xh by unfold sz; omega, show sz xh xl % 18446744073709551616 = xl by unfold sz; omega] at this
  have := Mul_any a c (mag a) (mag c) xh xl _ _ w rfl rfl (magnitude_ok a h) (magnitude_ok c k) M
  rwa [rep_sign (s := decide (a < 0) != decide (c < 0)) r ?_] at this
  have n0 := sz_nonneg w1 w2
  by_cases h1 : a < 0 <;> by_cases h2 : c < 0
  · have := Int.mul_pos_of_neg_of_neg h1 h2; simp [h1, h2]; rw [s, if_neg (by omega)]
  · by_cases h3 : c = 0
    · subst h3; simp [h1] at *; omega
    · have := Int.mul_neg_of_neg_of_pos h1 (show 0 < c by omega); simp [h1, h2]; rw [s, if_pos (by omega)]; omega
  · by_cases h3 : a = 0
    · subst h3; simp [h2] at *; omega
    · have := Int.mul_neg_of_pos_of_neg (show 0 < a by omega) h2; simp [h1, h2]; rw [s, if_pos (by omega)]; omega
  · have := Int.mul_nonneg (show 0 ≤ a by omega) (show 0 ≤ c by omega); simp [h1, h2]; rw [s, if_neg (by omega)]

/-- A quotient, by halves. -/
theorem quo_halves {xh xl d : Int} (hd : 0 < d) : sz xh xl / d = sz (xh / d) ((xh % d * 18446744073709551616 + xl) / d) ∧ sz xh xl % d = (xh % d * 18446744073709551616 + xl) % d := by
  have a := Int.mul_ediv_add_emod xh d
  have b := Int.mul_ediv_add_emod (xh % d * 18446744073709551616 + xl) d
  have b2 := Int.emod_nonneg (xh % d * 18446744073709551616 + xl) (show d ≠ 0 by omega)
  have b3 := Int.emod_lt_of_pos (xh % d * 18446744073709551616 + xl) hd
  rw [Int.ediv_emod_unique hd]
  refine ⟨?_, b2, b3⟩
  unfold sz
  rw [Int.mul_add, ← Int.mul_assoc]
  omega
theorem neg_quo {S d : Int} (hd : 0 < d) : (S % d = 0 → (-S) / d = -(S / d) ∧ (-S) % d = 0) ∧ (S % d ≠ 0 → (-S) / d = -(S / d + 1) ∧ (-S) % d = d - S % d) := by
  have a := Int.mul_ediv_add_emod S d
  have a2 := Int.emod_nonneg S (show d ≠ 0 by omega)
  have a3 := Int.emod_lt_of_pos S hd
  constructor
  · intro h
    rw [Int.ediv_emod_unique hd]
    refine ⟨?_, by omega, hd⟩
    rw [Int.mul_neg]; omega
  · intro h
    rw [Int.ediv_emod_unique hd]
    refine ⟨?_, by omega, by omega⟩
    rw [Int.mul_neg, Int.mul_add, Int.mul_one]; omega
theorem Div_ok {b1 b : Bool} {xh xl h l d : Int} (h1 : Word xh) (h2 : Word xl) (h3 : Word d) (hd : 0 < d) (r : Rep b h l (numOf b1 xh xl / d)) (w : World) : Calls Tryd.prog 63 #[.agg #[.bool b1, .int .u64 xh, .int .u64 xl], .int .u64 d] w fun e w' => e = .returned (.tuple #[.agg #[.bool b, .int .u64 h, .int .u64 l], .int .u64 (numOf b1 xh xl % d), .int .i64 0]) ∧ Kept w w' := by
  obtain ⟨v1, v2⟩ := quo_halves (xh := xh) (xl := xl) hd
  have n0 := sz_nonneg h1 h2
  have n1 := sz_lt h1 h2
  have q0 := Int.ediv_nonneg n0 (show 0 ≤ d by omega)
  have q1 : sz xh xl / d ≤ sz xh xl := Int.ediv_le_self _ n0
  have a2 := Int.emod_nonneg (sz xh xl) (show d ≠ 0 by omega)
  have a3 := Int.emod_lt_of_pos (sz xh xl) hd
  have C := fun w => quotient_any xh xl d _ _ w h1 h2 h3 hd rfl rfl
  have w1 : Word (xh / d) := by
    have := Int.ediv_nonneg h1.1 (show 0 ≤ d by omega); have := Int.ediv_le_self d h1.1; have := h1.2; unfold Word; omega
  have w2 : Word ((xh % d * 18446744073709551616 + xl) / d) := by
    have m0 := Int.emod_nonneg xh (show d ≠ 0 by omega)
    have m1 := Int.emod_lt_of_pos xh hd
    have := h2.1; have := h2.2
    refine ⟨Int.ediv_nonneg (by omega) (by omega), ?_⟩
    rw [Int.ediv_lt_iff_lt_mul hd]; omega
  rw [← v2] at C
  generalize (xh % d * 18446744073709551616 + xl) / d = ql at *
  generalize xh / d = qh at *
  obtain ⟨p1, p2, _, _⟩ := id r
  have s := rep_size r
  cases b1
  · rw [numOf_false] at r s ⊢
    have e : sz h l = sz qh ql := by rw [s, if_neg (by omega), v1]
    obtain ⟨rfl, rfl⟩ := sz_inj p1 p2 w1 w2 e
    have := Div_even false xh xl d h l _ w (by omega) C (by simp)
    rwa [rep_sign (s := false) r (by simp [v1])] at this
  · rw [numOf_true] at r s ⊢
    obtain ⟨g1, g2⟩ := neg_quo (S := sz xh xl) hd
    by_cases z : sz xh xl % d = 0
    · obtain ⟨g3, g4⟩ := g1 z
      rw [g3] at r s
      rw [g4]
      have e : sz h l = sz qh ql := by rw [s, ← v1]; split <;> omega
      obtain ⟨rfl, rfl⟩ := sz_inj p1 p2 w1 w2 e
      rw [z] at C
      have := Div_even true xh xl d h l _ w (by omega) C (by simp)
      rwa [rep_sign (s := true) r (by simp [v1])] at this
    · obtain ⟨g3, g4⟩ := g2 z
      rw [g3] at r s
      rw [g4]
      have e : sz h l = sz qh ql + sz 0 1 := by rw [s, ← v1, show sz 0 1 = 1 by decide]; split <;> omega
      have S := fun w => sum_ok w w1 w2 word_zero (show Word 1 by unfold Word; omega) p1 p2 e
      have := Div_rest xh xl d qh ql _ w (by omega) C true h l h3.2 a2 a3 (by simp [z]) S
      rwa [rep_sign (s := true) r (by simp [e, v1, show sz 0 1 = 1 by decide])] at this
end Go.Proofs.YtdbikeehoildlaaDoor
