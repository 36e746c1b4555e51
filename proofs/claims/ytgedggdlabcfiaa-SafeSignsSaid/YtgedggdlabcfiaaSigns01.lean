/-
  SafeSigns walks: the Go text returns true, whatever the numbers.
-/
import Derived.Test.YtgedggdlabcfiaaAwake01
import Derived.Test.YtgedggdlabcfiaaNumb
namespace Go.Proofs.Ytgedggdlabcfiaa
open Go.RowKit

set_option maxHeartbeats 1000000 in
set_option maxRecDepth 100000 in
theorem safeSigns_zero_zero (w : World) :
    Calls Try.prog 6 #[.int .i64 0, .int .i64 0] w fun e w' => e = .returned (.bool true) ∧ Kept w w' := by
  go_enter Try.func6, Try.ntmps6
  go_wp2_with fail
  refine (awake01 _).mono ?_
  rintro e w1 ⟨rfl, k1⟩
  go_wp2_with fail
  refine (Mul_lit 0 0 0 _ (by unfold In64; omega) (by unfold In64; omega) (by simp [heldAt])).mono ?_
  rintro e w2 ⟨rfl, k2⟩
  go_wp2_with fail
  refine (Sub_lit 0 0 0 _ (by unfold In64; omega) (by unfold In64; omega) (by simp [heldAt])).mono ?_
  rintro e w3 ⟨rfl, k3⟩
  go_wp2_with fail
  refine (Abs_lit 0 0 _ (by unfold In64; omega) (by simp [absAt, heldAt])).mono ?_
  rintro e w4 ⟨rfl, k4⟩
  go_wp2_with fail
  refine (Abs_lit 0 0 _ (by unfold In64; omega) (by simp [absAt])).mono ?_
  rintro e w5 ⟨rfl, k5⟩
  go_wp2_with fail
  refine (Abs_lit 0 0 _ (by unfold In64; omega) (by simp [absAt, heldAt])).mono ?_
  rintro e w6 ⟨rfl, k6⟩
  go_wp2_with fail
  refine (Sub_lit 0 0 0 _ (by unfold In64; omega) (by unfold In64; omega) (by simp [heldAt])).mono ?_
  rintro e w7 ⟨rfl, k7⟩
  go_wp2_with fail
  refine (Mul_lit 0 1 0 _ (by unfold In64; omega) (by unfold In64; omega) (by simp [heldAt])).mono ?_
  rintro e w8 ⟨rfl, k8⟩
  go_wp2_with fail
  refine (Mul_lit 0 (-1) 0 _ (by unfold In64; omega) (by unfold In64; omega) (by simp [heldAt])).mono ?_
  rintro e w9 ⟨rfl, k9⟩
  go_wp2_with fail
  go_ret
  exact ⟨rfl, k1.trans (k2.trans (k3.trans (k4.trans (k5.trans (k6.trans (k7.trans (k8.trans (k9))))))))⟩

set_option maxHeartbeats 1000000 in
set_option maxRecDepth 100000 in
theorem safeSigns_zero_neg (b : Int) (w : World) (hb : In64 b) (hb1 : b < 0) (hb2 : (b == 0) = false) (hb3 : decide (0 < b) = false) :
    Calls Try.prog 6 #[.int .i64 0, .int .i64 b] w fun e w' => e = .returned (.bool true) ∧ Kept w w' := by
  go_enter Try.func6, Try.ntmps6
  go_wp2_with fail
  refine (awake01 _).mono ?_
  rintro e w1 ⟨rfl, k1⟩
  go_wp2_with fail
  refine (Mul_lit 0 b 0 _ (by unfold In64; omega) hb (by simp [heldAt])).mono ?_
  rintro e w2 ⟨rfl, k2⟩
  go_wp2_with fail
  refine (Sub_lit 0 0 0 _ (by unfold In64; omega) (by unfold In64; omega) (by simp [heldAt])).mono ?_
  rintro e w3 ⟨rfl, k3⟩
  go_wp2_with fail
  refine (Abs_lit 0 0 _ (by unfold In64; omega) (by simp [absAt, heldAt])).mono ?_
  rintro e w4 ⟨rfl, k4⟩
  go_wp2_with fail
  refine (Abs_lit 0 0 _ (by unfold In64; omega) (by simp [absAt])).mono ?_
  rintro e w5 ⟨rfl, k5⟩
  go_wp2_with fail
  refine (Abs_lit 0 0 _ (by unfold In64; omega) (by simp [absAt, heldAt])).mono ?_
  rintro e w6 ⟨rfl, k6⟩
  go_wp2_with fail
  refine (Sub_lit 0 0 0 _ (by unfold In64; omega) (by unfold In64; omega) (by simp [heldAt])).mono ?_
  rintro e w7 ⟨rfl, k7⟩
  go_wp2_with fail
  refine (Mul_lit 0 1 0 _ (by unfold In64; omega) (by unfold In64; omega) (by simp [heldAt])).mono ?_
  rintro e w8 ⟨rfl, k8⟩
  go_wp2_with fail
  refine (Mul_lit 0 (-1) 0 _ (by unfold In64; omega) (by unfold In64; omega) (by simp [heldAt])).mono ?_
  rintro e w9 ⟨rfl, k9⟩
  go_wp2_with fail
  go_ret
  exact ⟨rfl, k1.trans (k2.trans (k3.trans (k4.trans (k5.trans (k6.trans (k7.trans (k8.trans (k9))))))))⟩

set_option maxHeartbeats 1000000 in
set_option maxRecDepth 100000 in
theorem safeSigns_zero_pos (b : Int) (w : World) (hb : In64 b) (hb1 : 0 < b) (hb2 : (b == 0) = false) (hb3 : decide (0 < b) = true) :
    Calls Try.prog 6 #[.int .i64 0, .int .i64 b] w fun e w' => e = .returned (.bool true) ∧ Kept w w' := by
  go_enter Try.func6, Try.ntmps6
  go_wp2_with fail
  refine (awake01 _).mono ?_
  rintro e w1 ⟨rfl, k1⟩
  go_wp2_with fail
  refine (Mul_lit 0 b 0 _ (by unfold In64; omega) hb (by simp [heldAt])).mono ?_
  rintro e w2 ⟨rfl, k2⟩
  go_wp2_with fail
  refine (Sub_lit 0 0 0 _ (by unfold In64; omega) (by unfold In64; omega) (by simp [heldAt])).mono ?_
  rintro e w3 ⟨rfl, k3⟩
  go_wp2_with fail
  refine (Abs_lit 0 0 _ (by unfold In64; omega) (by simp [absAt, heldAt])).mono ?_
  rintro e w4 ⟨rfl, k4⟩
  go_wp2_with fail
  refine (Abs_lit 0 0 _ (by unfold In64; omega) (by simp [absAt])).mono ?_
  rintro e w5 ⟨rfl, k5⟩
  go_wp2_with fail
  refine (Abs_lit 0 0 _ (by unfold In64; omega) (by simp [absAt, heldAt])).mono ?_
  rintro e w6 ⟨rfl, k6⟩
  go_wp2_with fail
  refine (Sub_lit 0 0 0 _ (by unfold In64; omega) (by unfold In64; omega) (by simp [heldAt])).mono ?_
  rintro e w7 ⟨rfl, k7⟩
  go_wp2_with fail
  refine (Mul_lit 0 1 0 _ (by unfold In64; omega) (by unfold In64; omega) (by simp [heldAt])).mono ?_
  rintro e w8 ⟨rfl, k8⟩
  go_wp2_with fail
  refine (Mul_lit 0 (-1) 0 _ (by unfold In64; omega) (by unfold In64; omega) (by simp [heldAt])).mono ?_
  rintro e w9 ⟨rfl, k9⟩
  go_wp2_with fail
  go_ret
  exact ⟨rfl, k1.trans (k2.trans (k3.trans (k4.trans (k5.trans (k6.trans (k7.trans (k8.trans (k9))))))))⟩

set_option maxHeartbeats 1000000 in
set_option maxRecDepth 100000 in
theorem safeSigns_least_zero (w : World) :
    Calls Try.prog 6 #[.int .i64 (-9223372036854775808), .int .i64 0] w fun e w' => e = .returned (.bool true) ∧ Kept w w' := by
  go_enter Try.func6, Try.ntmps6
  go_wp2_with fail
  refine (awake01 _).mono ?_
  rintro e w1 ⟨rfl, k1⟩
  go_wp2_with fail
  refine (Mul_lit (-9223372036854775808) 0 0 _ (by unfold In64; omega) (by unfold In64; omega) (by simp [heldAt])).mono ?_
  rintro e w2 ⟨rfl, k2⟩
  go_wp2_with fail
  refine (Sub_lit 0 (-9223372036854775808) 9223372036854775807 _ (by unfold In64; omega) (by unfold In64; omega) (by simp [heldAt])).mono ?_
  rintro e w3 ⟨rfl, k3⟩
  go_wp2_with fail
  refine (Abs_lit (-9223372036854775808) 9223372036854775807 _ (by unfold In64; omega) (by simp [absAt, heldAt])).mono ?_
  rintro e w4 ⟨rfl, k4⟩
  go_wp2_with fail
  refine (Mul_lit (-9223372036854775808) 1 (-9223372036854775808) _ (by unfold In64; omega) (by unfold In64; omega) (by simp [heldAt])).mono ?_
  rintro e w5 ⟨rfl, k5⟩
  go_wp2_with fail
  refine (Mul_lit (-9223372036854775808) (-1) 9223372036854775807 _ (by unfold In64; omega) (by unfold In64; omega) (by simp [heldAt])).mono ?_
  rintro e w6 ⟨rfl, k6⟩
  go_wp2_with fail
  go_ret
  exact ⟨rfl, k1.trans (k2.trans (k3.trans (k4.trans (k5.trans (k6)))))⟩

set_option maxHeartbeats 1000000 in
set_option maxRecDepth 100000 in
theorem safeSigns_least_neg (b : Int) (w : World) (hb : In64 b) (hb1 : b < 0) (hb2 : (b == 0) = false) (hb3 : decide (0 < b) = false) (n : Int) (Hn : Hid (heldAt ((-9223372036854775808) * b) = n)) (hn : 0 < n) :
    Calls Try.prog 6 #[.int .i64 (-9223372036854775808), .int .i64 b] w fun e w' => e = .returned (.bool true) ∧ Kept w w' := by
  go_enter Try.func6, Try.ntmps6
  go_wp2_with fail
  refine (awake01 _).mono ?_
  rintro e w1 ⟨rfl, k1⟩
  go_wp2_with fail
  refine (Mul_lit (-9223372036854775808) b n _ (by unfold In64; omega) hb Hn.out).mono ?_
  rintro e w2 ⟨rfl, k2⟩
  go_wp2_with fail
  refine (Sub_lit 0 (-9223372036854775808) 9223372036854775807 _ (by unfold In64; omega) (by unfold In64; omega) (by simp [heldAt])).mono ?_
  rintro e w3 ⟨rfl, k3⟩
  go_wp2_with fail
  refine (Abs_lit (-9223372036854775808) 9223372036854775807 _ (by unfold In64; omega) (by simp [absAt, heldAt])).mono ?_
  rintro e w4 ⟨rfl, k4⟩
  go_wp2_with fail
  refine (Mul_lit (-9223372036854775808) 1 (-9223372036854775808) _ (by unfold In64; omega) (by unfold In64; omega) (by simp [heldAt])).mono ?_
  rintro e w5 ⟨rfl, k5⟩
  go_wp2_with fail
  refine (Mul_lit (-9223372036854775808) (-1) 9223372036854775807 _ (by unfold In64; omega) (by unfold In64; omega) (by simp [heldAt])).mono ?_
  rintro e w6 ⟨rfl, k6⟩
  go_wp2_with fail
  go_ret
  exact ⟨rfl, k1.trans (k2.trans (k3.trans (k4.trans (k5.trans (k6)))))⟩

set_option maxHeartbeats 1000000 in
set_option maxRecDepth 100000 in
theorem safeSigns_least_pos (b : Int) (w : World) (hb : In64 b) (hb1 : 0 < b) (hb2 : (b == 0) = false) (hb3 : decide (0 < b) = true) (n : Int) (Hn : Hid (heldAt ((-9223372036854775808) * b) = n)) (hn : n < 0) :
    Calls Try.prog 6 #[.int .i64 (-9223372036854775808), .int .i64 b] w fun e w' => e = .returned (.bool true) ∧ Kept w w' := by
  go_enter Try.func6, Try.ntmps6
  go_wp2_with fail
  refine (awake01 _).mono ?_
  rintro e w1 ⟨rfl, k1⟩
  go_wp2_with fail
  refine (Mul_lit (-9223372036854775808) b n _ (by unfold In64; omega) hb Hn.out).mono ?_
  rintro e w2 ⟨rfl, k2⟩
  go_wp2_with fail
  refine (Sub_lit 0 (-9223372036854775808) 9223372036854775807 _ (by unfold In64; omega) (by unfold In64; omega) (by simp [heldAt])).mono ?_
  rintro e w3 ⟨rfl, k3⟩
  go_wp2_with fail
  refine (Abs_lit (-9223372036854775808) 9223372036854775807 _ (by unfold In64; omega) (by simp [absAt, heldAt])).mono ?_
  rintro e w4 ⟨rfl, k4⟩
  go_wp2_with fail
  refine (Mul_lit (-9223372036854775808) 1 (-9223372036854775808) _ (by unfold In64; omega) (by unfold In64; omega) (by simp [heldAt])).mono ?_
  rintro e w5 ⟨rfl, k5⟩
  go_wp2_with fail
  refine (Mul_lit (-9223372036854775808) (-1) 9223372036854775807 _ (by unfold In64; omega) (by unfold In64; omega) (by simp [heldAt])).mono ?_
  rintro e w6 ⟨rfl, k6⟩
  go_wp2_with fail
  go_ret
  exact ⟨rfl, k1.trans (k2.trans (k3.trans (k4.trans (k5.trans (k6)))))⟩

set_option maxHeartbeats 1000000 in
set_option maxRecDepth 100000 in
theorem safeSigns_neg_zero (a : Int) (w : World) (ha : In64 a) (ha1 : a < 0) (ha2 : (a == 0) = false) (ha3 : decide (0 < a) = false) (ha4 : (a == -9223372036854775808) = false) (t q : Int) (Ht : Hid (-a = t)) (Hq : Hid (absAt a = q)) (hq : 0 ≤ q) :
    Calls Try.prog 6 #[.int .i64 a, .int .i64 0] w fun e w' => e = .returned (.bool true) ∧ Kept w w' := by
  go_enter Try.func6, Try.ntmps6
  go_wp2_with fail
  refine (awake01 _).mono ?_
  rintro e w1 ⟨rfl, k1⟩
  go_wp2_with fail
  refine (Mul_lit a 0 0 _ ha (by unfold In64; omega) (by simp [heldAt])).mono ?_
  rintro e w2 ⟨rfl, k2⟩
  go_wp2_with fail
  refine (Sub_lit 0 a t _ (by unfold In64; omega) ha (by rw [show (0 : Int) - a = t from by rw [← Ht.out]; omega]; exact heldAt_of (in64_neg ha ha4 Ht.out))).mono ?_
  rintro e w3 ⟨rfl, k3⟩
  go_wp2_with fail
  refine (Abs_lit a q _ ha Hq.out).mono ?_
  rintro e w4 ⟨rfl, k4⟩
  go_wp2_with fail
  refine (Abs_lit t q _ (in64_neg ha ha4 Ht.out) (by rw [← Hq.out, ← Ht.out]; exact absAt_neg_of ha ha4)).mono ?_
  rintro e w5 ⟨rfl, k5⟩
  go_wp2_with fail
  refine (Abs_lit a q _ ha Hq.out).mono ?_
  rintro e w6 ⟨rfl, k6⟩
  go_wp2_with fail
  refine (Sub_lit 0 t a _ (by unfold In64; omega) (in64_neg ha ha4 Ht.out) (by rw [show (0 : Int) - t = a from by rw [← Ht.out]; omega]; exact heldAt_of ha)).mono ?_
  rintro e w7 ⟨rfl, k7⟩
  go_wp2_with fail
  refine (Mul_lit a 1 a _ ha (by unfold In64; omega) (by rw [Int.mul_one]; exact heldAt_of ha)).mono ?_
  rintro e w8 ⟨rfl, k8⟩
  go_wp2_with fail
  refine (Mul_lit a (-1) t _ ha (by unfold In64; omega) (by rw [show a * (-1) = t from by rw [← Ht.out]; omega]; exact heldAt_of (in64_neg ha ha4 Ht.out))).mono ?_
  rintro e w9 ⟨rfl, k9⟩
  go_wp2_with fail
  go_ret
  exact ⟨rfl, k1.trans (k2.trans (k3.trans (k4.trans (k5.trans (k6.trans (k7.trans (k8.trans (k9))))))))⟩

set_option maxHeartbeats 1000000 in
set_option maxRecDepth 100000 in
theorem safeSigns_neg_neg (a b : Int) (w : World) (ha : In64 a) (ha1 : a < 0) (ha2 : (a == 0) = false) (ha3 : decide (0 < a) = false) (ha4 : (a == -9223372036854775808) = false) (hb : In64 b) (hb1 : b < 0) (hb2 : (b == 0) = false) (hb3 : decide (0 < b) = false) (n : Int) (Hn : Hid (heldAt (a * b) = n)) (hn : 0 < n) (t q : Int) (Ht : Hid (-a = t)) (Hq : Hid (absAt a = q)) (hq : 0 ≤ q) :
    Calls Try.prog 6 #[.int .i64 a, .int .i64 b] w fun e w' => e = .returned (.bool true) ∧ Kept w w' := by
  go_enter Try.func6, Try.ntmps6
  go_wp2_with fail
  refine (awake01 _).mono ?_
  rintro e w1 ⟨rfl, k1⟩
  go_wp2_with fail
  refine (Mul_lit a b n _ ha hb Hn.out).mono ?_
  rintro e w2 ⟨rfl, k2⟩
  go_wp2_with fail
  refine (Sub_lit 0 a t _ (by unfold In64; omega) ha (by rw [show (0 : Int) - a = t from by rw [← Ht.out]; omega]; exact heldAt_of (in64_neg ha ha4 Ht.out))).mono ?_
  rintro e w3 ⟨rfl, k3⟩
  go_wp2_with fail
  refine (Abs_lit a q _ ha Hq.out).mono ?_
  rintro e w4 ⟨rfl, k4⟩
  go_wp2_with fail
  refine (Abs_lit t q _ (in64_neg ha ha4 Ht.out) (by rw [← Hq.out, ← Ht.out]; exact absAt_neg_of ha ha4)).mono ?_
  rintro e w5 ⟨rfl, k5⟩
  go_wp2_with fail
  refine (Abs_lit a q _ ha Hq.out).mono ?_
  rintro e w6 ⟨rfl, k6⟩
  go_wp2_with fail
  refine (Sub_lit 0 t a _ (by unfold In64; omega) (in64_neg ha ha4 Ht.out) (by rw [show (0 : Int) - t = a from by rw [← Ht.out]; omega]; exact heldAt_of ha)).mono ?_
  rintro e w7 ⟨rfl, k7⟩
  go_wp2_with fail
  refine (Mul_lit a 1 a _ ha (by unfold In64; omega) (by rw [Int.mul_one]; exact heldAt_of ha)).mono ?_
  rintro e w8 ⟨rfl, k8⟩
  go_wp2_with fail
  refine (Mul_lit a (-1) t _ ha (by unfold In64; omega) (by rw [show a * (-1) = t from by rw [← Ht.out]; omega]; exact heldAt_of (in64_neg ha ha4 Ht.out))).mono ?_
  rintro e w9 ⟨rfl, k9⟩
  go_wp2_with fail
  go_ret
  exact ⟨rfl, k1.trans (k2.trans (k3.trans (k4.trans (k5.trans (k6.trans (k7.trans (k8.trans (k9))))))))⟩

set_option maxHeartbeats 1000000 in
set_option maxRecDepth 100000 in
theorem safeSigns_neg_pos (a b : Int) (w : World) (ha : In64 a) (ha1 : a < 0) (ha2 : (a == 0) = false) (ha3 : decide (0 < a) = false) (ha4 : (a == -9223372036854775808) = false) (hb : In64 b) (hb1 : 0 < b) (hb2 : (b == 0) = false) (hb3 : decide (0 < b) = true) (n : Int) (Hn : Hid (heldAt (a * b) = n)) (hn : n < 0) (t q : Int) (Ht : Hid (-a = t)) (Hq : Hid (absAt a = q)) (hq : 0 ≤ q) :
    Calls Try.prog 6 #[.int .i64 a, .int .i64 b] w fun e w' => e = .returned (.bool true) ∧ Kept w w' := by
  go_enter Try.func6, Try.ntmps6
  go_wp2_with fail
  refine (awake01 _).mono ?_
  rintro e w1 ⟨rfl, k1⟩
  go_wp2_with fail
  refine (Mul_lit a b n _ ha hb Hn.out).mono ?_
  rintro e w2 ⟨rfl, k2⟩
  go_wp2_with fail
  refine (Sub_lit 0 a t _ (by unfold In64; omega) ha (by rw [show (0 : Int) - a = t from by rw [← Ht.out]; omega]; exact heldAt_of (in64_neg ha ha4 Ht.out))).mono ?_
  rintro e w3 ⟨rfl, k3⟩
  go_wp2_with fail
  refine (Abs_lit a q _ ha Hq.out).mono ?_
  rintro e w4 ⟨rfl, k4⟩
  go_wp2_with fail
  refine (Abs_lit t q _ (in64_neg ha ha4 Ht.out) (by rw [← Hq.out, ← Ht.out]; exact absAt_neg_of ha ha4)).mono ?_
  rintro e w5 ⟨rfl, k5⟩
  go_wp2_with fail
  refine (Abs_lit a q _ ha Hq.out).mono ?_
  rintro e w6 ⟨rfl, k6⟩
  go_wp2_with fail
  refine (Sub_lit 0 t a _ (by unfold In64; omega) (in64_neg ha ha4 Ht.out) (by rw [show (0 : Int) - t = a from by rw [← Ht.out]; omega]; exact heldAt_of ha)).mono ?_
  rintro e w7 ⟨rfl, k7⟩
  go_wp2_with fail
  refine (Mul_lit a 1 a _ ha (by unfold In64; omega) (by rw [Int.mul_one]; exact heldAt_of ha)).mono ?_
  rintro e w8 ⟨rfl, k8⟩
  go_wp2_with fail
  refine (Mul_lit a (-1) t _ ha (by unfold In64; omega) (by rw [show a * (-1) = t from by rw [← Ht.out]; omega]; exact heldAt_of (in64_neg ha ha4 Ht.out))).mono ?_
  rintro e w9 ⟨rfl, k9⟩
  go_wp2_with fail
  go_ret
  exact ⟨rfl, k1.trans (k2.trans (k3.trans (k4.trans (k5.trans (k6.trans (k7.trans (k8.trans (k9))))))))⟩

set_option maxHeartbeats 1000000 in
set_option maxRecDepth 100000 in
theorem safeSigns_pos_zero (a : Int) (w : World) (ha : In64 a) (ha1 : 0 < a) (ha2 : (a == 0) = false) (ha3 : decide (0 < a) = true) (ha4 : (a == -9223372036854775808) = false) (t q : Int) (Ht : Hid (-a = t)) (Hq : Hid (absAt a = q)) (hq : 0 ≤ q) :
    Calls Try.prog 6 #[.int .i64 a, .int .i64 0] w fun e w' => e = .returned (.bool true) ∧ Kept w w' := by
  go_enter Try.func6, Try.ntmps6
  go_wp2_with fail
  refine (awake01 _).mono ?_
  rintro e w1 ⟨rfl, k1⟩
  go_wp2_with fail
  refine (Mul_lit a 0 0 _ ha (by unfold In64; omega) (by simp [heldAt])).mono ?_
  rintro e w2 ⟨rfl, k2⟩
  go_wp2_with fail
  refine (Sub_lit 0 a t _ (by unfold In64; omega) ha (by rw [show (0 : Int) - a = t from by rw [← Ht.out]; omega]; exact heldAt_of (in64_neg ha ha4 Ht.out))).mono ?_
  rintro e w3 ⟨rfl, k3⟩
  go_wp2_with fail
  refine (Abs_lit a q _ ha Hq.out).mono ?_
  rintro e w4 ⟨rfl, k4⟩
  go_wp2_with fail
  refine (Abs_lit t q _ (in64_neg ha ha4 Ht.out) (by rw [← Hq.out, ← Ht.out]; exact absAt_neg_of ha ha4)).mono ?_
  rintro e w5 ⟨rfl, k5⟩
  go_wp2_with fail
  refine (Abs_lit a q _ ha Hq.out).mono ?_
  rintro e w6 ⟨rfl, k6⟩
  go_wp2_with fail
  refine (Sub_lit 0 t a _ (by unfold In64; omega) (in64_neg ha ha4 Ht.out) (by rw [show (0 : Int) - t = a from by rw [← Ht.out]; omega]; exact heldAt_of ha)).mono ?_
  rintro e w7 ⟨rfl, k7⟩
  go_wp2_with fail
  refine (Mul_lit a 1 a _ ha (by unfold In64; omega) (by rw [Int.mul_one]; exact heldAt_of ha)).mono ?_
  rintro e w8 ⟨rfl, k8⟩
  go_wp2_with fail
  refine (Mul_lit a (-1) t _ ha (by unfold In64; omega) (by rw [show a * (-1) = t from by rw [← Ht.out]; omega]; exact heldAt_of (in64_neg ha ha4 Ht.out))).mono ?_
  rintro e w9 ⟨rfl, k9⟩
  go_wp2_with fail
  go_ret
  exact ⟨rfl, k1.trans (k2.trans (k3.trans (k4.trans (k5.trans (k6.trans (k7.trans (k8.trans (k9))))))))⟩

set_option maxHeartbeats 1000000 in
set_option maxRecDepth 100000 in
theorem safeSigns_pos_neg (a b : Int) (w : World) (ha : In64 a) (ha1 : 0 < a) (ha2 : (a == 0) = false) (ha3 : decide (0 < a) = true) (ha4 : (a == -9223372036854775808) = false) (hb : In64 b) (hb1 : b < 0) (hb2 : (b == 0) = false) (hb3 : decide (0 < b) = false) (n : Int) (Hn : Hid (heldAt (a * b) = n)) (hn : n < 0) (t q : Int) (Ht : Hid (-a = t)) (Hq : Hid (absAt a = q)) (hq : 0 ≤ q) :
    Calls Try.prog 6 #[.int .i64 a, .int .i64 b] w fun e w' => e = .returned (.bool true) ∧ Kept w w' := by
  go_enter Try.func6, Try.ntmps6
  go_wp2_with fail
  refine (awake01 _).mono ?_
  rintro e w1 ⟨rfl, k1⟩
  go_wp2_with fail
  refine (Mul_lit a b n _ ha hb Hn.out).mono ?_
  rintro e w2 ⟨rfl, k2⟩
  go_wp2_with fail
  refine (Sub_lit 0 a t _ (by unfold In64; omega) ha (by rw [show (0 : Int) - a = t from by rw [← Ht.out]; omega]; exact heldAt_of (in64_neg ha ha4 Ht.out))).mono ?_
  rintro e w3 ⟨rfl, k3⟩
  go_wp2_with fail
  refine (Abs_lit a q _ ha Hq.out).mono ?_
  rintro e w4 ⟨rfl, k4⟩
  go_wp2_with fail
  refine (Abs_lit t q _ (in64_neg ha ha4 Ht.out) (by rw [← Hq.out, ← Ht.out]; exact absAt_neg_of ha ha4)).mono ?_
  rintro e w5 ⟨rfl, k5⟩
  go_wp2_with fail
  refine (Abs_lit a q _ ha Hq.out).mono ?_
  rintro e w6 ⟨rfl, k6⟩
  go_wp2_with fail
  refine (Sub_lit 0 t a _ (by unfold In64; omega) (in64_neg ha ha4 Ht.out) (by rw [show (0 : Int) - t = a from by rw [← Ht.out]; omega]; exact heldAt_of ha)).mono ?_
  rintro e w7 ⟨rfl, k7⟩
  go_wp2_with fail
  refine (Mul_lit a 1 a _ ha (by unfold In64; omega) (by rw [Int.mul_one]; exact heldAt_of ha)).mono ?_
  rintro e w8 ⟨rfl, k8⟩
  go_wp2_with fail
  refine (Mul_lit a (-1) t _ ha (by unfold In64; omega) (by rw [show a * (-1) = t from by rw [← Ht.out]; omega]; exact heldAt_of (in64_neg ha ha4 Ht.out))).mono ?_
  rintro e w9 ⟨rfl, k9⟩
  go_wp2_with fail
  go_ret
  exact ⟨rfl, k1.trans (k2.trans (k3.trans (k4.trans (k5.trans (k6.trans (k7.trans (k8.trans (k9))))))))⟩

set_option maxHeartbeats 1000000 in
set_option maxRecDepth 100000 in
theorem safeSigns_pos_pos (a b : Int) (w : World) (ha : In64 a) (ha1 : 0 < a) (ha2 : (a == 0) = false) (ha3 : decide (0 < a) = true) (ha4 : (a == -9223372036854775808) = false) (hb : In64 b) (hb1 : 0 < b) (hb2 : (b == 0) = false) (hb3 : decide (0 < b) = true) (n : Int) (Hn : Hid (heldAt (a * b) = n)) (hn : 0 < n) (t q : Int) (Ht : Hid (-a = t)) (Hq : Hid (absAt a = q)) (hq : 0 ≤ q) :
    Calls Try.prog 6 #[.int .i64 a, .int .i64 b] w fun e w' => e = .returned (.bool true) ∧ Kept w w' := by
  go_enter Try.func6, Try.ntmps6
  go_wp2_with fail
  refine (awake01 _).mono ?_
  rintro e w1 ⟨rfl, k1⟩
  go_wp2_with fail
  refine (Mul_lit a b n _ ha hb Hn.out).mono ?_
  rintro e w2 ⟨rfl, k2⟩
  go_wp2_with fail
  refine (Sub_lit 0 a t _ (by unfold In64; omega) ha (by rw [show (0 : Int) - a = t from by rw [← Ht.out]; omega]; exact heldAt_of (in64_neg ha ha4 Ht.out))).mono ?_
  rintro e w3 ⟨rfl, k3⟩
  go_wp2_with fail
  refine (Abs_lit a q _ ha Hq.out).mono ?_
  rintro e w4 ⟨rfl, k4⟩
  go_wp2_with fail
  refine (Abs_lit t q _ (in64_neg ha ha4 Ht.out) (by rw [← Hq.out, ← Ht.out]; exact absAt_neg_of ha ha4)).mono ?_
  rintro e w5 ⟨rfl, k5⟩
  go_wp2_with fail
  refine (Abs_lit a q _ ha Hq.out).mono ?_
  rintro e w6 ⟨rfl, k6⟩
  go_wp2_with fail
  refine (Sub_lit 0 t a _ (by unfold In64; omega) (in64_neg ha ha4 Ht.out) (by rw [show (0 : Int) - t = a from by rw [← Ht.out]; omega]; exact heldAt_of ha)).mono ?_
  rintro e w7 ⟨rfl, k7⟩
  go_wp2_with fail
  refine (Mul_lit a 1 a _ ha (by unfold In64; omega) (by rw [Int.mul_one]; exact heldAt_of ha)).mono ?_
  rintro e w8 ⟨rfl, k8⟩
  go_wp2_with fail
  refine (Mul_lit a (-1) t _ ha (by unfold In64; omega) (by rw [show a * (-1) = t from by rw [← Ht.out]; omega]; exact heldAt_of (in64_neg ha ha4 Ht.out))).mono ?_
  rintro e w9 ⟨rfl, k9⟩
  go_wp2_with fail
  go_ret
  exact ⟨rfl, k1.trans (k2.trans (k3.trans (k4.trans (k5.trans (k6.trans (k7.trans (k8.trans (k9))))))))⟩

theorem safeSigns_walk (a b : Int) (w : World) (ha : In64 a) (hb : In64 b) :
    Calls Try.prog 6 #[.int .i64 a, .int .i64 b] w fun e w' => e = .returned (.bool true) ∧ Kept w w' := by
  by_cases hl : a = -9223372036854775808
  · subst hl
    rcases Int.lt_trichotomy b 0 with k | k | k
    · exact safeSigns_least_neg b w hb k (by simp; omega) (by simp; omega) _ (Lib.hid rfl) (heldAt_pos (Int.mul_pos_of_neg_of_neg (by omega) k))
    · subst k
      exact safeSigns_least_zero w
    · exact safeSigns_least_pos b w hb k (by simp; omega) (by simp; omega) _ (Lib.hid rfl) (heldAt_neg (Int.mul_neg_of_neg_of_pos (by omega) k))
  rcases Int.lt_trichotomy a 0 with h | h | h
  · rcases Int.lt_trichotomy b 0 with k | k | k
    · exact safeSigns_neg_neg a b w ha h (by simp; omega) (by simp; omega) (by simp; omega) hb k (by simp; omega) (by simp; omega) _ (Lib.hid rfl) (heldAt_pos (Int.mul_pos_of_neg_of_neg h k)) _ _ (Lib.hid rfl) (Lib.hid rfl) (absAt_nonneg a)
    · subst k
      exact safeSigns_neg_zero a w ha h (by simp; omega) (by simp; omega) (by simp; omega) _ _ (Lib.hid rfl) (Lib.hid rfl) (absAt_nonneg a)
    · exact safeSigns_neg_pos a b w ha h (by simp; omega) (by simp; omega) (by simp; omega) hb k (by simp; omega) (by simp; omega) _ (Lib.hid rfl) (heldAt_neg (Int.mul_neg_of_neg_of_pos h k)) _ _ (Lib.hid rfl) (Lib.hid rfl) (absAt_nonneg a)
  · subst h
    rcases Int.lt_trichotomy b 0 with k | k | k
    · exact safeSigns_zero_neg b w hb k (by simp; omega) (by simp; omega)
    · subst k
      exact safeSigns_zero_zero w
    · exact safeSigns_zero_pos b w hb k (by simp; omega) (by simp; omega)
  · rcases Int.lt_trichotomy b 0 with k | k | k
    · exact safeSigns_pos_neg a b w ha h (by simp; omega) (by simp; omega) (by simp; omega) hb k (by simp; omega) (by simp; omega) _ (Lib.hid rfl) (heldAt_neg (Int.mul_neg_of_pos_of_neg h k)) _ _ (Lib.hid rfl) (Lib.hid rfl) (absAt_nonneg a)
    · subst k
      exact safeSigns_pos_zero a w ha h (by simp; omega) (by simp; omega) (by simp; omega) _ _ (Lib.hid rfl) (Lib.hid rfl) (absAt_nonneg a)
    · exact safeSigns_pos_pos a b w ha h (by simp; omega) (by simp; omega) (by simp; omega) hb k (by simp; omega) (by simp; omega) _ (Lib.hid rfl) (heldAt_pos (Int.mul_pos h k)) _ _ (Lib.hid rfl) (Lib.hid rfl) (absAt_nonneg a)

end Go.Proofs.Ytgedggdlabcfiaa
