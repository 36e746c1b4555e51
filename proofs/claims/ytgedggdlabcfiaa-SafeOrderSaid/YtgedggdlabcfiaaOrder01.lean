/-
  SafeOrder walks: the Go text returns true, whatever the numbers.
-/
import Derived.Test.YtgedggdlabcfiaaAwake01
namespace Go.Proofs.Ytgedggdlabcfiaa
open Go.RowKit

set_option maxHeartbeats 1000000 in
set_option maxRecDepth 100000 in
theorem safeOrder_lt_pos (a b c : Int) (w : World) (ha : In64 a) (hb : In64 b) (hc : In64 c) (h : a < b) (hk : 0 ≤ c) (s p v1 v2 v3 v4 v5 v6 v7 v8 : Int) (E0 : Hid (heldAt (a + b) = s)) (E1 : Hid (heldAt (b + a) = s)) (E2 : Hid (heldAt (a * b) = p)) (E3 : Hid (heldAt (b * a) = p)) (E4 : Hid (heldAt (a + c) = v1)) (E5 : Hid (heldAt (b + c) = v2)) (E6 : Hid (heldAt (a - c) = v3)) (E7 : Hid (heldAt (b - c) = v4)) (E8 : Hid (heldAt (c - a) = v5)) (E9 : Hid (heldAt (c - b) = v6)) (E10 : Hid (heldAt (a * c) = v7)) (E11 : Hid (heldAt (b * c) = v8)) (l1 : v1 ≤ v2) (l2 : v3 ≤ v4) (l3 : v6 ≤ v5) (l4 : v7 ≤ v8) :
    Calls Try.prog 5 #[.int .i64 a, .int .i64 b, .int .i64 c] w fun e w' => e = .returned (.bool true) ∧ Kept w w' := by
  go_enter Try.func5, Try.ntmps5
  go_wp2_with fail
  refine (awake01 _).mono ?_
  rintro e w1 ⟨rfl, k1⟩
  go_wp2_with fail
  refine (Add_lit a b s _ ha hb E0.out).mono ?_
  rintro e w2 ⟨rfl, k2⟩
  go_wp2_with fail
  refine (Add_lit b a s _ hb ha E1.out).mono ?_
  rintro e w3 ⟨rfl, k3⟩
  go_wp2_with fail
  refine (Mul_lit a b p _ ha hb E2.out).mono ?_
  rintro e w4 ⟨rfl, k4⟩
  go_wp2_with fail
  refine (Mul_lit b a p _ hb ha E3.out).mono ?_
  rintro e w5 ⟨rfl, k5⟩
  go_wp2_with fail
  refine (Add_lit a c v1 _ ha hc E4.out).mono ?_
  rintro e w6 ⟨rfl, k6⟩
  go_wp2_with fail
  refine (Add_lit b c v2 _ hb hc E5.out).mono ?_
  rintro e w7 ⟨rfl, k7⟩
  go_wp2_with fail
  refine (Sub_lit a c v3 _ ha hc E6.out).mono ?_
  rintro e w8 ⟨rfl, k8⟩
  go_wp2_with fail
  refine (Sub_lit b c v4 _ hb hc E7.out).mono ?_
  rintro e w9 ⟨rfl, k9⟩
  go_wp2_with fail
  refine (Sub_lit c a v5 _ hc ha E8.out).mono ?_
  rintro e w10 ⟨rfl, k10⟩
  go_wp2_with fail
  refine (Sub_lit c b v6 _ hc hb E9.out).mono ?_
  rintro e w11 ⟨rfl, k11⟩
  go_wp2_with fail
  refine (Mul_lit a c v7 _ ha hc E10.out).mono ?_
  rintro e w12 ⟨rfl, k12⟩
  go_wp2_with fail
  refine (Mul_lit b c v8 _ hb hc E11.out).mono ?_
  rintro e w13 ⟨rfl, k13⟩
  go_wp2_with fail
  go_ret
  exact ⟨rfl, k1.trans (k2.trans (k3.trans (k4.trans (k5.trans (k6.trans (k7.trans (k8.trans (k9.trans (k10.trans (k11.trans (k12.trans (k13))))))))))))⟩

set_option maxHeartbeats 1000000 in
set_option maxRecDepth 100000 in
theorem safeOrder_lt_neg (a b c : Int) (w : World) (ha : In64 a) (hb : In64 b) (hc : In64 c) (h : a < b) (hk : c < 0) (s p v1 v2 v3 v4 v5 v6 v7 v8 : Int) (E0 : Hid (heldAt (a + b) = s)) (E1 : Hid (heldAt (b + a) = s)) (E2 : Hid (heldAt (a * b) = p)) (E3 : Hid (heldAt (b * a) = p)) (E4 : Hid (heldAt (a + c) = v1)) (E5 : Hid (heldAt (b + c) = v2)) (E6 : Hid (heldAt (a - c) = v3)) (E7 : Hid (heldAt (b - c) = v4)) (E8 : Hid (heldAt (c - a) = v5)) (E9 : Hid (heldAt (c - b) = v6)) (E10 : Hid (heldAt (a * 0) = v7)) (E11 : Hid (heldAt (b * 0) = v8)) (l1 : v1 ≤ v2) (l2 : v3 ≤ v4) (l3 : v6 ≤ v5) (l4 : v7 ≤ v8) :
    Calls Try.prog 5 #[.int .i64 a, .int .i64 b, .int .i64 c] w fun e w' => e = .returned (.bool true) ∧ Kept w w' := by
  go_enter Try.func5, Try.ntmps5
  go_wp2_with fail
  refine (awake01 _).mono ?_
  rintro e w1 ⟨rfl, k1⟩
  go_wp2_with fail
  refine (Add_lit a b s _ ha hb E0.out).mono ?_
  rintro e w2 ⟨rfl, k2⟩
  go_wp2_with fail
  refine (Add_lit b a s _ hb ha E1.out).mono ?_
  rintro e w3 ⟨rfl, k3⟩
  go_wp2_with fail
  refine (Mul_lit a b p _ ha hb E2.out).mono ?_
  rintro e w4 ⟨rfl, k4⟩
  go_wp2_with fail
  refine (Mul_lit b a p _ hb ha E3.out).mono ?_
  rintro e w5 ⟨rfl, k5⟩
  go_wp2_with fail
  refine (Add_lit a c v1 _ ha hc E4.out).mono ?_
  rintro e w6 ⟨rfl, k6⟩
  go_wp2_with fail
  refine (Add_lit b c v2 _ hb hc E5.out).mono ?_
  rintro e w7 ⟨rfl, k7⟩
  go_wp2_with fail
  refine (Sub_lit a c v3 _ ha hc E6.out).mono ?_
  rintro e w8 ⟨rfl, k8⟩
  go_wp2_with fail
  refine (Sub_lit b c v4 _ hb hc E7.out).mono ?_
  rintro e w9 ⟨rfl, k9⟩
  go_wp2_with fail
  refine (Sub_lit c a v5 _ hc ha E8.out).mono ?_
  rintro e w10 ⟨rfl, k10⟩
  go_wp2_with fail
  refine (Sub_lit c b v6 _ hc hb E9.out).mono ?_
  rintro e w11 ⟨rfl, k11⟩
  go_wp2_with fail
  refine (Mul_lit a 0 v7 _ ha (by unfold In64; omega) E10.out).mono ?_
  rintro e w12 ⟨rfl, k12⟩
  go_wp2_with fail
  refine (Mul_lit b 0 v8 _ hb (by unfold In64; omega) E11.out).mono ?_
  rintro e w13 ⟨rfl, k13⟩
  go_wp2_with fail
  go_ret
  exact ⟨rfl, k1.trans (k2.trans (k3.trans (k4.trans (k5.trans (k6.trans (k7.trans (k8.trans (k9.trans (k10.trans (k11.trans (k12.trans (k13))))))))))))⟩

set_option maxHeartbeats 1000000 in
set_option maxRecDepth 100000 in
theorem safeOrder_gt_pos (a b c : Int) (w : World) (ha : In64 a) (hb : In64 b) (hc : In64 c) (h : b < a) (hk : 0 ≤ c) (s p v1 v2 v3 v4 v5 v6 v7 v8 : Int) (E0 : Hid (heldAt (a + b) = s)) (E1 : Hid (heldAt (b + a) = s)) (E2 : Hid (heldAt (a * b) = p)) (E3 : Hid (heldAt (b * a) = p)) (E4 : Hid (heldAt (b + c) = v1)) (E5 : Hid (heldAt (a + c) = v2)) (E6 : Hid (heldAt (b - c) = v3)) (E7 : Hid (heldAt (a - c) = v4)) (E8 : Hid (heldAt (c - b) = v5)) (E9 : Hid (heldAt (c - a) = v6)) (E10 : Hid (heldAt (b * c) = v7)) (E11 : Hid (heldAt (a * c) = v8)) (l1 : v1 ≤ v2) (l2 : v3 ≤ v4) (l3 : v6 ≤ v5) (l4 : v7 ≤ v8) :
    Calls Try.prog 5 #[.int .i64 a, .int .i64 b, .int .i64 c] w fun e w' => e = .returned (.bool true) ∧ Kept w w' := by
  go_enter Try.func5, Try.ntmps5
  go_wp2_with fail
  refine (awake01 _).mono ?_
  rintro e w1 ⟨rfl, k1⟩
  go_wp2_with fail
  refine (Add_lit a b s _ ha hb E0.out).mono ?_
  rintro e w2 ⟨rfl, k2⟩
  go_wp2_with fail
  refine (Add_lit b a s _ hb ha E1.out).mono ?_
  rintro e w3 ⟨rfl, k3⟩
  go_wp2_with fail
  refine (Mul_lit a b p _ ha hb E2.out).mono ?_
  rintro e w4 ⟨rfl, k4⟩
  go_wp2_with fail
  refine (Mul_lit b a p _ hb ha E3.out).mono ?_
  rintro e w5 ⟨rfl, k5⟩
  go_wp2_with fail
  refine (Add_lit b c v1 _ hb hc E4.out).mono ?_
  rintro e w6 ⟨rfl, k6⟩
  go_wp2_with fail
  refine (Add_lit a c v2 _ ha hc E5.out).mono ?_
  rintro e w7 ⟨rfl, k7⟩
  go_wp2_with fail
  refine (Sub_lit b c v3 _ hb hc E6.out).mono ?_
  rintro e w8 ⟨rfl, k8⟩
  go_wp2_with fail
  refine (Sub_lit a c v4 _ ha hc E7.out).mono ?_
  rintro e w9 ⟨rfl, k9⟩
  go_wp2_with fail
  refine (Sub_lit c b v5 _ hc hb E8.out).mono ?_
  rintro e w10 ⟨rfl, k10⟩
  go_wp2_with fail
  refine (Sub_lit c a v6 _ hc ha E9.out).mono ?_
  rintro e w11 ⟨rfl, k11⟩
  go_wp2_with fail
  refine (Mul_lit b c v7 _ hb hc E10.out).mono ?_
  rintro e w12 ⟨rfl, k12⟩
  go_wp2_with fail
  refine (Mul_lit a c v8 _ ha hc E11.out).mono ?_
  rintro e w13 ⟨rfl, k13⟩
  go_wp2_with fail
  go_ret
  exact ⟨rfl, k1.trans (k2.trans (k3.trans (k4.trans (k5.trans (k6.trans (k7.trans (k8.trans (k9.trans (k10.trans (k11.trans (k12.trans (k13))))))))))))⟩

set_option maxHeartbeats 1000000 in
set_option maxRecDepth 100000 in
theorem safeOrder_gt_neg (a b c : Int) (w : World) (ha : In64 a) (hb : In64 b) (hc : In64 c) (h : b < a) (hk : c < 0) (s p v1 v2 v3 v4 v5 v6 v7 v8 : Int) (E0 : Hid (heldAt (a + b) = s)) (E1 : Hid (heldAt (b + a) = s)) (E2 : Hid (heldAt (a * b) = p)) (E3 : Hid (heldAt (b * a) = p)) (E4 : Hid (heldAt (b + c) = v1)) (E5 : Hid (heldAt (a + c) = v2)) (E6 : Hid (heldAt (b - c) = v3)) (E7 : Hid (heldAt (a - c) = v4)) (E8 : Hid (heldAt (c - b) = v5)) (E9 : Hid (heldAt (c - a) = v6)) (E10 : Hid (heldAt (b * 0) = v7)) (E11 : Hid (heldAt (a * 0) = v8)) (l1 : v1 ≤ v2) (l2 : v3 ≤ v4) (l3 : v6 ≤ v5) (l4 : v7 ≤ v8) :
    Calls Try.prog 5 #[.int .i64 a, .int .i64 b, .int .i64 c] w fun e w' => e = .returned (.bool true) ∧ Kept w w' := by
  go_enter Try.func5, Try.ntmps5
  go_wp2_with fail
  refine (awake01 _).mono ?_
  rintro e w1 ⟨rfl, k1⟩
  go_wp2_with fail
  refine (Add_lit a b s _ ha hb E0.out).mono ?_
  rintro e w2 ⟨rfl, k2⟩
  go_wp2_with fail
  refine (Add_lit b a s _ hb ha E1.out).mono ?_
  rintro e w3 ⟨rfl, k3⟩
  go_wp2_with fail
  refine (Mul_lit a b p _ ha hb E2.out).mono ?_
  rintro e w4 ⟨rfl, k4⟩
  go_wp2_with fail
  refine (Mul_lit b a p _ hb ha E3.out).mono ?_
  rintro e w5 ⟨rfl, k5⟩
  go_wp2_with fail
  refine (Add_lit b c v1 _ hb hc E4.out).mono ?_
  rintro e w6 ⟨rfl, k6⟩
  go_wp2_with fail
  refine (Add_lit a c v2 _ ha hc E5.out).mono ?_
  rintro e w7 ⟨rfl, k7⟩
  go_wp2_with fail
  refine (Sub_lit b c v3 _ hb hc E6.out).mono ?_
  rintro e w8 ⟨rfl, k8⟩
  go_wp2_with fail
  refine (Sub_lit a c v4 _ ha hc E7.out).mono ?_
  rintro e w9 ⟨rfl, k9⟩
  go_wp2_with fail
  refine (Sub_lit c b v5 _ hc hb E8.out).mono ?_
  rintro e w10 ⟨rfl, k10⟩
  go_wp2_with fail
  refine (Sub_lit c a v6 _ hc ha E9.out).mono ?_
  rintro e w11 ⟨rfl, k11⟩
  go_wp2_with fail
  refine (Mul_lit b 0 v7 _ hb (by unfold In64; omega) E10.out).mono ?_
  rintro e w12 ⟨rfl, k12⟩
  go_wp2_with fail
  refine (Mul_lit a 0 v8 _ ha (by unfold In64; omega) E11.out).mono ?_
  rintro e w13 ⟨rfl, k13⟩
  go_wp2_with fail
  go_ret
  exact ⟨rfl, k1.trans (k2.trans (k3.trans (k4.trans (k5.trans (k6.trans (k7.trans (k8.trans (k9.trans (k10.trans (k11.trans (k12.trans (k13))))))))))))⟩

set_option maxHeartbeats 1000000 in
set_option maxRecDepth 100000 in
theorem safeOrder_eq_pos (a c : Int) (w : World) (ha : In64 a) (hc : In64 c)  (hk : 0 ≤ c) (s p v1 v2 v3 v4 v5 v6 v7 v8 : Int) (E0 : Hid (heldAt (a + a) = s)) (E1 : Hid (heldAt (a + a) = s)) (E2 : Hid (heldAt (a * a) = p)) (E3 : Hid (heldAt (a * a) = p)) (E4 : Hid (heldAt (a + c) = v1)) (E5 : Hid (heldAt (a + c) = v2)) (E6 : Hid (heldAt (a - c) = v3)) (E7 : Hid (heldAt (a - c) = v4)) (E8 : Hid (heldAt (c - a) = v5)) (E9 : Hid (heldAt (c - a) = v6)) (E10 : Hid (heldAt (a * c) = v7)) (E11 : Hid (heldAt (a * c) = v8)) (l1 : v1 ≤ v2) (l2 : v3 ≤ v4) (l3 : v6 ≤ v5) (l4 : v7 ≤ v8) :
    Calls Try.prog 5 #[.int .i64 a, .int .i64 a, .int .i64 c] w fun e w' => e = .returned (.bool true) ∧ Kept w w' := by
  go_enter Try.func5, Try.ntmps5
  go_wp2_with fail
  refine (awake01 _).mono ?_
  rintro e w1 ⟨rfl, k1⟩
  go_wp2_with fail
  refine (Add_lit a a s _ ha ha E0.out).mono ?_
  rintro e w2 ⟨rfl, k2⟩
  go_wp2_with fail
  refine (Add_lit a a s _ ha ha E1.out).mono ?_
  rintro e w3 ⟨rfl, k3⟩
  go_wp2_with fail
  refine (Mul_lit a a p _ ha ha E2.out).mono ?_
  rintro e w4 ⟨rfl, k4⟩
  go_wp2_with fail
  refine (Mul_lit a a p _ ha ha E3.out).mono ?_
  rintro e w5 ⟨rfl, k5⟩
  go_wp2_with fail
  refine (Add_lit a c v1 _ ha hc E4.out).mono ?_
  rintro e w6 ⟨rfl, k6⟩
  go_wp2_with fail
  refine (Add_lit a c v2 _ ha hc E5.out).mono ?_
  rintro e w7 ⟨rfl, k7⟩
  go_wp2_with fail
  refine (Sub_lit a c v3 _ ha hc E6.out).mono ?_
  rintro e w8 ⟨rfl, k8⟩
  go_wp2_with fail
  refine (Sub_lit a c v4 _ ha hc E7.out).mono ?_
  rintro e w9 ⟨rfl, k9⟩
  go_wp2_with fail
  refine (Sub_lit c a v5 _ hc ha E8.out).mono ?_
  rintro e w10 ⟨rfl, k10⟩
  go_wp2_with fail
  refine (Sub_lit c a v6 _ hc ha E9.out).mono ?_
  rintro e w11 ⟨rfl, k11⟩
  go_wp2_with fail
  refine (Mul_lit a c v7 _ ha hc E10.out).mono ?_
  rintro e w12 ⟨rfl, k12⟩
  go_wp2_with fail
  refine (Mul_lit a c v8 _ ha hc E11.out).mono ?_
  rintro e w13 ⟨rfl, k13⟩
  go_wp2_with fail
  go_ret
  exact ⟨rfl, k1.trans (k2.trans (k3.trans (k4.trans (k5.trans (k6.trans (k7.trans (k8.trans (k9.trans (k10.trans (k11.trans (k12.trans (k13))))))))))))⟩

set_option maxHeartbeats 1000000 in
set_option maxRecDepth 100000 in
theorem safeOrder_eq_neg (a c : Int) (w : World) (ha : In64 a) (hc : In64 c)  (hk : c < 0) (s p v1 v2 v3 v4 v5 v6 v7 v8 : Int) (E0 : Hid (heldAt (a + a) = s)) (E1 : Hid (heldAt (a + a) = s)) (E2 : Hid (heldAt (a * a) = p)) (E3 : Hid (heldAt (a * a) = p)) (E4 : Hid (heldAt (a + c) = v1)) (E5 : Hid (heldAt (a + c) = v2)) (E6 : Hid (heldAt (a - c) = v3)) (E7 : Hid (heldAt (a - c) = v4)) (E8 : Hid (heldAt (c - a) = v5)) (E9 : Hid (heldAt (c - a) = v6)) (E10 : Hid (heldAt (a * 0) = v7)) (E11 : Hid (heldAt (a * 0) = v8)) (l1 : v1 ≤ v2) (l2 : v3 ≤ v4) (l3 : v6 ≤ v5) (l4 : v7 ≤ v8) :
    Calls Try.prog 5 #[.int .i64 a, .int .i64 a, .int .i64 c] w fun e w' => e = .returned (.bool true) ∧ Kept w w' := by
  go_enter Try.func5, Try.ntmps5
  go_wp2_with fail
  refine (awake01 _).mono ?_
  rintro e w1 ⟨rfl, k1⟩
  go_wp2_with fail
  refine (Add_lit a a s _ ha ha E0.out).mono ?_
  rintro e w2 ⟨rfl, k2⟩
  go_wp2_with fail
  refine (Add_lit a a s _ ha ha E1.out).mono ?_
  rintro e w3 ⟨rfl, k3⟩
  go_wp2_with fail
  refine (Mul_lit a a p _ ha ha E2.out).mono ?_
  rintro e w4 ⟨rfl, k4⟩
  go_wp2_with fail
  refine (Mul_lit a a p _ ha ha E3.out).mono ?_
  rintro e w5 ⟨rfl, k5⟩
  go_wp2_with fail
  refine (Add_lit a c v1 _ ha hc E4.out).mono ?_
  rintro e w6 ⟨rfl, k6⟩
  go_wp2_with fail
  refine (Add_lit a c v2 _ ha hc E5.out).mono ?_
  rintro e w7 ⟨rfl, k7⟩
  go_wp2_with fail
  refine (Sub_lit a c v3 _ ha hc E6.out).mono ?_
  rintro e w8 ⟨rfl, k8⟩
  go_wp2_with fail
  refine (Sub_lit a c v4 _ ha hc E7.out).mono ?_
  rintro e w9 ⟨rfl, k9⟩
  go_wp2_with fail
  refine (Sub_lit c a v5 _ hc ha E8.out).mono ?_
  rintro e w10 ⟨rfl, k10⟩
  go_wp2_with fail
  refine (Sub_lit c a v6 _ hc ha E9.out).mono ?_
  rintro e w11 ⟨rfl, k11⟩
  go_wp2_with fail
  refine (Mul_lit a 0 v7 _ ha (by unfold In64; omega) E10.out).mono ?_
  rintro e w12 ⟨rfl, k12⟩
  go_wp2_with fail
  refine (Mul_lit a 0 v8 _ ha (by unfold In64; omega) E11.out).mono ?_
  rintro e w13 ⟨rfl, k13⟩
  go_wp2_with fail
  go_ret
  exact ⟨rfl, k1.trans (k2.trans (k3.trans (k4.trans (k5.trans (k6.trans (k7.trans (k8.trans (k9.trans (k10.trans (k11.trans (k12.trans (k13))))))))))))⟩

theorem safeOrder_walk (a b c : Int) (w : World) (ha : In64 a) (hb : In64 b) (hc : In64 c) :
    Calls Try.prog 5 #[.int .i64 a, .int .i64 b, .int .i64 c] w fun e w' => e = .returned (.bool true) ∧ Kept w w' := by
  by_cases hk : 0 ≤ c
  · rcases Int.lt_trichotomy a b with h | h | h
    · exact safeOrder_lt_pos a b c w ha hb hc h hk _ _ _ _ _ _ _ _ _ _ (Lib.hid rfl) (Lib.hid (by rw [Int.add_comm])) (Lib.hid rfl) (Lib.hid (by rw [Int.mul_comm])) (Lib.hid rfl) (Lib.hid rfl) (Lib.hid rfl) (Lib.hid rfl) (Lib.hid rfl) (Lib.hid rfl) (Lib.hid rfl) (Lib.hid rfl) (heldAt_mono (by omega)) (heldAt_mono (by omega)) (heldAt_mono (by omega)) (heldAt_mono (Int.mul_le_mul_of_nonneg_right (by omega : a ≤ b) hk))
    · subst h
      exact safeOrder_eq_pos a c w ha hc  hk _ _ _ _ _ _ _ _ _ _ (Lib.hid rfl) (Lib.hid (by rw [Int.add_comm])) (Lib.hid rfl) (Lib.hid (by rw [Int.mul_comm])) (Lib.hid rfl) (Lib.hid rfl) (Lib.hid rfl) (Lib.hid rfl) (Lib.hid rfl) (Lib.hid rfl) (Lib.hid rfl) (Lib.hid rfl) (heldAt_mono (by omega)) (heldAt_mono (by omega)) (heldAt_mono (by omega)) (heldAt_mono (Int.mul_le_mul_of_nonneg_right (Int.le_refl a) hk))
    · exact safeOrder_gt_pos a b c w ha hb hc h hk _ _ _ _ _ _ _ _ _ _ (Lib.hid rfl) (Lib.hid (by rw [Int.add_comm])) (Lib.hid rfl) (Lib.hid (by rw [Int.mul_comm])) (Lib.hid rfl) (Lib.hid rfl) (Lib.hid rfl) (Lib.hid rfl) (Lib.hid rfl) (Lib.hid rfl) (Lib.hid rfl) (Lib.hid rfl) (heldAt_mono (by omega)) (heldAt_mono (by omega)) (heldAt_mono (by omega)) (heldAt_mono (Int.mul_le_mul_of_nonneg_right (by omega : b ≤ a) hk))
  · rcases Int.lt_trichotomy a b with h | h | h
    · exact safeOrder_lt_neg a b c w ha hb hc h (by omega) _ _ _ _ _ _ _ _ _ _ (Lib.hid rfl) (Lib.hid (by rw [Int.add_comm])) (Lib.hid rfl) (Lib.hid (by rw [Int.mul_comm])) (Lib.hid rfl) (Lib.hid rfl) (Lib.hid rfl) (Lib.hid rfl) (Lib.hid rfl) (Lib.hid rfl) (Lib.hid rfl) (Lib.hid rfl) (heldAt_mono (by omega)) (heldAt_mono (by omega)) (heldAt_mono (by omega)) (heldAt_mono (Int.mul_le_mul_of_nonneg_right (by omega : a ≤ b) (Int.le_refl 0)))
    · subst h
      exact safeOrder_eq_neg a c w ha hc  (by omega) _ _ _ _ _ _ _ _ _ _ (Lib.hid rfl) (Lib.hid (by rw [Int.add_comm])) (Lib.hid rfl) (Lib.hid (by rw [Int.mul_comm])) (Lib.hid rfl) (Lib.hid rfl) (Lib.hid rfl) (Lib.hid rfl) (Lib.hid rfl) (Lib.hid rfl) (Lib.hid rfl) (Lib.hid rfl) (heldAt_mono (by omega)) (heldAt_mono (by omega)) (heldAt_mono (by omega)) (heldAt_mono (Int.mul_le_mul_of_nonneg_right (Int.le_refl a) (Int.le_refl 0)))
    · exact safeOrder_gt_neg a b c w ha hb hc h (by omega) _ _ _ _ _ _ _ _ _ _ (Lib.hid rfl) (Lib.hid (by rw [Int.add_comm])) (Lib.hid rfl) (Lib.hid (by rw [Int.mul_comm])) (Lib.hid rfl) (Lib.hid rfl) (Lib.hid rfl) (Lib.hid rfl) (Lib.hid rfl) (Lib.hid rfl) (Lib.hid rfl) (Lib.hid rfl) (heldAt_mono (by omega)) (heldAt_mono (by omega)) (heldAt_mono (by omega)) (heldAt_mono (Int.mul_le_mul_of_nonneg_right (by omega : b ≤ a) (Int.le_refl 0)))

end Go.Proofs.Ytgedggdlabcfiaa
