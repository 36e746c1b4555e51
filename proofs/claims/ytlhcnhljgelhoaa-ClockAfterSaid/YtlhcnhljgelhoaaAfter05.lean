/-
  The walk of ClockAfter: it answers true, whatever it is given.
-/
import Derived.Test.YtlhcnhljgelhoaaAwake05
import Derived.Deep.DeepCutAuto
namespace Go.Proofs.Ytlhcnhljgelhoaa
open Go.RowKit Go.BigFrame

set_option maxRecDepth 100000 in
set_option maxHeartbeats 1600000 in
theorem after_lt_neg_yes (now a b u x y s p q : Int) (a0 : -2147483648 ≤ a) (a1 : a ≤ 2147483647) (b0 : -2147483648 ≤ b) (b1 : b ≤ 2147483647) (n0 : 0 ≤ now) (n1 : now ≤ 1099511627776) (ho : a < b) (hpq : p ≤ q) (hm : now + a < 0) (hs : a + b = s) (w : World) (A0 : ∀ w, Calls Try.prog 13 #[.int .i64 now, .int .i64 0] w fun e w' => e = .returned (.int .i64 now) ∧ Kept w w') (A1 : ∀ w, Calls Try.prog 13 #[.int .i64 now, .int .i64 a] w fun e w' => e = .returned (.int .i64 u) ∧ Kept w w') (A2 : ∀ w, Calls Try.prog 13 #[.int .i64 u, .int .i64 b] w fun e w' => e = .returned (.int .i64 x) ∧ Kept w w') (A3 : ∀ w, Calls Try.prog 13 #[.int .i64 now, .int .i64 s] w fun e w' => e = .returned (.int .i64 y) ∧ Kept w w') (A4 : ∀ w, Calls Try.prog 13 #[.int .i64 now, .int .i64 a] w fun e w' => e = .returned (.int .i64 p) ∧ Kept w w') (A5 : ∀ w, Calls Try.prog 13 #[.int .i64 now, .int .i64 b] w fun e w' => e = .returned (.int .i64 q) ∧ Kept w w') (C2 : ∀ w, Calls Try.prog 11 #[.int .i64 x] w fun e w' => e = .returned (.bool true) ∧ Kept w w') (C3 : ∀ w, Calls Try.prog 11 #[.int .i64 now] w fun e w' => e = .returned (.bool true) ∧ Kept w w') :
    Calls Try.prog 6 #[.int .i64 now, .int .i32 a, .int .i32 b] w fun e w' => e = .returned (.bool true) ∧ Kept w w' := by
  have A0' := Lib.hid A0
  have A1' := Lib.hid A1
  have A2' := Lib.hid A2
  have A3' := Lib.hid A3
  have A4' := Lib.hid A4
  have A5' := Lib.hid A5
  have C2' := Lib.hid C2
  have C3' := Lib.hid C3
  clear A0 A1 A2 A3 A4 A5 C2 C3
  have HS := Lib.hid hs
  clear hs
  have f1 : min a b = a := by omega
  have f2 : max a b = b := by omega
  go_enter Try.func6, Try.ntmps6
  go_wp2_with fail
  refine (awake05 _).mono ?_
  rintro e w1 ⟨rfl, k1⟩
  go_wp2_with fail
  refine (A0'.out _).mono ?_
  rintro e w2 ⟨rfl, k2⟩
  go_wp2_with fail
  refine (A1'.out _).mono ?_
  rintro e w3 ⟨rfl, k3⟩
  go_wp2_with fail
  refine (A2'.out _).mono ?_
  rintro e w4 ⟨rfl, k4⟩
  go_upto_region 4 with fail
  have hs := HS.out
  go_wp2_with fail
  refine (A3'.out _).mono ?_
  rintro e w5 ⟨rfl, k5⟩
  clear hs
  go_wp2_with fail
  refine (C3'.out _).mono ?_
  rintro e w6 ⟨rfl, k6⟩
  go_wp2_with fail
  refine (C2'.out _).mono ?_
  rintro e w7 ⟨rfl, k7⟩
  go_wp2_with fail
  refine (A4'.out _).mono ?_
  rintro e w8 ⟨rfl, k8⟩
  go_wp2_with fail
  refine (A5'.out _).mono ?_
  rintro e w9 ⟨rfl, k9⟩
  go_wp2_with fail
  refine (C3'.out _).mono ?_
  rintro e w10 ⟨rfl, k10⟩
  go_wp2
  go_ret
  exact ⟨rfl, (by (repeat (first | with_reducible exact Kept.refl _ | with_reducible apply Kept.drew | with_reducible apply Kept.alloc | ((with_reducible apply Kept.set); focus (simp <;> omega)) | ((with_reducible apply Kept.via); focus with_reducible assumption))))⟩
set_option maxRecDepth 100000 in
set_option maxHeartbeats 1600000 in
theorem after_lt_neg_low (now a b u x y s p q : Int) (a0 : -2147483648 ≤ a) (a1 : a ≤ 2147483647) (b0 : -2147483648 ≤ b) (b1 : b ≤ 2147483647) (ho : a < b) (hpq : p ≤ q) (hm : a < 0) (hs : a + b = s) (w : World) (A0 : ∀ w, Calls Try.prog 13 #[.int .i64 now, .int .i64 0] w fun e w' => e = .returned (.int .i64 0) ∧ Kept w w') (A1 : ∀ w, Calls Try.prog 13 #[.int .i64 0, .int .i64 a] w fun e w' => e = .returned (.int .i64 u) ∧ Kept w w') (A2 : ∀ w, Calls Try.prog 13 #[.int .i64 u, .int .i64 b] w fun e w' => e = .returned (.int .i64 x) ∧ Kept w w') (A3 : ∀ w, Calls Try.prog 13 #[.int .i64 0, .int .i64 s] w fun e w' => e = .returned (.int .i64 y) ∧ Kept w w') (A4 : ∀ w, Calls Try.prog 13 #[.int .i64 0, .int .i64 a] w fun e w' => e = .returned (.int .i64 p) ∧ Kept w w') (A5 : ∀ w, Calls Try.prog 13 #[.int .i64 0, .int .i64 b] w fun e w' => e = .returned (.int .i64 q) ∧ Kept w w') (C1 : ∀ w, Calls Try.prog 11 #[.int .i64 0] w fun e w' => e = .returned (.bool true) ∧ Kept w w') (C2 : ∀ w, Calls Try.prog 11 #[.int .i64 x] w fun e w' => e = .returned (.bool true) ∧ Kept w w') (C3 : ∀ w, Calls Try.prog 11 #[.int .i64 now] w fun e w' => e = .returned (.bool false) ∧ Kept w w') :
    Calls Try.prog 6 #[.int .i64 now, .int .i32 a, .int .i32 b] w fun e w' => e = .returned (.bool true) ∧ Kept w w' := by
  have A0' := Lib.hid A0
  have A1' := Lib.hid A1
  have A2' := Lib.hid A2
  have A3' := Lib.hid A3
  have A4' := Lib.hid A4
  have A5' := Lib.hid A5
  have C1' := Lib.hid C1
  have C2' := Lib.hid C2
  have C3' := Lib.hid C3
  clear A0 A1 A2 A3 A4 A5 C1 C2 C3
  have HS := Lib.hid hs
  clear hs
  have f1 : min a b = a := by omega
  have f2 : max a b = b := by omega
  go_enter Try.func6, Try.ntmps6
  go_wp2_with fail
  refine (awake05 _).mono ?_
  rintro e w1 ⟨rfl, k1⟩
  go_wp2_with fail
  refine (A0'.out _).mono ?_
  rintro e w2 ⟨rfl, k2⟩
  go_wp2_with fail
  refine (A1'.out _).mono ?_
  rintro e w3 ⟨rfl, k3⟩
  go_wp2_with fail
  refine (A2'.out _).mono ?_
  rintro e w4 ⟨rfl, k4⟩
  go_upto_region 4 with fail
  have hs := HS.out
  go_wp2_with fail
  refine (A3'.out _).mono ?_
  rintro e w5 ⟨rfl, k5⟩
  clear hs
  go_wp2_with fail
  refine (C1'.out _).mono ?_
  rintro e w6 ⟨rfl, k6⟩
  go_wp2_with fail
  refine (C2'.out _).mono ?_
  rintro e w7 ⟨rfl, k7⟩
  go_wp2_with fail
  refine (A4'.out _).mono ?_
  rintro e w8 ⟨rfl, k8⟩
  go_wp2_with fail
  refine (A5'.out _).mono ?_
  rintro e w9 ⟨rfl, k9⟩
  go_wp2_with fail
  refine (C3'.out _).mono ?_
  rintro e w10 ⟨rfl, k10⟩
  go_wp2_with fail
  refine (C3'.out _).mono ?_
  rintro e w11 ⟨rfl, k11⟩
  go_wp2
  go_ret
  exact ⟨rfl, (by (repeat (first | with_reducible exact Kept.refl _ | with_reducible apply Kept.drew | with_reducible apply Kept.alloc | ((with_reducible apply Kept.set); focus (simp <;> omega)) | ((with_reducible apply Kept.via); focus with_reducible assumption))))⟩
set_option maxRecDepth 100000 in
set_option maxHeartbeats 1600000 in
theorem after_lt_big_yes (now a b u x y s p q : Int) (a0 : -2147483648 ≤ a) (a1 : a ≤ 2147483647) (b0 : -2147483648 ≤ b) (b1 : b ≤ 2147483647) (n0 : 0 ≤ now) (n1 : now ≤ 1099511627776) (ho : a < b) (hpq : p ≤ q) (hm : 1099511627776 < now + a) (hs : a + b = s) (w : World) (A0 : ∀ w, Calls Try.prog 13 #[.int .i64 now, .int .i64 0] w fun e w' => e = .returned (.int .i64 now) ∧ Kept w w') (A1 : ∀ w, Calls Try.prog 13 #[.int .i64 now, .int .i64 a] w fun e w' => e = .returned (.int .i64 u) ∧ Kept w w') (A2 : ∀ w, Calls Try.prog 13 #[.int .i64 u, .int .i64 b] w fun e w' => e = .returned (.int .i64 x) ∧ Kept w w') (A3 : ∀ w, Calls Try.prog 13 #[.int .i64 now, .int .i64 s] w fun e w' => e = .returned (.int .i64 y) ∧ Kept w w') (A4 : ∀ w, Calls Try.prog 13 #[.int .i64 now, .int .i64 a] w fun e w' => e = .returned (.int .i64 p) ∧ Kept w w') (A5 : ∀ w, Calls Try.prog 13 #[.int .i64 now, .int .i64 b] w fun e w' => e = .returned (.int .i64 q) ∧ Kept w w') (C2 : ∀ w, Calls Try.prog 11 #[.int .i64 x] w fun e w' => e = .returned (.bool true) ∧ Kept w w') (C3 : ∀ w, Calls Try.prog 11 #[.int .i64 now] w fun e w' => e = .returned (.bool true) ∧ Kept w w') :
    Calls Try.prog 6 #[.int .i64 now, .int .i32 a, .int .i32 b] w fun e w' => e = .returned (.bool true) ∧ Kept w w' := by
  have A0' := Lib.hid A0
  have A1' := Lib.hid A1
  have A2' := Lib.hid A2
  have A3' := Lib.hid A3
  have A4' := Lib.hid A4
  have A5' := Lib.hid A5
  have C2' := Lib.hid C2
  have C3' := Lib.hid C3
  clear A0 A1 A2 A3 A4 A5 C2 C3
  have HS := Lib.hid hs
  clear hs
  have f1 : min a b = a := by omega
  have f2 : max a b = b := by omega
  go_enter Try.func6, Try.ntmps6
  go_wp2_with fail
  refine (awake05 _).mono ?_
  rintro e w1 ⟨rfl, k1⟩
  go_wp2_with fail
  refine (A0'.out _).mono ?_
  rintro e w2 ⟨rfl, k2⟩
  go_wp2_with fail
  refine (A1'.out _).mono ?_
  rintro e w3 ⟨rfl, k3⟩
  go_wp2_with fail
  refine (A2'.out _).mono ?_
  rintro e w4 ⟨rfl, k4⟩
  go_upto_region 4 with fail
  have hs := HS.out
  go_wp2_with fail
  refine (A3'.out _).mono ?_
  rintro e w5 ⟨rfl, k5⟩
  clear hs
  go_wp2_with fail
  refine (C3'.out _).mono ?_
  rintro e w6 ⟨rfl, k6⟩
  go_wp2_with fail
  refine (C2'.out _).mono ?_
  rintro e w7 ⟨rfl, k7⟩
  go_wp2_with fail
  refine (A4'.out _).mono ?_
  rintro e w8 ⟨rfl, k8⟩
  go_wp2_with fail
  refine (A5'.out _).mono ?_
  rintro e w9 ⟨rfl, k9⟩
  go_wp2_with fail
  refine (C3'.out _).mono ?_
  rintro e w10 ⟨rfl, k10⟩
  go_wp2
  go_ret
  exact ⟨rfl, (by (repeat (first | with_reducible exact Kept.refl _ | with_reducible apply Kept.drew | with_reducible apply Kept.alloc | ((with_reducible apply Kept.set); focus (simp <;> omega)) | ((with_reducible apply Kept.via); focus with_reducible assumption))))⟩
set_option maxRecDepth 100000 in
set_option maxHeartbeats 1600000 in
theorem after_lt_big_high (now a b u x y s p q : Int) (a0 : -2147483648 ≤ a) (a1 : a ≤ 2147483647) (b0 : -2147483648 ≤ b) (b1 : b ≤ 2147483647) (ho : a < b) (hpq : p ≤ q) (hm : 1099511627776 < 1099511627776 + a) (hs : a + b = s) (w : World) (A0 : ∀ w, Calls Try.prog 13 #[.int .i64 now, .int .i64 0] w fun e w' => e = .returned (.int .i64 1099511627776) ∧ Kept w w') (A1 : ∀ w, Calls Try.prog 13 #[.int .i64 1099511627776, .int .i64 a] w fun e w' => e = .returned (.int .i64 u) ∧ Kept w w') (A2 : ∀ w, Calls Try.prog 13 #[.int .i64 u, .int .i64 b] w fun e w' => e = .returned (.int .i64 x) ∧ Kept w w') (A3 : ∀ w, Calls Try.prog 13 #[.int .i64 1099511627776, .int .i64 s] w fun e w' => e = .returned (.int .i64 y) ∧ Kept w w') (A4 : ∀ w, Calls Try.prog 13 #[.int .i64 1099511627776, .int .i64 a] w fun e w' => e = .returned (.int .i64 p) ∧ Kept w w') (A5 : ∀ w, Calls Try.prog 13 #[.int .i64 1099511627776, .int .i64 b] w fun e w' => e = .returned (.int .i64 q) ∧ Kept w w') (C1 : ∀ w, Calls Try.prog 11 #[.int .i64 1099511627776] w fun e w' => e = .returned (.bool true) ∧ Kept w w') (C2 : ∀ w, Calls Try.prog 11 #[.int .i64 x] w fun e w' => e = .returned (.bool true) ∧ Kept w w') (C3 : ∀ w, Calls Try.prog 11 #[.int .i64 now] w fun e w' => e = .returned (.bool false) ∧ Kept w w') :
    Calls Try.prog 6 #[.int .i64 now, .int .i32 a, .int .i32 b] w fun e w' => e = .returned (.bool true) ∧ Kept w w' := by
  have A0' := Lib.hid A0
  have A1' := Lib.hid A1
  have A2' := Lib.hid A2
  have A3' := Lib.hid A3
  have A4' := Lib.hid A4
  have A5' := Lib.hid A5
  have C1' := Lib.hid C1
  have C2' := Lib.hid C2
  have C3' := Lib.hid C3
  clear A0 A1 A2 A3 A4 A5 C1 C2 C3
  have HS := Lib.hid hs
  clear hs
  have f1 : min a b = a := by omega
  have f2 : max a b = b := by omega
  go_enter Try.func6, Try.ntmps6
  go_wp2_with fail
  refine (awake05 _).mono ?_
  rintro e w1 ⟨rfl, k1⟩
  go_wp2_with fail
  refine (A0'.out _).mono ?_
  rintro e w2 ⟨rfl, k2⟩
  go_wp2_with fail
  refine (A1'.out _).mono ?_
  rintro e w3 ⟨rfl, k3⟩
  go_wp2_with fail
  refine (A2'.out _).mono ?_
  rintro e w4 ⟨rfl, k4⟩
  go_upto_region 4 with fail
  have hs := HS.out
  go_wp2_with fail
  refine (A3'.out _).mono ?_
  rintro e w5 ⟨rfl, k5⟩
  clear hs
  go_wp2_with fail
  refine (C1'.out _).mono ?_
  rintro e w6 ⟨rfl, k6⟩
  go_wp2_with fail
  refine (C2'.out _).mono ?_
  rintro e w7 ⟨rfl, k7⟩
  go_wp2_with fail
  refine (A4'.out _).mono ?_
  rintro e w8 ⟨rfl, k8⟩
  go_wp2_with fail
  refine (A5'.out _).mono ?_
  rintro e w9 ⟨rfl, k9⟩
  go_wp2_with fail
  refine (C3'.out _).mono ?_
  rintro e w10 ⟨rfl, k10⟩
  go_wp2_with fail
  refine (C3'.out _).mono ?_
  rintro e w11 ⟨rfl, k11⟩
  go_wp2
  go_ret
  exact ⟨rfl, (by (repeat (first | with_reducible exact Kept.refl _ | with_reducible apply Kept.drew | with_reducible apply Kept.alloc | ((with_reducible apply Kept.set); focus (simp <;> omega)) | ((with_reducible apply Kept.via); focus with_reducible assumption))))⟩
set_option maxRecDepth 100000 in
set_option maxHeartbeats 1600000 in
theorem after_lt_in_yes (now a b u x s p q : Int) (a0 : -2147483648 ≤ a) (a1 : a ≤ 2147483647) (b0 : -2147483648 ≤ b) (b1 : b ≤ 2147483647) (ho : a < b) (hpq : p ≤ q) (hm0 : 0 ≤ now + a) (hm1 : now + a ≤ 1099511627776) (hs : a + b = s) (w : World) (A0 : ∀ w, Calls Try.prog 13 #[.int .i64 now, .int .i64 0] w fun e w' => e = .returned (.int .i64 now) ∧ Kept w w') (A1 : ∀ w, Calls Try.prog 13 #[.int .i64 now, .int .i64 a] w fun e w' => e = .returned (.int .i64 u) ∧ Kept w w') (A2 : ∀ w, Calls Try.prog 13 #[.int .i64 u, .int .i64 b] w fun e w' => e = .returned (.int .i64 x) ∧ Kept w w') (A3 : ∀ w, Calls Try.prog 13 #[.int .i64 now, .int .i64 s] w fun e w' => e = .returned (.int .i64 x) ∧ Kept w w') (A4 : ∀ w, Calls Try.prog 13 #[.int .i64 now, .int .i64 a] w fun e w' => e = .returned (.int .i64 p) ∧ Kept w w') (A5 : ∀ w, Calls Try.prog 13 #[.int .i64 now, .int .i64 b] w fun e w' => e = .returned (.int .i64 q) ∧ Kept w w') (C2 : ∀ w, Calls Try.prog 11 #[.int .i64 x] w fun e w' => e = .returned (.bool true) ∧ Kept w w') (C3 : ∀ w, Calls Try.prog 11 #[.int .i64 now] w fun e w' => e = .returned (.bool true) ∧ Kept w w') :
    Calls Try.prog 6 #[.int .i64 now, .int .i32 a, .int .i32 b] w fun e w' => e = .returned (.bool true) ∧ Kept w w' := by
  have A0' := Lib.hid A0
  have A1' := Lib.hid A1
  have A2' := Lib.hid A2
  have A3' := Lib.hid A3
  have A4' := Lib.hid A4
  have A5' := Lib.hid A5
  have C2' := Lib.hid C2
  have C3' := Lib.hid C3
  clear A0 A1 A2 A3 A4 A5 C2 C3
  have HS := Lib.hid hs
  clear hs
  have f1 : min a b = a := by omega
  have f2 : max a b = b := by omega
  go_enter Try.func6, Try.ntmps6
  go_wp2_with fail
  refine (awake05 _).mono ?_
  rintro e w1 ⟨rfl, k1⟩
  go_wp2_with fail
  refine (A0'.out _).mono ?_
  rintro e w2 ⟨rfl, k2⟩
  go_wp2_with fail
  refine (A1'.out _).mono ?_
  rintro e w3 ⟨rfl, k3⟩
  go_wp2_with fail
  refine (A2'.out _).mono ?_
  rintro e w4 ⟨rfl, k4⟩
  go_upto_region 4 with fail
  have hs := HS.out
  go_wp2_with fail
  refine (A3'.out _).mono ?_
  rintro e w5 ⟨rfl, k5⟩
  clear hs
  go_wp2_with fail
  refine (C3'.out _).mono ?_
  rintro e w6 ⟨rfl, k6⟩
  go_wp2_with fail
  refine (C2'.out _).mono ?_
  rintro e w7 ⟨rfl, k7⟩
  go_wp2_with fail
  refine (A4'.out _).mono ?_
  rintro e w8 ⟨rfl, k8⟩
  go_wp2_with fail
  refine (A5'.out _).mono ?_
  rintro e w9 ⟨rfl, k9⟩
  go_wp2_with fail
  refine (C3'.out _).mono ?_
  rintro e w10 ⟨rfl, k10⟩
  go_wp2
  go_ret
  exact ⟨rfl, (by (repeat (first | with_reducible exact Kept.refl _ | with_reducible apply Kept.drew | with_reducible apply Kept.alloc | ((with_reducible apply Kept.set); focus (simp <;> omega)) | ((with_reducible apply Kept.via); focus with_reducible assumption))))⟩
set_option maxRecDepth 100000 in
set_option maxHeartbeats 1600000 in
theorem after_lt_in_low (now a b u x s p q : Int) (a0 : -2147483648 ≤ a) (a1 : a ≤ 2147483647) (b0 : -2147483648 ≤ b) (b1 : b ≤ 2147483647) (ho : a < b) (hpq : p ≤ q) (hm0 : 0 ≤ a) (hm1 : a ≤ 1099511627776) (hs : a + b = s) (w : World) (A0 : ∀ w, Calls Try.prog 13 #[.int .i64 now, .int .i64 0] w fun e w' => e = .returned (.int .i64 0) ∧ Kept w w') (A1 : ∀ w, Calls Try.prog 13 #[.int .i64 0, .int .i64 a] w fun e w' => e = .returned (.int .i64 u) ∧ Kept w w') (A2 : ∀ w, Calls Try.prog 13 #[.int .i64 u, .int .i64 b] w fun e w' => e = .returned (.int .i64 x) ∧ Kept w w') (A3 : ∀ w, Calls Try.prog 13 #[.int .i64 0, .int .i64 s] w fun e w' => e = .returned (.int .i64 x) ∧ Kept w w') (A4 : ∀ w, Calls Try.prog 13 #[.int .i64 0, .int .i64 a] w fun e w' => e = .returned (.int .i64 p) ∧ Kept w w') (A5 : ∀ w, Calls Try.prog 13 #[.int .i64 0, .int .i64 b] w fun e w' => e = .returned (.int .i64 q) ∧ Kept w w') (C1 : ∀ w, Calls Try.prog 11 #[.int .i64 0] w fun e w' => e = .returned (.bool true) ∧ Kept w w') (C2 : ∀ w, Calls Try.prog 11 #[.int .i64 x] w fun e w' => e = .returned (.bool true) ∧ Kept w w') (C3 : ∀ w, Calls Try.prog 11 #[.int .i64 now] w fun e w' => e = .returned (.bool false) ∧ Kept w w') :
    Calls Try.prog 6 #[.int .i64 now, .int .i32 a, .int .i32 b] w fun e w' => e = .returned (.bool true) ∧ Kept w w' := by
  have A0' := Lib.hid A0
  have A1' := Lib.hid A1
  have A2' := Lib.hid A2
  have A3' := Lib.hid A3
  have A4' := Lib.hid A4
  have A5' := Lib.hid A5
  have C1' := Lib.hid C1
  have C2' := Lib.hid C2
  have C3' := Lib.hid C3
  clear A0 A1 A2 A3 A4 A5 C1 C2 C3
  have HS := Lib.hid hs
  clear hs
  have f1 : min a b = a := by omega
  have f2 : max a b = b := by omega
  go_enter Try.func6, Try.ntmps6
  go_wp2_with fail
  refine (awake05 _).mono ?_
  rintro e w1 ⟨rfl, k1⟩
  go_wp2_with fail
  refine (A0'.out _).mono ?_
  rintro e w2 ⟨rfl, k2⟩
  go_wp2_with fail
  refine (A1'.out _).mono ?_
  rintro e w3 ⟨rfl, k3⟩
  go_wp2_with fail
  refine (A2'.out _).mono ?_
  rintro e w4 ⟨rfl, k4⟩
  go_upto_region 4 with fail
  have hs := HS.out
  go_wp2_with fail
  refine (A3'.out _).mono ?_
  rintro e w5 ⟨rfl, k5⟩
  clear hs
  go_wp2_with fail
  refine (C1'.out _).mono ?_
  rintro e w6 ⟨rfl, k6⟩
  go_wp2_with fail
  refine (C2'.out _).mono ?_
  rintro e w7 ⟨rfl, k7⟩
  go_wp2_with fail
  refine (A4'.out _).mono ?_
  rintro e w8 ⟨rfl, k8⟩
  go_wp2_with fail
  refine (A5'.out _).mono ?_
  rintro e w9 ⟨rfl, k9⟩
  go_wp2_with fail
  refine (C3'.out _).mono ?_
  rintro e w10 ⟨rfl, k10⟩
  go_wp2_with fail
  refine (C3'.out _).mono ?_
  rintro e w11 ⟨rfl, k11⟩
  go_wp2
  go_ret
  exact ⟨rfl, (by (repeat (first | with_reducible exact Kept.refl _ | with_reducible apply Kept.drew | with_reducible apply Kept.alloc | ((with_reducible apply Kept.set); focus (simp <;> omega)) | ((with_reducible apply Kept.via); focus with_reducible assumption))))⟩
set_option maxRecDepth 100000 in
set_option maxHeartbeats 1600000 in
theorem after_lt_in_high (now a b u x s p q : Int) (a0 : -2147483648 ≤ a) (a1 : a ≤ 2147483647) (b0 : -2147483648 ≤ b) (b1 : b ≤ 2147483647) (ho : a < b) (hpq : p ≤ q) (hm0 : 0 ≤ 1099511627776 + a) (hm1 : 1099511627776 + a ≤ 1099511627776) (hs : a + b = s) (w : World) (A0 : ∀ w, Calls Try.prog 13 #[.int .i64 now, .int .i64 0] w fun e w' => e = .returned (.int .i64 1099511627776) ∧ Kept w w') (A1 : ∀ w, Calls Try.prog 13 #[.int .i64 1099511627776, .int .i64 a] w fun e w' => e = .returned (.int .i64 u) ∧ Kept w w') (A2 : ∀ w, Calls Try.prog 13 #[.int .i64 u, .int .i64 b] w fun e w' => e = .returned (.int .i64 x) ∧ Kept w w') (A3 : ∀ w, Calls Try.prog 13 #[.int .i64 1099511627776, .int .i64 s] w fun e w' => e = .returned (.int .i64 x) ∧ Kept w w') (A4 : ∀ w, Calls Try.prog 13 #[.int .i64 1099511627776, .int .i64 a] w fun e w' => e = .returned (.int .i64 p) ∧ Kept w w') (A5 : ∀ w, Calls Try.prog 13 #[.int .i64 1099511627776, .int .i64 b] w fun e w' => e = .returned (.int .i64 q) ∧ Kept w w') (C1 : ∀ w, Calls Try.prog 11 #[.int .i64 1099511627776] w fun e w' => e = .returned (.bool true) ∧ Kept w w') (C2 : ∀ w, Calls Try.prog 11 #[.int .i64 x] w fun e w' => e = .returned (.bool true) ∧ Kept w w') (C3 : ∀ w, Calls Try.prog 11 #[.int .i64 now] w fun e w' => e = .returned (.bool false) ∧ Kept w w') :
    Calls Try.prog 6 #[.int .i64 now, .int .i32 a, .int .i32 b] w fun e w' => e = .returned (.bool true) ∧ Kept w w' := by
  have A0' := Lib.hid A0
  have A1' := Lib.hid A1
  have A2' := Lib.hid A2
  have A3' := Lib.hid A3
  have A4' := Lib.hid A4
  have A5' := Lib.hid A5
  have C1' := Lib.hid C1
  have C2' := Lib.hid C2
  have C3' := Lib.hid C3
  clear A0 A1 A2 A3 A4 A5 C1 C2 C3
  have HS := Lib.hid hs
  clear hs
  have f1 : min a b = a := by omega
  have f2 : max a b = b := by omega
  go_enter Try.func6, Try.ntmps6
  go_wp2_with fail
  refine (awake05 _).mono ?_
  rintro e w1 ⟨rfl, k1⟩
  go_wp2_with fail
  refine (A0'.out _).mono ?_
  rintro e w2 ⟨rfl, k2⟩
  go_wp2_with fail
  refine (A1'.out _).mono ?_
  rintro e w3 ⟨rfl, k3⟩
  go_wp2_with fail
  refine (A2'.out _).mono ?_
  rintro e w4 ⟨rfl, k4⟩
  go_upto_region 4 with fail
  have hs := HS.out
  go_wp2_with fail
  refine (A3'.out _).mono ?_
  rintro e w5 ⟨rfl, k5⟩
  clear hs
  go_wp2_with fail
  refine (C1'.out _).mono ?_
  rintro e w6 ⟨rfl, k6⟩
  go_wp2_with fail
  refine (C2'.out _).mono ?_
  rintro e w7 ⟨rfl, k7⟩
  go_wp2_with fail
  refine (A4'.out _).mono ?_
  rintro e w8 ⟨rfl, k8⟩
  go_wp2_with fail
  refine (A5'.out _).mono ?_
  rintro e w9 ⟨rfl, k9⟩
  go_wp2_with fail
  refine (C3'.out _).mono ?_
  rintro e w10 ⟨rfl, k10⟩
  go_wp2_with fail
  refine (C3'.out _).mono ?_
  rintro e w11 ⟨rfl, k11⟩
  go_wp2
  go_ret
  exact ⟨rfl, (by (repeat (first | with_reducible exact Kept.refl _ | with_reducible apply Kept.drew | with_reducible apply Kept.alloc | ((with_reducible apply Kept.set); focus (simp <;> omega)) | ((with_reducible apply Kept.via); focus with_reducible assumption))))⟩
set_option maxRecDepth 100000 in
set_option maxHeartbeats 1600000 in
theorem after_eq_neg_yes (now a u x y s p : Int) (a0 : -2147483648 ≤ a) (a1 : a ≤ 2147483647) (n0 : 0 ≤ now) (n1 : now ≤ 1099511627776) (hm : now + a < 0) (hs : a + a = s) (w : World) (A0 : ∀ w, Calls Try.prog 13 #[.int .i64 now, .int .i64 0] w fun e w' => e = .returned (.int .i64 now) ∧ Kept w w') (A1 : ∀ w, Calls Try.prog 13 #[.int .i64 now, .int .i64 a] w fun e w' => e = .returned (.int .i64 u) ∧ Kept w w') (A2 : ∀ w, Calls Try.prog 13 #[.int .i64 u, .int .i64 a] w fun e w' => e = .returned (.int .i64 x) ∧ Kept w w') (A3 : ∀ w, Calls Try.prog 13 #[.int .i64 now, .int .i64 s] w fun e w' => e = .returned (.int .i64 y) ∧ Kept w w') (A4 : ∀ w, Calls Try.prog 13 #[.int .i64 now, .int .i64 a] w fun e w' => e = .returned (.int .i64 p) ∧ Kept w w') (C2 : ∀ w, Calls Try.prog 11 #[.int .i64 x] w fun e w' => e = .returned (.bool true) ∧ Kept w w') (C3 : ∀ w, Calls Try.prog 11 #[.int .i64 now] w fun e w' => e = .returned (.bool true) ∧ Kept w w') :
    Calls Try.prog 6 #[.int .i64 now, .int .i32 a, .int .i32 a] w fun e w' => e = .returned (.bool true) ∧ Kept w w' := by
  have A0' := Lib.hid A0
  have A1' := Lib.hid A1
  have A2' := Lib.hid A2
  have A3' := Lib.hid A3
  have A4' := Lib.hid A4
  have C2' := Lib.hid C2
  have C3' := Lib.hid C3
  clear A0 A1 A2 A3 A4 C2 C3
  have HS := Lib.hid hs
  clear hs
  go_enter Try.func6, Try.ntmps6
  go_wp2_with fail
  refine (awake05 _).mono ?_
  rintro e w1 ⟨rfl, k1⟩
  go_wp2_with fail
  refine (A0'.out _).mono ?_
  rintro e w2 ⟨rfl, k2⟩
  go_wp2_with fail
  refine (A1'.out _).mono ?_
  rintro e w3 ⟨rfl, k3⟩
  go_wp2_with fail
  refine (A2'.out _).mono ?_
  rintro e w4 ⟨rfl, k4⟩
  go_upto_region 4 with fail
  have hs := HS.out
  go_wp2_with fail
  refine (A3'.out _).mono ?_
  rintro e w5 ⟨rfl, k5⟩
  clear hs
  go_wp2_with fail
  refine (C3'.out _).mono ?_
  rintro e w6 ⟨rfl, k6⟩
  go_wp2_with fail
  refine (C2'.out _).mono ?_
  rintro e w7 ⟨rfl, k7⟩
  go_wp2_with fail
  refine (A4'.out _).mono ?_
  rintro e w8 ⟨rfl, k8⟩
  go_wp2_with fail
  refine (A4'.out _).mono ?_
  rintro e w9 ⟨rfl, k9⟩
  go_wp2_with fail
  refine (C3'.out _).mono ?_
  rintro e w10 ⟨rfl, k10⟩
  go_wp2
  go_ret
  exact ⟨rfl, (by (repeat (first | with_reducible exact Kept.refl _ | with_reducible apply Kept.drew | with_reducible apply Kept.alloc | ((with_reducible apply Kept.set); focus (simp <;> omega)) | ((with_reducible apply Kept.via); focus with_reducible assumption))))⟩
set_option maxRecDepth 100000 in
set_option maxHeartbeats 1600000 in
theorem after_eq_neg_low (now a u x y s p : Int) (a0 : -2147483648 ≤ a) (a1 : a ≤ 2147483647) (hm : a < 0) (hs : a + a = s) (w : World) (A0 : ∀ w, Calls Try.prog 13 #[.int .i64 now, .int .i64 0] w fun e w' => e = .returned (.int .i64 0) ∧ Kept w w') (A1 : ∀ w, Calls Try.prog 13 #[.int .i64 0, .int .i64 a] w fun e w' => e = .returned (.int .i64 u) ∧ Kept w w') (A2 : ∀ w, Calls Try.prog 13 #[.int .i64 u, .int .i64 a] w fun e w' => e = .returned (.int .i64 x) ∧ Kept w w') (A3 : ∀ w, Calls Try.prog 13 #[.int .i64 0, .int .i64 s] w fun e w' => e = .returned (.int .i64 y) ∧ Kept w w') (A4 : ∀ w, Calls Try.prog 13 #[.int .i64 0, .int .i64 a] w fun e w' => e = .returned (.int .i64 p) ∧ Kept w w') (C1 : ∀ w, Calls Try.prog 11 #[.int .i64 0] w fun e w' => e = .returned (.bool true) ∧ Kept w w') (C2 : ∀ w, Calls Try.prog 11 #[.int .i64 x] w fun e w' => e = .returned (.bool true) ∧ Kept w w') (C3 : ∀ w, Calls Try.prog 11 #[.int .i64 now] w fun e w' => e = .returned (.bool false) ∧ Kept w w') :
    Calls Try.prog 6 #[.int .i64 now, .int .i32 a, .int .i32 a] w fun e w' => e = .returned (.bool true) ∧ Kept w w' := by
  have A0' := Lib.hid A0
  have A1' := Lib.hid A1
  have A2' := Lib.hid A2
  have A3' := Lib.hid A3
  have A4' := Lib.hid A4
  have C1' := Lib.hid C1
  have C2' := Lib.hid C2
  have C3' := Lib.hid C3
  clear A0 A1 A2 A3 A4 C1 C2 C3
  have HS := Lib.hid hs
  clear hs
  go_enter Try.func6, Try.ntmps6
  go_wp2_with fail
  refine (awake05 _).mono ?_
  rintro e w1 ⟨rfl, k1⟩
  go_wp2_with fail
  refine (A0'.out _).mono ?_
  rintro e w2 ⟨rfl, k2⟩
  go_wp2_with fail
  refine (A1'.out _).mono ?_
  rintro e w3 ⟨rfl, k3⟩
  go_wp2_with fail
  refine (A2'.out _).mono ?_
  rintro e w4 ⟨rfl, k4⟩
  go_upto_region 4 with fail
  have hs := HS.out
  go_wp2_with fail
  refine (A3'.out _).mono ?_
  rintro e w5 ⟨rfl, k5⟩
  clear hs
  go_wp2_with fail
  refine (C1'.out _).mono ?_
  rintro e w6 ⟨rfl, k6⟩
  go_wp2_with fail
  refine (C2'.out _).mono ?_
  rintro e w7 ⟨rfl, k7⟩
  go_wp2_with fail
  refine (A4'.out _).mono ?_
  rintro e w8 ⟨rfl, k8⟩
  go_wp2_with fail
  refine (A4'.out _).mono ?_
  rintro e w9 ⟨rfl, k9⟩
  go_wp2_with fail
  refine (C3'.out _).mono ?_
  rintro e w10 ⟨rfl, k10⟩
  go_wp2_with fail
  refine (C3'.out _).mono ?_
  rintro e w11 ⟨rfl, k11⟩
  go_wp2
  go_ret
  exact ⟨rfl, (by (repeat (first | with_reducible exact Kept.refl _ | with_reducible apply Kept.drew | with_reducible apply Kept.alloc | ((with_reducible apply Kept.set); focus (simp <;> omega)) | ((with_reducible apply Kept.via); focus with_reducible assumption))))⟩
set_option maxRecDepth 100000 in
set_option maxHeartbeats 1600000 in
theorem after_eq_big_yes (now a u x y s p : Int) (a0 : -2147483648 ≤ a) (a1 : a ≤ 2147483647) (n0 : 0 ≤ now) (n1 : now ≤ 1099511627776) (hm : 1099511627776 < now + a) (hs : a + a = s) (w : World) (A0 : ∀ w, Calls Try.prog 13 #[.int .i64 now, .int .i64 0] w fun e w' => e = .returned (.int .i64 now) ∧ Kept w w') (A1 : ∀ w, Calls Try.prog 13 #[.int .i64 now, .int .i64 a] w fun e w' => e = .returned (.int .i64 u) ∧ Kept w w') (A2 : ∀ w, Calls Try.prog 13 #[.int .i64 u, .int .i64 a] w fun e w' => e = .returned (.int .i64 x) ∧ Kept w w') (A3 : ∀ w, Calls Try.prog 13 #[.int .i64 now, .int .i64 s] w fun e w' => e = .returned (.int .i64 y) ∧ Kept w w') (A4 : ∀ w, Calls Try.prog 13 #[.int .i64 now, .int .i64 a] w fun e w' => e = .returned (.int .i64 p) ∧ Kept w w') (C2 : ∀ w, Calls Try.prog 11 #[.int .i64 x] w fun e w' => e = .returned (.bool true) ∧ Kept w w') (C3 : ∀ w, Calls Try.prog 11 #[.int .i64 now] w fun e w' => e = .returned (.bool true) ∧ Kept w w') :
    Calls Try.prog 6 #[.int .i64 now, .int .i32 a, .int .i32 a] w fun e w' => e = .returned (.bool true) ∧ Kept w w' := by
  have A0' := Lib.hid A0
  have A1' := Lib.hid A1
  have A2' := Lib.hid A2
  have A3' := Lib.hid A3
  have A4' := Lib.hid A4
  have C2' := Lib.hid C2
  have C3' := Lib.hid C3
  clear A0 A1 A2 A3 A4 C2 C3
  have HS := Lib.hid hs
  clear hs
  go_enter Try.func6, Try.ntmps6
  go_wp2_with fail
  refine (awake05 _).mono ?_
  rintro e w1 ⟨rfl, k1⟩
  go_wp2_with fail
  refine (A0'.out _).mono ?_
  rintro e w2 ⟨rfl, k2⟩
  go_wp2_with fail
  refine (A1'.out _).mono ?_
  rintro e w3 ⟨rfl, k3⟩
  go_wp2_with fail
  refine (A2'.out _).mono ?_
  rintro e w4 ⟨rfl, k4⟩
  go_upto_region 4 with fail
  have hs := HS.out
  go_wp2_with fail
  refine (A3'.out _).mono ?_
  rintro e w5 ⟨rfl, k5⟩
  clear hs
  go_wp2_with fail
  refine (C3'.out _).mono ?_
  rintro e w6 ⟨rfl, k6⟩
  go_wp2_with fail
  refine (C2'.out _).mono ?_
  rintro e w7 ⟨rfl, k7⟩
  go_wp2_with fail
  refine (A4'.out _).mono ?_
  rintro e w8 ⟨rfl, k8⟩
  go_wp2_with fail
  refine (A4'.out _).mono ?_
  rintro e w9 ⟨rfl, k9⟩
  go_wp2_with fail
  refine (C3'.out _).mono ?_
  rintro e w10 ⟨rfl, k10⟩
  go_wp2
  go_ret
  exact ⟨rfl, (by (repeat (first | with_reducible exact Kept.refl _ | with_reducible apply Kept.drew | with_reducible apply Kept.alloc | ((with_reducible apply Kept.set); focus (simp <;> omega)) | ((with_reducible apply Kept.via); focus with_reducible assumption))))⟩
set_option maxRecDepth 100000 in
set_option maxHeartbeats 1600000 in
theorem after_eq_big_high (now a u x y s p : Int) (a0 : -2147483648 ≤ a) (a1 : a ≤ 2147483647) (hm : 1099511627776 < 1099511627776 + a) (hs : a + a = s) (w : World) (A0 : ∀ w, Calls Try.prog 13 #[.int .i64 now, .int .i64 0] w fun e w' => e = .returned (.int .i64 1099511627776) ∧ Kept w w') (A1 : ∀ w, Calls Try.prog 13 #[.int .i64 1099511627776, .int .i64 a] w fun e w' => e = .returned (.int .i64 u) ∧ Kept w w') (A2 : ∀ w, Calls Try.prog 13 #[.int .i64 u, .int .i64 a] w fun e w' => e = .returned (.int .i64 x) ∧ Kept w w') (A3 : ∀ w, Calls Try.prog 13 #[.int .i64 1099511627776, .int .i64 s] w fun e w' => e = .returned (.int .i64 y) ∧ Kept w w') (A4 : ∀ w, Calls Try.prog 13 #[.int .i64 1099511627776, .int .i64 a] w fun e w' => e = .returned (.int .i64 p) ∧ Kept w w') (C1 : ∀ w, Calls Try.prog 11 #[.int .i64 1099511627776] w fun e w' => e = .returned (.bool true) ∧ Kept w w') (C2 : ∀ w, Calls Try.prog 11 #[.int .i64 x] w fun e w' => e = .returned (.bool true) ∧ Kept w w') (C3 : ∀ w, Calls Try.prog 11 #[.int .i64 now] w fun e w' => e = .returned (.bool false) ∧ Kept w w') :
    Calls Try.prog 6 #[.int .i64 now, .int .i32 a, .int .i32 a] w fun e w' => e = .returned (.bool true) ∧ Kept w w' := by
  have A0' := Lib.hid A0
  have A1' := Lib.hid A1
  have A2' := Lib.hid A2
  have A3' := Lib.hid A3
  have A4' := Lib.hid A4
  have C1' := Lib.hid C1
  have C2' := Lib.hid C2
  have C3' := Lib.hid C3
  clear A0 A1 A2 A3 A4 C1 C2 C3
  have HS := Lib.hid hs
  clear hs
  go_enter Try.func6, Try.ntmps6
  go_wp2_with fail
  refine (awake05 _).mono ?_
  rintro e w1 ⟨rfl, k1⟩
  go_wp2_with fail
  refine (A0'.out _).mono ?_
  rintro e w2 ⟨rfl, k2⟩
  go_wp2_with fail
  refine (A1'.out _).mono ?_
  rintro e w3 ⟨rfl, k3⟩
  go_wp2_with fail
  refine (A2'.out _).mono ?_
  rintro e w4 ⟨rfl, k4⟩
  go_upto_region 4 with fail
  have hs := HS.out
  go_wp2_with fail
  refine (A3'.out _).mono ?_
  rintro e w5 ⟨rfl, k5⟩
  clear hs
  go_wp2_with fail
  refine (C1'.out _).mono ?_
  rintro e w6 ⟨rfl, k6⟩
  go_wp2_with fail
  refine (C2'.out _).mono ?_
  rintro e w7 ⟨rfl, k7⟩
  go_wp2_with fail
  refine (A4'.out _).mono ?_
  rintro e w8 ⟨rfl, k8⟩
  go_wp2_with fail
  refine (A4'.out _).mono ?_
  rintro e w9 ⟨rfl, k9⟩
  go_wp2_with fail
  refine (C3'.out _).mono ?_
  rintro e w10 ⟨rfl, k10⟩
  go_wp2_with fail
  refine (C3'.out _).mono ?_
  rintro e w11 ⟨rfl, k11⟩
  go_wp2
  go_ret
  exact ⟨rfl, (by (repeat (first | with_reducible exact Kept.refl _ | with_reducible apply Kept.drew | with_reducible apply Kept.alloc | ((with_reducible apply Kept.set); focus (simp <;> omega)) | ((with_reducible apply Kept.via); focus with_reducible assumption))))⟩
set_option maxRecDepth 100000 in
set_option maxHeartbeats 1600000 in
theorem after_eq_in_yes (now a u x s p : Int) (a0 : -2147483648 ≤ a) (a1 : a ≤ 2147483647) (hm0 : 0 ≤ now + a) (hm1 : now + a ≤ 1099511627776) (hs : a + a = s) (w : World) (A0 : ∀ w, Calls Try.prog 13 #[.int .i64 now, .int .i64 0] w fun e w' => e = .returned (.int .i64 now) ∧ Kept w w') (A1 : ∀ w, Calls Try.prog 13 #[.int .i64 now, .int .i64 a] w fun e w' => e = .returned (.int .i64 u) ∧ Kept w w') (A2 : ∀ w, Calls Try.prog 13 #[.int .i64 u, .int .i64 a] w fun e w' => e = .returned (.int .i64 x) ∧ Kept w w') (A3 : ∀ w, Calls Try.prog 13 #[.int .i64 now, .int .i64 s] w fun e w' => e = .returned (.int .i64 x) ∧ Kept w w') (A4 : ∀ w, Calls Try.prog 13 #[.int .i64 now, .int .i64 a] w fun e w' => e = .returned (.int .i64 p) ∧ Kept w w') (C2 : ∀ w, Calls Try.prog 11 #[.int .i64 x] w fun e w' => e = .returned (.bool true) ∧ Kept w w') (C3 : ∀ w, Calls Try.prog 11 #[.int .i64 now] w fun e w' => e = .returned (.bool true) ∧ Kept w w') :
    Calls Try.prog 6 #[.int .i64 now, .int .i32 a, .int .i32 a] w fun e w' => e = .returned (.bool true) ∧ Kept w w' := by
  have A0' := Lib.hid A0
  have A1' := Lib.hid A1
  have A2' := Lib.hid A2
  have A3' := Lib.hid A3
  have A4' := Lib.hid A4
  have C2' := Lib.hid C2
  have C3' := Lib.hid C3
  clear A0 A1 A2 A3 A4 C2 C3
  have HS := Lib.hid hs
  clear hs
  go_enter Try.func6, Try.ntmps6
  go_wp2_with fail
  refine (awake05 _).mono ?_
  rintro e w1 ⟨rfl, k1⟩
  go_wp2_with fail
  refine (A0'.out _).mono ?_
  rintro e w2 ⟨rfl, k2⟩
  go_wp2_with fail
  refine (A1'.out _).mono ?_
  rintro e w3 ⟨rfl, k3⟩
  go_wp2_with fail
  refine (A2'.out _).mono ?_
  rintro e w4 ⟨rfl, k4⟩
  go_upto_region 4 with fail
  have hs := HS.out
  go_wp2_with fail
  refine (A3'.out _).mono ?_
  rintro e w5 ⟨rfl, k5⟩
  clear hs
  go_wp2_with fail
  refine (C3'.out _).mono ?_
  rintro e w6 ⟨rfl, k6⟩
  go_wp2_with fail
  refine (C2'.out _).mono ?_
  rintro e w7 ⟨rfl, k7⟩
  go_wp2_with fail
  refine (A4'.out _).mono ?_
  rintro e w8 ⟨rfl, k8⟩
  go_wp2_with fail
  refine (A4'.out _).mono ?_
  rintro e w9 ⟨rfl, k9⟩
  go_wp2_with fail
  refine (C3'.out _).mono ?_
  rintro e w10 ⟨rfl, k10⟩
  go_wp2
  go_ret
  exact ⟨rfl, (by (repeat (first | with_reducible exact Kept.refl _ | with_reducible apply Kept.drew | with_reducible apply Kept.alloc | ((with_reducible apply Kept.set); focus (simp <;> omega)) | ((with_reducible apply Kept.via); focus with_reducible assumption))))⟩
set_option maxRecDepth 100000 in
set_option maxHeartbeats 1600000 in
theorem after_eq_in_low (now a u x s p : Int) (a0 : -2147483648 ≤ a) (a1 : a ≤ 2147483647) (hm0 : 0 ≤ a) (hm1 : a ≤ 1099511627776) (hs : a + a = s) (w : World) (A0 : ∀ w, Calls Try.prog 13 #[.int .i64 now, .int .i64 0] w fun e w' => e = .returned (.int .i64 0) ∧ Kept w w') (A1 : ∀ w, Calls Try.prog 13 #[.int .i64 0, .int .i64 a] w fun e w' => e = .returned (.int .i64 u) ∧ Kept w w') (A2 : ∀ w, Calls Try.prog 13 #[.int .i64 u, .int .i64 a] w fun e w' => e = .returned (.int .i64 x) ∧ Kept w w') (A3 : ∀ w, Calls Try.prog 13 #[.int .i64 0, .int .i64 s] w fun e w' => e = .returned (.int .i64 x) ∧ Kept w w') (A4 : ∀ w, Calls Try.prog 13 #[.int .i64 0, .int .i64 a] w fun e w' => e = .returned (.int .i64 p) ∧ Kept w w') (C1 : ∀ w, Calls Try.prog 11 #[.int .i64 0] w fun e w' => e = .returned (.bool true) ∧ Kept w w') (C2 : ∀ w, Calls Try.prog 11 #[.int .i64 x] w fun e w' => e = .returned (.bool true) ∧ Kept w w') (C3 : ∀ w, Calls Try.prog 11 #[.int .i64 now] w fun e w' => e = .returned (.bool false) ∧ Kept w w') :
    Calls Try.prog 6 #[.int .i64 now, .int .i32 a, .int .i32 a] w fun e w' => e = .returned (.bool true) ∧ Kept w w' := by
  have A0' := Lib.hid A0
  have A1' := Lib.hid A1
  have A2' := Lib.hid A2
  have A3' := Lib.hid A3
  have A4' := Lib.hid A4
  have C1' := Lib.hid C1
  have C2' := Lib.hid C2
  have C3' := Lib.hid C3
  clear A0 A1 A2 A3 A4 C1 C2 C3
  have HS := Lib.hid hs
  clear hs
  go_enter Try.func6, Try.ntmps6
  go_wp2_with fail
  refine (awake05 _).mono ?_
  rintro e w1 ⟨rfl, k1⟩
  go_wp2_with fail
  refine (A0'.out _).mono ?_
  rintro e w2 ⟨rfl, k2⟩
  go_wp2_with fail
  refine (A1'.out _).mono ?_
  rintro e w3 ⟨rfl, k3⟩
  go_wp2_with fail
  refine (A2'.out _).mono ?_
  rintro e w4 ⟨rfl, k4⟩
  go_upto_region 4 with fail
  have hs := HS.out
  go_wp2_with fail
  refine (A3'.out _).mono ?_
  rintro e w5 ⟨rfl, k5⟩
  clear hs
  go_wp2_with fail
  refine (C1'.out _).mono ?_
  rintro e w6 ⟨rfl, k6⟩
  go_wp2_with fail
  refine (C2'.out _).mono ?_
  rintro e w7 ⟨rfl, k7⟩
  go_wp2_with fail
  refine (A4'.out _).mono ?_
  rintro e w8 ⟨rfl, k8⟩
  go_wp2_with fail
  refine (A4'.out _).mono ?_
  rintro e w9 ⟨rfl, k9⟩
  go_wp2_with fail
  refine (C3'.out _).mono ?_
  rintro e w10 ⟨rfl, k10⟩
  go_wp2_with fail
  refine (C3'.out _).mono ?_
  rintro e w11 ⟨rfl, k11⟩
  go_wp2
  go_ret
  exact ⟨rfl, (by (repeat (first | with_reducible exact Kept.refl _ | with_reducible apply Kept.drew | with_reducible apply Kept.alloc | ((with_reducible apply Kept.set); focus (simp <;> omega)) | ((with_reducible apply Kept.via); focus with_reducible assumption))))⟩
set_option maxRecDepth 100000 in
set_option maxHeartbeats 1600000 in
theorem after_eq_in_high (now a u x s p : Int) (a0 : -2147483648 ≤ a) (a1 : a ≤ 2147483647) (hm0 : 0 ≤ 1099511627776 + a) (hm1 : 1099511627776 + a ≤ 1099511627776) (hs : a + a = s) (w : World) (A0 : ∀ w, Calls Try.prog 13 #[.int .i64 now, .int .i64 0] w fun e w' => e = .returned (.int .i64 1099511627776) ∧ Kept w w') (A1 : ∀ w, Calls Try.prog 13 #[.int .i64 1099511627776, .int .i64 a] w fun e w' => e = .returned (.int .i64 u) ∧ Kept w w') (A2 : ∀ w, Calls Try.prog 13 #[.int .i64 u, .int .i64 a] w fun e w' => e = .returned (.int .i64 x) ∧ Kept w w') (A3 : ∀ w, Calls Try.prog 13 #[.int .i64 1099511627776, .int .i64 s] w fun e w' => e = .returned (.int .i64 x) ∧ Kept w w') (A4 : ∀ w, Calls Try.prog 13 #[.int .i64 1099511627776, .int .i64 a] w fun e w' => e = .returned (.int .i64 p) ∧ Kept w w') (C1 : ∀ w, Calls Try.prog 11 #[.int .i64 1099511627776] w fun e w' => e = .returned (.bool true) ∧ Kept w w') (C2 : ∀ w, Calls Try.prog 11 #[.int .i64 x] w fun e w' => e = .returned (.bool true) ∧ Kept w w') (C3 : ∀ w, Calls Try.prog 11 #[.int .i64 now] w fun e w' => e = .returned (.bool false) ∧ Kept w w') :
    Calls Try.prog 6 #[.int .i64 now, .int .i32 a, .int .i32 a] w fun e w' => e = .returned (.bool true) ∧ Kept w w' := by
  have A0' := Lib.hid A0
  have A1' := Lib.hid A1
  have A2' := Lib.hid A2
  have A3' := Lib.hid A3
  have A4' := Lib.hid A4
  have C1' := Lib.hid C1
  have C2' := Lib.hid C2
  have C3' := Lib.hid C3
  clear A0 A1 A2 A3 A4 C1 C2 C3
  have HS := Lib.hid hs
  clear hs
  go_enter Try.func6, Try.ntmps6
  go_wp2_with fail
  refine (awake05 _).mono ?_
  rintro e w1 ⟨rfl, k1⟩
  go_wp2_with fail
  refine (A0'.out _).mono ?_
  rintro e w2 ⟨rfl, k2⟩
  go_wp2_with fail
  refine (A1'.out _).mono ?_
  rintro e w3 ⟨rfl, k3⟩
  go_wp2_with fail
  refine (A2'.out _).mono ?_
  rintro e w4 ⟨rfl, k4⟩
  go_upto_region 4 with fail
  have hs := HS.out
  go_wp2_with fail
  refine (A3'.out _).mono ?_
  rintro e w5 ⟨rfl, k5⟩
  clear hs
  go_wp2_with fail
  refine (C1'.out _).mono ?_
  rintro e w6 ⟨rfl, k6⟩
  go_wp2_with fail
  refine (C2'.out _).mono ?_
  rintro e w7 ⟨rfl, k7⟩
  go_wp2_with fail
  refine (A4'.out _).mono ?_
  rintro e w8 ⟨rfl, k8⟩
  go_wp2_with fail
  refine (A4'.out _).mono ?_
  rintro e w9 ⟨rfl, k9⟩
  go_wp2_with fail
  refine (C3'.out _).mono ?_
  rintro e w10 ⟨rfl, k10⟩
  go_wp2_with fail
  refine (C3'.out _).mono ?_
  rintro e w11 ⟨rfl, k11⟩
  go_wp2
  go_ret
  exact ⟨rfl, (by (repeat (first | with_reducible exact Kept.refl _ | with_reducible apply Kept.drew | with_reducible apply Kept.alloc | ((with_reducible apply Kept.set); focus (simp <;> omega)) | ((with_reducible apply Kept.via); focus with_reducible assumption))))⟩
set_option maxRecDepth 100000 in
set_option maxHeartbeats 1600000 in
theorem after_gt_neg_yes (now a b u x y s p q : Int) (a0 : -2147483648 ≤ a) (a1 : a ≤ 2147483647) (b0 : -2147483648 ≤ b) (b1 : b ≤ 2147483647) (n0 : 0 ≤ now) (n1 : now ≤ 1099511627776) (ho : b < a) (hpq : p ≤ q) (hm : now + a < 0) (hs : a + b = s) (w : World) (A0 : ∀ w, Calls Try.prog 13 #[.int .i64 now, .int .i64 0] w fun e w' => e = .returned (.int .i64 now) ∧ Kept w w') (A1 : ∀ w, Calls Try.prog 13 #[.int .i64 now, .int .i64 a] w fun e w' => e = .returned (.int .i64 u) ∧ Kept w w') (A2 : ∀ w, Calls Try.prog 13 #[.int .i64 u, .int .i64 b] w fun e w' => e = .returned (.int .i64 x) ∧ Kept w w') (A3 : ∀ w, Calls Try.prog 13 #[.int .i64 now, .int .i64 s] w fun e w' => e = .returned (.int .i64 y) ∧ Kept w w') (A4 : ∀ w, Calls Try.prog 13 #[.int .i64 now, .int .i64 b] w fun e w' => e = .returned (.int .i64 p) ∧ Kept w w') (A5 : ∀ w, Calls Try.prog 13 #[.int .i64 now, .int .i64 a] w fun e w' => e = .returned (.int .i64 q) ∧ Kept w w') (C2 : ∀ w, Calls Try.prog 11 #[.int .i64 x] w fun e w' => e = .returned (.bool true) ∧ Kept w w') (C3 : ∀ w, Calls Try.prog 11 #[.int .i64 now] w fun e w' => e = .returned (.bool true) ∧ Kept w w') :
    Calls Try.prog 6 #[.int .i64 now, .int .i32 a, .int .i32 b] w fun e w' => e = .returned (.bool true) ∧ Kept w w' := by
  have A0' := Lib.hid A0
  have A1' := Lib.hid A1
  have A2' := Lib.hid A2
  have A3' := Lib.hid A3
  have A4' := Lib.hid A4
  have A5' := Lib.hid A5
  have C2' := Lib.hid C2
  have C3' := Lib.hid C3
  clear A0 A1 A2 A3 A4 A5 C2 C3
  have HS := Lib.hid hs
  clear hs
  have f1 : min a b = b := by omega
  have f2 : max a b = a := by omega
  go_enter Try.func6, Try.ntmps6
  go_wp2_with fail
  refine (awake05 _).mono ?_
  rintro e w1 ⟨rfl, k1⟩
  go_wp2_with fail
  refine (A0'.out _).mono ?_
  rintro e w2 ⟨rfl, k2⟩
  go_wp2_with fail
  refine (A1'.out _).mono ?_
  rintro e w3 ⟨rfl, k3⟩
  go_wp2_with fail
  refine (A2'.out _).mono ?_
  rintro e w4 ⟨rfl, k4⟩
  go_upto_region 4 with fail
  have hs := HS.out
  go_wp2_with fail
  refine (A3'.out _).mono ?_
  rintro e w5 ⟨rfl, k5⟩
  clear hs
  go_wp2_with fail
  refine (C3'.out _).mono ?_
  rintro e w6 ⟨rfl, k6⟩
  go_wp2_with fail
  refine (C2'.out _).mono ?_
  rintro e w7 ⟨rfl, k7⟩
  go_wp2_with fail
  refine (A4'.out _).mono ?_
  rintro e w8 ⟨rfl, k8⟩
  go_wp2_with fail
  refine (A5'.out _).mono ?_
  rintro e w9 ⟨rfl, k9⟩
  go_wp2_with fail
  refine (C3'.out _).mono ?_
  rintro e w10 ⟨rfl, k10⟩
  go_wp2
  go_ret
  exact ⟨rfl, (by (repeat (first | with_reducible exact Kept.refl _ | with_reducible apply Kept.drew | with_reducible apply Kept.alloc | ((with_reducible apply Kept.set); focus (simp <;> omega)) | ((with_reducible apply Kept.via); focus with_reducible assumption))))⟩
set_option maxRecDepth 100000 in
set_option maxHeartbeats 1600000 in
theorem after_gt_neg_low (now a b u x y s p q : Int) (a0 : -2147483648 ≤ a) (a1 : a ≤ 2147483647) (b0 : -2147483648 ≤ b) (b1 : b ≤ 2147483647) (ho : b < a) (hpq : p ≤ q) (hm : a < 0) (hs : a + b = s) (w : World) (A0 : ∀ w, Calls Try.prog 13 #[.int .i64 now, .int .i64 0] w fun e w' => e = .returned (.int .i64 0) ∧ Kept w w') (A1 : ∀ w, Calls Try.prog 13 #[.int .i64 0, .int .i64 a] w fun e w' => e = .returned (.int .i64 u) ∧ Kept w w') (A2 : ∀ w, Calls Try.prog 13 #[.int .i64 u, .int .i64 b] w fun e w' => e = .returned (.int .i64 x) ∧ Kept w w') (A3 : ∀ w, Calls Try.prog 13 #[.int .i64 0, .int .i64 s] w fun e w' => e = .returned (.int .i64 y) ∧ Kept w w') (A4 : ∀ w, Calls Try.prog 13 #[.int .i64 0, .int .i64 b] w fun e w' => e = .returned (.int .i64 p) ∧ Kept w w') (A5 : ∀ w, Calls Try.prog 13 #[.int .i64 0, .int .i64 a] w fun e w' => e = .returned (.int .i64 q) ∧ Kept w w') (C1 : ∀ w, Calls Try.prog 11 #[.int .i64 0] w fun e w' => e = .returned (.bool true) ∧ Kept w w') (C2 : ∀ w, Calls Try.prog 11 #[.int .i64 x] w fun e w' => e = .returned (.bool true) ∧ Kept w w') (C3 : ∀ w, Calls Try.prog 11 #[.int .i64 now] w fun e w' => e = .returned (.bool false) ∧ Kept w w') :
    Calls Try.prog 6 #[.int .i64 now, .int .i32 a, .int .i32 b] w fun e w' => e = .returned (.bool true) ∧ Kept w w' := by
  have A0' := Lib.hid A0
  have A1' := Lib.hid A1
  have A2' := Lib.hid A2
  have A3' := Lib.hid A3
  have A4' := Lib.hid A4
  have A5' := Lib.hid A5
  have C1' := Lib.hid C1
  have C2' := Lib.hid C2
  have C3' := Lib.hid C3
  clear A0 A1 A2 A3 A4 A5 C1 C2 C3
  have HS := Lib.hid hs
  clear hs
  have f1 : min a b = b := by omega
  have f2 : max a b = a := by omega
  go_enter Try.func6, Try.ntmps6
  go_wp2_with fail
  refine (awake05 _).mono ?_
  rintro e w1 ⟨rfl, k1⟩
  go_wp2_with fail
  refine (A0'.out _).mono ?_
  rintro e w2 ⟨rfl, k2⟩
  go_wp2_with fail
  refine (A1'.out _).mono ?_
  rintro e w3 ⟨rfl, k3⟩
  go_wp2_with fail
  refine (A2'.out _).mono ?_
  rintro e w4 ⟨rfl, k4⟩
  go_upto_region 4 with fail
  have hs := HS.out
  go_wp2_with fail
  refine (A3'.out _).mono ?_
  rintro e w5 ⟨rfl, k5⟩
  clear hs
  go_wp2_with fail
  refine (C1'.out _).mono ?_
  rintro e w6 ⟨rfl, k6⟩
  go_wp2_with fail
  refine (C2'.out _).mono ?_
  rintro e w7 ⟨rfl, k7⟩
  go_wp2_with fail
  refine (A4'.out _).mono ?_
  rintro e w8 ⟨rfl, k8⟩
  go_wp2_with fail
  refine (A5'.out _).mono ?_
  rintro e w9 ⟨rfl, k9⟩
  go_wp2_with fail
  refine (C3'.out _).mono ?_
  rintro e w10 ⟨rfl, k10⟩
  go_wp2_with fail
  refine (C3'.out _).mono ?_
  rintro e w11 ⟨rfl, k11⟩
  go_wp2
  go_ret
  exact ⟨rfl, (by (repeat (first | with_reducible exact Kept.refl _ | with_reducible apply Kept.drew | with_reducible apply Kept.alloc | ((with_reducible apply Kept.set); focus (simp <;> omega)) | ((with_reducible apply Kept.via); focus with_reducible assumption))))⟩
set_option maxRecDepth 100000 in
set_option maxHeartbeats 1600000 in
theorem after_gt_big_yes (now a b u x y s p q : Int) (a0 : -2147483648 ≤ a) (a1 : a ≤ 2147483647) (b0 : -2147483648 ≤ b) (b1 : b ≤ 2147483647) (n0 : 0 ≤ now) (n1 : now ≤ 1099511627776) (ho : b < a) (hpq : p ≤ q) (hm : 1099511627776 < now + a) (hs : a + b = s) (w : World) (A0 : ∀ w, Calls Try.prog 13 #[.int .i64 now, .int .i64 0] w fun e w' => e = .returned (.int .i64 now) ∧ Kept w w') (A1 : ∀ w, Calls Try.prog 13 #[.int .i64 now, .int .i64 a] w fun e w' => e = .returned (.int .i64 u) ∧ Kept w w') (A2 : ∀ w, Calls Try.prog 13 #[.int .i64 u, .int .i64 b] w fun e w' => e = .returned (.int .i64 x) ∧ Kept w w') (A3 : ∀ w, Calls Try.prog 13 #[.int .i64 now, .int .i64 s] w fun e w' => e = .returned (.int .i64 y) ∧ Kept w w') (A4 : ∀ w, Calls Try.prog 13 #[.int .i64 now, .int .i64 b] w fun e w' => e = .returned (.int .i64 p) ∧ Kept w w') (A5 : ∀ w, Calls Try.prog 13 #[.int .i64 now, .int .i64 a] w fun e w' => e = .returned (.int .i64 q) ∧ Kept w w') (C2 : ∀ w, Calls Try.prog 11 #[.int .i64 x] w fun e w' => e = .returned (.bool true) ∧ Kept w w') (C3 : ∀ w, Calls Try.prog 11 #[.int .i64 now] w fun e w' => e = .returned (.bool true) ∧ Kept w w') :
    Calls Try.prog 6 #[.int .i64 now, .int .i32 a, .int .i32 b] w fun e w' => e = .returned (.bool true) ∧ Kept w w' := by
  have A0' := Lib.hid A0
  have A1' := Lib.hid A1
  have A2' := Lib.hid A2
  have A3' := Lib.hid A3
  have A4' := Lib.hid A4
  have A5' := Lib.hid A5
  have C2' := Lib.hid C2
  have C3' := Lib.hid C3
  clear A0 A1 A2 A3 A4 A5 C2 C3
  have HS := Lib.hid hs
  clear hs
  have f1 : min a b = b := by omega
  have f2 : max a b = a := by omega
  go_enter Try.func6, Try.ntmps6
  go_wp2_with fail
  refine (awake05 _).mono ?_
  rintro e w1 ⟨rfl, k1⟩
  go_wp2_with fail
  refine (A0'.out _).mono ?_
  rintro e w2 ⟨rfl, k2⟩
  go_wp2_with fail
  refine (A1'.out _).mono ?_
  rintro e w3 ⟨rfl, k3⟩
  go_wp2_with fail
  refine (A2'.out _).mono ?_
  rintro e w4 ⟨rfl, k4⟩
  go_upto_region 4 with fail
  have hs := HS.out
  go_wp2_with fail
  refine (A3'.out _).mono ?_
  rintro e w5 ⟨rfl, k5⟩
  clear hs
  go_wp2_with fail
  refine (C3'.out _).mono ?_
  rintro e w6 ⟨rfl, k6⟩
  go_wp2_with fail
  refine (C2'.out _).mono ?_
  rintro e w7 ⟨rfl, k7⟩
  go_wp2_with fail
  refine (A4'.out _).mono ?_
  rintro e w8 ⟨rfl, k8⟩
  go_wp2_with fail
  refine (A5'.out _).mono ?_
  rintro e w9 ⟨rfl, k9⟩
  go_wp2_with fail
  refine (C3'.out _).mono ?_
  rintro e w10 ⟨rfl, k10⟩
  go_wp2
  go_ret
  exact ⟨rfl, (by (repeat (first | with_reducible exact Kept.refl _ | with_reducible apply Kept.drew | with_reducible apply Kept.alloc | ((with_reducible apply Kept.set); focus (simp <;> omega)) | ((with_reducible apply Kept.via); focus with_reducible assumption))))⟩
set_option maxRecDepth 100000 in
set_option maxHeartbeats 1600000 in
theorem after_gt_big_high (now a b u x y s p q : Int) (a0 : -2147483648 ≤ a) (a1 : a ≤ 2147483647) (b0 : -2147483648 ≤ b) (b1 : b ≤ 2147483647) (ho : b < a) (hpq : p ≤ q) (hm : 1099511627776 < 1099511627776 + a) (hs : a + b = s) (w : World) (A0 : ∀ w, Calls Try.prog 13 #[.int .i64 now, .int .i64 0] w fun e w' => e = .returned (.int .i64 1099511627776) ∧ Kept w w') (A1 : ∀ w, Calls Try.prog 13 #[.int .i64 1099511627776, .int .i64 a] w fun e w' => e = .returned (.int .i64 u) ∧ Kept w w') (A2 : ∀ w, Calls Try.prog 13 #[.int .i64 u, .int .i64 b] w fun e w' => e = .returned (.int .i64 x) ∧ Kept w w') (A3 : ∀ w, Calls Try.prog 13 #[.int .i64 1099511627776, .int .i64 s] w fun e w' => e = .returned (.int .i64 y) ∧ Kept w w') (A4 : ∀ w, Calls Try.prog 13 #[.int .i64 1099511627776, .int .i64 b] w fun e w' => e = .returned (.int .i64 p) ∧ Kept w w') (A5 : ∀ w, Calls Try.prog 13 #[.int .i64 1099511627776, .int .i64 a] w fun e w' => e = .returned (.int .i64 q) ∧ Kept w w') (C1 : ∀ w, Calls Try.prog 11 #[.int .i64 1099511627776] w fun e w' => e = .returned (.bool true) ∧ Kept w w') (C2 : ∀ w, Calls Try.prog 11 #[.int .i64 x] w fun e w' => e = .returned (.bool true) ∧ Kept w w') (C3 : ∀ w, Calls Try.prog 11 #[.int .i64 now] w fun e w' => e = .returned (.bool false) ∧ Kept w w') :
    Calls Try.prog 6 #[.int .i64 now, .int .i32 a, .int .i32 b] w fun e w' => e = .returned (.bool true) ∧ Kept w w' := by
  have A0' := Lib.hid A0
  have A1' := Lib.hid A1
  have A2' := Lib.hid A2
  have A3' := Lib.hid A3
  have A4' := Lib.hid A4
  have A5' := Lib.hid A5
  have C1' := Lib.hid C1
  have C2' := Lib.hid C2
  have C3' := Lib.hid C3
  clear A0 A1 A2 A3 A4 A5 C1 C2 C3
  have HS := Lib.hid hs
  clear hs
  have f1 : min a b = b := by omega
  have f2 : max a b = a := by omega
  go_enter Try.func6, Try.ntmps6
  go_wp2_with fail
  refine (awake05 _).mono ?_
  rintro e w1 ⟨rfl, k1⟩
  go_wp2_with fail
  refine (A0'.out _).mono ?_
  rintro e w2 ⟨rfl, k2⟩
  go_wp2_with fail
  refine (A1'.out _).mono ?_
  rintro e w3 ⟨rfl, k3⟩
  go_wp2_with fail
  refine (A2'.out _).mono ?_
  rintro e w4 ⟨rfl, k4⟩
  go_upto_region 4 with fail
  have hs := HS.out
  go_wp2_with fail
  refine (A3'.out _).mono ?_
  rintro e w5 ⟨rfl, k5⟩
  clear hs
  go_wp2_with fail
  refine (C1'.out _).mono ?_
  rintro e w6 ⟨rfl, k6⟩
  go_wp2_with fail
  refine (C2'.out _).mono ?_
  rintro e w7 ⟨rfl, k7⟩
  go_wp2_with fail
  refine (A4'.out _).mono ?_
  rintro e w8 ⟨rfl, k8⟩
  go_wp2_with fail
  refine (A5'.out _).mono ?_
  rintro e w9 ⟨rfl, k9⟩
  go_wp2_with fail
  refine (C3'.out _).mono ?_
  rintro e w10 ⟨rfl, k10⟩
  go_wp2_with fail
  refine (C3'.out _).mono ?_
  rintro e w11 ⟨rfl, k11⟩
  go_wp2
  go_ret
  exact ⟨rfl, (by (repeat (first | with_reducible exact Kept.refl _ | with_reducible apply Kept.drew | with_reducible apply Kept.alloc | ((with_reducible apply Kept.set); focus (simp <;> omega)) | ((with_reducible apply Kept.via); focus with_reducible assumption))))⟩
set_option maxRecDepth 100000 in
set_option maxHeartbeats 1600000 in
theorem after_gt_in_yes (now a b u x s p q : Int) (a0 : -2147483648 ≤ a) (a1 : a ≤ 2147483647) (b0 : -2147483648 ≤ b) (b1 : b ≤ 2147483647) (ho : b < a) (hpq : p ≤ q) (hm0 : 0 ≤ now + a) (hm1 : now + a ≤ 1099511627776) (hs : a + b = s) (w : World) (A0 : ∀ w, Calls Try.prog 13 #[.int .i64 now, .int .i64 0] w fun e w' => e = .returned (.int .i64 now) ∧ Kept w w') (A1 : ∀ w, Calls Try.prog 13 #[.int .i64 now, .int .i64 a] w fun e w' => e = .returned (.int .i64 u) ∧ Kept w w') (A2 : ∀ w, Calls Try.prog 13 #[.int .i64 u, .int .i64 b] w fun e w' => e = .returned (.int .i64 x) ∧ Kept w w') (A3 : ∀ w, Calls Try.prog 13 #[.int .i64 now, .int .i64 s] w fun e w' => e = .returned (.int .i64 x) ∧ Kept w w') (A4 : ∀ w, Calls Try.prog 13 #[.int .i64 now, .int .i64 b] w fun e w' => e = .returned (.int .i64 p) ∧ Kept w w') (A5 : ∀ w, Calls Try.prog 13 #[.int .i64 now, .int .i64 a] w fun e w' => e = .returned (.int .i64 q) ∧ Kept w w') (C2 : ∀ w, Calls Try.prog 11 #[.int .i64 x] w fun e w' => e = .returned (.bool true) ∧ Kept w w') (C3 : ∀ w, Calls Try.prog 11 #[.int .i64 now] w fun e w' => e = .returned (.bool true) ∧ Kept w w') :
    Calls Try.prog 6 #[.int .i64 now, .int .i32 a, .int .i32 b] w fun e w' => e = .returned (.bool true) ∧ Kept w w' := by
  have A0' := Lib.hid A0
  have A1' := Lib.hid A1
  have A2' := Lib.hid A2
  have A3' := Lib.hid A3
  have A4' := Lib.hid A4
  have A5' := Lib.hid A5
  have C2' := Lib.hid C2
  have C3' := Lib.hid C3
  clear A0 A1 A2 A3 A4 A5 C2 C3
  have HS := Lib.hid hs
  clear hs
  have f1 : min a b = b := by omega
  have f2 : max a b = a := by omega
  go_enter Try.func6, Try.ntmps6
  go_wp2_with fail
  refine (awake05 _).mono ?_
  rintro e w1 ⟨rfl, k1⟩
  go_wp2_with fail
  refine (A0'.out _).mono ?_
  rintro e w2 ⟨rfl, k2⟩
  go_wp2_with fail
  refine (A1'.out _).mono ?_
  rintro e w3 ⟨rfl, k3⟩
  go_wp2_with fail
  refine (A2'.out _).mono ?_
  rintro e w4 ⟨rfl, k4⟩
  go_upto_region 4 with fail
  have hs := HS.out
  go_wp2_with fail
  refine (A3'.out _).mono ?_
  rintro e w5 ⟨rfl, k5⟩
  clear hs
  go_wp2_with fail
  refine (C3'.out _).mono ?_
  rintro e w6 ⟨rfl, k6⟩
  go_wp2_with fail
  refine (C2'.out _).mono ?_
  rintro e w7 ⟨rfl, k7⟩
  go_wp2_with fail
  refine (A4'.out _).mono ?_
  rintro e w8 ⟨rfl, k8⟩
  go_wp2_with fail
  refine (A5'.out _).mono ?_
  rintro e w9 ⟨rfl, k9⟩
  go_wp2_with fail
  refine (C3'.out _).mono ?_
  rintro e w10 ⟨rfl, k10⟩
  go_wp2
  go_ret
  exact ⟨rfl, (by (repeat (first | with_reducible exact Kept.refl _ | with_reducible apply Kept.drew | with_reducible apply Kept.alloc | ((with_reducible apply Kept.set); focus (simp <;> omega)) | ((with_reducible apply Kept.via); focus with_reducible assumption))))⟩
set_option maxRecDepth 100000 in
set_option maxHeartbeats 1600000 in
theorem after_gt_in_low (now a b u x s p q : Int) (a0 : -2147483648 ≤ a) (a1 : a ≤ 2147483647) (b0 : -2147483648 ≤ b) (b1 : b ≤ 2147483647) (ho : b < a) (hpq : p ≤ q) (hm0 : 0 ≤ a) (hm1 : a ≤ 1099511627776) (hs : a + b = s) (w : World) (A0 : ∀ w, Calls Try.prog 13 #[.int .i64 now, .int .i64 0] w fun e w' => e = .returned (.int .i64 0) ∧ Kept w w') (A1 : ∀ w, Calls Try.prog 13 #[.int .i64 0, .int .i64 a] w fun e w' => e = .returned (.int .i64 u) ∧ Kept w w') (A2 : ∀ w, Calls Try.prog 13 #[.int .i64 u, .int .i64 b] w fun e w' => e = .returned (.int .i64 x) ∧ Kept w w') (A3 : ∀ w, Calls Try.prog 13 #[.int .i64 0, .int .i64 s] w fun e w' => e = .returned (.int .i64 x) ∧ Kept w w') (A4 : ∀ w, Calls Try.prog 13 #[.int .i64 0, .int .i64 b] w fun e w' => e = .returned (.int .i64 p) ∧ Kept w w') (A5 : ∀ w, Calls Try.prog 13 #[.int .i64 0, .int .i64 a] w fun e w' => e = .returned (.int .i64 q) ∧ Kept w w') (C1 : ∀ w, Calls Try.prog 11 #[.int .i64 0] w fun e w' => e = .returned (.bool true) ∧ Kept w w') (C2 : ∀ w, Calls Try.prog 11 #[.int .i64 x] w fun e w' => e = .returned (.bool true) ∧ Kept w w') (C3 : ∀ w, Calls Try.prog 11 #[.int .i64 now] w fun e w' => e = .returned (.bool false) ∧ Kept w w') :
    Calls Try.prog 6 #[.int .i64 now, .int .i32 a, .int .i32 b] w fun e w' => e = .returned (.bool true) ∧ Kept w w' := by
  have A0' := Lib.hid A0
  have A1' := Lib.hid A1
  have A2' := Lib.hid A2
  have A3' := Lib.hid A3
  have A4' := Lib.hid A4
  have A5' := Lib.hid A5
  have C1' := Lib.hid C1
  have C2' := Lib.hid C2
  have C3' := Lib.hid C3
  clear A0 A1 A2 A3 A4 A5 C1 C2 C3
  have HS := Lib.hid hs
  clear hs
  have f1 : min a b = b := by omega
  have f2 : max a b = a := by omega
  go_enter Try.func6, Try.ntmps6
  go_wp2_with fail
  refine (awake05 _).mono ?_
  rintro e w1 ⟨rfl, k1⟩
  go_wp2_with fail
  refine (A0'.out _).mono ?_
  rintro e w2 ⟨rfl, k2⟩
  go_wp2_with fail
  refine (A1'.out _).mono ?_
  rintro e w3 ⟨rfl, k3⟩
  go_wp2_with fail
  refine (A2'.out _).mono ?_
  rintro e w4 ⟨rfl, k4⟩
  go_upto_region 4 with fail
  have hs := HS.out
  go_wp2_with fail
  refine (A3'.out _).mono ?_
  rintro e w5 ⟨rfl, k5⟩
  clear hs
  go_wp2_with fail
  refine (C1'.out _).mono ?_
  rintro e w6 ⟨rfl, k6⟩
  go_wp2_with fail
  refine (C2'.out _).mono ?_
  rintro e w7 ⟨rfl, k7⟩
  go_wp2_with fail
  refine (A4'.out _).mono ?_
  rintro e w8 ⟨rfl, k8⟩
  go_wp2_with fail
  refine (A5'.out _).mono ?_
  rintro e w9 ⟨rfl, k9⟩
  go_wp2_with fail
  refine (C3'.out _).mono ?_
  rintro e w10 ⟨rfl, k10⟩
  go_wp2_with fail
  refine (C3'.out _).mono ?_
  rintro e w11 ⟨rfl, k11⟩
  go_wp2
  go_ret
  exact ⟨rfl, (by (repeat (first | with_reducible exact Kept.refl _ | with_reducible apply Kept.drew | with_reducible apply Kept.alloc | ((with_reducible apply Kept.set); focus (simp <;> omega)) | ((with_reducible apply Kept.via); focus with_reducible assumption))))⟩
set_option maxRecDepth 100000 in
set_option maxHeartbeats 1600000 in
theorem after_gt_in_high (now a b u x s p q : Int) (a0 : -2147483648 ≤ a) (a1 : a ≤ 2147483647) (b0 : -2147483648 ≤ b) (b1 : b ≤ 2147483647) (ho : b < a) (hpq : p ≤ q) (hm0 : 0 ≤ 1099511627776 + a) (hm1 : 1099511627776 + a ≤ 1099511627776) (hs : a + b = s) (w : World) (A0 : ∀ w, Calls Try.prog 13 #[.int .i64 now, .int .i64 0] w fun e w' => e = .returned (.int .i64 1099511627776) ∧ Kept w w') (A1 : ∀ w, Calls Try.prog 13 #[.int .i64 1099511627776, .int .i64 a] w fun e w' => e = .returned (.int .i64 u) ∧ Kept w w') (A2 : ∀ w, Calls Try.prog 13 #[.int .i64 u, .int .i64 b] w fun e w' => e = .returned (.int .i64 x) ∧ Kept w w') (A3 : ∀ w, Calls Try.prog 13 #[.int .i64 1099511627776, .int .i64 s] w fun e w' => e = .returned (.int .i64 x) ∧ Kept w w') (A4 : ∀ w, Calls Try.prog 13 #[.int .i64 1099511627776, .int .i64 b] w fun e w' => e = .returned (.int .i64 p) ∧ Kept w w') (A5 : ∀ w, Calls Try.prog 13 #[.int .i64 1099511627776, .int .i64 a] w fun e w' => e = .returned (.int .i64 q) ∧ Kept w w') (C1 : ∀ w, Calls Try.prog 11 #[.int .i64 1099511627776] w fun e w' => e = .returned (.bool true) ∧ Kept w w') (C2 : ∀ w, Calls Try.prog 11 #[.int .i64 x] w fun e w' => e = .returned (.bool true) ∧ Kept w w') (C3 : ∀ w, Calls Try.prog 11 #[.int .i64 now] w fun e w' => e = .returned (.bool false) ∧ Kept w w') :
    Calls Try.prog 6 #[.int .i64 now, .int .i32 a, .int .i32 b] w fun e w' => e = .returned (.bool true) ∧ Kept w w' := by
  have A0' := Lib.hid A0
  have A1' := Lib.hid A1
  have A2' := Lib.hid A2
  have A3' := Lib.hid A3
  have A4' := Lib.hid A4
  have A5' := Lib.hid A5
  have C1' := Lib.hid C1
  have C2' := Lib.hid C2
  have C3' := Lib.hid C3
  clear A0 A1 A2 A3 A4 A5 C1 C2 C3
  have HS := Lib.hid hs
  clear hs
  have f1 : min a b = b := by omega
  have f2 : max a b = a := by omega
  go_enter Try.func6, Try.ntmps6
  go_wp2_with fail
  refine (awake05 _).mono ?_
  rintro e w1 ⟨rfl, k1⟩
  go_wp2_with fail
  refine (A0'.out _).mono ?_
  rintro e w2 ⟨rfl, k2⟩
  go_wp2_with fail
  refine (A1'.out _).mono ?_
  rintro e w3 ⟨rfl, k3⟩
  go_wp2_with fail
  refine (A2'.out _).mono ?_
  rintro e w4 ⟨rfl, k4⟩
  go_upto_region 4 with fail
  have hs := HS.out
  go_wp2_with fail
  refine (A3'.out _).mono ?_
  rintro e w5 ⟨rfl, k5⟩
  clear hs
  go_wp2_with fail
  refine (C1'.out _).mono ?_
  rintro e w6 ⟨rfl, k6⟩
  go_wp2_with fail
  refine (C2'.out _).mono ?_
  rintro e w7 ⟨rfl, k7⟩
  go_wp2_with fail
  refine (A4'.out _).mono ?_
  rintro e w8 ⟨rfl, k8⟩
  go_wp2_with fail
  refine (A5'.out _).mono ?_
  rintro e w9 ⟨rfl, k9⟩
  go_wp2_with fail
  refine (C3'.out _).mono ?_
  rintro e w10 ⟨rfl, k10⟩
  go_wp2_with fail
  refine (C3'.out _).mono ?_
  rintro e w11 ⟨rfl, k11⟩
  go_wp2
  go_ret
  exact ⟨rfl, (by (repeat (first | with_reducible exact Kept.refl _ | with_reducible apply Kept.drew | with_reducible apply Kept.alloc | ((with_reducible apply Kept.set); focus (simp <;> omega)) | ((with_reducible apply Kept.via); focus with_reducible assumption))))⟩
theorem heldTime_is (n : Int) : IsTime (heldTime n) := by
  unfold heldTime IsTime; repeat' split
  all_goals omega
theorem heldTime_of {n : Int} (h : IsTime n) : heldTime n = n := by unfold IsTime at h; unfold heldTime; rw [if_neg (by omega), if_neg (by omega)]
theorem heldTime_mono {m n : Int} (h : m ≤ n) : heldTime m ≤ heldTime n := by
  unfold heldTime; repeat' split
  all_goals omega
theorem time_in {n : Int} (h : IsTime n) : In64 n := by unfold IsTime at h; unfold In64; omega
theorem clockAfter_walk (now a b : Int) (w : World) (hn : In64 now) (ha : -2147483648 ≤ a ∧ a ≤ 2147483647) (hb : -2147483648 ≤ b ∧ b ≤ 2147483647) : Calls Try.prog 6 #[.int .i64 now, .int .i32 a, .int .i32 b] w fun e w' => e = .returned (.bool true) ∧ Kept w w' := by
  have ia : In64 a := by unfold In64; omega
  have ib : In64 b := by unfold In64; omega
  by_cases ht : IsTime now
  · have ht2 := ht
    unfold IsTime at ht2
    rcases Int.lt_trichotomy a b with ho | ho | ho
    · by_cases h1 : now + a < 0
      · exact after_lt_neg_yes now a b _ _ _ _ _ _ ha.1 ha.2 hb.1 hb.2 ht.1 ht.2 (by omega) (heldTime_mono (show now + a ≤ now + b by omega)) (by omega) rfl w (After_ok hn (by unfold In64; omega) (by rw [Int.add_zero]; exact heldTime_of ht)) (After_ok (time_in ht) ia rfl) (After_ok (time_in (heldTime_is _)) ib rfl) (After_ok (time_in ht) (by unfold In64; omega) rfl) (After_ok (time_in ht) ia rfl) (After_ok (time_in ht) ib rfl) (check_yes (heldTime_is _)) (check_yes ht)
      · by_cases h2 : 1099511627776 < now + a
        · exact after_lt_big_yes now a b _ _ _ _ _ _ ha.1 ha.2 hb.1 hb.2 ht.1 ht.2 (by omega) (heldTime_mono (show now + a ≤ now + b by omega)) (by omega) rfl w (After_ok hn (by unfold In64; omega) (by rw [Int.add_zero]; exact heldTime_of ht)) (After_ok (time_in ht) ia rfl) (After_ok (time_in (heldTime_is _)) ib rfl) (After_ok (time_in ht) (by unfold In64; omega) rfl) (After_ok (time_in ht) ia rfl) (After_ok (time_in ht) ib rfl) (check_yes (heldTime_is _)) (check_yes ht)
        · exact after_lt_in_yes now a b _ _ _ _ _ ha.1 ha.2 hb.1 hb.2 (by omega) (heldTime_mono (show now + a ≤ now + b by omega)) (by omega) (by omega) rfl w (After_ok hn (by unfold In64; omega) (by rw [Int.add_zero]; exact heldTime_of ht)) (After_ok (time_in ht) ia rfl) (After_ok (time_in (heldTime_is _)) ib rfl) (After_ok (time_in ht) (by unfold In64; omega) (by rw [heldTime_of (n := now + a) (by unfold IsTime; omega), Int.add_assoc])) (After_ok (time_in ht) ia rfl) (After_ok (time_in ht) ib rfl) (check_yes (heldTime_is _)) (check_yes ht)
    · subst ho
      by_cases h1 : now + a < 0
      · exact after_eq_neg_yes now a _ _ _ _ _ ha.1 ha.2 ht.1 ht.2 (by omega) rfl w (After_ok hn (by unfold In64; omega) (by rw [Int.add_zero]; exact heldTime_of ht)) (After_ok (time_in ht) ia rfl) (After_ok (time_in (heldTime_is _)) ia rfl) (After_ok (time_in ht) (by unfold In64; omega) rfl) (After_ok (time_in ht) ia rfl) (check_yes (heldTime_is _)) (check_yes ht)
      · by_cases h2 : 1099511627776 < now + a
        · exact after_eq_big_yes now a _ _ _ _ _ ha.1 ha.2 ht.1 ht.2 (by omega) rfl w (After_ok hn (by unfold In64; omega) (by rw [Int.add_zero]; exact heldTime_of ht)) (After_ok (time_in ht) ia rfl) (After_ok (time_in (heldTime_is _)) ia rfl) (After_ok (time_in ht) (by unfold In64; omega) rfl) (After_ok (time_in ht) ia rfl) (check_yes (heldTime_is _)) (check_yes ht)
        · exact after_eq_in_yes now a _ _ _ _ ha.1 ha.2 (by omega) (by omega) rfl w (After_ok hn (by unfold In64; omega) (by rw [Int.add_zero]; exact heldTime_of ht)) (After_ok (time_in ht) ia rfl) (After_ok (time_in (heldTime_is _)) ia rfl) (After_ok (time_in ht) (by unfold In64; omega) (by rw [heldTime_of (n := now + a) (by unfold IsTime; omega), Int.add_assoc])) (After_ok (time_in ht) ia rfl) (check_yes (heldTime_is _)) (check_yes ht)
    · by_cases h1 : now + a < 0
      · exact after_gt_neg_yes now a b _ _ _ _ _ _ ha.1 ha.2 hb.1 hb.2 ht.1 ht.2 (by omega) (heldTime_mono (show now + b ≤ now + a by omega)) (by omega) rfl w (After_ok hn (by unfold In64; omega) (by rw [Int.add_zero]; exact heldTime_of ht)) (After_ok (time_in ht) ia rfl) (After_ok (time_in (heldTime_is _)) ib rfl) (After_ok (time_in ht) (by unfold In64; omega) rfl) (After_ok (time_in ht) ib rfl) (After_ok (time_in ht) ia rfl) (check_yes (heldTime_is _)) (check_yes ht)
      · by_cases h2 : 1099511627776 < now + a
        · exact after_gt_big_yes now a b _ _ _ _ _ _ ha.1 ha.2 hb.1 hb.2 ht.1 ht.2 (by omega) (heldTime_mono (show now + b ≤ now + a by omega)) (by omega) rfl w (After_ok hn (by unfold In64; omega) (by rw [Int.add_zero]; exact heldTime_of ht)) (After_ok (time_in ht) ia rfl) (After_ok (time_in (heldTime_is _)) ib rfl) (After_ok (time_in ht) (by unfold In64; omega) rfl) (After_ok (time_in ht) ib rfl) (After_ok (time_in ht) ia rfl) (check_yes (heldTime_is _)) (check_yes ht)
        · exact after_gt_in_yes now a b _ _ _ _ _ ha.1 ha.2 hb.1 hb.2 (by omega) (heldTime_mono (show now + b ≤ now + a by omega)) (by omega) (by omega) rfl w (After_ok hn (by unfold In64; omega) (by rw [Int.add_zero]; exact heldTime_of ht)) (After_ok (time_in ht) ia rfl) (After_ok (time_in (heldTime_is _)) ib rfl) (After_ok (time_in ht) (by unfold In64; omega) (by rw [heldTime_of (n := now + a) (by unfold IsTime; omega), Int.add_assoc])) (After_ok (time_in ht) ib rfl) (After_ok (time_in ht) ia rfl) (check_yes (heldTime_is _)) (check_yes ht)
  · have ht2 := ht
    unfold IsTime at ht2
    by_cases hl : now < 0
    · rcases Int.lt_trichotomy a b with ho | ho | ho
      · by_cases h1 : a < 0
        · exact after_lt_neg_low now a b _ _ _ _ _ _ ha.1 ha.2 hb.1 hb.2 (by omega) (heldTime_mono (show 0 + a ≤ 0 + b by omega)) (by omega) rfl w (After_ok hn (by unfold In64; omega) (by unfold heldTime; rw [if_pos (by omega)])) (After_ok (by unfold In64; omega) ia rfl) (After_ok (time_in (heldTime_is _)) ib rfl) (After_ok (by unfold In64; omega) (by unfold In64; omega) rfl) (After_ok (by unfold In64; omega) ia rfl) (After_ok (by unfold In64; omega) ib rfl) (check_yes (by unfold IsTime; omega)) (check_yes (heldTime_is _)) (check_no ht)
        · exact after_lt_in_low now a b _ _ _ _ _ ha.1 ha.2 hb.1 hb.2 (by omega) (heldTime_mono (show 0 + a ≤ 0 + b by omega)) (by omega) (by omega) rfl w (After_ok hn (by unfold In64; omega) (by unfold heldTime; rw [if_pos (by omega)])) (After_ok (by unfold In64; omega) ia rfl) (After_ok (time_in (heldTime_is _)) ib rfl) (After_ok (by unfold In64; omega) (by unfold In64; omega) (by rw [heldTime_of (n := 0 + a) (by unfold IsTime; omega), Int.add_assoc])) (After_ok (by unfold In64; omega) ia rfl) (After_ok (by unfold In64; omega) ib rfl) (check_yes (by unfold IsTime; omega)) (check_yes (heldTime_is _)) (check_no ht)
      · subst ho
        by_cases h1 : a < 0
        · exact after_eq_neg_low now a _ _ _ _ _ ha.1 ha.2 (by omega) rfl w (After_ok hn (by unfold In64; omega) (by unfold heldTime; rw [if_pos (by omega)])) (After_ok (by unfold In64; omega) ia rfl) (After_ok (time_in (heldTime_is _)) ia rfl) (After_ok (by unfold In64; omega) (by unfold In64; omega) rfl) (After_ok (by unfold In64; omega) ia rfl) (check_yes (by unfold IsTime; omega)) (check_yes (heldTime_is _)) (check_no ht)
        · exact after_eq_in_low now a _ _ _ _ ha.1 ha.2 (by omega) (by omega) rfl w (After_ok hn (by unfold In64; omega) (by unfold heldTime; rw [if_pos (by omega)])) (After_ok (by unfold In64; omega) ia rfl) (After_ok (time_in (heldTime_is _)) ia rfl) (After_ok (by unfold In64; omega) (by unfold In64; omega) (by rw [heldTime_of (n := 0 + a) (by unfold IsTime; omega), Int.add_assoc])) (After_ok (by unfold In64; omega) ia rfl) (check_yes (by unfold IsTime; omega)) (check_yes (heldTime_is _)) (check_no ht)
      · by_cases h1 : a < 0
        · exact after_gt_neg_low now a b _ _ _ _ _ _ ha.1 ha.2 hb.1 hb.2 (by omega) (heldTime_mono (show 0 + b ≤ 0 + a by omega)) (by omega) rfl w (After_ok hn (by unfold In64; omega) (by unfold heldTime; rw [if_pos (by omega)])) (After_ok (by unfold In64; omega) ia rfl) (After_ok (time_in (heldTime_is _)) ib rfl) (After_ok (by unfold In64; omega) (by unfold In64; omega) rfl) (After_ok (by unfold In64; omega) ib rfl) (After_ok (by unfold In64; omega) ia rfl) (check_yes (by unfold IsTime; omega)) (check_yes (heldTime_is _)) (check_no ht)
        · exact after_gt_in_low now a b _ _ _ _ _ ha.1 ha.2 hb.1 hb.2 (by omega) (heldTime_mono (show 0 + b ≤ 0 + a by omega)) (by omega) (by omega) rfl w (After_ok hn (by unfold In64; omega) (by unfold heldTime; rw [if_pos (by omega)])) (After_ok (by unfold In64; omega) ia rfl) (After_ok (time_in (heldTime_is _)) ib rfl) (After_ok (by unfold In64; omega) (by unfold In64; omega) (by rw [heldTime_of (n := 0 + a) (by unfold IsTime; omega), Int.add_assoc])) (After_ok (by unfold In64; omega) ib rfl) (After_ok (by unfold In64; omega) ia rfl) (check_yes (by unfold IsTime; omega)) (check_yes (heldTime_is _)) (check_no ht)
    · rcases Int.lt_trichotomy a b with ho | ho | ho
      · by_cases h1 : 1099511627776 < 1099511627776 + a
        · exact after_lt_big_high now a b _ _ _ _ _ _ ha.1 ha.2 hb.1 hb.2 (by omega) (heldTime_mono (show 1099511627776 + a ≤ 1099511627776 + b by omega)) (by omega) rfl w (After_ok hn (by unfold In64; omega) (by unfold heldTime; rw [if_neg (by omega), if_pos (by omega)])) (After_ok (by unfold In64; omega) ia rfl) (After_ok (time_in (heldTime_is _)) ib rfl) (After_ok (by unfold In64; omega) (by unfold In64; omega) rfl) (After_ok (by unfold In64; omega) ia rfl) (After_ok (by unfold In64; omega) ib rfl) (check_yes (by unfold IsTime; omega)) (check_yes (heldTime_is _)) (check_no ht)
        · exact after_lt_in_high now a b _ _ _ _ _ ha.1 ha.2 hb.1 hb.2 (by omega) (heldTime_mono (show 1099511627776 + a ≤ 1099511627776 + b by omega)) (by omega) (by omega) rfl w (After_ok hn (by unfold In64; omega) (by unfold heldTime; rw [if_neg (by omega), if_pos (by omega)])) (After_ok (by unfold In64; omega) ia rfl) (After_ok (time_in (heldTime_is _)) ib rfl) (After_ok (by unfold In64; omega) (by unfold In64; omega) (by rw [heldTime_of (n := 1099511627776 + a) (by unfold IsTime; omega), Int.add_assoc])) (After_ok (by unfold In64; omega) ia rfl) (After_ok (by unfold In64; omega) ib rfl) (check_yes (by unfold IsTime; omega)) (check_yes (heldTime_is _)) (check_no ht)
      · subst ho
        by_cases h1 : 1099511627776 < 1099511627776 + a
        · exact after_eq_big_high now a _ _ _ _ _ ha.1 ha.2 (by omega) rfl w (After_ok hn (by unfold In64; omega) (by unfold heldTime; rw [if_neg (by omega), if_pos (by omega)])) (After_ok (by unfold In64; omega) ia rfl) (After_ok (time_in (heldTime_is _)) ia rfl) (After_ok (by unfold In64; omega) (by unfold In64; omega) rfl) (After_ok (by unfold In64; omega) ia rfl) (check_yes (by unfold IsTime; omega)) (check_yes (heldTime_is _)) (check_no ht)
        · exact after_eq_in_high now a _ _ _ _ ha.1 ha.2 (by omega) (by omega) rfl w (After_ok hn (by unfold In64; omega) (by unfold heldTime; rw [if_neg (by omega), if_pos (by omega)])) (After_ok (by unfold In64; omega) ia rfl) (After_ok (time_in (heldTime_is _)) ia rfl) (After_ok (by unfold In64; omega) (by unfold In64; omega) (by rw [heldTime_of (n := 1099511627776 + a) (by unfold IsTime; omega), Int.add_assoc])) (After_ok (by unfold In64; omega) ia rfl) (check_yes (by unfold IsTime; omega)) (check_yes (heldTime_is _)) (check_no ht)
      · by_cases h1 : 1099511627776 < 1099511627776 + a
        · exact after_gt_big_high now a b _ _ _ _ _ _ ha.1 ha.2 hb.1 hb.2 (by omega) (heldTime_mono (show 1099511627776 + b ≤ 1099511627776 + a by omega)) (by omega) rfl w (After_ok hn (by unfold In64; omega) (by unfold heldTime; rw [if_neg (by omega), if_pos (by omega)])) (After_ok (by unfold In64; omega) ia rfl) (After_ok (time_in (heldTime_is _)) ib rfl) (After_ok (by unfold In64; omega) (by unfold In64; omega) rfl) (After_ok (by unfold In64; omega) ib rfl) (After_ok (by unfold In64; omega) ia rfl) (check_yes (by unfold IsTime; omega)) (check_yes (heldTime_is _)) (check_no ht)
        · exact after_gt_in_high now a b _ _ _ _ _ ha.1 ha.2 hb.1 hb.2 (by omega) (heldTime_mono (show 1099511627776 + b ≤ 1099511627776 + a by omega)) (by omega) (by omega) rfl w (After_ok hn (by unfold In64; omega) (by unfold heldTime; rw [if_neg (by omega), if_pos (by omega)])) (After_ok (by unfold In64; omega) ia rfl) (After_ok (time_in (heldTime_is _)) ib rfl) (After_ok (by unfold In64; omega) (by unfold In64; omega) (by rw [heldTime_of (n := 1099511627776 + a) (by unfold IsTime; omega), Int.add_assoc])) (After_ok (by unfold In64; omega) ib rfl) (After_ok (by unfold In64; omega) ia rfl) (check_yes (by unfold IsTime; omega)) (check_yes (heldTime_is _)) (check_no ht)
end Go.Proofs.Ytlhcnhljgelhoaa
