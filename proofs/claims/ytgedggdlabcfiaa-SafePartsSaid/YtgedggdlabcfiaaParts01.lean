/-
  SafeParts walks: the Go text returns true, whatever the numbers.
-/
import Derived.Test.YtgedggdlabcfiaaVars01
namespace Go.Proofs.Ytgedggdlabcfiaa
open Go.RowKit

set_option maxHeartbeats 1000000 in
set_option maxRecDepth 100000 in
theorem safeParts_1 (a b c x y z : Int) (w : World) (ha1 : -2147483648 ≤ a) (ha2 : a ≤ 2147483647) (hb1 : -2147483648 ≤ b) (hb2 : b ≤ 2147483647) (hc1 : -2147483648 ≤ c) (hc2 : c ≤ 2147483647) (hx : In64 x) (hy : In64 y) (hz : In64 z) (t1 r u1 u2 : Int) (T1 : Hid (heldAt (b + c) = t1)) (h1 : In64 t1) (R : Hid (heldAt (a * t1) = r)) (U1 : Hid (heldAt (a * b) = u1)) (U2 : Hid (heldAt (a * c) = u2)) (hu1 : In64 u1) (hu2 : In64 u2) (R2 : Hid (heldAt (u1 + u2) = r)) (hs : ¬ In64 (x + y)) (v2 e2 : Int) (Hv2 : Hid (overV (0 + z) = v2)) (He2 : Hid (overE (0 + z) = e2)) (v3 e3 : Int) (Hv3 : Hid (overV (y + z) = v3)) (He3 : Hid (overE (y + z) = e3)) (hv3 : In64 v3) (v4 e4 : Int) (Hv4 : Hid (overV (x + v3) = v4)) (He4 : Hid (overE (x + v3) = e4)) :
    Calls Try.prog 8 #[.int .i32 a, .int .i32 b, .int .i32 c, .int .i64 x, .int .i64 y, .int .i64 z] w fun e w' => e = .returned (.bool true) ∧ Kept w w' := by
  go_enter Try.func8, Try.ntmps8
  go_wp2_with fail
  refine (awake01 _).mono ?_
  rintro e w1 ⟨rfl, k1⟩
  go_wp2_with fail
  refine (Plus_no x y _ hx hy hs).mono ?_
  rintro e w2 ⟨rfl, rfl⟩
  go_wp2_with fail
  refine (Plus_var 0 z v2 e2 _ (by unfold In64; omega) hz Hv2.out He2.out).mono ?_
  rintro e w3 ⟨rfl, rfl⟩
  go_wp2_with fail
  refine (Plus_var y z v3 e3 _ hy hz Hv3.out He3.out).mono ?_
  rintro e w4 ⟨rfl, rfl⟩
  go_wp2_with fail
  refine (Plus_var x v3 v4 e4 _ hx hv3 Hv4.out He4.out).mono ?_
  rintro e w5 ⟨rfl, rfl⟩
  go_wp2_with fail
  refine (Add_lit b c t1 _ (by unfold In64; omega) (by unfold In64; omega) T1.out).mono ?_
  rintro e w6 ⟨rfl, k6⟩
  go_wp2_with fail
  refine (Mul_lit a t1 r _ (by unfold In64; omega) h1 R.out).mono ?_
  rintro e w7 ⟨rfl, k7⟩
  go_wp2_with fail
  refine (Mul_lit a b u1 _ (by unfold In64; omega) (by unfold In64; omega) U1.out).mono ?_
  rintro e w8 ⟨rfl, k8⟩
  go_wp2_with fail
  refine (Mul_lit a c u2 _ (by unfold In64; omega) (by unfold In64; omega) U2.out).mono ?_
  rintro e w9 ⟨rfl, k9⟩
  go_wp2_with fail
  refine (Add_lit u1 u2 r _ hu1 hu2 R2.out).mono ?_
  rintro e w10 ⟨rfl, k10⟩
  go_wp2_with fail
  go_ret
  exact ⟨rfl, k1.trans (k6.trans (k7.trans (k8.trans (k9.trans (k10)))))⟩

set_option maxHeartbeats 1000000 in
set_option maxRecDepth 100000 in
theorem safeParts_2 (a b c x y z : Int) (w : World) (ha1 : -2147483648 ≤ a) (ha2 : a ≤ 2147483647) (hb1 : -2147483648 ≤ b) (hb2 : b ≤ 2147483647) (hc1 : -2147483648 ≤ c) (hc2 : c ≤ 2147483647) (hx : In64 x) (hy : In64 y) (hz : In64 z) (t1 r u1 u2 : Int) (T1 : Hid (heldAt (b + c) = t1)) (h1 : In64 t1) (R : Hid (heldAt (a * t1) = r)) (U1 : Hid (heldAt (a * b) = u1)) (U2 : Hid (heldAt (a * c) = u2)) (hu1 : In64 u1) (hu2 : In64 u2) (R2 : Hid (heldAt (u1 + u2) = r)) (s : Int) (hs : In64 s) (Hs : Hid (x + y = s)) (ht : ¬ In64 (s + z)) (v3 e3 : Int) (Hv3 : Hid (overV (y + z) = v3)) (He3 : Hid (overE (y + z) = e3)) (hv3 : In64 v3) (v4 e4 : Int) (Hv4 : Hid (overV (x + v3) = v4)) (He4 : Hid (overE (x + v3) = e4)) :
    Calls Try.prog 8 #[.int .i32 a, .int .i32 b, .int .i32 c, .int .i64 x, .int .i64 y, .int .i64 z] w fun e w' => e = .returned (.bool true) ∧ Kept w w' := by
  go_enter Try.func8, Try.ntmps8
  go_wp2_with fail
  refine (awake01 _).mono ?_
  rintro e w1 ⟨rfl, k1⟩
  go_wp2_with fail
  refine (Plus_lit x y s _ hx hy hs Hs.out).mono ?_
  rintro e w2 ⟨rfl, rfl⟩
  go_wp2_with fail
  refine (Plus_no s z _ hs hz ht).mono ?_
  rintro e w3 ⟨rfl, rfl⟩
  go_wp2_with fail
  refine (Plus_var y z v3 e3 _ hy hz Hv3.out He3.out).mono ?_
  rintro e w4 ⟨rfl, rfl⟩
  go_wp2_with fail
  refine (Plus_var x v3 v4 e4 _ hx hv3 Hv4.out He4.out).mono ?_
  rintro e w5 ⟨rfl, rfl⟩
  go_wp2_with fail
  refine (Add_lit b c t1 _ (by unfold In64; omega) (by unfold In64; omega) T1.out).mono ?_
  rintro e w6 ⟨rfl, k6⟩
  go_wp2_with fail
  refine (Mul_lit a t1 r _ (by unfold In64; omega) h1 R.out).mono ?_
  rintro e w7 ⟨rfl, k7⟩
  go_wp2_with fail
  refine (Mul_lit a b u1 _ (by unfold In64; omega) (by unfold In64; omega) U1.out).mono ?_
  rintro e w8 ⟨rfl, k8⟩
  go_wp2_with fail
  refine (Mul_lit a c u2 _ (by unfold In64; omega) (by unfold In64; omega) U2.out).mono ?_
  rintro e w9 ⟨rfl, k9⟩
  go_wp2_with fail
  refine (Add_lit u1 u2 r _ hu1 hu2 R2.out).mono ?_
  rintro e w10 ⟨rfl, k10⟩
  go_wp2_with fail
  go_ret
  exact ⟨rfl, k1.trans (k6.trans (k7.trans (k8.trans (k9.trans (k10)))))⟩

set_option maxHeartbeats 1000000 in
set_option maxRecDepth 100000 in
theorem safeParts_3 (a b c x y z : Int) (w : World) (ha1 : -2147483648 ≤ a) (ha2 : a ≤ 2147483647) (hb1 : -2147483648 ≤ b) (hb2 : b ≤ 2147483647) (hc1 : -2147483648 ≤ c) (hc2 : c ≤ 2147483647) (hx : In64 x) (hy : In64 y) (hz : In64 z) (t1 r u1 u2 : Int) (T1 : Hid (heldAt (b + c) = t1)) (h1 : In64 t1) (R : Hid (heldAt (a * t1) = r)) (U1 : Hid (heldAt (a * b) = u1)) (U2 : Hid (heldAt (a * c) = u2)) (hu1 : In64 u1) (hu2 : In64 u2) (R2 : Hid (heldAt (u1 + u2) = r)) (s : Int) (hs : In64 s) (Hs : Hid (x + y = s)) (t : Int) (ht : In64 t) (Ht : Hid (s + z = t)) (hu : ¬ In64 (y + z)) (v4 e4 : Int) (Hv4 : Hid (overV (x + 0) = v4)) (He4 : Hid (overE (x + 0) = e4)) :
    Calls Try.prog 8 #[.int .i32 a, .int .i32 b, .int .i32 c, .int .i64 x, .int .i64 y, .int .i64 z] w fun e w' => e = .returned (.bool true) ∧ Kept w w' := by
  go_enter Try.func8, Try.ntmps8
  go_wp2_with fail
  refine (awake01 _).mono ?_
  rintro e w1 ⟨rfl, k1⟩
  go_wp2_with fail
  refine (Plus_lit x y s _ hx hy hs Hs.out).mono ?_
  rintro e w2 ⟨rfl, rfl⟩
  go_wp2_with fail
  refine (Plus_lit s z t _ hs hz ht Ht.out).mono ?_
  rintro e w3 ⟨rfl, rfl⟩
  go_wp2_with fail
  refine (Plus_no y z _ hy hz hu).mono ?_
  rintro e w4 ⟨rfl, rfl⟩
  go_wp2_with fail
  refine (Plus_var x 0 v4 e4 _ hx (by unfold In64; omega) Hv4.out He4.out).mono ?_
  rintro e w5 ⟨rfl, rfl⟩
  go_wp2_with fail
  refine (Add_lit b c t1 _ (by unfold In64; omega) (by unfold In64; omega) T1.out).mono ?_
  rintro e w6 ⟨rfl, k6⟩
  go_wp2_with fail
  refine (Mul_lit a t1 r _ (by unfold In64; omega) h1 R.out).mono ?_
  rintro e w7 ⟨rfl, k7⟩
  go_wp2_with fail
  refine (Mul_lit a b u1 _ (by unfold In64; omega) (by unfold In64; omega) U1.out).mono ?_
  rintro e w8 ⟨rfl, k8⟩
  go_wp2_with fail
  refine (Mul_lit a c u2 _ (by unfold In64; omega) (by unfold In64; omega) U2.out).mono ?_
  rintro e w9 ⟨rfl, k9⟩
  go_wp2_with fail
  refine (Add_lit u1 u2 r _ hu1 hu2 R2.out).mono ?_
  rintro e w10 ⟨rfl, k10⟩
  go_wp2_with fail
  go_ret
  exact ⟨rfl, k1.trans (k6.trans (k7.trans (k8.trans (k9.trans (k10)))))⟩

set_option maxHeartbeats 1000000 in
set_option maxRecDepth 100000 in
theorem safeParts_4 (a b c x y z : Int) (w : World) (ha1 : -2147483648 ≤ a) (ha2 : a ≤ 2147483647) (hb1 : -2147483648 ≤ b) (hb2 : b ≤ 2147483647) (hc1 : -2147483648 ≤ c) (hc2 : c ≤ 2147483647) (hx : In64 x) (hy : In64 y) (hz : In64 z) (t1 r u1 u2 : Int) (T1 : Hid (heldAt (b + c) = t1)) (h1 : In64 t1) (R : Hid (heldAt (a * t1) = r)) (U1 : Hid (heldAt (a * b) = u1)) (U2 : Hid (heldAt (a * c) = u2)) (hu1 : In64 u1) (hu2 : In64 u2) (R2 : Hid (heldAt (u1 + u2) = r)) (s : Int) (hs : In64 s) (Hs : Hid (x + y = s)) (t : Int) (ht : In64 t) (Ht : Hid (s + z = t)) (u : Int) (hu : In64 u) (Hu : Hid (y + z = u)) (hm : ¬ In64 (x + u)) :
    Calls Try.prog 8 #[.int .i32 a, .int .i32 b, .int .i32 c, .int .i64 x, .int .i64 y, .int .i64 z] w fun e w' => e = .returned (.bool true) ∧ Kept w w' := by
  go_enter Try.func8, Try.ntmps8
  go_wp2_with fail
  refine (awake01 _).mono ?_
  rintro e w1 ⟨rfl, k1⟩
  go_wp2_with fail
  refine (Plus_lit x y s _ hx hy hs Hs.out).mono ?_
  rintro e w2 ⟨rfl, rfl⟩
  go_wp2_with fail
  refine (Plus_lit s z t _ hs hz ht Ht.out).mono ?_
  rintro e w3 ⟨rfl, rfl⟩
  go_wp2_with fail
  refine (Plus_lit y z u _ hy hz hu Hu.out).mono ?_
  rintro e w4 ⟨rfl, rfl⟩
  go_wp2_with fail
  refine (Plus_no x u _ hx hu hm).mono ?_
  rintro e w5 ⟨rfl, rfl⟩
  go_wp2_with fail
  refine (Add_lit b c t1 _ (by unfold In64; omega) (by unfold In64; omega) T1.out).mono ?_
  rintro e w6 ⟨rfl, k6⟩
  go_wp2_with fail
  refine (Mul_lit a t1 r _ (by unfold In64; omega) h1 R.out).mono ?_
  rintro e w7 ⟨rfl, k7⟩
  go_wp2_with fail
  refine (Mul_lit a b u1 _ (by unfold In64; omega) (by unfold In64; omega) U1.out).mono ?_
  rintro e w8 ⟨rfl, k8⟩
  go_wp2_with fail
  refine (Mul_lit a c u2 _ (by unfold In64; omega) (by unfold In64; omega) U2.out).mono ?_
  rintro e w9 ⟨rfl, k9⟩
  go_wp2_with fail
  refine (Add_lit u1 u2 r _ hu1 hu2 R2.out).mono ?_
  rintro e w10 ⟨rfl, k10⟩
  go_wp2_with fail
  go_ret
  exact ⟨rfl, k1.trans (k6.trans (k7.trans (k8.trans (k9.trans (k10)))))⟩

set_option maxHeartbeats 1000000 in
set_option maxRecDepth 100000 in
theorem safeParts_5 (a b c x y z : Int) (w : World) (ha1 : -2147483648 ≤ a) (ha2 : a ≤ 2147483647) (hb1 : -2147483648 ≤ b) (hb2 : b ≤ 2147483647) (hc1 : -2147483648 ≤ c) (hc2 : c ≤ 2147483647) (hx : In64 x) (hy : In64 y) (hz : In64 z) (t1 r u1 u2 : Int) (T1 : Hid (heldAt (b + c) = t1)) (h1 : In64 t1) (R : Hid (heldAt (a * t1) = r)) (U1 : Hid (heldAt (a * b) = u1)) (U2 : Hid (heldAt (a * c) = u2)) (hu1 : In64 u1) (hu2 : In64 u2) (R2 : Hid (heldAt (u1 + u2) = r)) (s : Int) (hs : In64 s) (Hs : Hid (x + y = s)) (t : Int) (ht : In64 t) (Ht : Hid (s + z = t)) (u : Int) (hu : In64 u) (Hu : Hid (y + z = u)) (Hm : Hid (x + u = t)) :
    Calls Try.prog 8 #[.int .i32 a, .int .i32 b, .int .i32 c, .int .i64 x, .int .i64 y, .int .i64 z] w fun e w' => e = .returned (.bool true) ∧ Kept w w' := by
  go_enter Try.func8, Try.ntmps8
  go_wp2_with fail
  refine (awake01 _).mono ?_
  rintro e w1 ⟨rfl, k1⟩
  go_wp2_with fail
  refine (Plus_lit x y s _ hx hy hs Hs.out).mono ?_
  rintro e w2 ⟨rfl, rfl⟩
  go_wp2_with fail
  refine (Plus_lit s z t _ hs hz ht Ht.out).mono ?_
  rintro e w3 ⟨rfl, rfl⟩
  go_wp2_with fail
  refine (Plus_lit y z u _ hy hz hu Hu.out).mono ?_
  rintro e w4 ⟨rfl, rfl⟩
  go_wp2_with fail
  refine (Plus_lit x u t _ hx hu ht Hm.out).mono ?_
  rintro e w5 ⟨rfl, rfl⟩
  go_wp2_with fail
  refine (Add_lit b c t1 _ (by unfold In64; omega) (by unfold In64; omega) T1.out).mono ?_
  rintro e w6 ⟨rfl, k6⟩
  go_wp2_with fail
  refine (Mul_lit a t1 r _ (by unfold In64; omega) h1 R.out).mono ?_
  rintro e w7 ⟨rfl, k7⟩
  go_wp2_with fail
  refine (Mul_lit a b u1 _ (by unfold In64; omega) (by unfold In64; omega) U1.out).mono ?_
  rintro e w8 ⟨rfl, k8⟩
  go_wp2_with fail
  refine (Mul_lit a c u2 _ (by unfold In64; omega) (by unfold In64; omega) U2.out).mono ?_
  rintro e w9 ⟨rfl, k9⟩
  go_wp2_with fail
  refine (Add_lit u1 u2 r _ hu1 hu2 R2.out).mono ?_
  rintro e w10 ⟨rfl, k10⟩
  go_wp2_with fail
  go_ret
  exact ⟨rfl, k1.trans (k6.trans (k7.trans (k8.trans (k9.trans (k10)))))⟩

theorem safeParts_walk (a b c x y z : Int) (w : World) (ha : -2147483648 ≤ a ∧ a ≤ 2147483647) (hb : -2147483648 ≤ b ∧ b ≤ 2147483647) (hc : -2147483648 ≤ c ∧ c ≤ 2147483647) (hx : In64 x) (hy : In64 y) (hz : In64 z) :
    Calls Try.prog 8 #[.int .i32 a, .int .i32 b, .int .i32 c, .int .i64 x, .int .i64 y, .int .i64 z] w fun e w' => e = .returned (.bool true) ∧ Kept w w' := by
  have R2 : heldAt (heldAt (a * b) + heldAt (a * c)) = heldAt (a * heldAt (b + c)) := by
    rw [heldAt_of (small_mul ha hb), heldAt_of (small_mul ha hc), heldAt_of (n := b + c) (by unfold In64; omega), Int.mul_add]
  by_cases hs : In64 (x + y)
  · by_cases ht : In64 (x + y + z)
    · by_cases hu : In64 (y + z)
      · by_cases hm : In64 (x + (y + z))
        · exact safeParts_5 a b c x y z w ha.1 ha.2 hb.1 hb.2 hc.1 hc.2 hx hy hz _ _ _ _ (Lib.hid rfl) (heldAt_in _) (Lib.hid rfl) (Lib.hid rfl) (Lib.hid rfl) (heldAt_in _) (heldAt_in _) (Lib.hid R2) _ hs (Lib.hid rfl) _ ht (Lib.hid rfl) _ hu (Lib.hid rfl) (Lib.hid (by omega))
        · exact safeParts_4 a b c x y z w ha.1 ha.2 hb.1 hb.2 hc.1 hc.2 hx hy hz _ _ _ _ (Lib.hid rfl) (heldAt_in _) (Lib.hid rfl) (Lib.hid rfl) (Lib.hid rfl) (heldAt_in _) (heldAt_in _) (Lib.hid R2) _ hs (Lib.hid rfl) _ ht (Lib.hid rfl) _ hu (Lib.hid rfl) hm
      · exact safeParts_3 a b c x y z w ha.1 ha.2 hb.1 hb.2 hc.1 hc.2 hx hy hz _ _ _ _ (Lib.hid rfl) (heldAt_in _) (Lib.hid rfl) (Lib.hid rfl) (Lib.hid rfl) (heldAt_in _) (heldAt_in _) (Lib.hid R2) _ hs (Lib.hid rfl) _ ht (Lib.hid rfl) hu _ _ (Lib.hid rfl) (Lib.hid rfl)
    · exact safeParts_2 a b c x y z w ha.1 ha.2 hb.1 hb.2 hc.1 hc.2 hx hy hz _ _ _ _ (Lib.hid rfl) (heldAt_in _) (Lib.hid rfl) (Lib.hid rfl) (Lib.hid rfl) (heldAt_in _) (heldAt_in _) (Lib.hid R2) _ hs (Lib.hid rfl) ht _ _ (Lib.hid rfl) (Lib.hid rfl) (in64_overV _) _ _ (Lib.hid rfl) (Lib.hid rfl)
  · exact safeParts_1 a b c x y z w ha.1 ha.2 hb.1 hb.2 hc.1 hc.2 hx hy hz _ _ _ _ (Lib.hid rfl) (heldAt_in _) (Lib.hid rfl) (Lib.hid rfl) (Lib.hid rfl) (heldAt_in _) (heldAt_in _) (Lib.hid R2) hs _ _ (Lib.hid rfl) (Lib.hid rfl) _ _ (Lib.hid rfl) (Lib.hid rfl) (in64_overV _) _ _ (Lib.hid rfl) (Lib.hid rfl)

end Go.Proofs.Ytgedggdlabcfiaa
