/-
  SafeTells walks: the Go text returns true, whatever the numbers.
-/
import Derived.Test.YtgedggdlabcfiaaRef01
namespace Go.Proofs.Ytgedggdlabcfiaa
open Go.RowKit

set_option maxHeartbeats 1000000 in
set_option maxRecDepth 100000 in
theorem safeTells_all (a b c : Int) (w : World) (ha : In64 a) (hb : In64 b) (v1 e1 v2 e2 s d p q k : Int) (V1 : Hid (overV (a + b) = v1)) (E1 : Hid (overE (a + b) = e1)) (V2 : Hid (overV (a * b) = v2)) (E2 : Hid (overE (a * b) = e2)) (S : Hid (heldAt (a + b) = s)) (D : Hid (heldAt (a - b) = d)) (P : Hid (heldAt (a * b) = p)) (Q : Hid (absAt a = q)) (K : Hid (clampAt a b c = k)) :
    Calls Try.prog 3 #[.int .i64 a, .int .i64 b, .int .i64 c] w fun e w' => e = .returned (.bool true) ∧ Kept w w' := by
  go_enter Try.func3, Try.ntmps3
  go_wp2_with fail
  refine (awake01 _).mono ?_
  rintro e w1 ⟨rfl, k1⟩
  go_wp2_with fail
  refine (Plus_var a b v1 e1 _ ha hb V1.out E1.out).mono ?_
  rintro e w2 ⟨rfl, rfl⟩
  go_wp2_with fail
  refine (refPlus_var a b v1 e1 _ ha hb V1.out E1.out).mono ?_
  rintro e w3 ⟨rfl, rfl⟩
  go_wp2_with fail
  refine (Times_var a b v2 e2 _ ha hb V2.out E2.out).mono ?_
  rintro e w4 ⟨rfl, rfl⟩
  go_wp2_with fail
  refine (refTimes_var a b v2 e2 _ V2.out E2.out).mono ?_
  rintro e w5 ⟨rfl, rfl⟩
  go_wp2_with fail
  refine (Add_lit a b s _ ha hb S.out).mono ?_
  rintro e w6 ⟨rfl, k6⟩
  go_wp2_with fail
  refine (refAdd_lit a b s _ ha hb S.out).mono ?_
  rintro e w7 ⟨rfl, rfl⟩
  go_wp2_with fail
  refine (Sub_lit a b d _ ha hb D.out).mono ?_
  rintro e w8 ⟨rfl, k8⟩
  go_wp2_with fail
  refine (refSub_lit a b d _ ha hb D.out).mono ?_
  rintro e w9 ⟨rfl, rfl⟩
  go_wp2_with fail
  refine (Mul_lit a b p _ ha hb P.out).mono ?_
  rintro e w10 ⟨rfl, k10⟩
  go_wp2_with fail
  refine (refMul_lit a b p _ ha hb P.out).mono ?_
  rintro e w11 ⟨rfl, rfl⟩
  go_wp2_with fail
  refine (Abs_lit a q _ ha Q.out).mono ?_
  rintro e w12 ⟨rfl, k12⟩
  go_wp2_with fail
  refine (refAbs_lit a q _ ha Q.out).mono ?_
  rintro e w13 ⟨rfl, rfl⟩
  go_wp2_with fail
  refine (clamp_lit a b c k _ K.out).mono ?_
  rintro e w14 ⟨rfl, rfl⟩
  go_wp2_with fail
  refine (refClamp_lit a b c k _ K.out).mono ?_
  rintro e w15 ⟨rfl, rfl⟩
  go_wp2_with fail
  go_ret
  exact ⟨rfl, k1.trans (k6.trans (k8.trans (k10.trans (k12))))⟩

theorem safeTells_walk (a b c : Int) (w : World) (ha : In64 a) (hb : In64 b) :
    Calls Try.prog 3 #[.int .i64 a, .int .i64 b, .int .i64 c] w fun e w' => e = .returned (.bool true) ∧ Kept w w' := by
  exact safeTells_all a b c w ha hb _ _ _ _ _ _ _ _ _ (Lib.hid rfl) (Lib.hid rfl) (Lib.hid rfl) (Lib.hid rfl) (Lib.hid rfl) (Lib.hid rfl) (Lib.hid rfl) (Lib.hid rfl) (Lib.hid rfl)

end Go.Proofs.Ytgedggdlabcfiaa
