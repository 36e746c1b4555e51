/-
  The walk of FracTells: it answers true, whatever it is given.
-/
import Derived.Test.YtfkdbelajideiaaRef04
import Derived.Test.YtfkdbelajideiaaAwake04
namespace Go.Proofs.Ytfkdbelajideiaa
open Go.RowKit Go.BigFrame

set_option maxRecDepth 100000 in
set_option maxHeartbeats 1600000 in
theorem tells_head4 (a b c v0 v1 v2 v3 v4 v5 e0 e1 e2 e3 e4 : Int) (w : World) (P0 : ∀ w, Calls Try.prog 10 #[.int .i64 a, .int .i64 b, .int .i64 c] w fun e w' => e = .returned (.tuple #[.int .i64 v0, .int .i64 e0]) ∧ Kept w w') (Q0 : ∀ w, Calls Try.prog 11 #[.int .i64 a, .int .i64 b, .int .i64 c] w fun e w' => e = .returned (.tuple #[.int .i64 v0, .int .i64 e0]) ∧ Kept w w') (P1 : ∀ w, Calls Try.prog 12 #[.int .i64 a, .int .i64 b, .int .i64 c] w fun e w' => e = .returned (.tuple #[.int .i64 v1, .int .i64 e1]) ∧ Kept w w') (Q1 : ∀ w, Calls Try.prog 13 #[.int .i64 a, .int .i64 b, .int .i64 c] w fun e w' => e = .returned (.tuple #[.int .i64 v1, .int .i64 e1]) ∧ Kept w w') (P2 : ∀ w, Calls Try.prog 14 #[.int .i64 a, .int .i64 b, .int .i64 c] w fun e w' => e = .returned (.tuple #[.int .i64 v2, .int .i64 e2]) ∧ Kept w w') (Q2 : ∀ w, Calls Try.prog 15 #[.int .i64 a, .int .i64 b, .int .i64 c] w fun e w' => e = .returned (.tuple #[.int .i64 v2, .int .i64 e2]) ∧ Kept w w') (P3 : ∀ w, Calls Try.prog 16 #[.int .i64 a, .int .i64 c] w fun e w' => e = .returned (.tuple #[.int .i64 v3, .int .i64 e3]) ∧ Kept w w') (Q3 : ∀ w, Calls Try.prog 17 #[.int .i64 a, .int .i64 c] w fun e w' => e = .returned (.tuple #[.int .i64 v3, .int .i64 e3]) ∧ Kept w w') (P4 : ∀ w, Calls Try.prog 18 #[.int .i64 a, .int .i64 b] w fun e w' => e = .returned (.tuple #[.int .i64 v4, .int .i64 e4]) ∧ Kept w w') (Q4 : ∀ w, Calls Try.prog 19 #[.int .i64 a, .int .i64 b] w fun e w' => e = .returned (.tuple #[.int .i64 v4, .int .i64 e4]) ∧ Kept w w') (P5 : ∀ w, Calls Try.prog 20 #[.int .i64 a] w fun e w' => e = .returned (.int .i64 v5) ∧ Kept w w') (Q5 : ∀ w, Calls Try.prog 21 #[.int .i64 a] w fun e w' => e = .returned (.int .i64 v5) ∧ Kept w w') :
    Calls Try.prog 3 #[.int .i64 a, .int .i64 b, .int .i64 c] w fun e w' => e = .returned (.bool true) ∧ Kept w w' := by
  have P0' := Lib.hid P0
  have Q0' := Lib.hid Q0
  have P1' := Lib.hid P1
  have Q1' := Lib.hid Q1
  have P2' := Lib.hid P2
  have Q2' := Lib.hid Q2
  have P3' := Lib.hid P3
  have Q3' := Lib.hid Q3
  have P4' := Lib.hid P4
  have Q4' := Lib.hid Q4
  have P5' := Lib.hid P5
  have Q5' := Lib.hid Q5
  clear P0 Q0 P1 Q1 P2 Q2 P3 Q3 P4 Q4 P5 Q5
  go_enter Try.func3, Try.ntmps3
  go_wp2_with fail
  refine (awake04 _).mono ?_
  rintro e w1 ⟨rfl, k1⟩
  go_wp2_with fail
  refine (P0'.out _).mono ?_
  rintro e w2 ⟨rfl, k2⟩
  go_wp2_with fail
  refine (Q0'.out _).mono ?_
  rintro e w3 ⟨rfl, k3⟩
  go_wp2_with fail
  refine (P1'.out _).mono ?_
  rintro e w4 ⟨rfl, k4⟩
  go_wp2_with fail
  refine (Q1'.out _).mono ?_
  rintro e w5 ⟨rfl, k5⟩
  go_wp2_with fail
  refine (P2'.out _).mono ?_
  rintro e w6 ⟨rfl, k6⟩
  go_wp2_with fail
  refine (Q2'.out _).mono ?_
  rintro e w7 ⟨rfl, k7⟩
  go_wp2_with fail
  refine (P3'.out _).mono ?_
  rintro e w8 ⟨rfl, k8⟩
  go_wp2_with fail
  refine (Q3'.out _).mono ?_
  rintro e w9 ⟨rfl, k9⟩
  go_wp2_with fail
  refine (P4'.out _).mono ?_
  rintro e w10 ⟨rfl, k10⟩
  go_wp2_with fail
  refine (Q4'.out _).mono ?_
  rintro e w11 ⟨rfl, k11⟩
  go_wp2_with fail
  refine (P5'.out _).mono ?_
  rintro e w12 ⟨rfl, k12⟩
  go_wp2_with fail
  refine (Q5'.out _).mono ?_
  rintro e w13 ⟨rfl, k13⟩
  go_wp2
  go_ret
  exact ⟨rfl, (by (repeat (first | with_reducible exact Kept.refl _ | with_reducible apply Kept.drew | with_reducible apply Kept.alloc | ((with_reducible apply Kept.set); focus (simp <;> omega)) | ((with_reducible apply Kept.via); focus with_reducible assumption))))⟩
theorem fracTells_walk (a b c : Int) (w : World) (ha : In64 a) (hb : In64 b) (hc : In64 c) :
    Calls Try.prog 3 #[.int .i64 a, .int .i64 b, .int .i64 c] w fun e w' => e = .returned (.bool true) ∧ Kept w w' := by
  obtain ⟨v0, e0, T0⟩ := part_ex c (a * b / c)
  obtain ⟨v1, e1, T1⟩ := part_ex c (ceilOf (a * b) c)
  obtain ⟨v2, e2, T2⟩ := part_ex c (nearOf (a * b) c)
  obtain ⟨v3, e3, T3⟩ := part_ex c (a * 65536 / c)
  obtain ⟨v4, e4, T4⟩ := part_ex 65536 (a * b / 65536)
  exact tells_head4 a b c v0 v1 v2 v3 v4 _ e0 e1 e2 e3 e4 w (Floor_ok ha hb hc T0) (refFloor_ok ha hb hc T0) (Ceil_ok ha hb hc T1) (refCeil_ok ha hb hc T1) (Near_ok ha hb hc T2) (refNear_ok ha hb hc T2) (Segs_ok ha hc T3) (refSegs_ok ha hc T3) (Bytes_ok ha hb T4) (refBytes_ok ha hb T4) (Whole_ok ha) (refWhole_ok ha)
end Go.Proofs.Ytfkdbelajideiaa
