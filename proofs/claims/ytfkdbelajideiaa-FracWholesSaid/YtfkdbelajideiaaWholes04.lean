/-
  The walk of FracWholes: it answers true, whatever it is given.
-/
import Derived.Test.YtfkdbelajideiaaAwake04
namespace Go.Proofs.Ytfkdbelajideiaa
open Go.RowKit Go.BigFrame

set_option maxRecDepth 100000 in
set_option maxHeartbeats 1600000 in
theorem wholes_head (n s p : Int) (n0 : 0 ≤ n) (n1 : n ≤ 4294967295) (s0 : 0 ≤ s) (s1 : s ≤ 65535) (hp : n * (1 + s) = p) (p0 : 0 ≤ p) (p1 : p ≤ 281474976710655) (w : World) (B1 : ∀ w, Calls Try.prog 18 #[.int .i64 (65536 * n), .int .i64 (1 + s)] w fun e w' => e = .returned (.tuple #[.int .i64 p, .int .i64 0]) ∧ Kept w w') (S1 : ∀ w, Calls Try.prog 16 #[.int .i64 p, .int .i64 (1 + s)] w fun e w' => e = .returned (.tuple #[.int .i64 (65536 * n), .int .i64 0]) ∧ Kept w w') (W1 : ∀ w, Calls Try.prog 20 #[.int .i64 (65536 * n)] w fun e w' => e = .returned (.int .i64 n) ∧ Kept w w') :
    Calls Try.prog 8 #[.int .u32 n, .int .u16 s] w fun e w' => e = .returned (.bool true) ∧ Kept w w' := by
  have B1' := Lib.hid B1
  have S1' := Lib.hid S1
  have W1' := Lib.hid W1
  clear B1 S1 W1
  have HP := Lib.hid hp
  clear hp
  go_enter Try.func8, Try.ntmps8
  go_wp2_with fail
  refine (awake04 _).mono ?_
  rintro e w1 ⟨rfl, k1⟩
  go_wp2_with fail
  refine (B1'.out _).mono ?_
  rintro e w2 ⟨rfl, k2⟩
  go_upto_region 4 with fail
  have hq := HP.out
  go_wp2_with fail
  refine (S1'.out _).mono ?_
  rintro e w3 ⟨rfl, k3⟩
  go_wp2_with fail
  refine (W1'.out _).mono ?_
  rintro e w4 ⟨rfl, k4⟩
  go_wp2
  go_ret
  exact ⟨rfl, (by (repeat (first | with_reducible exact Kept.refl _ | with_reducible apply Kept.drew | with_reducible apply Kept.alloc | ((with_reducible apply Kept.set); focus (simp <;> omega)) | ((with_reducible apply Kept.via); focus with_reducible assumption))))⟩
theorem fracWholes_walk (n s : Int) (w : World) (hn : 0 ≤ n ∧ n ≤ 4294967295) (hs : 0 ≤ s ∧ s ≤ 65535) :
    Calls Try.prog 8 #[.int .u32 n, .int .u16 s] w fun e w' => e = .returned (.bool true) ∧ Kept w w' := by
  obtain ⟨n0, n1⟩ := hn
  obtain ⟨s0, s1⟩ := hs
  have p0 := Int.mul_nonneg n0 (show 0 ≤ 1 + s by omega)
  have p1 := Int.mul_le_mul n1 (show 1 + s ≤ 65536 by omega) (by omega) (by omega)
  have ib : 65536 * n * (1 + s) / 65536 = n * (1 + s) := by rw [Int.mul_assoc, Int.mul_ediv_cancel_left _ (by omega)]
  have is_ : n * (1 + s) * 65536 / (1 + s) = 65536 * n := by rw [Int.mul_right_comm, Int.mul_ediv_cancel _ (by omega), Int.mul_comm]
  have iw : 65536 * n / 65536 = n := by omega
  have ik : In64 (1 + s) := by unfold In64; omega
  have in_ : In64 (65536 * n) := by unfold In64; omega
  have ip : In64 (n * (1 + s)) := by unfold In64; omega
  have W := fun w => Whole_ok (n := 65536 * n) in_ w
  rw [iw] at W
  exact wholes_head n s _ n0 n1 s0 s1 rfl p0 (by omega) w (Bytes_ok in_ ik (part_val (by omega) ip ib)) (Segs_ok ip ik (part_val (by omega) in_ is_)) W
end Go.Proofs.Ytfkdbelajideiaa
