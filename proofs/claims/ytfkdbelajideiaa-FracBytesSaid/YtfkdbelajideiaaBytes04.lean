/-
  The walk of FracBytes: it answers true, whatever it is given.
-/
import Derived.Test.YtfkdbelajideiaaAwake04
namespace Go.Proofs.Ytfkdbelajideiaa
open Go.RowKit Go.BigFrame

set_option maxRecDepth 100000 in
set_option maxHeartbeats 1600000 in
theorem bytes_head (b s n m q : Int) (b0 : 0 ≤ b) (b1 : b ≤ 4294967295) (s0 : 0 ≤ s) (s1 : s ≤ 65535) (m0 : m ≤ b) (m1 : b ≤ m + 1) (q0 : 0 ≤ q) (q1 : q ≤ 4294967295) (hq : b.tdiv (1 + s) = q) (w : World) (S1 : ∀ w, Calls Try.prog 16 #[.int .i64 b, .int .i64 (1 + s)] w fun e w' => e = .returned (.tuple #[.int .i64 n, .int .i64 0]) ∧ Kept w w') (B1 : ∀ w, Calls Try.prog 18 #[.int .i64 n, .int .i64 (1 + s)] w fun e w' => e = .returned (.tuple #[.int .i64 m, .int .i64 0]) ∧ Kept w w') (B2 : ∀ w, Calls Try.prog 18 #[.int .i64 65536, .int .i64 (1 + s)] w fun e w' => e = .returned (.tuple #[.int .i64 (1 + s), .int .i64 0]) ∧ Kept w w') (W1 : ∀ w, Calls Try.prog 20 #[.int .i64 n] w fun e w' => e = .returned (.int .i64 q) ∧ Kept w w') :
    Calls Try.prog 6 #[.int .u32 b, .int .u16 s] w fun e w' => e = .returned (.bool true) ∧ Kept w w' := by
  have S1' := Lib.hid S1
  have B1' := Lib.hid B1
  have B2' := Lib.hid B2
  have W1' := Lib.hid W1
  clear S1 B1 B2 W1
  have HQ := Lib.hid hq
  clear hq
  have g1 : IntKind.i64.wrap (b - m) = b - m := by rw [IntKind.wrap_i64]; omega
  have g2 : decide (0 ≤ b - m) = true := by simp; omega
  have g3 : decide (b - m ≤ 1) = true := by simp; omega
  go_enter Try.func6, Try.ntmps6
  go_wp2_with fail
  refine (awake04 _).mono ?_
  rintro e w1 ⟨rfl, k1⟩
  go_wp2_with fail
  refine (S1'.out _).mono ?_
  rintro e w2 ⟨rfl, k2⟩
  go_wp2_with fail
  refine (B1'.out _).mono ?_
  rintro e w3 ⟨rfl, k3⟩
  go_wp2_with fail
  refine (B2'.out _).mono ?_
  rintro e w4 ⟨rfl, k4⟩
  go_upto_region 7 with fail
  have hq := HQ.out
  have kall : Kept w w4 := (by (repeat (first | with_reducible exact Kept.refl _ | with_reducible apply Kept.drew | with_reducible apply Kept.alloc | ((with_reducible apply Kept.set); focus (simp <;> omega)) | ((with_reducible apply Kept.via); focus with_reducible assumption))))
  refine wp_region_kept (by kernel_rfl) (by as_aux_lemma => kernel_rfl) ?_
  repeat (go_big_quiet_step (first | (with_reducible exact kept_of (W1'.out _))))
  refine wpQuiet_nil ?_
  intro wq hw'
  have kq : Kept w4 wq := by obtain ⟨p, rfl⟩ := hw'; exact p.k
  clear hw'
  go_wp2
  go_ret
  exact ⟨rfl, kall.trans kq⟩
theorem fracBytes_walk (b s : Int) (w : World) (hb : 0 ≤ b ∧ b ≤ 4294967295) (hs : 0 ≤ s ∧ s ≤ 65535) :
    Calls Try.prog 6 #[.int .u32 b, .int .u16 s] w fun e w' => e = .returned (.bool true) ∧ Kept w w' := by
  obtain ⟨b0, b1⟩ := hb
  obtain ⟨s0, s1⟩ := hs
  generalize ek : 1 + s = k
  have k1 : 1 ≤ k ∧ k ≤ 65536 := by omega
  have a1 := Int.mul_ediv_add_emod (b * 65536) k
  have a2 := Int.emod_nonneg (b * 65536) (show k ≠ 0 by omega)
  have a3 := Int.emod_lt_of_pos (b * 65536) (show 0 < k by omega)
  have n0 : 0 ≤ b * 65536 / k := Int.ediv_nonneg (by omega) (by omega)
  have n1 : b * 65536 / k ≤ b * 65536 := Int.ediv_le_self _ (by omega)
  have ew : b * 65536 / k / 65536 = b / k := by
    rw [Int.ediv_ediv_of_nonneg (by omega), Int.mul_comm k 65536, Int.mul_comm b 65536, Int.mul_ediv_mul_of_pos _ _ (by omega)]
  have q0 : 0 ≤ b / k := Int.ediv_nonneg b0 (by omega)
  have q1 : b / k ≤ b := Int.ediv_le_self _ b0
  have ik : In64 k := by unfold In64; omega
  have ib : In64 b := by unfold In64; omega
  have in_ : In64 (b * 65536 / k) := by unfold In64; omega
  have em : b * 65536 / k * k = k * (b * 65536 / k) := Int.mul_comm _ _
  have im : In64 (b * 65536 / k * k / 65536) := by unfold In64; omega
  have W := fun w => Whole_ok in_ w
  rw [ew] at W
  subst ek
  refine bytes_head b s _ _ _ b0 b1 s0 s1 (by omega) (by omega) q0 (by omega) (Int.tdiv_eq_ediv_of_nonneg b0) w (Segs_ok ib ik (part_yes (by omega) in_)) (Bytes_ok in_ ik (part_yes (by omega) im)) (Bytes_ok one_in ik (part_val (by omega) ik ?_)) W
  rw [Int.mul_ediv_cancel_left _ (by omega)]
end Go.Proofs.Ytfkdbelajideiaa
