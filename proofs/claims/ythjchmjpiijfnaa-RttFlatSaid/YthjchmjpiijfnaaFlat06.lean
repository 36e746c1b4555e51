/-
  The walk of RttFlat: it answers true, whatever it is given.
-/
import Derived.Test.YthjchmjpiijfnaaRises06
import Derived.Deep.DeepCutAuto
namespace Go.Proofs.Ythjchmjpiijfnaa
open Go.RowKit Go.BigFrame
set_option linter.unusedVariables false

set_option maxRecDepth 100000 in
set_option maxHeartbeats 1600000 in
theorem flat_walk (t n many : Int) (t0 : 0 ≤ t) (t1 : t ≤ 4294967295) (y0 : 0 ≤ many) (y1 : many ≤ 255) (hn : 1 + t % 1073741824 = n)
    (S0 : ∀ w, Calls Try.prog 10 #[.agg #[.bool false, .int .i64 0, .int .i64 0], .int .i64 n] w fun e w' => e = .returned (.tuple #[.agg #[.bool true, .int .i64 (8 * n), .int .i64 (2 * n)], .int .i64 0]) ∧ Kept w w') (S1 : ∀ F : Int, 0 ≤ F → F ≤ 2 * n → ∀ w, Calls Try.prog 10 #[.agg #[.bool true, .int .i64 (8 * n), .int .i64 F], .int .i64 n] w fun e w' => e = .returned (.tuple #[.agg #[.bool true, .int .i64 (8 * n), .int .i64 (F - F / 4)], .int .i64 0]) ∧ Kept w w') (M1 : ∀ F : Int, ∀ w, Calls Try.prog 14 #[.agg #[.bool true, .int .i64 (8 * n), .int .i64 F]] w fun e w' => e = .returned (.int .i64 n) ∧ Kept w w') (F1 : ∀ F : Int, 0 ≤ F → F ≤ 2 * n → ∀ w, Calls Try.prog 16 #[.agg #[.bool true, .int .i64 (8 * n), .int .i64 F]] w fun e w' => e = .returned (.int .i64 (F / 4)) ∧ Kept w w') (w : World) : Calls Try.prog 8 #[.int .u32 t, .int .u8 many] w fun e w' => e = .returned (.bool true) ∧ Kept w w' := by
  have n1 : 1 ≤ n := by omega
  have n2 : n ≤ 1073741824 := by omega
  have S0' := Lib.hid S0
  have S1' := Lib.hid S1
  have M1' := Lib.hid M1
  have F1' := Lib.hid F1
  clear S0 S1 M1 F1
  go_enter Try.func8, Try.ntmps8
  go_wp2_with fail
  refine (awake06 _).mono ?_
  rintro e w1 ⟨rfl, k1⟩
  go_wp2_with fail
  refine (S0'.out _).mono ?_
  rintro e w2 ⟨rfl, k2⟩
  go_upto_region 4 with fail
  generalize hW : World.alloc w2 (.cells #[.bool true, .int .i64 (8 * n), .int .i64 (2 * n)] 23) = W_r
  have K_r : Kept w2 W_r := by subst hW; exact (Kept.refl _).alloc _ _
  have R_r : RC W_r w2.heap.size true (8 * n) (2 * n) := by subst hW; exact ⟨⟨by simp [go_sem], by simp [go_sem], by simp [go_sem]⟩, by simp [go_sem], by simp [go_sem], by simp [go_sem]⟩
  clear hW
  have lr : w.heap.size ≤ w2.heap.size := Kept.below (Kept.trans k1 k2)
  have kr : Kept w W_r := Kept.trans (Kept.trans k1 k2) K_r
  generalize w2.heap.size = g_r at *
  clear k1 k2 K_r hn t0 t1
  generalize t % 1073741824 = tt at *
  go_wp2
  go_loopw [9] (fun i wr => ∃ (k : Nat) (F : Int), k ≤ many.toNat ∧ i = .int .i64 k ∧ 0 ≤ F ∧ F ≤ 2 * n ∧ RC wr g_r true (8 * n) F ∧ Kept w wr) (fun i _ => many.toNat - (intOf i).toNat)
  case atStart => exact ⟨0, 2 * n, Nat.zero_le _, rfl, by omega, by omega, R_r, kr⟩
  case round =>
    clear R_r kr
    obtain ⟨k, F, hk, rfl, f0, f1, hR, kw⟩ := hrel
    have HR := Lib.hid hR
    clear hR
    by_cases hlt : (k : Int) < many
    · obtain ⟨⟨c0, c1, c2⟩, c3, c4, c5⟩ := HR.out
      have lz := cell_lt c0
      have S := Lib.hid (S1'.out F f0 f1)
      have FF := Lib.hid (F1'.out F f0 f1)
      have q0 : 0 ≤ F / 4 := by omega
      have q1 : F / 4 ≤ F := by omega
      generalize F / 4 = q at *
      go_wp2_with fail
      refine (S.out _).mono ?_
      rintro e w3 ⟨rfl, k3⟩
      have HR3 := Lib.hid (HR.out.kept k3)
      have k3' := Kept.trans kw k3
      have lz3 : g_r < w3.heap.size := Nat.lt_of_lt_of_le lz (Kept.below k3)
      clear c0 c1 c2 c3 c4 c5 HR k3 lz kw
      go_upto_region 8 with fail
      generalize hW : World.alloc w3 (.cells #[.bool true, .int .i64 (8 * n), .int .i64 (F - q)] 23) = W_s
      have K_s : Kept w3 W_s := by subst hW; exact (Kept.refl _).alloc _ _
      have R_s : RC W_s w3.heap.size true (8 * n) (F - q) := by subst hW; exact ⟨⟨by simp [go_sem], by simp [go_sem], by simp [go_sem]⟩, by simp [go_sem], by simp [go_sem], by simp [go_sem]⟩
      clear hW
      have HA := Lib.hid (HR3.out.kept K_s)
      have HB := Lib.hid R_s
      have kw := Kept.trans k3' K_s
      clear R_s HR3 k3' K_s
      generalize w3.heap.size = g_s at *
      have gne : ¬ g_s = g_r := by omega
      have gne' : ¬ g_r = g_s := by omega
      by_cases hq : q = 0
      · subst hq
        obtain ⟨⟨c0, c1, c2⟩, c3, c4, c5⟩ := HA.out
        obtain ⟨⟨d0, d1, d2⟩, d3, d4, d5⟩ := HB.out
        go_wp2_with fail
        refine (M1'.out _ _).mono ?_
        rintro e w4 ⟨rfl, k4⟩
        clear c0 c1 c2 c3 c4 c5 d0 d1 d2 d3 d4 d5
        obtain ⟨⟨c0, c1, c2⟩, c3, c4, c5⟩ := HA.out.kept k4
        obtain ⟨⟨d0, d1, d2⟩, d3, d4, d5⟩ := HB.out.kept k4
        go_wp2_with fail
        refine (FF.out _).mono ?_
        rintro e w5 ⟨rfl, k5⟩
        clear c0 c1 c2 c3 c4 c5 d0 d1 d2 d3 d4 d5
        obtain ⟨⟨c0, c1, c2⟩, c3, c4, c5⟩ := HA.out.kept (Kept.trans k4 k5)
        obtain ⟨⟨d0, d1, d2⟩, d3, d4, d5⟩ := HB.out.kept (Kept.trans k4 k5)
        go_wp2
        go_roundw
        case rel => exact ⟨k + 1, F - 0, by omega, by go_num, by omega, by omega, ⟨⟨by simp [*, go_sem], by simp [*, go_sem], by simp [*, go_sem]⟩, by simp [*, go_sem], by simp [*, go_sem], by simp [*, go_sem]⟩, (by (repeat (first | with_reducible exact Kept.refl _ | with_reducible apply Kept.drew | with_reducible apply Kept.alloc | ((with_reducible apply Kept.set); focus (simp <;> omega)) | ((with_reducible apply Kept.via); focus with_reducible assumption))))⟩
        case measure => simp [intOf]; omega
      · have d6 : decide (F < F - q) = false := by simp; omega
        have d7 : decide (0 < q) = true := by simp; omega
        have d8 : decide (F ≤ F - q) = false := by simp; omega
        obtain ⟨⟨c0, c1, c2⟩, c3, c4, c5⟩ := HA.out
        obtain ⟨⟨d0, d1, d2⟩, d3, d4, d5⟩ := HB.out
        go_wp2_with fail
        refine (M1'.out _ _).mono ?_
        rintro e w4 ⟨rfl, k4⟩
        clear c0 c1 c2 c3 c4 c5 d0 d1 d2 d3 d4 d5
        obtain ⟨⟨c0, c1, c2⟩, c3, c4, c5⟩ := HA.out.kept k4
        obtain ⟨⟨d0, d1, d2⟩, d3, d4, d5⟩ := HB.out.kept k4
        go_wp2_with fail
        refine (FF.out _).mono ?_
        rintro e w5 ⟨rfl, k5⟩
        clear c0 c1 c2 c3 c4 c5 d0 d1 d2 d3 d4 d5
        obtain ⟨⟨c0, c1, c2⟩, c3, c4, c5⟩ := HA.out.kept (Kept.trans k4 k5)
        obtain ⟨⟨d0, d1, d2⟩, d3, d4, d5⟩ := HB.out.kept (Kept.trans k4 k5)
        go_wp2
        go_roundw
        case rel => exact ⟨k + 1, F - q, by omega, by go_num, by omega, by omega, ⟨⟨by simp [*, go_sem], by simp [*, go_sem], by simp [*, go_sem]⟩, by simp [*, go_sem], by simp [*, go_sem], by simp [*, go_sem]⟩, (by (repeat (first | with_reducible exact Kept.refl _ | with_reducible apply Kept.drew | with_reducible apply Kept.alloc | ((with_reducible apply Kept.set); focus (simp <;> omega)) | ((with_reducible apply Kept.via); focus with_reducible assumption))))⟩
        case measure => simp [intOf]; omega
    · obtain ⟨⟨c0, c1, c2⟩, c3, c4, c5⟩ := HR.out
      go_wp2_with fail
      refine (M1'.out _ _).mono ?_
      rintro e w4 ⟨rfl, k4⟩
      go_wp2
      go_ret
      exact ⟨rfl, Kept.trans kw k4⟩
theorem rttFlat_walk (t many : Int) (w : World) (ht : 0 ≤ t ∧ t ≤ 4294967295) (hm : 0 ≤ many ∧ many ≤ 255) : Calls Try.prog 8 #[.int .u32 t, .int .u8 many] w fun e w' => e = .returned (.bool true) ∧ Kept w w' := by
  have n1 : 1 ≤ 1 + t % 1073741824 := by omega
  have n2 : 1 + t % 1073741824 ≤ 1073741824 := by omega
  generalize hn : 1 + t % 1073741824 = n at n1 n2
  refine flat_walk t n many ht.1 ht.2 hm.1 hm.2 hn (fun w => Sample_ok (Or.inr (Or.inl ⟨may0, ⟨n1, n2⟩, rfl, rfl, rfl, rfl, rfl⟩)) w) (fun F f0 f1 w => Sample_ok (Or.inr (Or.inr ⟨Or.inr ⟨rfl, by omega, by omega, by omega, by omega⟩, ⟨n1, n2⟩, rfl, rfl, by omega, ?_, rfl⟩)) w) (fun F w => Mean_ok ⟨by unfold In64; omega, by rw [Int.tdiv_eq_ediv_of_nonneg (by omega)]; omega⟩ w) (fun F f0 f1 w => Far_ok ⟨by unfold In64; omega, Int.tdiv_eq_ediv_of_nonneg f0⟩ w) w
  have e : 8 * n / 8 = n := by omega
  rw [e]; unfold gapOf; rw [if_neg (by omega)]; omega
end Go.Proofs.Ythjchmjpiijfnaa
