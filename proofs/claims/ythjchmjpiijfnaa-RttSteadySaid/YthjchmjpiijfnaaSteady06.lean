/-
  The walk of RttSteady: it answers true, whatever it is given.
-/
import Derived.Test.YthjchmjpiijfnaaRises06
import Derived.Deep.DeepCutAuto
namespace Go.Proofs.Ythjchmjpiijfnaa
open Go.RowKit Go.BigFrame
set_option linter.unusedVariables false

set_option maxRecDepth 100000 in
set_option maxHeartbeats 1600000 in
theorem steady_no {b : Bool} {m f t : Int} (t0 : 0 ≤ t) (t1 : t ≤ 4294967295) (C1 : ∀ w, Calls Try.prog 12 #[.agg #[.bool b, .int .i64 m, .int .i64 f]] w fun e w' => e = .returned (.bool false) ∧ Kept w w') (w : World) :
    Calls Try.prog 5 #[.agg #[.bool b, .int .i64 m, .int .i64 f], .int .u32 t] w fun e w' => e = .returned (.bool true) ∧ Kept w w' := by
  have C1' := Lib.hid C1
  clear C1
  go_enter Try.func5, Try.ntmps5
  go_upto_region 1 with fail
  generalize hW : World.alloc w (.cells #[.bool b, .int .i64 m, .int .i64 f] 23) = W_r
  have K_r : Kept w W_r := by subst hW; exact (Kept.refl _).alloc _ _
  have H_r := Lib.hid (show W_r.cell? ⟨w.heap.size, 0, none⟩ = some (.bool b) ∧ W_r.cell? ⟨w.heap.size, 1, none⟩ = some (.int .i64 m) ∧ W_r.cell? ⟨w.heap.size, 2, none⟩ = some (.int .i64 f) from by subst hW; simp [go_sem])
  clear hW
  generalize w.heap.size = g_r at *
  go_wp2_with fail
  refine (awake06 _).mono ?_
  rintro e w1 ⟨rfl, k1⟩
  obtain ⟨c_r0, c_r1, c_r2⟩ := Kept.all3 (show Kept W_r w1 from (by (repeat (first | with_reducible exact Kept.refl _ | with_reducible apply Kept.drew | with_reducible apply Kept.alloc | ((with_reducible apply Kept.set); focus (simp <;> omega)) | ((with_reducible apply Kept.via); focus with_reducible assumption))))) H_r
  go_wp2_with fail
  refine (C1'.out _).mono ?_
  rintro e w2 ⟨rfl, k2⟩
  clear c_r0 c_r1 c_r2
  go_wp2
  go_ret
  exact ⟨rfl, (by (repeat (first | with_reducible exact Kept.refl _ | with_reducible apply Kept.drew | with_reducible apply Kept.alloc | ((with_reducible apply Kept.set); focus (simp <;> omega)) | ((with_reducible apply Kept.via); focus with_reducible assumption))))⟩
set_option maxRecDepth 100000 in
set_option maxHeartbeats 1600000 in
theorem steady_yes {b : Bool} {m f t n : Int} (t0 : 0 ≤ t) (t1 : t ≤ 4294967295) (hn : 1 + t % 1073741824 = n) (C1 : ∀ w, Calls Try.prog 12 #[.agg #[.bool b, .int .i64 m, .int .i64 f]] w fun e w' => e = .returned (.bool true) ∧ Kept w w') (Inv : Nat → Bool → Int → Int → Prop) (I0 : Inv 0 b m f)
    (IS : ∀ k B M F, k < 400 → Inv k B M F → ∃ B' M' F' er, Inv (k + 1) B' M' F' ∧ ∀ w, Calls Try.prog 10 #[.agg #[.bool B, .int .i64 M, .int .i64 F], .int .i64 n] w fun e w' => e = .returned (.tuple #[.agg #[.bool B', .int .i64 M', .int .i64 F'], .int .i64 er]) ∧ Kept w w')
    (IE : ∀ B M F, Inv 400 B M F → B = true ∧ ∃ p q : Int, 0 ≤ p ∧ p ≤ 1073741824 ∧ p - n ≤ 0 ∧ n - p ≤ 1 ∧ q ≤ 2 ∧ (∀ w, Calls Try.prog 14 #[.agg #[.bool B, .int .i64 M, .int .i64 F]] w fun e w' => e = .returned (.int .i64 p) ∧ Kept w w') ∧ ∀ w, Calls Try.prog 16 #[.agg #[.bool B, .int .i64 M, .int .i64 F]] w fun e w' => e = .returned (.int .i64 q) ∧ Kept w w') (w : World) : Calls Try.prog 5 #[.agg #[.bool b, .int .i64 m, .int .i64 f], .int .u32 t] w fun e w' => e = .returned (.bool true) ∧ Kept w w' := by
  have C1' := Lib.hid C1
  have IS' := Lib.hid IS
  have IE' := Lib.hid IE
  have n1 : 1 ≤ n := by omega
  have n2 : n ≤ 1073741824 := by omega
  clear C1 IS IE
  go_enter Try.func5, Try.ntmps5
  go_upto_region 1 with fail
  generalize hW : World.alloc w (.cells #[.bool b, .int .i64 m, .int .i64 f] 23) = W_r
  have K_r : Kept w W_r := by subst hW; exact (Kept.refl _).alloc _ _
  have H_r := Lib.hid (show W_r.cell? ⟨w.heap.size, 0, none⟩ = some (.bool b) ∧ W_r.cell? ⟨w.heap.size, 1, none⟩ = some (.int .i64 m) ∧ W_r.cell? ⟨w.heap.size, 2, none⟩ = some (.int .i64 f) from by subst hW; simp [go_sem])
  clear hW
  generalize w.heap.size = g_r at *
  go_wp2_with fail
  refine (awake06 _).mono ?_
  rintro e w1 ⟨rfl, k1⟩
  obtain ⟨c_r0, c_r1, c_r2⟩ := Kept.all3 (show Kept W_r w1 from (by (repeat (first | with_reducible exact Kept.refl _ | with_reducible apply Kept.drew | with_reducible apply Kept.alloc | ((with_reducible apply Kept.set); focus (simp <;> omega)) | ((with_reducible apply Kept.via); focus with_reducible assumption))))) H_r
  go_wp2_with fail
  refine (C1'.out _).mono ?_
  rintro e w2 ⟨rfl, k2⟩
  clear c_r0 c_r1 c_r2
  obtain ⟨c_r0, c_r1, c_r2⟩ := Kept.all3 (show Kept W_r w2 from (by (repeat (first | with_reducible exact Kept.refl _ | with_reducible apply Kept.drew | with_reducible apply Kept.alloc | ((with_reducible apply Kept.set); focus (simp <;> omega)) | ((with_reducible apply Kept.via); focus with_reducible assumption))))) H_r
  go_upto_region 6 with fail
  generalize hW : World.alloc w2 (.cells #[.bool b, .int .i64 m, .int .i64 f] 23) = W_s
  have K_s : Kept w2 W_s := by subst hW; exact (Kept.refl _).alloc _ _
  have R_s : RC W_s w2.heap.size b m f := by subst hW; exact ⟨⟨by simp [go_sem], by simp [go_sem], by simp [go_sem]⟩, by simp [go_sem], by simp [go_sem], by simp [go_sem]⟩
  clear hW
  have lr : w.heap.size ≤ w2.heap.size := Kept.below (show Kept w w2 from (by (repeat (first | with_reducible exact Kept.refl _ | with_reducible apply Kept.drew | with_reducible apply Kept.alloc | ((with_reducible apply Kept.set); focus (simp <;> omega)) | ((with_reducible apply Kept.via); focus with_reducible assumption)))))
  have kr : Kept w W_s := (by (repeat (first | with_reducible exact Kept.refl _ | with_reducible apply Kept.drew | with_reducible apply Kept.alloc | ((with_reducible apply Kept.set); focus (simp <;> omega)) | ((with_reducible apply Kept.via); focus with_reducible assumption))))
  clear c_r0 c_r1 c_r2 k1 k2 K_s hn t0 t1 H_r
  generalize w2.heap.size = g_s at *
  generalize t % 1073741824 = tt at *
  go_wp2
  go_loopw [8] (fun i wr => ∃ (k : Nat) (B : Bool) (M F : Int), k ≤ 400 ∧ i = .int .i64 k ∧ Inv k B M F ∧ RC wr g_s B M F ∧ Kept w wr) (fun i _ => 400 - (intOf i).toNat)
  case atStart => exact ⟨0, b, m, f, Nat.zero_le _, rfl, I0, R_s, kr⟩
  case round =>
    clear R_s kr I0
    obtain ⟨k, B, M, FF, hk, rfl, hI, hR, kw⟩ := hrel
    have HR := Lib.hid hR
    clear hR
    obtain ⟨⟨c0, c1, c2⟩, c3, c4, c5⟩ := HR.out
    by_cases hlt : k < 400
    · obtain ⟨B2, M2, F2, er, hI2, S⟩ := IS'.out k B M FF hlt hI
      have HS := Lib.hid S
      have HI := Lib.hid hI2
      have lz := cell_lt c0
      clear S hI2
      go_wp2_with fail
      refine (HS.out _).mono ?_
      rintro e w3 ⟨rfl, k3⟩
      have HR3 := Lib.hid (HR.out.kept k3)
      have k3' := Kept.trans kw k3
      have lz3 : g_s < w3.heap.size := Nat.lt_of_lt_of_le lz (Kept.below k3)
      clear c0 c1 c2 c3 c4 c5 HR k3 lz kw
      go_upto_region 10 with fail
      generalize hW : World.alloc w3 (.cells #[.bool B2, .int .i64 M2, .int .i64 F2] 23) = W_x
      have K_x : Kept w3 W_x := by subst hW; exact (Kept.refl _).alloc _ _
      have R_x : RC W_x w3.heap.size B2 M2 F2 := by subst hW; exact ⟨⟨by simp [go_sem], by simp [go_sem], by simp [go_sem]⟩, by simp [go_sem], by simp [go_sem], by simp [go_sem]⟩
      clear hW
      have HA := Lib.hid (HR3.out.kept K_x)
      have HB := Lib.hid R_x
      have kw := Kept.trans k3' K_x
      clear R_x HR3 k3' K_x
      generalize w3.heap.size = g_x at *
      have gne : ¬ g_x = g_s := by omega
      have gne' : ¬ g_s = g_x := by omega
      obtain ⟨⟨c0, c1, c2⟩, c3, c4, c5⟩ := HA.out
      obtain ⟨⟨d0, d1, d2⟩, d3, d4, d5⟩ := HB.out
      go_wp2
      go_roundw
      case rel => exact ⟨k + 1, B2, M2, F2, by omega, by go_num, HI.out, ⟨⟨by simp [*, go_sem], by simp [*, go_sem], by simp [*, go_sem]⟩, by simp [*, go_sem], by simp [*, go_sem], by simp [*, go_sem]⟩, (by (repeat (first | with_reducible exact Kept.refl _ | with_reducible apply Kept.drew | with_reducible apply Kept.alloc | ((with_reducible apply Kept.set); focus (simp <;> omega)) | ((with_reducible apply Kept.via); focus with_reducible assumption))))⟩
      case measure => simp [intOf]; omega
    · obtain rfl : k = 400 := by omega
      obtain ⟨rfl, p, q, p0, p1, p2, p3, q2, MM, FA⟩ := IE'.out B M FF hI
      have MM' := Lib.hid MM
      have FA' := Lib.hid FA
      clear MM FA hI hk
      go_wp2_with fail
      refine (MM'.out _).mono ?_
      rintro e w4 ⟨rfl, k4⟩
      clear c0 c1 c2 c3 c4 c5
      obtain ⟨⟨c0, c1, c2⟩, c3, c4, c5⟩ := HR.out.kept k4
      go_wp2_with fail
      refine (FA'.out _).mono ?_
      rintro e w5 ⟨rfl, k5⟩
      go_wp2
      go_ret
      exact ⟨rfl, Kept.trans (Kept.trans kw k4) k5⟩
/-- How far a mean may be, in eighths, behind so many times. -/
def bndN : Nat → Nat | 0 => 8589934592 | k + 1 => bndN k - bndN k / 8
/-- How far it may stray, in quarters, so many times later. -/
def farN : Nat → Nat | 0 => 4294967296 | k + 1 => farN k + 1 - farN k / 4
theorem bnd_200 : bndN 200 ≤ 7 := by decide +kernel
theorem far_200 : farN 200 ≤ 7 := by decide +kernel
/-- What holds behind k like times. -/
def SteadyI (n : Int) (k : Nat) (B : Bool) (M F : Int) : Prop :=
  MayRtt B M F ∧ (1 ≤ k → B = true ∧ M - 8 * n ≤ (bndN k : Int) ∧ 8 * n - M ≤ (bndN k : Int)) ∧ (200 ≤ k → M - 8 * n ≤ 7 ∧ 8 * n - M ≤ 7 ∧ F ≤ (farN (k - 200) : Int))
theorem bnd_next (k : Nat) : bndN (k + 1) = bndN k - bndN k / 8 := rfl
theorem far_next (k : Nat) : farN (k + 1) = farN k + 1 - farN k / 4 := rfl
theorem steady_step {n : Int} (n1 : 1 ≤ n) (n2 : n ≤ 1073741824) {k : Nat} {B : Bool} {M F : Int} (h : SteadyI n k B M F) : ∃ B' M' F' er, SteadyI n (k + 1) B' M' F' ∧ SampleIs B M F n B' M' F' er := by
  obtain ⟨hm, h1, h2⟩ := h
  cases B with
  | false =>
    have k0 : k = 0 := by
      rcases Nat.eq_zero_or_pos k with h | h
      · exact h
      · have := (h1 h).1; cases this
    subst k0
    have s : SampleIs false M F n true (8 * n) (2 * n) 0 := Or.inr (Or.inl ⟨hm, ⟨n1, n2⟩, rfl, rfl, rfl, rfl, rfl⟩)
    exact ⟨_, _, _, _, ⟨sample_may s hm, fun _ => ⟨rfl, by omega, by omega⟩, fun h => by omega⟩, s⟩
  | true =>
    have s : SampleIs true M F n true (M + n - M / 8) (F + gapOf n (M / 8) - F / 4) 0 := Or.inr (Or.inr ⟨hm, ⟨n1, n2⟩, rfl, rfl, rfl, rfl, rfl⟩)
    have hm' := sample_may s hm
    have r := may_in hm'
    have q : 8 ≤ M ∧ M ≤ 8589934592 ∧ 0 ≤ F ∧ F ≤ 4294967296 := by unfold MayRtt at hm; simpa using hm
    have hb : M - 8 * n ≤ (bndN k : Int) ∧ 8 * n - M ≤ (bndN k : Int) := by
      rcases Nat.eq_zero_or_pos k with h | h
      · subst h; show M - 8 * n ≤ ((8589934592 : Nat) : Int) ∧ 8 * n - M ≤ ((8589934592 : Nat) : Int); omega
      · exact (h1 h).2
    refine ⟨_, _, _, _, ⟨hm', fun _ => ⟨rfl, ?_, ?_⟩, fun h => ?_⟩, s⟩
    · rw [bnd_next]; omega
    · rw [bnd_next]; omega
    · by_cases hk : 200 ≤ k
      · obtain ⟨a1, a2, a3⟩ := h2 hk
        refine ⟨by omega, by omega, ?_⟩
        rw [show k + 1 - 200 = (k - 200) + 1 by omega, far_next]
        have g : gapOf n (M / 8) ≤ 1 := by unfold gapOf; split <;> omega
        omega
      · obtain rfl : k = 199 := by omega
        have b := bnd_200
        have e : bndN 200 = bndN 199 - bndN 199 / 8 := bnd_next 199
        refine ⟨by omega, by omega, ?_⟩
        show _ ≤ ((4294967296 : Nat) : Int)
        omega
theorem steady_end {n : Int} {B : Bool} {M F : Int} (h : SteadyI n 400 B M F) : B = true ∧ 0 ≤ M / 8 ∧ M / 8 ≤ 1073741824 ∧ M / 8 - n ≤ 0 ∧ n - M / 8 ≤ 1 ∧ F / 4 ≤ 2 ∧ MayRtt B M F := by
  obtain ⟨hm, h1, h2⟩ := h
  obtain ⟨a1, a2, a3⟩ := h2 (by omega)
  have r := may_in hm
  have f := far_200
  have a4 : F ≤ (farN 200 : Int) := a3
  exact ⟨(h1 (by omega)).1, by omega, by omega, by omega, by omega, by omega, hm⟩
theorem rttSteady_walk (b : Bool) (m f t : Int) (w : World) (ht : 0 ≤ t ∧ t ≤ 4294967295) : Calls Try.prog 5 #[.agg #[.bool b, .int .i64 m, .int .i64 f], .int .u32 t] w fun e w' => e = .returned (.bool true) ∧ Kept w w' := by
  by_cases hr : MayRtt b m f
  · have n1 : 1 ≤ 1 + t % 1073741824 := by omega
    have n2 : 1 + t % 1073741824 ≤ 1073741824 := by omega
    generalize hn : 1 + t % 1073741824 = n at n1 n2
    refine steady_yes ht.1 ht.2 hn (fun w => Check_yes hr w) (SteadyI n) ⟨hr, fun h => by omega, fun h => by omega⟩ (fun k B M F _ h => ?_) (fun B M F h => ?_) w
    · obtain ⟨B', M', F', er, i, s⟩ := steady_step n1 n2 h
      exact ⟨B', M', F', er, i, fun w => Sample_ok s w⟩
    · obtain ⟨a, a0, a1, a2, a3, a4, a5⟩ := steady_end h
      exact ⟨a, _, _, a0, a1, a2, a3, a4, fun w => mean_val a5 w, fun w => far_val a5 w⟩
  · exact steady_no ht.1 ht.2 (fun w => Check_no hr w) w
end Go.Proofs.Ythjchmjpiijfnaa
