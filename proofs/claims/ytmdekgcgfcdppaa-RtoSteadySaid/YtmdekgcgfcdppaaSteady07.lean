/-
  The walk of RtoSteady: it answers true, if the calls do what they are to do.
-/
import Derived.Test.YtmdekgcgfcdppaaAwake07
import Derived.Test.YtmdekgcgfcdppaaSample06
import Derived.Deep.DeepCutAuto
namespace Go.Proofs.Ytmdekgcgfcdppaa
open Go.RowKit Go.BigFrame
set_option linter.unusedVariables false

theorem RC.ne7 {w : World} {g : Nat} {b : Bool} {m f : Int} (h : RC w g b m f) : g < w.heap.size := cell_lt h.1.1
set_option maxRecDepth 100000 in
set_option maxHeartbeats 3200000 in
theorem steady7_walk {t gr n g : Int} (t0 : 0 ≤ t) (t1 : t ≤ 4294967295) (y0 : 0 ≤ gr) (y1 : gr ≤ 65535) (hn : 1 + t % 1073741824 = n) (hg : 1 + gr = g) (Inv : Nat → Bool → Int → Int → Prop) (I0 : Inv 0 false 0 0)
    (IS : ∀ k B M F, k < 150 → Inv k B M F → ∃ B' M' F', Inv (k + 1) B' M' F' ∧ ∀ w, Calls Try.prog 17 #[.agg #[.bool B, .int .i64 M, .int .i64 F], .int .i64 n] w fun e w' => e = .returned (.tuple #[.agg #[.bool B', .int .i64 M', .int .i64 F'], .int .i64 0]) ∧ Kept w w')
    (IE : ∀ B M F, Inv 150 B M F → F ≤ 3 ∧ 0 ≤ F ∧ ∃ x : Int, (if g < F then F else g) = x ∧ 0 ≤ x ∧ x ≤ 65536 ∧ ∀ w, Calls Try.prog 11 #[.agg #[.bool B, .int .i64 M, .int .i64 F], .agg #[.int .i64 0, .int .i64 0, .int .i64 0, .int .i64 g, .int .i64 0, .int .i64 0, .int .i64 0]] w fun e w' => e = .returned (.int .i64 (n + x)) ∧ Kept w w') (AW : ∀ w, Calls Try.prog 9 #[] w fun e w' => e = .returned (.bool true) ∧ Kept w w') (w : World) : Calls Try.prog 7 #[.int .u32 t, .int .u16 gr] w fun e w' => e = .returned (.bool true) ∧ Kept w w' := by
  have n1 : 1 ≤ n := by omega
  have n2 : n ≤ 1073741824 := by omega
  have IS' := Lib.hid IS
  have IE' := Lib.hid IE
  have AW' := Lib.hid AW
  clear IS IE AW
  go_enter Try.func7, Try.ntmps7
  go_wp2_with fail
  refine (AW'.out _).mono ?_
  rintro e w1 ⟨rfl, k1⟩
  go_upto_region 5 with fail
  generalize hW : World.alloc w1 (.cells #[.bool false, .int .i64 0, .int .i64 0] 23) = W_s
  have K_s : Kept w1 W_s := by subst hW; exact (Kept.refl _).alloc _ _
  have R_s : RC W_s w1.heap.size false 0 0 := by subst hW; exact ⟨⟨by simp [go_sem], by simp [go_sem], by simp [go_sem]⟩, by simp [go_sem], by simp [go_sem], by simp [go_sem]⟩
  clear hW
  have lr : w.heap.size ≤ w1.heap.size := Kept.below k1
  have kr : Kept w W_s := Kept.trans k1 K_s
  clear k1 K_s hn hg t0 t1 y0 y1
  generalize w1.heap.size = g_s at *
  generalize t % 1073741824 = tt at *
  go_wp2
  go_loopw [9] (fun i wr => ∃ (k : Nat) (B : Bool) (M F : Int), k ≤ 150 ∧ i = .int .i64 k ∧ Inv k B M F ∧ RC wr g_s B M F ∧ Kept w wr) (fun i _ => 150 - (intOf i).toNat)
  case atStart => exact ⟨0, false, 0, 0, Nat.zero_le _, rfl, I0, R_s, kr⟩
  case round =>
    clear R_s kr I0
    obtain ⟨k, B, M, FF, hk, rfl, hI, hR, kw⟩ := hrel
    have HR := Lib.hid hR
    clear hR
    obtain ⟨⟨c0, c1, c2⟩, c3, c4, c5⟩ := HR.out
    by_cases hlt : k < 150
    · obtain ⟨B2, M2, F2, hI2, S⟩ := IS'.out k B M FF hlt hI
      have HS := Lib.hid S
      have HI := Lib.hid hI2
      have lz := cell_lt c0
      clear S hI2
      go_wp2_with fail
      refine (HS.out _).mono ?_
      rintro e w3 ⟨rfl, k3⟩
      have HR3 := Lib.hid (HR.out.kept k3)
      have k3' := Kept.trans kw k3
      have lz3 : g_s < w3.heap.size := Nat.lt_of_lt_of_le lz (Kept.below k3)
      clear c0 c1 c2 c3 c4 c5 HR k3 lz kw
      go_upto_region 9 with fail
      generalize hW : World.alloc w3 (.cells #[.bool B2, .int .i64 M2, .int .i64 F2] 23) = W_x
      have K_x : Kept w3 W_x := by subst hW; exact (Kept.refl _).alloc _ _
      have R_x : RC W_x w3.heap.size B2 M2 F2 := by subst hW; exact ⟨⟨by simp [go_sem], by simp [go_sem], by simp [go_sem]⟩, by simp [go_sem], by simp [go_sem], by simp [go_sem]⟩
      clear hW
      have HA := Lib.hid (HR3.out.kept K_x)
      have HB := Lib.hid R_x
      have kw := Kept.trans k3' K_x
      clear R_x HR3 k3' K_x
      generalize w3.heap.size = g_x at *
      have gne : ¬ g_x = g_s := by omega
      have gne' : ¬ g_s = g_x := by omega
      obtain ⟨⟨c0, c1, c2⟩, c3, c4, c5⟩ := HA.out
      obtain ⟨⟨d0, d1, d2⟩, d3, d4, d5⟩ := HB.out
      go_wp2
      go_roundw
      case rel => exact ⟨k + 1, B2, M2, F2, by omega, by go_num, HI.out, ⟨⟨by simp [*, go_sem], by simp [*, go_sem], by simp [*, go_sem]⟩, by simp [*, go_sem], by simp [*, go_sem], by simp [*, go_sem]⟩, (by (repeat (first | with_reducible exact Kept.refl _ | with_reducible apply Kept.drew | with_reducible apply Kept.alloc | ((with_reducible apply Kept.set); focus (simp <;> omega)) | ((with_reducible apply Kept.via); focus with_reducible assumption))))⟩
      case measure => simp [intOf]; omega
    · obtain rfl : k = 150 := by omega
      obtain ⟨q2, q0, x, hx, x0, x1, BB⟩ := IE'.out B M FF hI
      have BB' := Lib.hid BB
      clear BB hI hk c0 c1 c2 c3 c4 c5
      have d3 : decide (FF ≤ 3) = true := by simp [q2]
      have wx : IntKind.i64.wrap (n + x) = n + x := by rw [IntKind.wrap_i64]; omega
      have H_s := Lib.hid HR.out.1
      go_upto_region 12 with fail
      have B_s := Lib.hid (Kept.all3 (show Kept wr wr from (by (repeat (first | with_reducible exact Kept.refl _ | with_reducible apply Kept.drew | with_reducible apply Kept.alloc | ((with_reducible apply Kept.set); focus (simp <;> omega)) | ((with_reducible apply Kept.via); focus with_reducible assumption))))) H_s)
      have kall : Kept w wr := (by (repeat (first | with_reducible exact Kept.refl _ | with_reducible apply Kept.drew | with_reducible apply Kept.alloc | ((with_reducible apply Kept.set); focus (simp <;> omega)) | ((with_reducible apply Kept.via); focus with_reducible assumption))))
      obtain ⟨q_s0, q_s1, q_s2⟩ := kw3 B_s
      clear B_s
      refine wp_region_kept (by kernel_rfl) (by as_aux_lemma => kernel_rfl) ?_
      repeat (go_big_quiet_step (first | (with_reducible exact kept_of (BB'.out _))))
      refine wpQuiet_nil ?_
      intro wq hw'
      have kq : Kept wr wq := by obtain ⟨p, rfl⟩ := hw'; exact p.k
      clear hw'
      go_wp2
      go_ret
      exact ⟨rfl, kall.trans kq⟩
/-- How far a time strays that comes again and again, in quarters. -/
def strayN : Nat → Nat | 0 => 4294967296 | k + 1 => strayN k - strayN k / 4
theorem stray_end : strayN 149 ≤ 3 := by decide +kernel
theorem stray_next (k : Nat) : strayN (k + 1) = strayN k - strayN k / 4 := rfl
/-- What holds behind k like times. -/
def Steady7 (n : Int) (k : Nat) (B : Bool) (M F : Int) : Prop := (k = 0 ∧ B = false ∧ M = 0 ∧ F = 0) ∨ (1 ≤ k ∧ B = true ∧ M = 8 * n ∧ 0 ≤ F ∧ F ≤ (strayN (k - 1) : Int))
theorem stray_le : ∀ k, strayN k ≤ 4294967296
  | 0 => Nat.le_refl _
  | k + 1 => by have := stray_le k; rw [stray_next]; omega
theorem steady7_step {n : Int} (n1 : 1 ≤ n) (n2 : n ≤ 1073741824) {k : Nat} {B : Bool} {M F : Int} (h : Steady7 n k B M F) : ∃ B' M' F', Steady7 n (k + 1) B' M' F' ∧ SampleIs B M F n B' M' F' 0 := by
  rcases h with ⟨rfl, rfl, rfl, rfl⟩ | ⟨hk, rfl, rfl, f0, f1⟩
  · refine ⟨true, 8 * n, 2 * n, Or.inr ⟨by omega, rfl, rfl, by omega, ?_⟩, Or.inr (Or.inl ⟨Or.inl ⟨rfl, rfl, rfl⟩, ⟨n1, n2⟩, rfl, rfl, rfl, rfl, rfl⟩)⟩
    show 2 * n ≤ ((4294967296 : Nat) : Int)
    omega
  · have le := stray_le (k - 1)
    have e : gapOf n (8 * n / 8) = 0 := by
      rw [show 8 * n / 8 = n by omega]; unfold gapOf; rw [if_neg (by omega)]; omega
    refine ⟨true, 8 * n, F - F / 4, Or.inr ⟨by omega, rfl, rfl, by omega, ?_⟩, Or.inr (Or.inr ⟨Or.inr ⟨rfl, by omega, by omega, f0, by omega⟩, ⟨n1, n2⟩, rfl, rfl, by omega, by rw [e]; omega, rfl⟩)⟩
    rw [show k + 1 - 1 = (k - 1) + 1 by omega, stray_next]
    omega
theorem rtoSteady_walk (BC : BaseC) (OC : OfC) (UC : BackC) (AC : AllC) (t gr : Int) (w : World) (ht : 0 ≤ t ∧ t ≤ 4294967295) (hg : 0 ≤ gr ∧ gr ≤ 65535) : Calls Try.prog 7 #[.int .u32 t, .int .u16 gr] w fun e w' => e = .returned (.bool true) ∧ Kept w w' := by
  have n1 : 1 ≤ 1 + t % 1073741824 := by omega
  have n2 : 1 + t % 1073741824 ≤ 1073741824 := by omega
  generalize hn : 1 + t % 1073741824 = n at n1 n2
  refine steady7_walk ht.1 ht.2 hg.1 hg.2 hn rfl (Steady7 n) (Or.inl ⟨rfl, rfl, rfl, rfl⟩) (fun k B M F _ h => ?_) (fun B M F h => ?_) (fun w => awake07 BC OC UC AC w) w
  · obtain ⟨B', M', F', i, s⟩ := steady7_step n1 n2 h
    exact ⟨B', M', F', i, fun w => Sample_ok s w⟩
  · rcases h with ⟨h, _⟩ | ⟨_, rfl, rfl, f0, f1⟩
    · omega
    · have e := stray_end
      have f2 : F ≤ 3 := by
        have : (strayN (150 - 1) : Int) ≤ 3 := by exact_mod_cast e
        omega
      refine ⟨f2, f0, _, rfl, by split <;> omega, by split <;> omega, fun w => BC _ _ _ _ _ _ _ _ _ _ _ (Or.inr ⟨Or.inr ⟨rfl, by omega, by omega, f0, by omega⟩, rfl, ?_⟩) w⟩
      have z : heldT (1 + gr) = 1 + gr := by unfold heldT; rw [if_neg (by omega), if_neg (by omega)]
      rw [z, show 8 * n / 8 = n by omega]
      split <;> omega
end Go.Proofs.Ytmdekgcgfcdppaa
