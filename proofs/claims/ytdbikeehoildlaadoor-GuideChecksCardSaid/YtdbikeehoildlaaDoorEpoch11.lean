/-
  What the calls of package epoch do.
-/
import Derived.Test.YtdbikeehoildlaaDoorCon11
import Derived.Test.YtdbikeehoildlaaDoorPartA04
import Derived.Test.YtdbikeehoildlaaDoorRoot03
import Derived.Test.YtdbikeehoildlaaDoorSemA02
import Derived.Test.YtdbikeehoildlaaDoorOne01
import Derived.OwnWalk
import Derived.Laws.StructEq
import Derived.Deep.RegionHeld3
import Derived.Deep.DeepCutAuto
namespace Go.Proofs.YtdbikeehoildlaaDoor
open Go.RowKit Go.BigFrame
set_option linter.unusedVariables false

set_option maxRecDepth 100000 in
set_option maxHeartbeats 1600000 in
theorem ewi_a {n hi : Int} (d0 : decide (0 ≤ n) = false) (w : World) : Calls Tryd.prog 38 #[.int .i64 n, .int .i64 hi] w fun e w' => e = .returned (.bool false) ∧ Kept w w' := by
  go_enter Tryd.func38, Tryd.ntmps38
  go_wp2
  go_ret
  exact ⟨rfl, (by (repeat (first | with_reducible exact Kept.refl _ | with_reducible apply Kept.drew | with_reducible apply Kept.alloc | ((with_reducible apply Kept.set); focus (simp <;> omega)) | ((with_reducible apply Kept.via); focus with_reducible assumption))))⟩
set_option maxRecDepth 100000 in
set_option maxHeartbeats 1600000 in
theorem ewi_b {n hi : Int} (d0 : decide (0 ≤ n) = true) (d1 : decide (n ≤ hi) = false) (w : World) : Calls Tryd.prog 38 #[.int .i64 n, .int .i64 hi] w fun e w' => e = .returned (.bool false) ∧ Kept w w' := by
  go_enter Tryd.func38, Tryd.ntmps38
  go_wp2
  go_ret
  exact ⟨rfl, (by (repeat (first | with_reducible exact Kept.refl _ | with_reducible apply Kept.drew | with_reducible apply Kept.alloc | ((with_reducible apply Kept.set); focus (simp <;> omega)) | ((with_reducible apply Kept.via); focus with_reducible assumption))))⟩
set_option maxRecDepth 100000 in
set_option maxHeartbeats 1600000 in
theorem ewi_y {n hi : Int} (d0 : decide (0 ≤ n) = true) (d1 : decide (n ≤ hi) = true) (w : World) : Calls Tryd.prog 38 #[.int .i64 n, .int .i64 hi] w fun e w' => e = .returned (.bool true) ∧ Kept w w' := by
  go_enter Tryd.func38, Tryd.ntmps38
  go_wp2
  go_ret
  exact ⟨rfl, (by (repeat (first | with_reducible exact Kept.refl _ | with_reducible apply Kept.drew | with_reducible apply Kept.alloc | ((with_reducible apply Kept.set); focus (simp <;> omega)) | ((with_reducible apply Kept.via); focus with_reducible assumption))))⟩
theorem ewithin {n hi : Int} {v : Bool} (hv : v = decide (0 ≤ n ∧ n ≤ hi)) (w : World) : Calls Tryd.prog 38 #[.int .i64 n, .int .i64 hi] w fun e w' => e = .returned (.bool v) ∧ Kept w w' := by
  subst hv
  by_cases h0 : 0 ≤ n
  · by_cases h1 : n ≤ hi
    · rw [decide_eq_true (show 0 ≤ n ∧ n ≤ hi from ⟨h0, h1⟩)]; exact ewi_y (by simp [h0]) (by simp [h1]) w
    · rw [decide_eq_false (fun x => h1 x.2)]; exact ewi_b (by simp [h0]) (by simp; omega) w
  · rw [decide_eq_false (fun x => h0 x.1)]; exact ewi_a (by simp; omega) w
set_option maxRecDepth 100000 in
set_option maxHeartbeats 1600000 in
theorem ewin {n : Int} {v : Bool} (hv : v = decide (IsWin n)) (w : World) : Calls Tryd.prog 37 #[.int .i64 n] w fun e w' => e = .returned (.bool v) ∧ Kept w w' := by
  have P := Lib.hid (fun w => ewithin (n := n) (hi := 68719476736) (v := v) hv w)
  clear hv
  go_enter Tryd.func37, Tryd.ntmps37
  go_wp2_with fail
  refine (P.out _).mono ?_
  rintro e w1 ⟨rfl, k1⟩
  go_wp2
  go_ret
  exact ⟨rfl, (by (repeat (first | with_reducible exact Kept.refl _ | with_reducible apply Kept.drew | with_reducible apply Kept.alloc | ((with_reducible apply Kept.set); focus (simp <;> omega)) | ((with_reducible apply Kept.via); focus with_reducible assumption))))⟩
/-- A big number that lies in a block, which may be written. -/
def RB (w : World) (g : Nat) (b : Bool) (h l : Int) : Prop := (w.cell? ⟨g, 0, none⟩ = some (.bool b) ∧ w.cell? ⟨g, 1, none⟩ = some (.int .u64 h) ∧ w.cell? ⟨g, 2, none⟩ = some (.int .u64 l)) ∧ w.frozen? ⟨g, 0, none⟩ = false ∧ w.frozen? ⟨g, 1, none⟩ = false ∧ w.frozen? ⟨g, 2, none⟩ = false
theorem RB.kept {w w' : World} {g : Nat} {b : Bool} {h l : Int} (r : RB w g b h l) (k : Kept w w') : RB w' g b h l := by
  obtain ⟨⟨c0, c1, c2⟩, f0, f1, f2⟩ := r
  exact ⟨⟨k.read c0, k.read c1, k.read c2⟩, k.thaw f0, k.thaw f1, k.thaw f2⟩
theorem rb_new (w : World) (b : Bool) (h l : Int) (t : TypeId) : RB (w.alloc (.cells #[.bool b, .int .u64 h, .int .u64 l] t)) w.heap.size b h l := ⟨⟨by simp [go_sem], by simp [go_sem], by simp [go_sem]⟩, by simp [go_sem], by simp [go_sem], by simp [go_sem]⟩
theorem rb_store {w : World} {g : Nat} {b0 b : Bool} {h0 l0 h l : Int} (r : RB w g b0 h0 l0) : RB (World.setCell (World.setCell (World.setCell w ⟨g, 0, none⟩ (.bool b)) ⟨g, 1, none⟩ (.int .u64 h)) ⟨g, 2, none⟩ (.int .u64 l)) g b h l := by
  obtain ⟨⟨c0, c1, c2⟩, f0, f1, f2⟩ := r
  exact ⟨⟨by simp [go_sem, *], by simp [go_sem, *], by simp [go_sem, *]⟩, by simp [go_sem, *], by simp [go_sem, *], by simp [go_sem, *]⟩
set_option maxRecDepth 100000 in
theorem tens_at0 (w : World) : (Instr.index 84 (.agg #[.int .u64 10, .int .u64 1000000, .int .u64 1000000, .int .u64 1000000]) (.int .i64 0)).run Tryd.prog w = .ok (.int .u64 10) w := by rfl
set_option maxRecDepth 100000 in
theorem tens_at1 (w : World) : (Instr.index 84 (.agg #[.int .u64 10, .int .u64 1000000, .int .u64 1000000, .int .u64 1000000]) (.int .i64 1)).run Tryd.prog w = .ok (.int .u64 1000000) w := by rfl
set_option maxRecDepth 100000 in
theorem tens_at2 (w : World) : (Instr.index 84 (.agg #[.int .u64 10, .int .u64 1000000, .int .u64 1000000, .int .u64 1000000]) (.int .i64 2)).run Tryd.prog w = .ok (.int .u64 1000000) w := by rfl
set_option maxRecDepth 100000 in
theorem tens_at3 (w : World) : (Instr.index 84 (.agg #[.int .u64 10, .int .u64 1000000, .int .u64 1000000, .int .u64 1000000]) (.int .i64 3)).run Tryd.prog w = .ok (.int .u64 1000000) w := by rfl
set_option maxRecDepth 100000 in
set_option maxHeartbeats 1600000 in
theorem ek_any (b0 b1 b2 b3 b4 b5 : Bool) (h0 h1 h2 h3 h4 h5 l0 l1 l2 l3 l4 l5 g G n m : Int) (nw : IntKind.i64.wrap n = n) (w : World) (T_ : Tens w) (CL : ∀ w, Calls Tryd.prog 61 #[.int .i64 g, .int .i64 0, .int .i64 68719476736] w fun e w' => e = .returned (.int .i64 G) ∧ Kept w w') (OF : ∀ w, Calls Tryd.prog 60 #[.int .i64 G] w fun e w' => e = .returned (.agg #[.bool b0, .int .u64 h0, .int .u64 l0]) ∧ Kept w w') (S0 : ∀ w, Calls Tryd.prog 62 #[.agg #[.bool b0, .int .u64 h0, .int .u64 l0], .int .u64 10] w fun e w' => e = .returned (.tuple #[.agg #[.bool b1, .int .u64 h1, .int .u64 l1], .int .i64 0]) ∧ Kept w w') (S1 : ∀ w, Calls Tryd.prog 62 #[.agg #[.bool b1, .int .u64 h1, .int .u64 l1], .int .u64 1000000] w fun e w' => e = .returned (.tuple #[.agg #[.bool b2, .int .u64 h2, .int .u64 l2], .int .i64 0]) ∧ Kept w w') (S2 : ∀ w, Calls Tryd.prog 62 #[.agg #[.bool b2, .int .u64 h2, .int .u64 l2], .int .u64 1000000] w fun e w' => e = .returned (.tuple #[.agg #[.bool b3, .int .u64 h3, .int .u64 l3], .int .i64 0]) ∧ Kept w w') (S3 : ∀ w, Calls Tryd.prog 62 #[.agg #[.bool b3, .int .u64 h3, .int .u64 l3], .int .u64 1000000] w fun e w' => e = .returned (.tuple #[.agg #[.bool b4, .int .u64 h4, .int .u64 l4], .int .i64 0]) ∧ Kept w w') (DV : ∀ w, Calls Tryd.prog 63 #[.agg #[.bool b4, .int .u64 h4, .int .u64 l4], .int .u64 262144] w fun e w' => e = .returned (.tuple #[.agg #[.bool b5, .int .u64 h5, .int .u64 l5], .int .u64 m, .int .i64 0]) ∧ Kept w w') (TH : ∀ w, Calls Tryd.prog 64 #[.agg #[.bool b5, .int .u64 h5, .int .u64 l5]] w fun e w' => e = .returned (.int .u64 n) ∧ Kept w w') : Calls Tryd.prog 39 #[.int .i64 g] w fun e w' => e = .returned (.int .i64 n) ∧ Kept w w' := by
  have CL' := Lib.hid CL
  have OF' := Lib.hid OF
  have S0' := Lib.hid S0
  have S1' := Lib.hid S1
  have S2' := Lib.hid S2
  have S3' := Lib.hid S3
  have DV' := Lib.hid DV
  have TH' := Lib.hid TH
  clear CL OF S0 S1 S2 S3 DV TH
  have T := Lib.hid T_
  clear T_
  go_enter Tryd.func39, Tryd.ntmps39
  go_wp2_with fail
  refine (CL'.out _).mono ?_
  rintro e w1 ⟨rfl, k1⟩
  go_wp2_with fail
  refine (OF'.out _).mono ?_
  rintro e w2 ⟨rfl, k2⟩
  go_upto_region 2 with fail
  have R0 := Lib.hid (rb_new w2 b0 h0 l0 61)
  generalize hW : World.alloc w2 (.cells #[.bool b0, .int .u64 h0, .int .u64 l0] 61) = W0 at *
  have K0 : Kept w W0 := Kept.trans (Kept.trans k1 k2) (by subst hW; exact (Kept.refl _).alloc _ _)
  have gq : w.heap.size ≤ w2.heap.size := Kept.below (Kept.trans k1 k2)
  clear hW k1 k2
  generalize hq : w2.heap.size = q at *
  clear hq
  have T0 := Lib.hid (T.out.kept K0)
  obtain ⟨e0, e1, e2, e3⟩ := T0.out
  go_wp2_with fail
  go_loopw [10] (fun i wx => ∃ k : Int, i = .int .i64 k ∧ ((k = 0 ∧ RB wx q b0 h0 l0) ∨ (k = 1 ∧ RB wx q b1 h1 l1) ∨ (k = 2 ∧ RB wx q b2 h2 l2) ∨ (k = 3 ∧ RB wx q b3 h3 l3) ∨ (k = 4 ∧ RB wx q b4 h4 l4)) ∧ Kept w wx) (fun i _ => (4 - intOf i).toNat)
  case atStart => exact ⟨0, rfl, Or.inl ⟨rfl, R0.out⟩, K0⟩
  case round =>
    obtain ⟨k, rfl, hk, kr⟩ := hrel
    clear e0 e1 e2 e3 T0 R0 K0
    rcases hk with ⟨rfl, R⟩ | ⟨rfl, R⟩ | ⟨rfl, R⟩ | ⟨rfl, R⟩ | ⟨rfl, R⟩
    · have RA := Lib.hid R
      obtain ⟨⟨c0, c1, c2⟩, f0, f1, f2⟩ := RA.out
      clear R
      have ix := tens_at0 wr
      go_wp2_with fail
      refine (S0'.out _).mono ?_
      rintro e w3 ⟨rfl, k3⟩
      clear c0 c1 c2 f0 f1 f2
      have RX := Lib.hid (RA.out.kept k3)
      have k4 := Kept.trans kr k3
      clear RA k3
      obtain ⟨⟨c0, c1, c2⟩, f0, f1, f2⟩ := RX.out
      go_wp2_with fail
      go_roundw
      case rel => exact ⟨1, rfl, Or.inr (Or.inl ⟨rfl, rb_store RX.out⟩), (by (repeat (first | with_reducible exact Kept.refl _ | with_reducible apply Kept.drew | with_reducible apply Kept.alloc | ((with_reducible apply Kept.set); focus (simp <;> omega)) | ((with_reducible apply Kept.via); focus with_reducible assumption))))⟩
      case measure => simp [intOf]
    · have RA := Lib.hid R
      obtain ⟨⟨c0, c1, c2⟩, f0, f1, f2⟩ := RA.out
      clear R
      have ix := tens_at1 wr
      go_wp2_with fail
      refine (S1'.out _).mono ?_
      rintro e w3 ⟨rfl, k3⟩
      clear c0 c1 c2 f0 f1 f2
      have RX := Lib.hid (RA.out.kept k3)
      have k4 := Kept.trans kr k3
      clear RA k3
      obtain ⟨⟨c0, c1, c2⟩, f0, f1, f2⟩ := RX.out
      go_wp2_with fail
      go_roundw
      case rel => exact ⟨2, rfl, Or.inr (Or.inr (Or.inl ⟨rfl, rb_store RX.out⟩)), (by (repeat (first | with_reducible exact Kept.refl _ | with_reducible apply Kept.drew | with_reducible apply Kept.alloc | ((with_reducible apply Kept.set); focus (simp <;> omega)) | ((with_reducible apply Kept.via); focus with_reducible assumption))))⟩
      case measure => simp [intOf]
    · have RA := Lib.hid R
      obtain ⟨⟨c0, c1, c2⟩, f0, f1, f2⟩ := RA.out
      clear R
      have ix := tens_at2 wr
      go_wp2_with fail
      refine (S2'.out _).mono ?_
      rintro e w3 ⟨rfl, k3⟩
      clear c0 c1 c2 f0 f1 f2
      have RX := Lib.hid (RA.out.kept k3)
      have k4 := Kept.trans kr k3
      clear RA k3
      obtain ⟨⟨c0, c1, c2⟩, f0, f1, f2⟩ := RX.out
      go_wp2_with fail
      go_roundw
      case rel => exact ⟨3, rfl, Or.inr (Or.inr (Or.inr (Or.inl ⟨rfl, rb_store RX.out⟩))), (by (repeat (first | with_reducible exact Kept.refl _ | with_reducible apply Kept.drew | with_reducible apply Kept.alloc | ((with_reducible apply Kept.set); focus (simp <;> omega)) | ((with_reducible apply Kept.via); focus with_reducible assumption))))⟩
      case measure => simp [intOf]
    · have RA := Lib.hid R
      obtain ⟨⟨c0, c1, c2⟩, f0, f1, f2⟩ := RA.out
      clear R
      have ix := tens_at3 wr
      go_wp2_with fail
      refine (S3'.out _).mono ?_
      rintro e w3 ⟨rfl, k3⟩
      clear c0 c1 c2 f0 f1 f2
      have RX := Lib.hid (RA.out.kept k3)
      have k4 := Kept.trans kr k3
      clear RA k3
      obtain ⟨⟨c0, c1, c2⟩, f0, f1, f2⟩ := RX.out
      go_wp2_with fail
      go_roundw
      case rel => exact ⟨4, rfl, Or.inr (Or.inr (Or.inr (Or.inr (⟨rfl, rb_store RX.out⟩)))), (by (repeat (first | with_reducible exact Kept.refl _ | with_reducible apply Kept.drew | with_reducible apply Kept.alloc | ((with_reducible apply Kept.set); focus (simp <;> omega)) | ((with_reducible apply Kept.via); focus with_reducible assumption))))⟩
      case measure => simp [intOf]
    · have RA := Lib.hid R
      obtain ⟨⟨c0, c1, c2⟩, f0, f1, f2⟩ := RA.out
      clear R
      go_wp2_with fail
      refine (DV'.out _).mono ?_
      rintro e w3 ⟨rfl, k3⟩
      clear c0 c1 c2 f0 f1 f2
      have RX := Lib.hid (RA.out.kept k3)
      have k4 := Kept.trans kr k3
      clear RA k3
      obtain ⟨⟨c0, c1, c2⟩, f0, f1, f2⟩ := RX.out
      go_wp2_with fail
      refine (TH'.out _).mono ?_
      rintro e w5 ⟨rfl, k5⟩
      go_wp2
      go_ret
      exact ⟨rfl, (by (repeat (first | with_reducible exact Kept.refl _ | with_reducible apply Kept.drew | with_reducible apply Kept.alloc | ((with_reducible apply Kept.set); focus (simp <;> omega)) | ((with_reducible apply Kept.via); focus with_reducible assumption))))⟩
theorem ek_c : EKC := fun g n hg hk w T => by
  have gr := gapK_range g
  have kr := k_range hk
  have hG : In64 (gapK g) := by unfold In64; omega
  have cl : clampAt g 0 68719476736 = gapK g := by unfold clampAt gapK; rfl
  unfold KIs at hk
  generalize gapK g = G at *
  obtain ⟨b0, h0, l0, r0⟩ := rep_ex G (by unfold InBig; omega)
  obtain ⟨b1, h1, l1, r1⟩ := rep_ex (G * 10) (by unfold InBig; omega)
  obtain ⟨b2, h2, l2, r2⟩ := rep_ex (G * 10 * 1000000) (by unfold InBig; omega)
  obtain ⟨b3, h3, l3, r3⟩ := rep_ex (G * 10 * 1000000 * 1000000) (by unfold InBig; omega)
  obtain ⟨b4, h4, l4, r4⟩ := rep_ex (G * 10 * 1000000 * 1000000 * 1000000) (by unfold InBig; omega)
  obtain ⟨b5, h5, l5, r5⟩ := rep_ex (G * 10 * 1000000 * 1000000 * 1000000 / 262144) (by unfold InBig; omega)
  have f5 : sz h5 l5 = G * 10000000000000000000 / 262144 := by
    have := rep_size r5
    rw [if_neg (by omega)] at this
    omega
  exact ek_any b0 b1 b2 b3 b4 b5 h0 h1 h2 h3 h4 h5 l0 l1 l2 l3 l4 l5 g G n _ (by rw [IntKind.wrap_i64]; omega) w T
    (fun w => (clamp_any_s g 0 68719476736 w).mono (fun _ _ ⟨h, k⟩ => by rw [cl] at h; exact ⟨h, k ▸ Kept.refl _⟩))
    (fun w => Of_rep hG r0 w)
    (fun w => Scale_yes r0.1 r0.2.1 ⟨by omega, by omega⟩ (by rw [r0.2.2.1]; exact r1) w)
    (fun w => Scale_yes r1.1 r1.2.1 ⟨by omega, by omega⟩ (by rw [r1.2.2.1]; exact r2) w)
    (fun w => Scale_yes r2.1 r2.2.1 ⟨by omega, by omega⟩ (by rw [r2.2.2.1]; exact r3) w)
    (fun w => Scale_yes r3.1 r3.2.1 ⟨by omega, by omega⟩ (by rw [r3.2.2.1]; exact r4) w)
    (fun w => Div_ok r4.1 r4.2.1 ⟨by omega, by omega⟩ (by omega) (by rw [r4.2.2.1]; exact r5) w)
    (fun w => Third_ok r5.1 r5.2.1 (by rw [f5]; exact hk) w)
set_option maxRecDepth 100000 in
set_option maxHeartbeats 1600000 in
theorem ebg_a {a n m : Int} (PA : ∀ w, Calls Tryd.prog 38 #[.int .i64 a, .int .i64 1099511627776] w fun e w' => e = .returned (.bool false) ∧ Kept w w')  (w : World) : Calls Tryd.prog 25 #[.int .i64 a, .int .i64 n, .int .i64 m] w fun e w' => e = .returned (.tuple #[.agg #[.bool false, .int .i64 0, .int .i64 0, .int .i64 0, .int .i64 0, .int .i64 0], .int .i64 201]) ∧ Kept w w' := by
  have PA' := Lib.hid PA
  clear PA
  go_enter Tryd.func25, Tryd.ntmps25
  go_upto_region 1 with fail
  generalize hW : World.alloc w (.cells #[.bool false, .int .i64 0, .int .i64 0, .int .i64 0, .int .i64 0, .int .i64 0] 25) = W0
  have KW0 : Kept w W0 := by subst hW; exact (Kept.refl _).alloc _ _
  have RW0 := Lib.hid (show RE W0 w.heap.size (⟨false, 0, 0, 0, 0, 0⟩ : Ep) from by subst hW; exact re_new w (⟨false, 0, 0, 0, 0, 0⟩ : Ep) _)
  have LW0 : w.heap.size < W0.heap.size := by subst hW; simp
  clear hW
  generalize hgW0 : w.heap.size = gW0 at *
  go_wp2_with fail
  refine (PA'.out _).mono ?_
  rintro e w1 ⟨rfl, k1⟩
  have R1 := Lib.hid (RW0.out.kept k1)
  obtain ⟨⟨p0, p1, p2, p3, p4, p5⟩, ⟨pf0, pf1, pf2, pf3, pf4, pf5⟩⟩ := R1.out
  go_wp2
  simp [bodyPost, results, Tryd.results25, go_sem, *]
  exact (by (repeat (first | with_reducible exact Kept.refl _ | with_reducible apply Kept.drew | with_reducible apply Kept.alloc | ((with_reducible apply Kept.set); focus (simp <;> omega)) | ((with_reducible apply Kept.via); focus with_reducible assumption))))
set_option maxRecDepth 100000 in
set_option maxHeartbeats 1600000 in
theorem ebg_n {a n m : Int} (PA : ∀ w, Calls Tryd.prog 38 #[.int .i64 a, .int .i64 1099511627776] w fun e w' => e = .returned (.bool true) ∧ Kept w w') (PN : ∀ w, Calls Tryd.prog 37 #[.int .i64 n] w fun e w' => e = .returned (.bool false) ∧ Kept w w')  (w : World) : Calls Tryd.prog 25 #[.int .i64 a, .int .i64 n, .int .i64 m] w fun e w' => e = .returned (.tuple #[.agg #[.bool false, .int .i64 0, .int .i64 0, .int .i64 0, .int .i64 0, .int .i64 0], .int .i64 201]) ∧ Kept w w' := by
  have PA' := Lib.hid PA
  have PN' := Lib.hid PN
  clear PA PN
  go_enter Tryd.func25, Tryd.ntmps25
  go_upto_region 1 with fail
  generalize hW : World.alloc w (.cells #[.bool false, .int .i64 0, .int .i64 0, .int .i64 0, .int .i64 0, .int .i64 0] 25) = W0
  have KW0 : Kept w W0 := by subst hW; exact (Kept.refl _).alloc _ _
  have RW0 := Lib.hid (show RE W0 w.heap.size (⟨false, 0, 0, 0, 0, 0⟩ : Ep) from by subst hW; exact re_new w (⟨false, 0, 0, 0, 0, 0⟩ : Ep) _)
  have LW0 : w.heap.size < W0.heap.size := by subst hW; simp
  clear hW
  generalize hgW0 : w.heap.size = gW0 at *
  go_wp2_with fail
  refine (PA'.out _).mono ?_
  rintro e w1 ⟨rfl, k1⟩
  have R1 := Lib.hid (RW0.out.kept k1)
  go_wp2_with fail
  refine (PN'.out _).mono ?_
  rintro e w2 ⟨rfl, k2⟩
  have R2 := Lib.hid (R1.out.kept k2)
  obtain ⟨⟨p0, p1, p2, p3, p4, p5⟩, ⟨pf0, pf1, pf2, pf3, pf4, pf5⟩⟩ := R2.out
  go_wp2
  simp [bodyPost, results, Tryd.results25, go_sem, *]
  exact (by (repeat (first | with_reducible exact Kept.refl _ | with_reducible apply Kept.drew | with_reducible apply Kept.alloc | ((with_reducible apply Kept.set); focus (simp <;> omega)) | ((with_reducible apply Kept.via); focus with_reducible assumption))))
set_option maxRecDepth 100000 in
set_option maxHeartbeats 1600000 in
theorem ebg_m {a n m : Int} (PA : ∀ w, Calls Tryd.prog 38 #[.int .i64 a, .int .i64 1099511627776] w fun e w' => e = .returned (.bool true) ∧ Kept w w') (PN : ∀ w, Calls Tryd.prog 37 #[.int .i64 n] w fun e w' => e = .returned (.bool true) ∧ Kept w w') (PM : ∀ w, Calls Tryd.prog 37 #[.int .i64 m] w fun e w' => e = .returned (.bool false) ∧ Kept w w')  (w : World) : Calls Tryd.prog 25 #[.int .i64 a, .int .i64 n, .int .i64 m] w fun e w' => e = .returned (.tuple #[.agg #[.bool false, .int .i64 0, .int .i64 0, .int .i64 0, .int .i64 0, .int .i64 0], .int .i64 201]) ∧ Kept w w' := by
  have PA' := Lib.hid PA
  have PN' := Lib.hid PN
  have PM' := Lib.hid PM
  clear PA PN PM
  go_enter Tryd.func25, Tryd.ntmps25
  go_upto_region 1 with fail
  generalize hW : World.alloc w (.cells #[.bool false, .int .i64 0, .int .i64 0, .int .i64 0, .int .i64 0, .int .i64 0] 25) = W0
  have KW0 : Kept w W0 := by subst hW; exact (Kept.refl _).alloc _ _
  have RW0 := Lib.hid (show RE W0 w.heap.size (⟨false, 0, 0, 0, 0, 0⟩ : Ep) from by subst hW; exact re_new w (⟨false, 0, 0, 0, 0, 0⟩ : Ep) _)
  have LW0 : w.heap.size < W0.heap.size := by subst hW; simp
  clear hW
  generalize hgW0 : w.heap.size = gW0 at *
  go_wp2_with fail
  refine (PA'.out _).mono ?_
  rintro e w1 ⟨rfl, k1⟩
  have R1 := Lib.hid (RW0.out.kept k1)
  go_wp2_with fail
  refine (PN'.out _).mono ?_
  rintro e w2 ⟨rfl, k2⟩
  have R2 := Lib.hid (R1.out.kept k2)
  go_wp2_with fail
  refine (PM'.out _).mono ?_
  rintro e w3 ⟨rfl, k3⟩
  have R3 := Lib.hid (R2.out.kept k3)
  obtain ⟨⟨p0, p1, p2, p3, p4, p5⟩, ⟨pf0, pf1, pf2, pf3, pf4, pf5⟩⟩ := R3.out
  go_wp2
  simp [bodyPost, results, Tryd.results25, go_sem, *]
  exact (by (repeat (first | with_reducible exact Kept.refl _ | with_reducible apply Kept.drew | with_reducible apply Kept.alloc | ((with_reducible apply Kept.set); focus (simp <;> omega)) | ((with_reducible apply Kept.via); focus with_reducible assumption))))
set_option maxRecDepth 100000 in
set_option maxHeartbeats 1600000 in
theorem ebg_y {a n m x k : Int} (PA : ∀ w, Calls Tryd.prog 38 #[.int .i64 a, .int .i64 1099511627776] w fun e w' => e = .returned (.bool true) ∧ Kept w w') (PN : ∀ w, Calls Tryd.prog 37 #[.int .i64 n] w fun e w' => e = .returned (.bool true) ∧ Kept w w') (PM : ∀ w, Calls Tryd.prog 37 #[.int .i64 m] w fun e w' => e = .returned (.bool true) ∧ Kept w w') (PK : ∀ w, Tens w → Calls Tryd.prog 39 #[.int .i64 (x - n)] w fun e w' => e = .returned (.int .i64 k) ∧ Kept w w') (ex : max n m = x) (i0 : -9223372036854775808 ≤ x - n) (i1 : x - n ≤ 9223372036854775807) (w : World) (T_ : Tens w) : Calls Tryd.prog 25 #[.int .i64 a, .int .i64 n, .int .i64 m] w fun e w' => e = .returned (.tuple #[.agg #[.bool true, .int .i64 a, .int .i64 n, .int .i64 x, .int .i64 k, .int .i64 n], .int .i64 0]) ∧ Kept w w' := by
  have PA' := Lib.hid PA
  have PN' := Lib.hid PN
  have PM' := Lib.hid PM
  have PK' := Lib.hid PK
  clear PA PN PM PK
  have T := Lib.hid T_
  clear T_
  go_enter Tryd.func25, Tryd.ntmps25
  go_upto_region 1 with fail
  generalize hW : World.alloc w (.cells #[.bool false, .int .i64 0, .int .i64 0, .int .i64 0, .int .i64 0, .int .i64 0] 25) = W0
  have KW0 : Kept w W0 := by subst hW; exact (Kept.refl _).alloc _ _
  have RW0 := Lib.hid (show RE W0 w.heap.size (⟨false, 0, 0, 0, 0, 0⟩ : Ep) from by subst hW; exact re_new w (⟨false, 0, 0, 0, 0, 0⟩ : Ep) _)
  have LW0 : w.heap.size < W0.heap.size := by subst hW; simp
  clear hW
  generalize hgW0 : w.heap.size = gW0 at *
  go_wp2_with fail
  refine (PA'.out _).mono ?_
  rintro e w1 ⟨rfl, k1⟩
  have R1 := Lib.hid (RW0.out.kept k1)
  go_wp2_with fail
  refine (PN'.out _).mono ?_
  rintro e w2 ⟨rfl, k2⟩
  have R2 := Lib.hid (R1.out.kept k2)
  go_wp2_with fail
  refine (PM'.out _).mono ?_
  rintro e w3 ⟨rfl, k3⟩
  have R3 := Lib.hid (R2.out.kept k3)
  go_wp2_with fail
  refine (PK'.out _ (Tens.kept T.out (by (repeat (first | with_reducible exact Kept.refl _ | with_reducible apply Kept.drew | with_reducible apply Kept.alloc | ((with_reducible apply Kept.set); focus (simp <;> omega)) | ((with_reducible apply Kept.via); focus with_reducible assumption)))))).mono ?_
  rintro e w4 ⟨rfl, k4⟩
  have R4 := Lib.hid (R3.out.kept k4)
  obtain ⟨⟨p0, p1, p2, p3, p4, p5⟩, ⟨pf0, pf1, pf2, pf3, pf4, pf5⟩⟩ := R4.out
  go_wp2
  simp [bodyPost, results, Tryd.results25, go_sem, *]
  exact (by (repeat (first | with_reducible exact Kept.refl _ | with_reducible apply Kept.drew | with_reducible apply Kept.alloc | ((with_reducible apply Kept.set); focus (simp <;> omega)) | ((with_reducible apply Kept.via); focus with_reducible assumption))))
theorem ebegin_c : EBeginC := fun a n m h er ha hn hm hb w T => by
  rcases hb with ⟨hb, rfl, rfl⟩ | ⟨qa, qn, qm, rfl, k, hk, rfl⟩
  · by_cases qa : IsTime a
    · by_cases qn : IsWin n
      · exact ebg_m (fun w => ewithin (by unfold IsTime at qa; rw [decide_eq_true qa]) w) (fun w => ewin (by simp [qn]) w) (fun w => ewin (by rw [decide_eq_false (fun x => hb ⟨qa, qn, x⟩)]) w) w
      · exact ebg_n (fun w => ewithin (by unfold IsTime at qa; rw [decide_eq_true qa]) w) (fun w => ewin (by simp [qn]) w) w
    · exact ebg_a (fun w => ewithin (by unfold IsTime at qa; rw [decide_eq_false qa]) w) w
  · have A1 := fun w => ewithin (n := a) (hi := 1099511627776) (v := true) (by unfold IsTime at qa; rw [decide_eq_true qa]) w
    have A2 := fun w => ewin (n := n) (v := true) (by simp [qn]) w
    have A3 := fun w => ewin (n := m) (v := true) (by simp [qm]) w
    unfold IsWin at qn qm
    obtain ⟨x, ex⟩ : ∃ x, (if m < n then n else m) = x := ⟨_, rfl⟩
    rw [ex] at hk ⊢
    have lx : -9223372036854775808 ≤ x - n ∧ x - n ≤ 9223372036854775807 := by split at ex <;> omega
    exact ebg_y A1 A2 A3 (fun w T => ek_c _ _ (by unfold In64; exact lx) hk w T) (by split at ex <;> omega) lx.1 lx.2 w T
set_option maxRecDepth 100000 in
set_option maxHeartbeats 1600000 in
theorem esh_off {s f m k es d : Int}  (w : World) : Calls Tryd.prog 31 #[.agg #[.bool false, .int .i64 s, .int .i64 f, .int .i64 m, .int .i64 k, .int .i64 es], .int .i64 d] w fun e w' => e = .returned (.agg #[.bool false, .int .i64 s, .int .i64 f, .int .i64 m, .int .i64 k, .int .i64 es]) ∧ Kept w w' := by
  go_enter Tryd.func31, Tryd.ntmps31
  go_upto_region 1 with fail
  generalize hW : World.alloc (World.alloc w (.cells #[.bool false, .int .i64 s, .int .i64 f, .int .i64 m, .int .i64 k, .int .i64 es] 25)) (.cells #[.bool false, .int .i64 0, .int .i64 0, .int .i64 0, .int .i64 0, .int .i64 0] 25) = W0
  have K0 : Kept w W0 := by subst hW; exact ((Kept.refl _).alloc _ _).alloc _ _
  have R0 := Lib.hid (show RE W0 w.heap.size (⟨false, s, f, m, k, es⟩ : Ep) from by subst hW; exact ⟨⟨by simp [go_sem], by simp [go_sem], by simp [go_sem], by simp [go_sem], by simp [go_sem], by simp [go_sem]⟩, by simp [go_sem], by simp [go_sem], by simp [go_sem], by simp [go_sem], by simp [go_sem], by simp [go_sem]⟩)
  have R1 := Lib.hid (show RE W0 (w.heap.size + 1) (⟨false, 0, 0, 0, 0, 0⟩ : Ep) from by subst hW; exact ⟨⟨by simp [go_sem], by simp [go_sem], by simp [go_sem], by simp [go_sem], by simp [go_sem], by simp [go_sem]⟩, by simp [go_sem], by simp [go_sem], by simp [go_sem], by simp [go_sem], by simp [go_sem], by simp [go_sem]⟩)
  clear hW
  have zg : w.heap.size ≤ w.heap.size + 1 := by omega
  have zh : w.heap.size ≤ w.heap.size := by omega
  obtain ⟨⟨p0, p1, p2, p3, p4, p5⟩, ⟨pf0, pf1, pf2, pf3, pf4, pf5⟩⟩ := R0.out
  obtain ⟨⟨q0, q1, q2, q3, q4, q5⟩, ⟨qf0, qf1, qf2, qf3, qf4, qf5⟩⟩ := R1.out
  go_wp2
  simp [bodyPost, results, Tryd.results31, go_sem, *]
  exact (by (repeat (first | with_reducible exact Kept.refl _ | with_reducible apply Kept.drew | with_reducible apply Kept.alloc | ((with_reducible apply Kept.set); focus (simp <;> omega)) | ((with_reducible apply Kept.via); focus with_reducible assumption))))
set_option maxRecDepth 100000 in
set_option maxHeartbeats 1600000 in
theorem esh_none {s f m k es d : Int} (d0 : decide (1 ≤ d) = false) (w : World) : Calls Tryd.prog 31 #[.agg #[.bool true, .int .i64 s, .int .i64 f, .int .i64 m, .int .i64 k, .int .i64 es], .int .i64 d] w fun e w' => e = .returned (.agg #[.bool true, .int .i64 s, .int .i64 f, .int .i64 m, .int .i64 k, .int .i64 es]) ∧ Kept w w' := by
  go_enter Tryd.func31, Tryd.ntmps31
  go_upto_region 1 with fail
  generalize hW : World.alloc (World.alloc w (.cells #[.bool true, .int .i64 s, .int .i64 f, .int .i64 m, .int .i64 k, .int .i64 es] 25)) (.cells #[.bool false, .int .i64 0, .int .i64 0, .int .i64 0, .int .i64 0, .int .i64 0] 25) = W0
  have K0 : Kept w W0 := by subst hW; exact ((Kept.refl _).alloc _ _).alloc _ _
  have R0 := Lib.hid (show RE W0 w.heap.size (⟨true, s, f, m, k, es⟩ : Ep) from by subst hW; exact ⟨⟨by simp [go_sem], by simp [go_sem], by simp [go_sem], by simp [go_sem], by simp [go_sem], by simp [go_sem]⟩, by simp [go_sem], by simp [go_sem], by simp [go_sem], by simp [go_sem], by simp [go_sem], by simp [go_sem]⟩)
  have R1 := Lib.hid (show RE W0 (w.heap.size + 1) (⟨false, 0, 0, 0, 0, 0⟩ : Ep) from by subst hW; exact ⟨⟨by simp [go_sem], by simp [go_sem], by simp [go_sem], by simp [go_sem], by simp [go_sem], by simp [go_sem]⟩, by simp [go_sem], by simp [go_sem], by simp [go_sem], by simp [go_sem], by simp [go_sem], by simp [go_sem]⟩)
  clear hW
  have zg : w.heap.size ≤ w.heap.size + 1 := by omega
  have zh : w.heap.size ≤ w.heap.size := by omega
  obtain ⟨⟨p0, p1, p2, p3, p4, p5⟩, ⟨pf0, pf1, pf2, pf3, pf4, pf5⟩⟩ := R0.out
  obtain ⟨⟨q0, q1, q2, q3, q4, q5⟩, ⟨qf0, qf1, qf2, qf3, qf4, qf5⟩⟩ := R1.out
  go_wp2
  simp [bodyPost, results, Tryd.results31, go_sem, *]
  exact (by (repeat (first | with_reducible exact Kept.refl _ | with_reducible apply Kept.drew | with_reducible apply Kept.alloc | ((with_reducible apply Kept.set); focus (simp <;> omega)) | ((with_reducible apply Kept.via); focus with_reducible assumption))))
set_option maxRecDepth 100000 in
set_option maxHeartbeats 1600000 in
theorem esh_on {s f m k es d v z : Int} (d0 : decide (1 ≤ d) = true) (hs : In64 s) (hd : In64 d) (hv : heldAt (s + d) = v) (hz : min v 1099511627776 = z) (w : World) : Calls Tryd.prog 31 #[.agg #[.bool true, .int .i64 s, .int .i64 f, .int .i64 m, .int .i64 k, .int .i64 es], .int .i64 d] w fun e w' => e = .returned (.agg #[.bool true, .int .i64 z, .int .i64 f, .int .i64 m, .int .i64 k, .int .i64 es]) ∧ Kept w w' := by
  have AD := Lib.hid (fun w => (hv ▸ Add_any_s s d w hs hd : Calls Tryd.prog 46 #[.int .i64 s, .int .i64 d] w fun e w' => e = .returned (.int .i64 v) ∧ Kept w w'))
  clear hv hs hd
  go_enter Tryd.func31, Tryd.ntmps31
  go_upto_region 1 with fail
  generalize hW : World.alloc (World.alloc w (.cells #[.bool true, .int .i64 s, .int .i64 f, .int .i64 m, .int .i64 k, .int .i64 es] 25)) (.cells #[.bool false, .int .i64 0, .int .i64 0, .int .i64 0, .int .i64 0, .int .i64 0] 25) = W0
  have K0 : Kept w W0 := by subst hW; exact ((Kept.refl _).alloc _ _).alloc _ _
  have R0 := Lib.hid (show RE W0 w.heap.size (⟨true, s, f, m, k, es⟩ : Ep) from by subst hW; exact ⟨⟨by simp [go_sem], by simp [go_sem], by simp [go_sem], by simp [go_sem], by simp [go_sem], by simp [go_sem]⟩, by simp [go_sem], by simp [go_sem], by simp [go_sem], by simp [go_sem], by simp [go_sem], by simp [go_sem]⟩)
  have R1 := Lib.hid (show RE W0 (w.heap.size + 1) (⟨false, 0, 0, 0, 0, 0⟩ : Ep) from by subst hW; exact ⟨⟨by simp [go_sem], by simp [go_sem], by simp [go_sem], by simp [go_sem], by simp [go_sem], by simp [go_sem]⟩, by simp [go_sem], by simp [go_sem], by simp [go_sem], by simp [go_sem], by simp [go_sem], by simp [go_sem]⟩)
  clear hW
  have zg : w.heap.size ≤ w.heap.size + 1 := by omega
  have zh : w.heap.size ≤ w.heap.size := by omega
  obtain ⟨⟨p0, p1, p2, p3, p4, p5⟩, ⟨pf0, pf1, pf2, pf3, pf4, pf5⟩⟩ := R0.out
  go_wp2_with fail
  refine (AD.out _).mono ?_
  rintro e w1 ⟨rfl, k1⟩
  clear p0 pf0 p1 pf1 p2 pf2 p3 pf3 p4 pf4 p5 pf5
  have R2 := Lib.hid (R0.out.kept k1)
  have R3 := Lib.hid (R1.out.kept k1)
  have k2 := Kept.trans K0 k1
  clear R0 R1 K0 k1
  obtain ⟨⟨p0, p1, p2, p3, p4, p5⟩, ⟨pf0, pf1, pf2, pf3, pf4, pf5⟩⟩ := R2.out
  obtain ⟨⟨q0, q1, q2, q3, q4, q5⟩, ⟨qf0, qf1, qf2, qf3, qf4, qf5⟩⟩ := R3.out
  go_wp2
  simp [bodyPost, results, Tryd.results31, go_sem, *]
  exact (by (repeat (first | with_reducible exact Kept.refl _ | with_reducible apply Kept.drew | with_reducible apply Kept.alloc | ((with_reducible apply Kept.set); focus (simp <;> omega)) | ((with_reducible apply Kept.via); focus with_reducible assumption))))
theorem eshift_c : EShiftC := fun h h' d hi hd e w => by
  subst e
  obtain ⟨on, s, f, m, k, es⟩ := h
  have hs : In64 s := hi.1
  cases on with
  | false =>
    have e : shiftE ⟨false, s, f, m, k, es⟩ d = ⟨false, s, f, m, k, es⟩ := by unfold shiftE; rw [if_pos (Or.inl rfl)]
    rw [e]; exact esh_off w
  | true =>
    by_cases h1 : d < 1
    · have e : shiftE ⟨true, s, f, m, k, es⟩ d = ⟨true, s, f, m, k, es⟩ := by unfold shiftE; rw [if_pos (Or.inr h1)]
      rw [e]; exact esh_none (by simp; omega) w
    · have e : shiftE ⟨true, s, f, m, k, es⟩ d = ⟨true, if 1099511627776 < s + d then 1099511627776 else s + d, f, m, k, es⟩ := by unfold shiftE; rw [if_neg (by simp; omega)]
      rw [e]
      refine esh_on (by simp; omega) hs hd rfl ?_ w
      by_cases hl : 1099511627776 < s + d
      · rw [if_pos hl]
        have : 1099511627776 < heldAt (s + d) := by unfold In64 at hs hd; unfold heldAt; split; omega; split; omega; exact hl
        exact Int.min_eq_right (by omega)
      · rw [if_neg hl, heldAt_of (by unfold In64 at *; omega)]
        exact Int.min_eq_left (by omega)
set_option maxRecDepth 100000 in
set_option maxHeartbeats 1600000 in
theorem ech_off0 {s f m k es : Int} (h2 : (s == 0) = false) (w : World) : Calls Tryd.prog 23 #[.agg #[.bool false, .int .i64 s, .int .i64 f, .int .i64 m, .int .i64 k, .int .i64 es]] w fun e w' => e = .returned (.bool false) ∧ Kept w w' := by
  go_enter Tryd.func23, Tryd.ntmps23
  go_upto_region 1 with fail
  generalize hW : World.alloc w (.cells #[.bool false, .int .i64 s, .int .i64 f, .int .i64 m, .int .i64 k, .int .i64 es] 25) = Wh
  have KWh : Kept w Wh := by subst hW; exact (Kept.refl _).alloc _ _
  have RWh := Lib.hid (show RE Wh w.heap.size (⟨false, s, f, m, k, es⟩ : Ep) from by subst hW; exact re_new w (⟨false, s, f, m, k, es⟩ : Ep) _)
  have LWh : w.heap.size < Wh.heap.size := by subst hW; simp
  clear hW
  generalize hgWh : w.heap.size = gWh at *
  obtain ⟨⟨c0, c1, c2, c3, c4, c5⟩, ⟨cf0, cf1, cf2, cf3, cf4, cf5⟩⟩ := RWh.out
  go_wp2
  go_ret
  exact ⟨rfl, (by (repeat (first | with_reducible exact Kept.refl _ | with_reducible apply Kept.drew | with_reducible apply Kept.alloc | ((with_reducible apply Kept.set); focus (simp <;> omega)) | ((with_reducible apply Kept.via); focus with_reducible assumption))))⟩
set_option maxRecDepth 100000 in
set_option maxHeartbeats 1600000 in
theorem ech_off1 {f m k es : Int} (h2 : (f == 0) = false) (w : World) : Calls Tryd.prog 23 #[.agg #[.bool false, .int .i64 0, .int .i64 f, .int .i64 m, .int .i64 k, .int .i64 es]] w fun e w' => e = .returned (.bool false) ∧ Kept w w' := by
  go_enter Tryd.func23, Tryd.ntmps23
  go_upto_region 1 with fail
  generalize hW : World.alloc w (.cells #[.bool false, .int .i64 0, .int .i64 f, .int .i64 m, .int .i64 k, .int .i64 es] 25) = Wh
  have KWh : Kept w Wh := by subst hW; exact (Kept.refl _).alloc _ _
  have RWh := Lib.hid (show RE Wh w.heap.size (⟨false, 0, f, m, k, es⟩ : Ep) from by subst hW; exact re_new w (⟨false, 0, f, m, k, es⟩ : Ep) _)
  have LWh : w.heap.size < Wh.heap.size := by subst hW; simp
  clear hW
  generalize hgWh : w.heap.size = gWh at *
  obtain ⟨⟨c0, c1, c2, c3, c4, c5⟩, ⟨cf0, cf1, cf2, cf3, cf4, cf5⟩⟩ := RWh.out
  go_wp2
  go_ret
  exact ⟨rfl, (by (repeat (first | with_reducible exact Kept.refl _ | with_reducible apply Kept.drew | with_reducible apply Kept.alloc | ((with_reducible apply Kept.set); focus (simp <;> omega)) | ((with_reducible apply Kept.via); focus with_reducible assumption))))⟩
set_option maxRecDepth 100000 in
set_option maxHeartbeats 1600000 in
theorem ech_off2 {m k es : Int} (h2 : (m == 0) = false) (w : World) : Calls Tryd.prog 23 #[.agg #[.bool false, .int .i64 0, .int .i64 0, .int .i64 m, .int .i64 k, .int .i64 es]] w fun e w' => e = .returned (.bool false) ∧ Kept w w' := by
  go_enter Tryd.func23, Tryd.ntmps23
  go_upto_region 1 with fail
  generalize hW : World.alloc w (.cells #[.bool false, .int .i64 0, .int .i64 0, .int .i64 m, .int .i64 k, .int .i64 es] 25) = Wh
  have KWh : Kept w Wh := by subst hW; exact (Kept.refl _).alloc _ _
  have RWh := Lib.hid (show RE Wh w.heap.size (⟨false, 0, 0, m, k, es⟩ : Ep) from by subst hW; exact re_new w (⟨false, 0, 0, m, k, es⟩ : Ep) _)
  have LWh : w.heap.size < Wh.heap.size := by subst hW; simp
  clear hW
  generalize hgWh : w.heap.size = gWh at *
  obtain ⟨⟨c0, c1, c2, c3, c4, c5⟩, ⟨cf0, cf1, cf2, cf3, cf4, cf5⟩⟩ := RWh.out
  go_wp2
  go_ret
  exact ⟨rfl, (by (repeat (first | with_reducible exact Kept.refl _ | with_reducible apply Kept.drew | with_reducible apply Kept.alloc | ((with_reducible apply Kept.set); focus (simp <;> omega)) | ((with_reducible apply Kept.via); focus with_reducible assumption))))⟩
set_option maxRecDepth 100000 in
set_option maxHeartbeats 1600000 in
theorem ech_off3 {k es : Int} (h2 : (k == 0) = false) (w : World) : Calls Tryd.prog 23 #[.agg #[.bool false, .int .i64 0, .int .i64 0, .int .i64 0, .int .i64 k, .int .i64 es]] w fun e w' => e = .returned (.bool false) ∧ Kept w w' := by
  go_enter Tryd.func23, Tryd.ntmps23
  go_upto_region 1 with fail
  generalize hW : World.alloc w (.cells #[.bool false, .int .i64 0, .int .i64 0, .int .i64 0, .int .i64 k, .int .i64 es] 25) = Wh
  have KWh : Kept w Wh := by subst hW; exact (Kept.refl _).alloc _ _
  have RWh := Lib.hid (show RE Wh w.heap.size (⟨false, 0, 0, 0, k, es⟩ : Ep) from by subst hW; exact re_new w (⟨false, 0, 0, 0, k, es⟩ : Ep) _)
  have LWh : w.heap.size < Wh.heap.size := by subst hW; simp
  clear hW
  generalize hgWh : w.heap.size = gWh at *
  obtain ⟨⟨c0, c1, c2, c3, c4, c5⟩, ⟨cf0, cf1, cf2, cf3, cf4, cf5⟩⟩ := RWh.out
  go_wp2
  go_ret
  exact ⟨rfl, (by (repeat (first | with_reducible exact Kept.refl _ | with_reducible apply Kept.drew | with_reducible apply Kept.alloc | ((with_reducible apply Kept.set); focus (simp <;> omega)) | ((with_reducible apply Kept.via); focus with_reducible assumption))))⟩
set_option maxRecDepth 100000 in
set_option maxHeartbeats 1600000 in
theorem ech_off4 {es : Int} (h2 : (es == 0) = false) (w : World) : Calls Tryd.prog 23 #[.agg #[.bool false, .int .i64 0, .int .i64 0, .int .i64 0, .int .i64 0, .int .i64 es]] w fun e w' => e = .returned (.bool false) ∧ Kept w w' := by
  go_enter Tryd.func23, Tryd.ntmps23
  go_upto_region 1 with fail
  generalize hW : World.alloc w (.cells #[.bool false, .int .i64 0, .int .i64 0, .int .i64 0, .int .i64 0, .int .i64 es] 25) = Wh
  have KWh : Kept w Wh := by subst hW; exact (Kept.refl _).alloc _ _
  have RWh := Lib.hid (show RE Wh w.heap.size (⟨false, 0, 0, 0, 0, es⟩ : Ep) from by subst hW; exact re_new w (⟨false, 0, 0, 0, 0, es⟩ : Ep) _)
  have LWh : w.heap.size < Wh.heap.size := by subst hW; simp
  clear hW
  generalize hgWh : w.heap.size = gWh at *
  obtain ⟨⟨c0, c1, c2, c3, c4, c5⟩, ⟨cf0, cf1, cf2, cf3, cf4, cf5⟩⟩ := RWh.out
  go_wp2
  go_ret
  exact ⟨rfl, (by (repeat (first | with_reducible exact Kept.refl _ | with_reducible apply Kept.drew | with_reducible apply Kept.alloc | ((with_reducible apply Kept.set); focus (simp <;> omega)) | ((with_reducible apply Kept.via); focus with_reducible assumption))))⟩
set_option maxRecDepth 100000 in
set_option maxHeartbeats 1600000 in
theorem ech_off5  (w : World) : Calls Tryd.prog 23 #[.agg #[.bool false, .int .i64 0, .int .i64 0, .int .i64 0, .int .i64 0, .int .i64 0]] w fun e w' => e = .returned (.bool true) ∧ Kept w w' := by
  go_enter Tryd.func23, Tryd.ntmps23
  go_upto_region 1 with fail
  generalize hW : World.alloc w (.cells #[.bool false, .int .i64 0, .int .i64 0, .int .i64 0, .int .i64 0, .int .i64 0] 25) = Wh
  have KWh : Kept w Wh := by subst hW; exact (Kept.refl _).alloc _ _
  have RWh := Lib.hid (show RE Wh w.heap.size (⟨false, 0, 0, 0, 0, 0⟩ : Ep) from by subst hW; exact re_new w (⟨false, 0, 0, 0, 0, 0⟩ : Ep) _)
  have LWh : w.heap.size < Wh.heap.size := by subst hW; simp
  clear hW
  generalize hgWh : w.heap.size = gWh at *
  obtain ⟨⟨c0, c1, c2, c3, c4, c5⟩, ⟨cf0, cf1, cf2, cf3, cf4, cf5⟩⟩ := RWh.out
  go_wp2
  go_ret
  exact ⟨rfl, (by (repeat (first | with_reducible exact Kept.refl _ | with_reducible apply Kept.drew | with_reducible apply Kept.alloc | ((with_reducible apply Kept.set); focus (simp <;> omega)) | ((with_reducible apply Kept.via); focus with_reducible assumption))))⟩
set_option maxRecDepth 100000 in
set_option maxHeartbeats 1600000 in
theorem ech_w {s f m k es er : Int} (PB : ∀ w, Tens w → Calls Tryd.prog 25 #[.int .i64 s, .int .i64 f, .int .i64 m] w fun e w' => e = .returned (.tuple #[.agg #[.bool false, .int .i64 0, .int .i64 0, .int .i64 0, .int .i64 0, .int .i64 0], .int .i64 er]) ∧ Kept w w') (PW : ∀ w, Calls Tryd.prog 37 #[.int .i64 es] w fun e w' => e = .returned (.bool false) ∧ Kept w w')  (w : World) (T_ : Tens w) : Calls Tryd.prog 23 #[.agg #[.bool true, .int .i64 s, .int .i64 f, .int .i64 m, .int .i64 k, .int .i64 es]] w fun e w' => e = .returned (.bool false) ∧ Kept w w' := by
  have T := Lib.hid T_
  clear T_
  have PB' := Lib.hid PB
  have PW' := Lib.hid PW
  clear PB PW
  go_enter Tryd.func23, Tryd.ntmps23
  go_upto_region 1 with fail
  generalize hW : World.alloc w (.cells #[.bool true, .int .i64 s, .int .i64 f, .int .i64 m, .int .i64 k, .int .i64 es] 25) = Wh
  have KWh : Kept w Wh := by subst hW; exact (Kept.refl _).alloc _ _
  have RWh := Lib.hid (show RE Wh w.heap.size (⟨true, s, f, m, k, es⟩ : Ep) from by subst hW; exact re_new w (⟨true, s, f, m, k, es⟩ : Ep) _)
  have LWh : w.heap.size < Wh.heap.size := by subst hW; simp
  clear hW
  generalize hgWh : w.heap.size = gWh at *
  obtain ⟨⟨c0, c1, c2, c3, c4, c5⟩, ⟨cf0, cf1, cf2, cf3, cf4, cf5⟩⟩ := RWh.out
  go_wp2_with fail
  refine (PB'.out _ (Tens.kept T.out (by (repeat (first | with_reducible exact Kept.refl _ | with_reducible apply Kept.drew | with_reducible apply Kept.alloc | ((with_reducible apply Kept.set); focus (simp <;> omega)) | ((with_reducible apply Kept.via); focus with_reducible assumption)))))).mono ?_
  rintro e w1 ⟨rfl, k1⟩
  clear c0 cf0 c1 cf1 c2 cf2 c3 cf3 c4 cf4 c5 cf5
  have R1 := Lib.hid (RWh.out.kept k1)
  have kz1 := Kept.trans KWh k1
  have L1 := R1.out.ne
  clear RWh k1
  go_upto_region 4 with fail
  generalize hW : World.alloc w1 (.cells #[.bool false, .int .i64 0, .int .i64 0, .int .i64 0, .int .i64 0, .int .i64 0] 25) = Wm
  have KWm : Kept w1 Wm := by subst hW; exact (Kept.refl _).alloc _ _
  have RWm := Lib.hid (show RE Wm w1.heap.size (⟨false, 0, 0, 0, 0, 0⟩ : Ep) from by subst hW; exact re_new w1 (⟨false, 0, 0, 0, 0, 0⟩ : Ep) _)
  have LWm : w1.heap.size < Wm.heap.size := by subst hW; simp
  clear hW
  generalize hgWm : w1.heap.size = gWm at *
  have R2 := Lib.hid (R1.out.kept KWm)
  have kk2 := Kept.trans kz1 KWm
  clear R1 kz1 KWm
  obtain ⟨⟨c0, c1, c2, c3, c4, c5⟩, ⟨cf0, cf1, cf2, cf3, cf4, cf5⟩⟩ := R2.out
  obtain ⟨⟨d0, d1, d2, d3, d4, d5⟩, ⟨df0, df1, df2, df3, df4, df5⟩⟩ := RWm.out
  have zm : w.heap.size ≤ gWm := by have := Kept.below kk2; omega
  have nm0 : ¬ gWh = gWm := by omega
  go_upto_region 5 with fail
  generalize hW : World.setCell Wm ⟨gWm, 5, none⟩ (.int .i64 es) = W3
  have kk3 : Kept w W3 := by subst hW; exact kk2.setCell (a := ⟨gWm, 5, none⟩) zm _
  have H3 := Lib.hid (show W3.cell? ⟨gWh, 0, none⟩ = some (.bool true) ∧ W3.cell? ⟨gWh, 1, none⟩ = some (.int .i64 s) ∧ W3.cell? ⟨gWh, 2, none⟩ = some (.int .i64 f) ∧ W3.cell? ⟨gWh, 3, none⟩ = some (.int .i64 m) ∧ W3.cell? ⟨gWh, 4, none⟩ = some (.int .i64 k) ∧ W3.cell? ⟨gWh, 5, none⟩ = some (.int .i64 es) from by subst hW; refine ⟨?_, ?_, ?_, ?_, ?_, ?_⟩ <;> simp [go_sem, *])
  have M3 := Lib.hid (show W3.cell? ⟨gWm, 0, none⟩ = some (.bool false) ∧ W3.cell? ⟨gWm, 1, none⟩ = some (.int .i64 0) ∧ W3.cell? ⟨gWm, 2, none⟩ = some (.int .i64 0) ∧ W3.cell? ⟨gWm, 3, none⟩ = some (.int .i64 0) ∧ W3.cell? ⟨gWm, 4, none⟩ = some (.int .i64 0) ∧ W3.cell? ⟨gWm, 5, none⟩ = some (.int .i64 es) from by subst hW; refine ⟨?_, ?_, ?_, ?_, ?_, ?_⟩ <;> simp [go_sem, *])
  clear hW c0 cf0 c1 cf1 c2 cf2 c3 cf3 c4 cf4 c5 cf5 d0 df0 d1 df1 d2 df2 d3 df3 d4 df4 d5 df5 R2 RWm kk2
  obtain ⟨c0, c1, c2, c3, c4, c5⟩ := H3.out
  obtain ⟨d0, d1, d2, d3, d4, d5⟩ := M3.out
  go_wp2_with fail
  refine (PW'.out _).mono ?_
  rintro e w4 ⟨rfl, k4⟩
  clear c0 c1 c2 c3 c4 c5 d0 d1 d2 d3 d4 d5
  have c := Kept.alln6 k4 H3
  have d := Kept.alln6 k4 M3
  obtain ⟨c0, c1, c2, c3, c4, c5⟩ := c
  obtain ⟨d0, d1, d2, d3, d4, d5⟩ := d
  clear H3 M3
  go_wp2
  go_ret
  exact ⟨rfl, (by (repeat (first | with_reducible exact Kept.refl _ | with_reducible apply Kept.drew | with_reducible apply Kept.alloc | ((with_reducible apply Kept.set); focus (simp <;> omega)) | ((with_reducible apply Kept.via); focus with_reducible assumption))))⟩
set_option maxRecDepth 100000 in
set_option maxHeartbeats 1600000 in
theorem ech_z {s f m k es er : Int} (PB : ∀ w, Tens w → Calls Tryd.prog 25 #[.int .i64 s, .int .i64 f, .int .i64 m] w fun e w' => e = .returned (.tuple #[.agg #[.bool false, .int .i64 0, .int .i64 0, .int .i64 0, .int .i64 0, .int .i64 0], .int .i64 er]) ∧ Kept w w') (PW : ∀ w, Calls Tryd.prog 37 #[.int .i64 es] w fun e w' => e = .returned (.bool true) ∧ Kept w w')  (w : World) (T_ : Tens w) : Calls Tryd.prog 23 #[.agg #[.bool true, .int .i64 s, .int .i64 f, .int .i64 m, .int .i64 k, .int .i64 es]] w fun e w' => e = .returned (.bool false) ∧ Kept w w' := by
  have T := Lib.hid T_
  clear T_
  have PB' := Lib.hid PB
  have PW' := Lib.hid PW
  clear PB PW
  go_enter Tryd.func23, Tryd.ntmps23
  go_upto_region 1 with fail
  generalize hW : World.alloc w (.cells #[.bool true, .int .i64 s, .int .i64 f, .int .i64 m, .int .i64 k, .int .i64 es] 25) = Wh
  have KWh : Kept w Wh := by subst hW; exact (Kept.refl _).alloc _ _
  have RWh := Lib.hid (show RE Wh w.heap.size (⟨true, s, f, m, k, es⟩ : Ep) from by subst hW; exact re_new w (⟨true, s, f, m, k, es⟩ : Ep) _)
  have LWh : w.heap.size < Wh.heap.size := by subst hW; simp
  clear hW
  generalize hgWh : w.heap.size = gWh at *
  obtain ⟨⟨c0, c1, c2, c3, c4, c5⟩, ⟨cf0, cf1, cf2, cf3, cf4, cf5⟩⟩ := RWh.out
  go_wp2_with fail
  refine (PB'.out _ (Tens.kept T.out (by (repeat (first | with_reducible exact Kept.refl _ | with_reducible apply Kept.drew | with_reducible apply Kept.alloc | ((with_reducible apply Kept.set); focus (simp <;> omega)) | ((with_reducible apply Kept.via); focus with_reducible assumption)))))).mono ?_
  rintro e w1 ⟨rfl, k1⟩
  clear c0 cf0 c1 cf1 c2 cf2 c3 cf3 c4 cf4 c5 cf5
  have R1 := Lib.hid (RWh.out.kept k1)
  have kz1 := Kept.trans KWh k1
  have L1 := R1.out.ne
  clear RWh k1
  go_upto_region 4 with fail
  generalize hW : World.alloc w1 (.cells #[.bool false, .int .i64 0, .int .i64 0, .int .i64 0, .int .i64 0, .int .i64 0] 25) = Wm
  have KWm : Kept w1 Wm := by subst hW; exact (Kept.refl _).alloc _ _
  have RWm := Lib.hid (show RE Wm w1.heap.size (⟨false, 0, 0, 0, 0, 0⟩ : Ep) from by subst hW; exact re_new w1 (⟨false, 0, 0, 0, 0, 0⟩ : Ep) _)
  have LWm : w1.heap.size < Wm.heap.size := by subst hW; simp
  clear hW
  generalize hgWm : w1.heap.size = gWm at *
  have R2 := Lib.hid (R1.out.kept KWm)
  have kk2 := Kept.trans kz1 KWm
  clear R1 kz1 KWm
  obtain ⟨⟨c0, c1, c2, c3, c4, c5⟩, ⟨cf0, cf1, cf2, cf3, cf4, cf5⟩⟩ := R2.out
  obtain ⟨⟨d0, d1, d2, d3, d4, d5⟩, ⟨df0, df1, df2, df3, df4, df5⟩⟩ := RWm.out
  have zm : w.heap.size ≤ gWm := by have := Kept.below kk2; omega
  have nm0 : ¬ gWh = gWm := by omega
  go_upto_region 5 with fail
  generalize hW : World.setCell Wm ⟨gWm, 5, none⟩ (.int .i64 es) = W3
  have kk3 : Kept w W3 := by subst hW; exact kk2.setCell (a := ⟨gWm, 5, none⟩) zm _
  have H3 := Lib.hid (show W3.cell? ⟨gWh, 0, none⟩ = some (.bool true) ∧ W3.cell? ⟨gWh, 1, none⟩ = some (.int .i64 s) ∧ W3.cell? ⟨gWh, 2, none⟩ = some (.int .i64 f) ∧ W3.cell? ⟨gWh, 3, none⟩ = some (.int .i64 m) ∧ W3.cell? ⟨gWh, 4, none⟩ = some (.int .i64 k) ∧ W3.cell? ⟨gWh, 5, none⟩ = some (.int .i64 es) from by subst hW; refine ⟨?_, ?_, ?_, ?_, ?_, ?_⟩ <;> simp [go_sem, *])
  have M3 := Lib.hid (show W3.cell? ⟨gWm, 0, none⟩ = some (.bool false) ∧ W3.cell? ⟨gWm, 1, none⟩ = some (.int .i64 0) ∧ W3.cell? ⟨gWm, 2, none⟩ = some (.int .i64 0) ∧ W3.cell? ⟨gWm, 3, none⟩ = some (.int .i64 0) ∧ W3.cell? ⟨gWm, 4, none⟩ = some (.int .i64 0) ∧ W3.cell? ⟨gWm, 5, none⟩ = some (.int .i64 es) from by subst hW; refine ⟨?_, ?_, ?_, ?_, ?_, ?_⟩ <;> simp [go_sem, *])
  clear hW c0 cf0 c1 cf1 c2 cf2 c3 cf3 c4 cf4 c5 cf5 d0 df0 d1 df1 d2 df2 d3 df3 d4 df4 d5 df5 R2 RWm kk2
  obtain ⟨c0, c1, c2, c3, c4, c5⟩ := H3.out
  obtain ⟨d0, d1, d2, d3, d4, d5⟩ := M3.out
  go_wp2_with fail
  refine (PW'.out _).mono ?_
  rintro e w4 ⟨rfl, k4⟩
  clear c0 c1 c2 c3 c4 c5 d0 d1 d2 d3 d4 d5
  have c := Kept.alln6 k4 H3
  have d := Kept.alln6 k4 M3
  obtain ⟨c0, c1, c2, c3, c4, c5⟩ := c
  obtain ⟨d0, d1, d2, d3, d4, d5⟩ := d
  clear H3 M3
  go_wp2
  go_ret
  exact ⟨rfl, (by (repeat (first | with_reducible exact Kept.refl _ | with_reducible apply Kept.drew | with_reducible apply Kept.alloc | ((with_reducible apply Kept.set); focus (simp <;> omega)) | ((with_reducible apply Kept.via); focus with_reducible assumption))))⟩
set_option maxRecDepth 100000 in
set_option maxHeartbeats 1600000 in
theorem ech_gw {s f m k es x kk er : Int} (PB : ∀ w, Tens w → Calls Tryd.prog 25 #[.int .i64 s, .int .i64 f, .int .i64 m] w fun e w' => e = .returned (.tuple #[.agg #[.bool true, .int .i64 s, .int .i64 f, .int .i64 x, .int .i64 kk, .int .i64 f], .int .i64 er]) ∧ Kept w w') (PW : ∀ w, Calls Tryd.prog 37 #[.int .i64 es] w fun e w' => e = .returned (.bool false) ∧ Kept w w')  (w : World) (T_ : Tens w) : Calls Tryd.prog 23 #[.agg #[.bool true, .int .i64 s, .int .i64 f, .int .i64 m, .int .i64 k, .int .i64 es]] w fun e w' => e = .returned (.bool false) ∧ Kept w w' := by
  have T := Lib.hid T_
  clear T_
  have PB' := Lib.hid PB
  have PW' := Lib.hid PW
  clear PB PW
  go_enter Tryd.func23, Tryd.ntmps23
  go_upto_region 1 with fail
  generalize hW : World.alloc w (.cells #[.bool true, .int .i64 s, .int .i64 f, .int .i64 m, .int .i64 k, .int .i64 es] 25) = Wh
  have KWh : Kept w Wh := by subst hW; exact (Kept.refl _).alloc _ _
  have RWh := Lib.hid (show RE Wh w.heap.size (⟨true, s, f, m, k, es⟩ : Ep) from by subst hW; exact re_new w (⟨true, s, f, m, k, es⟩ : Ep) _)
  have LWh : w.heap.size < Wh.heap.size := by subst hW; simp
  clear hW
  generalize hgWh : w.heap.size = gWh at *
  obtain ⟨⟨c0, c1, c2, c3, c4, c5⟩, ⟨cf0, cf1, cf2, cf3, cf4, cf5⟩⟩ := RWh.out
  go_wp2_with fail
  refine (PB'.out _ (Tens.kept T.out (by (repeat (first | with_reducible exact Kept.refl _ | with_reducible apply Kept.drew | with_reducible apply Kept.alloc | ((with_reducible apply Kept.set); focus (simp <;> omega)) | ((with_reducible apply Kept.via); focus with_reducible assumption)))))).mono ?_
  rintro e w1 ⟨rfl, k1⟩
  clear c0 cf0 c1 cf1 c2 cf2 c3 cf3 c4 cf4 c5 cf5
  have R1 := Lib.hid (RWh.out.kept k1)
  have kz1 := Kept.trans KWh k1
  have L1 := R1.out.ne
  clear RWh k1
  go_upto_region 4 with fail
  generalize hW : World.alloc w1 (.cells #[.bool true, .int .i64 s, .int .i64 f, .int .i64 x, .int .i64 kk, .int .i64 f] 25) = Wm
  have KWm : Kept w1 Wm := by subst hW; exact (Kept.refl _).alloc _ _
  have RWm := Lib.hid (show RE Wm w1.heap.size (⟨true, s, f, x, kk, f⟩ : Ep) from by subst hW; exact re_new w1 (⟨true, s, f, x, kk, f⟩ : Ep) _)
  have LWm : w1.heap.size < Wm.heap.size := by subst hW; simp
  clear hW
  generalize hgWm : w1.heap.size = gWm at *
  have R2 := Lib.hid (R1.out.kept KWm)
  have kk2 := Kept.trans kz1 KWm
  clear R1 kz1 KWm
  obtain ⟨⟨c0, c1, c2, c3, c4, c5⟩, ⟨cf0, cf1, cf2, cf3, cf4, cf5⟩⟩ := R2.out
  obtain ⟨⟨d0, d1, d2, d3, d4, d5⟩, ⟨df0, df1, df2, df3, df4, df5⟩⟩ := RWm.out
  have zm : w.heap.size ≤ gWm := by have := Kept.below kk2; omega
  have nm0 : ¬ gWh = gWm := by omega
  go_upto_region 5 with fail
  generalize hW : World.setCell Wm ⟨gWm, 5, none⟩ (.int .i64 es) = W3
  have kk3 : Kept w W3 := by subst hW; exact kk2.setCell (a := ⟨gWm, 5, none⟩) zm _
  have H3 := Lib.hid (show W3.cell? ⟨gWh, 0, none⟩ = some (.bool true) ∧ W3.cell? ⟨gWh, 1, none⟩ = some (.int .i64 s) ∧ W3.cell? ⟨gWh, 2, none⟩ = some (.int .i64 f) ∧ W3.cell? ⟨gWh, 3, none⟩ = some (.int .i64 m) ∧ W3.cell? ⟨gWh, 4, none⟩ = some (.int .i64 k) ∧ W3.cell? ⟨gWh, 5, none⟩ = some (.int .i64 es) from by subst hW; refine ⟨?_, ?_, ?_, ?_, ?_, ?_⟩ <;> simp [go_sem, *])
  have M3 := Lib.hid (show W3.cell? ⟨gWm, 0, none⟩ = some (.bool true) ∧ W3.cell? ⟨gWm, 1, none⟩ = some (.int .i64 s) ∧ W3.cell? ⟨gWm, 2, none⟩ = some (.int .i64 f) ∧ W3.cell? ⟨gWm, 3, none⟩ = some (.int .i64 x) ∧ W3.cell? ⟨gWm, 4, none⟩ = some (.int .i64 kk) ∧ W3.cell? ⟨gWm, 5, none⟩ = some (.int .i64 es) from by subst hW; refine ⟨?_, ?_, ?_, ?_, ?_, ?_⟩ <;> simp [go_sem, *])
  clear hW c0 cf0 c1 cf1 c2 cf2 c3 cf3 c4 cf4 c5 cf5 d0 df0 d1 df1 d2 df2 d3 df3 d4 df4 d5 df5 R2 RWm kk2
  obtain ⟨c0, c1, c2, c3, c4, c5⟩ := H3.out
  obtain ⟨d0, d1, d2, d3, d4, d5⟩ := M3.out
  go_wp2_with fail
  refine (PW'.out _).mono ?_
  rintro e w4 ⟨rfl, k4⟩
  clear c0 c1 c2 c3 c4 c5 d0 d1 d2 d3 d4 d5
  have c := Kept.alln6 k4 H3
  have d := Kept.alln6 k4 M3
  obtain ⟨c0, c1, c2, c3, c4, c5⟩ := c
  obtain ⟨d0, d1, d2, d3, d4, d5⟩ := d
  clear H3 M3
  go_wp2
  go_ret
  exact ⟨rfl, (by (repeat (first | with_reducible exact Kept.refl _ | with_reducible apply Kept.drew | with_reducible apply Kept.alloc | ((with_reducible apply Kept.set); focus (simp <;> omega)) | ((with_reducible apply Kept.via); focus with_reducible assumption))))⟩
set_option maxRecDepth 100000 in
set_option maxHeartbeats 1600000 in
theorem ech_gx {s f m k es x kk er : Int} (PB : ∀ w, Tens w → Calls Tryd.prog 25 #[.int .i64 s, .int .i64 f, .int .i64 m] w fun e w' => e = .returned (.tuple #[.agg #[.bool true, .int .i64 s, .int .i64 f, .int .i64 x, .int .i64 kk, .int .i64 f], .int .i64 er]) ∧ Kept w w') (PW : ∀ w, Calls Tryd.prog 37 #[.int .i64 es] w fun e w' => e = .returned (.bool true) ∧ Kept w w') (q0 : (m == x) = false) (w : World) (T_ : Tens w) : Calls Tryd.prog 23 #[.agg #[.bool true, .int .i64 s, .int .i64 f, .int .i64 m, .int .i64 k, .int .i64 es]] w fun e w' => e = .returned (.bool false) ∧ Kept w w' := by
  have T := Lib.hid T_
  clear T_
  have PB' := Lib.hid PB
  have PW' := Lib.hid PW
  clear PB PW
  go_enter Tryd.func23, Tryd.ntmps23
  go_upto_region 1 with fail
  generalize hW : World.alloc w (.cells #[.bool true, .int .i64 s, .int .i64 f, .int .i64 m, .int .i64 k, .int .i64 es] 25) = Wh
  have KWh : Kept w Wh := by subst hW; exact (Kept.refl _).alloc _ _
  have RWh := Lib.hid (show RE Wh w.heap.size (⟨true, s, f, m, k, es⟩ : Ep) from by subst hW; exact re_new w (⟨true, s, f, m, k, es⟩ : Ep) _)
  have LWh : w.heap.size < Wh.heap.size := by subst hW; simp
  clear hW
  generalize hgWh : w.heap.size = gWh at *
  obtain ⟨⟨c0, c1, c2, c3, c4, c5⟩, ⟨cf0, cf1, cf2, cf3, cf4, cf5⟩⟩ := RWh.out
  go_wp2_with fail
  refine (PB'.out _ (Tens.kept T.out (by (repeat (first | with_reducible exact Kept.refl _ | with_reducible apply Kept.drew | with_reducible apply Kept.alloc | ((with_reducible apply Kept.set); focus (simp <;> omega)) | ((with_reducible apply Kept.via); focus with_reducible assumption)))))).mono ?_
  rintro e w1 ⟨rfl, k1⟩
  clear c0 cf0 c1 cf1 c2 cf2 c3 cf3 c4 cf4 c5 cf5
  have R1 := Lib.hid (RWh.out.kept k1)
  have kz1 := Kept.trans KWh k1
  have L1 := R1.out.ne
  clear RWh k1
  go_upto_region 4 with fail
  generalize hW : World.alloc w1 (.cells #[.bool true, .int .i64 s, .int .i64 f, .int .i64 x, .int .i64 kk, .int .i64 f] 25) = Wm
  have KWm : Kept w1 Wm := by subst hW; exact (Kept.refl _).alloc _ _
  have RWm := Lib.hid (show RE Wm w1.heap.size (⟨true, s, f, x, kk, f⟩ : Ep) from by subst hW; exact re_new w1 (⟨true, s, f, x, kk, f⟩ : Ep) _)
  have LWm : w1.heap.size < Wm.heap.size := by subst hW; simp
  clear hW
  generalize hgWm : w1.heap.size = gWm at *
  have R2 := Lib.hid (R1.out.kept KWm)
  have kk2 := Kept.trans kz1 KWm
  clear R1 kz1 KWm
  obtain ⟨⟨c0, c1, c2, c3, c4, c5⟩, ⟨cf0, cf1, cf2, cf3, cf4, cf5⟩⟩ := R2.out
  obtain ⟨⟨d0, d1, d2, d3, d4, d5⟩, ⟨df0, df1, df2, df3, df4, df5⟩⟩ := RWm.out
  have zm : w.heap.size ≤ gWm := by have := Kept.below kk2; omega
  have nm0 : ¬ gWh = gWm := by omega
  go_upto_region 5 with fail
  generalize hW : World.setCell Wm ⟨gWm, 5, none⟩ (.int .i64 es) = W3
  have kk3 : Kept w W3 := by subst hW; exact kk2.setCell (a := ⟨gWm, 5, none⟩) zm _
  have H3 := Lib.hid (show W3.cell? ⟨gWh, 0, none⟩ = some (.bool true) ∧ W3.cell? ⟨gWh, 1, none⟩ = some (.int .i64 s) ∧ W3.cell? ⟨gWh, 2, none⟩ = some (.int .i64 f) ∧ W3.cell? ⟨gWh, 3, none⟩ = some (.int .i64 m) ∧ W3.cell? ⟨gWh, 4, none⟩ = some (.int .i64 k) ∧ W3.cell? ⟨gWh, 5, none⟩ = some (.int .i64 es) from by subst hW; refine ⟨?_, ?_, ?_, ?_, ?_, ?_⟩ <;> simp [go_sem, *])
  have M3 := Lib.hid (show W3.cell? ⟨gWm, 0, none⟩ = some (.bool true) ∧ W3.cell? ⟨gWm, 1, none⟩ = some (.int .i64 s) ∧ W3.cell? ⟨gWm, 2, none⟩ = some (.int .i64 f) ∧ W3.cell? ⟨gWm, 3, none⟩ = some (.int .i64 x) ∧ W3.cell? ⟨gWm, 4, none⟩ = some (.int .i64 kk) ∧ W3.cell? ⟨gWm, 5, none⟩ = some (.int .i64 es) from by subst hW; refine ⟨?_, ?_, ?_, ?_, ?_, ?_⟩ <;> simp [go_sem, *])
  clear hW c0 cf0 c1 cf1 c2 cf2 c3 cf3 c4 cf4 c5 cf5 d0 df0 d1 df1 d2 df2 d3 df3 d4 df4 d5 df5 R2 RWm kk2
  obtain ⟨c0, c1, c2, c3, c4, c5⟩ := H3.out
  obtain ⟨d0, d1, d2, d3, d4, d5⟩ := M3.out
  go_wp2_with fail
  refine (PW'.out _).mono ?_
  rintro e w4 ⟨rfl, k4⟩
  clear c0 c1 c2 c3 c4 c5 d0 d1 d2 d3 d4 d5
  have c := Kept.alln6 k4 H3
  have d := Kept.alln6 k4 M3
  obtain ⟨c0, c1, c2, c3, c4, c5⟩ := c
  obtain ⟨d0, d1, d2, d3, d4, d5⟩ := d
  clear H3 M3
  go_wp2
  go_ret
  exact ⟨rfl, (by (repeat (first | with_reducible exact Kept.refl _ | with_reducible apply Kept.drew | with_reducible apply Kept.alloc | ((with_reducible apply Kept.set); focus (simp <;> omega)) | ((with_reducible apply Kept.via); focus with_reducible assumption))))⟩
set_option maxRecDepth 100000 in
set_option maxHeartbeats 1600000 in
theorem ech_gk {s f m k es x kk er : Int} (PB : ∀ w, Tens w → Calls Tryd.prog 25 #[.int .i64 s, .int .i64 f, .int .i64 m] w fun e w' => e = .returned (.tuple #[.agg #[.bool true, .int .i64 s, .int .i64 f, .int .i64 x, .int .i64 kk, .int .i64 f], .int .i64 er]) ∧ Kept w w') (PW : ∀ w, Calls Tryd.prog 37 #[.int .i64 es] w fun e w' => e = .returned (.bool true) ∧ Kept w w') (q0 : (m == x) = true) (q1 : (k == kk) = false) (w : World) (T_ : Tens w) : Calls Tryd.prog 23 #[.agg #[.bool true, .int .i64 s, .int .i64 f, .int .i64 m, .int .i64 k, .int .i64 es]] w fun e w' => e = .returned (.bool false) ∧ Kept w w' := by
  have T := Lib.hid T_
  clear T_
  have PB' := Lib.hid PB
  have PW' := Lib.hid PW
  clear PB PW
  go_enter Tryd.func23, Tryd.ntmps23
  go_upto_region 1 with fail
  generalize hW : World.alloc w (.cells #[.bool true, .int .i64 s, .int .i64 f, .int .i64 m, .int .i64 k, .int .i64 es] 25) = Wh
  have KWh : Kept w Wh := by subst hW; exact (Kept.refl _).alloc _ _
  have RWh := Lib.hid (show RE Wh w.heap.size (⟨true, s, f, m, k, es⟩ : Ep) from by subst hW; exact re_new w (⟨true, s, f, m, k, es⟩ : Ep) _)
  have LWh : w.heap.size < Wh.heap.size := by subst hW; simp
  clear hW
  generalize hgWh : w.heap.size = gWh at *
  obtain ⟨⟨c0, c1, c2, c3, c4, c5⟩, ⟨cf0, cf1, cf2, cf3, cf4, cf5⟩⟩ := RWh.out
  go_wp2_with fail
  refine (PB'.out _ (Tens.kept T.out (by (repeat (first | with_reducible exact Kept.refl _ | with_reducible apply Kept.drew | with_reducible apply Kept.alloc | ((with_reducible apply Kept.set); focus (simp <;> omega)) | ((with_reducible apply Kept.via); focus with_reducible assumption)))))).mono ?_
  rintro e w1 ⟨rfl, k1⟩
  clear c0 cf0 c1 cf1 c2 cf2 c3 cf3 c4 cf4 c5 cf5
  have R1 := Lib.hid (RWh.out.kept k1)
  have kz1 := Kept.trans KWh k1
  have L1 := R1.out.ne
  clear RWh k1
  go_upto_region 4 with fail
  generalize hW : World.alloc w1 (.cells #[.bool true, .int .i64 s, .int .i64 f, .int .i64 x, .int .i64 kk, .int .i64 f] 25) = Wm
  have KWm : Kept w1 Wm := by subst hW; exact (Kept.refl _).alloc _ _
  have RWm := Lib.hid (show RE Wm w1.heap.size (⟨true, s, f, x, kk, f⟩ : Ep) from by subst hW; exact re_new w1 (⟨true, s, f, x, kk, f⟩ : Ep) _)
  have LWm : w1.heap.size < Wm.heap.size := by subst hW; simp
  clear hW
  generalize hgWm : w1.heap.size = gWm at *
  have R2 := Lib.hid (R1.out.kept KWm)
  have kk2 := Kept.trans kz1 KWm
  clear R1 kz1 KWm
  obtain ⟨⟨c0, c1, c2, c3, c4, c5⟩, ⟨cf0, cf1, cf2, cf3, cf4, cf5⟩⟩ := R2.out
  obtain ⟨⟨d0, d1, d2, d3, d4, d5⟩, ⟨df0, df1, df2, df3, df4, df5⟩⟩ := RWm.out
  have zm : w.heap.size ≤ gWm := by have := Kept.below kk2; omega
  have nm0 : ¬ gWh = gWm := by omega
  go_upto_region 5 with fail
  generalize hW : World.setCell Wm ⟨gWm, 5, none⟩ (.int .i64 es) = W3
  have kk3 : Kept w W3 := by subst hW; exact kk2.setCell (a := ⟨gWm, 5, none⟩) zm _
  have H3 := Lib.hid (show W3.cell? ⟨gWh, 0, none⟩ = some (.bool true) ∧ W3.cell? ⟨gWh, 1, none⟩ = some (.int .i64 s) ∧ W3.cell? ⟨gWh, 2, none⟩ = some (.int .i64 f) ∧ W3.cell? ⟨gWh, 3, none⟩ = some (.int .i64 m) ∧ W3.cell? ⟨gWh, 4, none⟩ = some (.int .i64 k) ∧ W3.cell? ⟨gWh, 5, none⟩ = some (.int .i64 es) from by subst hW; refine ⟨?_, ?_, ?_, ?_, ?_, ?_⟩ <;> simp [go_sem, *])
  have M3 := Lib.hid (show W3.cell? ⟨gWm, 0, none⟩ = some (.bool true) ∧ W3.cell? ⟨gWm, 1, none⟩ = some (.int .i64 s) ∧ W3.cell? ⟨gWm, 2, none⟩ = some (.int .i64 f) ∧ W3.cell? ⟨gWm, 3, none⟩ = some (.int .i64 x) ∧ W3.cell? ⟨gWm, 4, none⟩ = some (.int .i64 kk) ∧ W3.cell? ⟨gWm, 5, none⟩ = some (.int .i64 es) from by subst hW; refine ⟨?_, ?_, ?_, ?_, ?_, ?_⟩ <;> simp [go_sem, *])
  clear hW c0 cf0 c1 cf1 c2 cf2 c3 cf3 c4 cf4 c5 cf5 d0 df0 d1 df1 d2 df2 d3 df3 d4 df4 d5 df5 R2 RWm kk2
  obtain ⟨c0, c1, c2, c3, c4, c5⟩ := H3.out
  obtain ⟨d0, d1, d2, d3, d4, d5⟩ := M3.out
  go_wp2_with fail
  refine (PW'.out _).mono ?_
  rintro e w4 ⟨rfl, k4⟩
  clear c0 c1 c2 c3 c4 c5 d0 d1 d2 d3 d4 d5
  have c := Kept.alln6 k4 H3
  have d := Kept.alln6 k4 M3
  obtain ⟨c0, c1, c2, c3, c4, c5⟩ := c
  obtain ⟨d0, d1, d2, d3, d4, d5⟩ := d
  clear H3 M3
  go_wp2
  go_ret
  exact ⟨rfl, (by (repeat (first | with_reducible exact Kept.refl _ | with_reducible apply Kept.drew | with_reducible apply Kept.alloc | ((with_reducible apply Kept.set); focus (simp <;> omega)) | ((with_reducible apply Kept.via); focus with_reducible assumption))))⟩
set_option maxRecDepth 100000 in
set_option maxHeartbeats 1600000 in
theorem ech_gy {s f m k es x kk er : Int} (PB : ∀ w, Tens w → Calls Tryd.prog 25 #[.int .i64 s, .int .i64 f, .int .i64 m] w fun e w' => e = .returned (.tuple #[.agg #[.bool true, .int .i64 s, .int .i64 f, .int .i64 x, .int .i64 kk, .int .i64 f], .int .i64 er]) ∧ Kept w w') (PW : ∀ w, Calls Tryd.prog 37 #[.int .i64 es] w fun e w' => e = .returned (.bool true) ∧ Kept w w') (q0 : (m == x) = true) (q1 : (k == kk) = true) (w : World) (T_ : Tens w) : Calls Tryd.prog 23 #[.agg #[.bool true, .int .i64 s, .int .i64 f, .int .i64 m, .int .i64 k, .int .i64 es]] w fun e w' => e = .returned (.bool true) ∧ Kept w w' := by
  have T := Lib.hid T_
  clear T_
  have PB' := Lib.hid PB
  have PW' := Lib.hid PW
  clear PB PW
  go_enter Tryd.func23, Tryd.ntmps23
  go_upto_region 1 with fail
  generalize hW : World.alloc w (.cells #[.bool true, .int .i64 s, .int .i64 f, .int .i64 m, .int .i64 k, .int .i64 es] 25) = Wh
  have KWh : Kept w Wh := by subst hW; exact (Kept.refl _).alloc _ _
  have RWh := Lib.hid (show RE Wh w.heap.size (⟨true, s, f, m, k, es⟩ : Ep) from by subst hW; exact re_new w (⟨true, s, f, m, k, es⟩ : Ep) _)
  have LWh : w.heap.size < Wh.heap.size := by subst hW; simp
  clear hW
  generalize hgWh : w.heap.size = gWh at *
  obtain ⟨⟨c0, c1, c2, c3, c4, c5⟩, ⟨cf0, cf1, cf2, cf3, cf4, cf5⟩⟩ := RWh.out
  go_wp2_with fail
  refine (PB'.out _ (Tens.kept T.out (by (repeat (first | with_reducible exact Kept.refl _ | with_reducible apply Kept.drew | with_reducible apply Kept.alloc | ((with_reducible apply Kept.set); focus (simp <;> omega)) | ((with_reducible apply Kept.via); focus with_reducible assumption)))))).mono ?_
  rintro e w1 ⟨rfl, k1⟩
  clear c0 cf0 c1 cf1 c2 cf2 c3 cf3 c4 cf4 c5 cf5
  have R1 := Lib.hid (RWh.out.kept k1)
  have kz1 := Kept.trans KWh k1
  have L1 := R1.out.ne
  clear RWh k1
  go_upto_region 4 with fail
  generalize hW : World.alloc w1 (.cells #[.bool true, .int .i64 s, .int .i64 f, .int .i64 x, .int .i64 kk, .int .i64 f] 25) = Wm
  have KWm : Kept w1 Wm := by subst hW; exact (Kept.refl _).alloc _ _
  have RWm := Lib.hid (show RE Wm w1.heap.size (⟨true, s, f, x, kk, f⟩ : Ep) from by subst hW; exact re_new w1 (⟨true, s, f, x, kk, f⟩ : Ep) _)
  have LWm : w1.heap.size < Wm.heap.size := by subst hW; simp
  clear hW
  generalize hgWm : w1.heap.size = gWm at *
  have R2 := Lib.hid (R1.out.kept KWm)
  have kk2 := Kept.trans kz1 KWm
  clear R1 kz1 KWm
  obtain ⟨⟨c0, c1, c2, c3, c4, c5⟩, ⟨cf0, cf1, cf2, cf3, cf4, cf5⟩⟩ := R2.out
  obtain ⟨⟨d0, d1, d2, d3, d4, d5⟩, ⟨df0, df1, df2, df3, df4, df5⟩⟩ := RWm.out
  have zm : w.heap.size ≤ gWm := by have := Kept.below kk2; omega
  have nm0 : ¬ gWh = gWm := by omega
  go_upto_region 5 with fail
  generalize hW : World.setCell Wm ⟨gWm, 5, none⟩ (.int .i64 es) = W3
  have kk3 : Kept w W3 := by subst hW; exact kk2.setCell (a := ⟨gWm, 5, none⟩) zm _
  have H3 := Lib.hid (show W3.cell? ⟨gWh, 0, none⟩ = some (.bool true) ∧ W3.cell? ⟨gWh, 1, none⟩ = some (.int .i64 s) ∧ W3.cell? ⟨gWh, 2, none⟩ = some (.int .i64 f) ∧ W3.cell? ⟨gWh, 3, none⟩ = some (.int .i64 m) ∧ W3.cell? ⟨gWh, 4, none⟩ = some (.int .i64 k) ∧ W3.cell? ⟨gWh, 5, none⟩ = some (.int .i64 es) from by subst hW; refine ⟨?_, ?_, ?_, ?_, ?_, ?_⟩ <;> simp [go_sem, *])
  have M3 := Lib.hid (show W3.cell? ⟨gWm, 0, none⟩ = some (.bool true) ∧ W3.cell? ⟨gWm, 1, none⟩ = some (.int .i64 s) ∧ W3.cell? ⟨gWm, 2, none⟩ = some (.int .i64 f) ∧ W3.cell? ⟨gWm, 3, none⟩ = some (.int .i64 x) ∧ W3.cell? ⟨gWm, 4, none⟩ = some (.int .i64 kk) ∧ W3.cell? ⟨gWm, 5, none⟩ = some (.int .i64 es) from by subst hW; refine ⟨?_, ?_, ?_, ?_, ?_, ?_⟩ <;> simp [go_sem, *])
  clear hW c0 cf0 c1 cf1 c2 cf2 c3 cf3 c4 cf4 c5 cf5 d0 df0 d1 df1 d2 df2 d3 df3 d4 df4 d5 df5 R2 RWm kk2
  obtain ⟨c0, c1, c2, c3, c4, c5⟩ := H3.out
  obtain ⟨d0, d1, d2, d3, d4, d5⟩ := M3.out
  go_wp2_with fail
  refine (PW'.out _).mono ?_
  rintro e w4 ⟨rfl, k4⟩
  clear c0 c1 c2 c3 c4 c5 d0 d1 d2 d3 d4 d5
  have c := Kept.alln6 k4 H3
  have d := Kept.alln6 k4 M3
  obtain ⟨c0, c1, c2, c3, c4, c5⟩ := c
  obtain ⟨d0, d1, d2, d3, d4, d5⟩ := d
  clear H3 M3
  go_wp2
  go_ret
  exact ⟨rfl, (by (repeat (first | with_reducible exact Kept.refl _ | with_reducible apply Kept.drew | with_reducible apply Kept.alloc | ((with_reducible apply Kept.set); focus (simp <;> omega)) | ((with_reducible apply Kept.via); focus with_reducible assumption))))⟩
theorem echeck_c : ECheckC := fun h v hi hv w T => by
  obtain ⟨on, s, f, m, k, es⟩ := h
  obtain ⟨is_, if_, im, ik, ie⟩ := hi
  cases on with
  | false =>
    have go : ∀ {b : Bool}, (b = true ↔ MayE ⟨false, s, f, m, k, es⟩) → b = v := fun {b} hb => by
      cases b <;> cases v <;> simp_all
    have mk : MayE ⟨false, s, f, m, k, es⟩ ↔ s = 0 ∧ f = 0 ∧ m = 0 ∧ k = 0 ∧ es = 0 := by
      constructor
      · rintro (⟨_, a⟩ | ⟨a, _⟩)
        · exact a
        · cases a
      · exact fun x => Or.inl ⟨rfl, x⟩
    by_cases h0 : s = 0
    · subst h0
      by_cases h1 : f = 0
      · subst h1
        by_cases h2 : m = 0
        · subst h2
          by_cases h3 : k = 0
          · subst h3
            by_cases h4 : es = 0
            · subst h4; rw [← go (b := true) (by rw [mk]; simp)]; exact ech_off5 w
            · rw [← go (b := false) (by rw [mk]; simp [h4])]; exact ech_off4 (by simpa using h4) w
          · rw [← go (b := false) (by rw [mk]; simp [h3])]; exact ech_off3 (by simpa using h3) w
        · rw [← go (b := false) (by rw [mk]; simp [h2])]; exact ech_off2 (by simpa using h2) w
      · rw [← go (b := false) (by rw [mk]; simp [h1])]; exact ech_off1 (by simpa using h1) w
    · rw [← go (b := false) (by rw [mk]; simp [h0])]; exact ech_off0 (by simpa using h0) w
  | true =>
    have mk : MayE ⟨true, s, f, m, k, es⟩ ↔ (IsTime s ∧ IsWin f ∧ IsWin m ∧ IsWin es ∧ f ≤ m ∧ KIs (m - f) k) := by
      constructor
      · rintro (⟨a, _⟩ | ⟨_, a⟩)
        · cases a
        · exact a
      · exact fun x => Or.inr ⟨rfl, x⟩
    have fl : ¬ (IsTime s ∧ IsWin f ∧ IsWin m ∧ IsWin es ∧ f ≤ m ∧ KIs (m - f) k) → v = false := fun n => by
      cases v with
      | false => rfl
      | true => exact absurd (mk.1 (hv.1 rfl)) n
    by_cases hb : IsTime s ∧ IsWin f ∧ IsWin m
    · obtain ⟨kk, hk⟩ := k_ex ((if m < f then f else m) - f)
      have PB := fun w T => ebegin_c s f m _ 0 is_ if_ im (Or.inr ⟨hb.1, hb.2.1, hb.2.2, rfl, kk, hk, rfl⟩) w T
      by_cases he : IsWin es
      · have PW := fun w => ewin (n := es) (v := true) (by simp [he]) w
        by_cases hl : f ≤ m
        · have ex : (if m < f then f else m) = m := by rw [if_neg (by omega)]
          rw [ex] at hk PB
          by_cases e : k = kk
          · subst e
            have : v = true := hv.2 (mk.2 ⟨hb.1, hb.2.1, hb.2.2, he, hl, hk⟩)
            rw [this]
            exact ech_gy PB PW (by simp) (by simp) w T
          · rw [fl (fun x => e (k_uniq x.2.2.2.2.2 hk))]
            exact ech_gk PB PW (by simp) (by simpa using e) w T
        · rw [fl (fun x => hl x.2.2.2.2.1)]
          exact ech_gx PB PW (by simp; omega) w T
      · rw [fl (fun x => he x.2.2.2.1)]
        exact ech_gw PB (fun w => ewin (by simp [he]) w) w T
    · rw [fl (fun x => hb ⟨x.1, x.2.1, x.2.2.1⟩)]
      have PB := fun w T => ebegin_c s f m _ 201 is_ if_ im (Or.inl ⟨hb, rfl, rfl⟩) w T
      by_cases he : IsWin es
      · exact ech_z PB (fun w => ewin (by simp [he]) w) w T
      · exact ech_w PB (fun w => ewin (by simp [he]) w) w T
end Go.Proofs.YtdbikeehoildlaaDoor
