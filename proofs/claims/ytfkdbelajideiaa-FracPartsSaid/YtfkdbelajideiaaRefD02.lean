/-
  Contracts of Add and Cmp of the document's answer, package sawtoothref02.
-/
import Derived.Test.YtfkdbelajideiaaRefB02
import Derived.Test.YtfkdbelajideiaaRefC02
namespace Go.Proofs.Ytfkdbelajideiaa
open Go.RowKit Go.BigFrame

set_option maxHeartbeats 1600000 in
theorem refAdd_same (s : Bool) (xh xl yh yl a0 a1 a2 a3 b0 b1 b2 b3 r0 r1 r2 r3 h l : Int) (w : World)  (D1 : ∀ w, Calls Try.prog 33 #[.agg #[.bool s, .int .u64 xh, .int .u64 xl]] w fun e w' => e = .returned (.agg #[.int .u64 a0, .int .u64 a1, .int .u64 a2, .int .u64 a3]) ∧ Kept w w') (D2 : ∀ w, Calls Try.prog 33 #[.agg #[.bool s, .int .u64 yh, .int .u64 yl]] w fun e w' => e = .returned (.agg #[.int .u64 b0, .int .u64 b1, .int .u64 b2, .int .u64 b3]) ∧ Kept w w') (P1 : ∀ w, Calls Try.prog 56 #[.agg #[.int .u64 a0, .int .u64 a1, .int .u64 a2, .int .u64 a3], .agg #[.int .u64 b0, .int .u64 b1, .int .u64 b2, .int .u64 b3]] w fun e w' => e = .returned (.tuple #[.agg #[.int .u64 r0, .int .u64 r1, .int .u64 r2, .int .u64 r3], .int .u64 0]) ∧ Kept w w') (W1 : ∀ w, Calls Try.prog 44 #[.agg #[.int .u64 r0, .int .u64 r1, .int .u64 r2, .int .u64 r3], .bool s] w fun e w' => e = .returned (.agg #[.bool (s && nz h l), .int .u64 h, .int .u64 l]) ∧ Kept w w') :
    Calls Try.prog 41 #[.agg #[.bool s, .int .u64 xh, .int .u64 xl], .agg #[.bool s, .int .u64 yh, .int .u64 yl]] w fun e w' => e = .returned (.tuple #[.agg #[.bool (s && nz h l), .int .u64 h, .int .u64 l], .int .i64 0]) ∧ Kept w w' := by
  have D1' := Lib.hid D1
  have D2' := Lib.hid D2
  have P1' := Lib.hid P1
  have W1' := Lib.hid W1
  clear D1 D2 P1 W1
  go_enter Try.func41, Try.ntmps41
  go_upto_region 1 with fail
  generalize hW : (World.alloc (World.alloc (World.alloc w (.cells #[.bool s, .int .u64 xh, .int .u64 xl] 31)) (.cells #[.bool s, .int .u64 yh, .int .u64 yl] 31)) (.cells #[.bool false, .int .u64 0, .int .u64 0] 31)) = W0
  have base := Lib.hid (show W0.cell? ⟨w.heap.size, 0, none⟩ = some (.bool s) ∧ W0.cell? ⟨w.heap.size, 1, none⟩ = some (.int .u64 xh) ∧ W0.cell? ⟨w.heap.size, 2, none⟩ = some (.int .u64 xl) ∧ W0.cell? ⟨w.heap.size + 1, 0, none⟩ = some (.bool s) ∧ W0.cell? ⟨w.heap.size + 1, 1, none⟩ = some (.int .u64 yh) ∧ W0.cell? ⟨w.heap.size + 1, 2, none⟩ = some (.int .u64 yl) from by subst hW; simp [go_sem])
  have room : Room3 W0 (w.heap.size + 1 + 1) := by subst hW; exact ⟨_, _, _, by first | (simp [go_sem]; done) | (simp [go_sem]; rfl), by first | (simp [go_sem]; done) | (simp [go_sem]; rfl), by first | (simp [go_sem]; done) | (simp [go_sem]; rfl), by simp [go_sem], by simp [go_sem], by simp [go_sem]⟩
  have kw : Kept w W0 := by subst hW; exact (by (repeat (first | with_reducible exact Kept.refl _ | with_reducible apply Kept.drew | with_reducible apply Kept.alloc | ((with_reducible apply Kept.set); focus (simp <;> omega)) | ((with_reducible apply Kept.via); focus with_reducible assumption))))
  have zw : w.heap.size + 3 ≤ W0.heap.size := by subst hW; simp
  clear hW
  obtain ⟨x0, x1, x2, y0, y1, y2⟩ := Kept.all6 (Kept.refl _) base
  have H_x := Lib.hid (And.intro x0 (And.intro x1 x2))
  have H_y := Lib.hid (And.intro y0 (And.intro y1 y2))
  clear base x0 x1 x2 y0 y1 y2
  obtain ⟨c_x0, c_x1, c_x2⟩ := Kept.all3 (show Kept W0 W0 from (by (repeat (first | with_reducible exact Kept.refl _ | with_reducible apply Kept.drew | with_reducible apply Kept.alloc | ((with_reducible apply Kept.set); focus (simp <;> omega)) | ((with_reducible apply Kept.via); focus with_reducible assumption))))) H_x
  go_wp2_with fail
  refine (D1'.out _).mono ?_
  rintro e w1 ⟨rfl, k1⟩
  clear c_x0 c_x1 c_x2
  go_upto_region 2 with fail
  generalize hW : World.alloc w1 (.cells #[.int .u64 a0, .int .u64 a1, .int .u64 a2, .int .u64 a3] 49) = W_a
  have K_a : Kept w1 W_a := by subst hW; exact (Kept.refl _).alloc _ _
  have H_a := Lib.hid (show W_a.cell? ⟨w1.heap.size, 0, none⟩ = some (.int .u64 a0) ∧ W_a.cell? ⟨w1.heap.size, 1, none⟩ = some (.int .u64 a1) ∧ W_a.cell? ⟨w1.heap.size, 2, none⟩ = some (.int .u64 a2) ∧ W_a.cell? ⟨w1.heap.size, 3, none⟩ = some (.int .u64 a3) from by subst hW; simp [go_sem])
  clear hW
  generalize w1.heap.size = g_a at *
  obtain ⟨c_y0, c_y1, c_y2⟩ := Kept.all3 (show Kept W0 W_a from (by (repeat (first | with_reducible exact Kept.refl _ | with_reducible apply Kept.drew | with_reducible apply Kept.alloc | ((with_reducible apply Kept.set); focus (simp <;> omega)) | ((with_reducible apply Kept.via); focus with_reducible assumption))))) H_y
  go_wp2_with fail
  refine (D2'.out _).mono ?_
  rintro e w2 ⟨rfl, k2⟩
  clear c_y0 c_y1 c_y2
  go_upto_region 3 with fail
  generalize hW : World.alloc w2 (.cells #[.int .u64 b0, .int .u64 b1, .int .u64 b2, .int .u64 b3] 49) = W_b
  have K_b : Kept w2 W_b := by subst hW; exact (Kept.refl _).alloc _ _
  have H_b := Lib.hid (show W_b.cell? ⟨w2.heap.size, 0, none⟩ = some (.int .u64 b0) ∧ W_b.cell? ⟨w2.heap.size, 1, none⟩ = some (.int .u64 b1) ∧ W_b.cell? ⟨w2.heap.size, 2, none⟩ = some (.int .u64 b2) ∧ W_b.cell? ⟨w2.heap.size, 3, none⟩ = some (.int .u64 b3) from by subst hW; simp [go_sem])
  clear hW
  generalize w2.heap.size = g_b at *
  obtain ⟨c_x0, c_x1, c_x2⟩ := Kept.all3 (show Kept W0 W_b from (by (repeat (first | with_reducible exact Kept.refl _ | with_reducible apply Kept.drew | with_reducible apply Kept.alloc | ((with_reducible apply Kept.set); focus (simp <;> omega)) | ((with_reducible apply Kept.via); focus with_reducible assumption))))) H_x
  obtain ⟨c_y0, c_y1, c_y2⟩ := Kept.all3 (show Kept W0 W_b from (by (repeat (first | with_reducible exact Kept.refl _ | with_reducible apply Kept.drew | with_reducible apply Kept.alloc | ((with_reducible apply Kept.set); focus (simp <;> omega)) | ((with_reducible apply Kept.via); focus with_reducible assumption))))) H_y
  obtain ⟨c_a0, c_a1, c_a2, c_a3⟩ := Kept.all4 (show Kept W_a W_b from (by (repeat (first | with_reducible exact Kept.refl _ | with_reducible apply Kept.drew | with_reducible apply Kept.alloc | ((with_reducible apply Kept.set); focus (simp <;> omega)) | ((with_reducible apply Kept.via); focus with_reducible assumption))))) H_a
  obtain ⟨c_b0, c_b1, c_b2, c_b3⟩ := Kept.all4 (show Kept W_b W_b from (by (repeat (first | with_reducible exact Kept.refl _ | with_reducible apply Kept.drew | with_reducible apply Kept.alloc | ((with_reducible apply Kept.set); focus (simp <;> omega)) | ((with_reducible apply Kept.via); focus with_reducible assumption))))) H_b
  go_wp2_with fail
  refine (P1'.out _).mono ?_
  rintro e w3 ⟨rfl, k3⟩
  clear c_x0 c_x1 c_x2 c_y0 c_y1 c_y2 c_a0 c_a1 c_a2 c_a3 c_b0 c_b1 c_b2 c_b3
  go_upto_region 5 with fail
  generalize hW : World.alloc w3 (.cells #[.int .u64 r0, .int .u64 r1, .int .u64 r2, .int .u64 r3] 49) = W_r
  have K_r : Kept w3 W_r := by subst hW; exact (Kept.refl _).alloc _ _
  have H_r := Lib.hid (show W_r.cell? ⟨w3.heap.size, 0, none⟩ = some (.int .u64 r0) ∧ W_r.cell? ⟨w3.heap.size, 1, none⟩ = some (.int .u64 r1) ∧ W_r.cell? ⟨w3.heap.size, 2, none⟩ = some (.int .u64 r2) ∧ W_r.cell? ⟨w3.heap.size, 3, none⟩ = some (.int .u64 r3) from by subst hW; simp [go_sem])
  clear hW
  generalize w3.heap.size = g_r at *
  obtain ⟨c_x0, c_x1, c_x2⟩ := Kept.all3 (show Kept W0 W_r from (by (repeat (first | with_reducible exact Kept.refl _ | with_reducible apply Kept.drew | with_reducible apply Kept.alloc | ((with_reducible apply Kept.set); focus (simp <;> omega)) | ((with_reducible apply Kept.via); focus with_reducible assumption))))) H_x
  obtain ⟨c_r0, c_r1, c_r2, c_r3⟩ := Kept.all4 (show Kept W_r W_r from (by (repeat (first | with_reducible exact Kept.refl _ | with_reducible apply Kept.drew | with_reducible apply Kept.alloc | ((with_reducible apply Kept.set); focus (simp <;> omega)) | ((with_reducible apply Kept.via); focus with_reducible assumption))))) H_r
  go_wp2_with fail
  refine (W1'.out _).mono ?_
  rintro e w4 ⟨rfl, k4⟩
  clear c_x0 c_x1 c_x2 c_r0 c_r1 c_r2 c_r3
  obtain ⟨x, y, z, a1, a2, a3, d1, d2, d3⟩ : Room3 w4 (w.heap.size + 1 + 1) := room.kept (by (repeat (first | with_reducible exact Kept.refl _ | with_reducible apply Kept.drew | with_reducible apply Kept.alloc | ((with_reducible apply Kept.set); focus (simp <;> omega)) | ((with_reducible apply Kept.via); focus with_reducible assumption))))
  go_wp2
  simp [bodyPost, results, Try.results41, go_sem, *]
  exact (by (repeat (first | with_reducible exact Kept.refl _ | with_reducible apply Kept.drew | with_reducible apply Kept.alloc | ((with_reducible apply Kept.set); focus (simp <;> omega)) | ((with_reducible apply Kept.via); focus with_reducible assumption))))
set_option maxHeartbeats 1600000 in
theorem refAdd_over (s : Bool) (xh xl yh yl a0 a1 a2 a3 b0 b1 b2 b3 r0 r1 r2 r3 c : Int) (w : World) (hc : 0 < c) (D1 : ∀ w, Calls Try.prog 33 #[.agg #[.bool s, .int .u64 xh, .int .u64 xl]] w fun e w' => e = .returned (.agg #[.int .u64 a0, .int .u64 a1, .int .u64 a2, .int .u64 a3]) ∧ Kept w w') (D2 : ∀ w, Calls Try.prog 33 #[.agg #[.bool s, .int .u64 yh, .int .u64 yl]] w fun e w' => e = .returned (.agg #[.int .u64 b0, .int .u64 b1, .int .u64 b2, .int .u64 b3]) ∧ Kept w w') (P1 : ∀ w, Calls Try.prog 56 #[.agg #[.int .u64 a0, .int .u64 a1, .int .u64 a2, .int .u64 a3], .agg #[.int .u64 b0, .int .u64 b1, .int .u64 b2, .int .u64 b3]] w fun e w' => e = .returned (.tuple #[.agg #[.int .u64 r0, .int .u64 r1, .int .u64 r2, .int .u64 r3], .int .u64 c]) ∧ Kept w w') :
    Calls Try.prog 41 #[.agg #[.bool s, .int .u64 xh, .int .u64 xl], .agg #[.bool s, .int .u64 yh, .int .u64 yl]] w fun e w' => e = .returned (.tuple #[.agg #[.bool false, .int .u64 0, .int .u64 0], .int .i64 10]) ∧ Kept w w' := by
  have D1' := Lib.hid D1
  have D2' := Lib.hid D2
  have P1' := Lib.hid P1
  clear D1 D2 P1
  go_enter Try.func41, Try.ntmps41
  go_upto_region 1 with fail
  generalize hW : (World.alloc (World.alloc (World.alloc w (.cells #[.bool s, .int .u64 xh, .int .u64 xl] 31)) (.cells #[.bool s, .int .u64 yh, .int .u64 yl] 31)) (.cells #[.bool false, .int .u64 0, .int .u64 0] 31)) = W0
  have base := Lib.hid (show W0.cell? ⟨w.heap.size, 0, none⟩ = some (.bool s) ∧ W0.cell? ⟨w.heap.size, 1, none⟩ = some (.int .u64 xh) ∧ W0.cell? ⟨w.heap.size, 2, none⟩ = some (.int .u64 xl) ∧ W0.cell? ⟨w.heap.size + 1, 0, none⟩ = some (.bool s) ∧ W0.cell? ⟨w.heap.size + 1, 1, none⟩ = some (.int .u64 yh) ∧ W0.cell? ⟨w.heap.size + 1, 2, none⟩ = some (.int .u64 yl) from by subst hW; simp [go_sem])
  have room : Room3 W0 (w.heap.size + 1 + 1) := by subst hW; exact ⟨_, _, _, by first | (simp [go_sem]; done) | (simp [go_sem]; rfl), by first | (simp [go_sem]; done) | (simp [go_sem]; rfl), by first | (simp [go_sem]; done) | (simp [go_sem]; rfl), by simp [go_sem], by simp [go_sem], by simp [go_sem]⟩
  have kw : Kept w W0 := by subst hW; exact (by (repeat (first | with_reducible exact Kept.refl _ | with_reducible apply Kept.drew | with_reducible apply Kept.alloc | ((with_reducible apply Kept.set); focus (simp <;> omega)) | ((with_reducible apply Kept.via); focus with_reducible assumption))))
  have zw : w.heap.size + 3 ≤ W0.heap.size := by subst hW; simp
  clear hW
  obtain ⟨x0, x1, x2, y0, y1, y2⟩ := Kept.all6 (Kept.refl _) base
  have H_x := Lib.hid (And.intro x0 (And.intro x1 x2))
  have H_y := Lib.hid (And.intro y0 (And.intro y1 y2))
  clear base x0 x1 x2 y0 y1 y2
  obtain ⟨c_x0, c_x1, c_x2⟩ := Kept.all3 (show Kept W0 W0 from (by (repeat (first | with_reducible exact Kept.refl _ | with_reducible apply Kept.drew | with_reducible apply Kept.alloc | ((with_reducible apply Kept.set); focus (simp <;> omega)) | ((with_reducible apply Kept.via); focus with_reducible assumption))))) H_x
  go_wp2_with fail
  refine (D1'.out _).mono ?_
  rintro e w1 ⟨rfl, k1⟩
  clear c_x0 c_x1 c_x2
  go_upto_region 2 with fail
  generalize hW : World.alloc w1 (.cells #[.int .u64 a0, .int .u64 a1, .int .u64 a2, .int .u64 a3] 49) = W_a
  have K_a : Kept w1 W_a := by subst hW; exact (Kept.refl _).alloc _ _
  have H_a := Lib.hid (show W_a.cell? ⟨w1.heap.size, 0, none⟩ = some (.int .u64 a0) ∧ W_a.cell? ⟨w1.heap.size, 1, none⟩ = some (.int .u64 a1) ∧ W_a.cell? ⟨w1.heap.size, 2, none⟩ = some (.int .u64 a2) ∧ W_a.cell? ⟨w1.heap.size, 3, none⟩ = some (.int .u64 a3) from by subst hW; simp [go_sem])
  clear hW
  generalize w1.heap.size = g_a at *
  obtain ⟨c_y0, c_y1, c_y2⟩ := Kept.all3 (show Kept W0 W_a from (by (repeat (first | with_reducible exact Kept.refl _ | with_reducible apply Kept.drew | with_reducible apply Kept.alloc | ((with_reducible apply Kept.set); focus (simp <;> omega)) | ((with_reducible apply Kept.via); focus with_reducible assumption))))) H_y
  go_wp2_with fail
  refine (D2'.out _).mono ?_
  rintro e w2 ⟨rfl, k2⟩
  clear c_y0 c_y1 c_y2
  go_upto_region 3 with fail
  generalize hW : World.alloc w2 (.cells #[.int .u64 b0, .int .u64 b1, .int .u64 b2, .int .u64 b3] 49) = W_b
  have K_b : Kept w2 W_b := by subst hW; exact (Kept.refl _).alloc _ _
  have H_b := Lib.hid (show W_b.cell? ⟨w2.heap.size, 0, none⟩ = some (.int .u64 b0) ∧ W_b.cell? ⟨w2.heap.size, 1, none⟩ = some (.int .u64 b1) ∧ W_b.cell? ⟨w2.heap.size, 2, none⟩ = some (.int .u64 b2) ∧ W_b.cell? ⟨w2.heap.size, 3, none⟩ = some (.int .u64 b3) from by subst hW; simp [go_sem])
  clear hW
  generalize w2.heap.size = g_b at *
  obtain ⟨c_x0, c_x1, c_x2⟩ := Kept.all3 (show Kept W0 W_b from (by (repeat (first | with_reducible exact Kept.refl _ | with_reducible apply Kept.drew | with_reducible apply Kept.alloc | ((with_reducible apply Kept.set); focus (simp <;> omega)) | ((with_reducible apply Kept.via); focus with_reducible assumption))))) H_x
  obtain ⟨c_y0, c_y1, c_y2⟩ := Kept.all3 (show Kept W0 W_b from (by (repeat (first | with_reducible exact Kept.refl _ | with_reducible apply Kept.drew | with_reducible apply Kept.alloc | ((with_reducible apply Kept.set); focus (simp <;> omega)) | ((with_reducible apply Kept.via); focus with_reducible assumption))))) H_y
  obtain ⟨c_a0, c_a1, c_a2, c_a3⟩ := Kept.all4 (show Kept W_a W_b from (by (repeat (first | with_reducible exact Kept.refl _ | with_reducible apply Kept.drew | with_reducible apply Kept.alloc | ((with_reducible apply Kept.set); focus (simp <;> omega)) | ((with_reducible apply Kept.via); focus with_reducible assumption))))) H_a
  obtain ⟨c_b0, c_b1, c_b2, c_b3⟩ := Kept.all4 (show Kept W_b W_b from (by (repeat (first | with_reducible exact Kept.refl _ | with_reducible apply Kept.drew | with_reducible apply Kept.alloc | ((with_reducible apply Kept.set); focus (simp <;> omega)) | ((with_reducible apply Kept.via); focus with_reducible assumption))))) H_b
  go_wp2_with fail
  refine (P1'.out _).mono ?_
  rintro e w3 ⟨rfl, k3⟩
  clear c_x0 c_x1 c_x2 c_y0 c_y1 c_y2 c_a0 c_a1 c_a2 c_a3 c_b0 c_b1 c_b2 c_b3
  go_upto_region 5 with fail
  generalize hW : World.alloc w3 (.cells #[.int .u64 r0, .int .u64 r1, .int .u64 r2, .int .u64 r3] 49) = W_r
  have K_r : Kept w3 W_r := by subst hW; exact (Kept.refl _).alloc _ _
  have H_r := Lib.hid (show W_r.cell? ⟨w3.heap.size, 0, none⟩ = some (.int .u64 r0) ∧ W_r.cell? ⟨w3.heap.size, 1, none⟩ = some (.int .u64 r1) ∧ W_r.cell? ⟨w3.heap.size, 2, none⟩ = some (.int .u64 r2) ∧ W_r.cell? ⟨w3.heap.size, 3, none⟩ = some (.int .u64 r3) from by subst hW; simp [go_sem])
  clear hW
  generalize w3.heap.size = g_r at *
  obtain ⟨x, y, z, a1, a2, a3, d1, d2, d3⟩ : Room3 W_r (w.heap.size + 1 + 1) := room.kept (by (repeat (first | with_reducible exact Kept.refl _ | with_reducible apply Kept.drew | with_reducible apply Kept.alloc | ((with_reducible apply Kept.set); focus (simp <;> omega)) | ((with_reducible apply Kept.via); focus with_reducible assumption))))
  go_wp2
  simp [bodyPost, results, Try.results41, go_sem, *]
  exact (by (repeat (first | with_reducible exact Kept.refl _ | with_reducible apply Kept.drew | with_reducible apply Kept.alloc | ((with_reducible apply Kept.set); focus (simp <;> omega)) | ((with_reducible apply Kept.via); focus with_reducible assumption))))
set_option maxHeartbeats 1600000 in
theorem refAdd_less (xb yb : Bool) (xh xl yh yl a0 a1 a2 a3 b0 b1 b2 b3 r0 r1 r2 r3 h l : Int) (w : World) (hb : (xb == yb) = false) (D1 : ∀ w, Calls Try.prog 33 #[.agg #[.bool xb, .int .u64 xh, .int .u64 xl]] w fun e w' => e = .returned (.agg #[.int .u64 a0, .int .u64 a1, .int .u64 a2, .int .u64 a3]) ∧ Kept w w') (D2 : ∀ w, Calls Try.prog 33 #[.agg #[.bool yb, .int .u64 yh, .int .u64 yl]] w fun e w' => e = .returned (.agg #[.int .u64 b0, .int .u64 b1, .int .u64 b2, .int .u64 b3]) ∧ Kept w w') (C1 : ∀ w, Calls Try.prog 35 #[.agg #[.int .u64 a0, .int .u64 a1, .int .u64 a2, .int .u64 a3], .agg #[.int .u64 b0, .int .u64 b1, .int .u64 b2, .int .u64 b3]] w fun e w' => e = .returned (.bool true) ∧ Kept w w') (M1 : ∀ w, Calls Try.prog 57 #[.agg #[.int .u64 b0, .int .u64 b1, .int .u64 b2, .int .u64 b3], .agg #[.int .u64 a0, .int .u64 a1, .int .u64 a2, .int .u64 a3]] w fun e w' => e = .returned (.agg #[.int .u64 r0, .int .u64 r1, .int .u64 r2, .int .u64 r3]) ∧ Kept w w') (W1 : ∀ w, Calls Try.prog 44 #[.agg #[.int .u64 r0, .int .u64 r1, .int .u64 r2, .int .u64 r3], .bool yb] w fun e w' => e = .returned (.agg #[.bool (yb && nz h l), .int .u64 h, .int .u64 l]) ∧ Kept w w') :
    Calls Try.prog 41 #[.agg #[.bool xb, .int .u64 xh, .int .u64 xl], .agg #[.bool yb, .int .u64 yh, .int .u64 yl]] w fun e w' => e = .returned (.tuple #[.agg #[.bool (yb && nz h l), .int .u64 h, .int .u64 l], .int .i64 0]) ∧ Kept w w' := by
  have D1' := Lib.hid D1
  have D2' := Lib.hid D2
  have C1' := Lib.hid C1
  have M1' := Lib.hid M1
  have W1' := Lib.hid W1
  clear D1 D2 C1 M1 W1
  go_enter Try.func41, Try.ntmps41
  go_upto_region 1 with fail
  generalize hW : (World.alloc (World.alloc (World.alloc w (.cells #[.bool xb, .int .u64 xh, .int .u64 xl] 31)) (.cells #[.bool yb, .int .u64 yh, .int .u64 yl] 31)) (.cells #[.bool false, .int .u64 0, .int .u64 0] 31)) = W0
  have base := Lib.hid (show W0.cell? ⟨w.heap.size, 0, none⟩ = some (.bool xb) ∧ W0.cell? ⟨w.heap.size, 1, none⟩ = some (.int .u64 xh) ∧ W0.cell? ⟨w.heap.size, 2, none⟩ = some (.int .u64 xl) ∧ W0.cell? ⟨w.heap.size + 1, 0, none⟩ = some (.bool yb) ∧ W0.cell? ⟨w.heap.size + 1, 1, none⟩ = some (.int .u64 yh) ∧ W0.cell? ⟨w.heap.size + 1, 2, none⟩ = some (.int .u64 yl) from by subst hW; simp [go_sem])
  have room : Room3 W0 (w.heap.size + 1 + 1) := by subst hW; exact ⟨_, _, _, by first | (simp [go_sem]; done) | (simp [go_sem]; rfl), by first | (simp [go_sem]; done) | (simp [go_sem]; rfl), by first | (simp [go_sem]; done) | (simp [go_sem]; rfl), by simp [go_sem], by simp [go_sem], by simp [go_sem]⟩
  have kw : Kept w W0 := by subst hW; exact (by (repeat (first | with_reducible exact Kept.refl _ | with_reducible apply Kept.drew | with_reducible apply Kept.alloc | ((with_reducible apply Kept.set); focus (simp <;> omega)) | ((with_reducible apply Kept.via); focus with_reducible assumption))))
  have zw : w.heap.size + 3 ≤ W0.heap.size := by subst hW; simp
  clear hW
  obtain ⟨x0, x1, x2, y0, y1, y2⟩ := Kept.all6 (Kept.refl _) base
  have H_x := Lib.hid (And.intro x0 (And.intro x1 x2))
  have H_y := Lib.hid (And.intro y0 (And.intro y1 y2))
  clear base x0 x1 x2 y0 y1 y2
  obtain ⟨c_x0, c_x1, c_x2⟩ := Kept.all3 (show Kept W0 W0 from (by (repeat (first | with_reducible exact Kept.refl _ | with_reducible apply Kept.drew | with_reducible apply Kept.alloc | ((with_reducible apply Kept.set); focus (simp <;> omega)) | ((with_reducible apply Kept.via); focus with_reducible assumption))))) H_x
  go_wp2_with fail
  refine (D1'.out _).mono ?_
  rintro e w1 ⟨rfl, k1⟩
  clear c_x0 c_x1 c_x2
  go_upto_region 2 with fail
  have L_a : w.heap.size + 1 + 1 < w1.heap.size := by have := Kept.below (show Kept W0 w1 from (by (repeat (first | with_reducible exact Kept.refl _ | with_reducible apply Kept.drew | with_reducible apply Kept.alloc | ((with_reducible apply Kept.set); focus (simp <;> omega)) | ((with_reducible apply Kept.via); focus with_reducible assumption))))); omega
  generalize hW : World.alloc w1 (.cells #[.int .u64 a0, .int .u64 a1, .int .u64 a2, .int .u64 a3] 49) = W_a
  have K_a : Kept w1 W_a := by subst hW; exact (Kept.refl _).alloc _ _
  have H_a := Lib.hid (show W_a.cell? ⟨w1.heap.size, 0, none⟩ = some (.int .u64 a0) ∧ W_a.cell? ⟨w1.heap.size, 1, none⟩ = some (.int .u64 a1) ∧ W_a.cell? ⟨w1.heap.size, 2, none⟩ = some (.int .u64 a2) ∧ W_a.cell? ⟨w1.heap.size, 3, none⟩ = some (.int .u64 a3) from by subst hW; simp [go_sem])
  clear hW
  generalize w1.heap.size = g_a at *
  obtain ⟨c_y0, c_y1, c_y2⟩ := Kept.all3 (show Kept W0 W_a from (by (repeat (first | with_reducible exact Kept.refl _ | with_reducible apply Kept.drew | with_reducible apply Kept.alloc | ((with_reducible apply Kept.set); focus (simp <;> omega)) | ((with_reducible apply Kept.via); focus with_reducible assumption))))) H_y
  go_wp2_with fail
  refine (D2'.out _).mono ?_
  rintro e w2 ⟨rfl, k2⟩
  clear c_y0 c_y1 c_y2
  go_upto_region 3 with fail
  have L_b : w.heap.size + 1 + 1 < w2.heap.size := by have := Kept.below (show Kept W0 w2 from (by (repeat (first | with_reducible exact Kept.refl _ | with_reducible apply Kept.drew | with_reducible apply Kept.alloc | ((with_reducible apply Kept.set); focus (simp <;> omega)) | ((with_reducible apply Kept.via); focus with_reducible assumption))))); omega
  generalize hW : World.alloc w2 (.cells #[.int .u64 b0, .int .u64 b1, .int .u64 b2, .int .u64 b3] 49) = W_b
  have K_b : Kept w2 W_b := by subst hW; exact (Kept.refl _).alloc _ _
  have H_b := Lib.hid (show W_b.cell? ⟨w2.heap.size, 0, none⟩ = some (.int .u64 b0) ∧ W_b.cell? ⟨w2.heap.size, 1, none⟩ = some (.int .u64 b1) ∧ W_b.cell? ⟨w2.heap.size, 2, none⟩ = some (.int .u64 b2) ∧ W_b.cell? ⟨w2.heap.size, 3, none⟩ = some (.int .u64 b3) from by subst hW; simp [go_sem])
  clear hW
  generalize w2.heap.size = g_b at *
  obtain ⟨c_x0, c_x1, c_x2⟩ := Kept.all3 (show Kept W0 W_b from (by (repeat (first | with_reducible exact Kept.refl _ | with_reducible apply Kept.drew | with_reducible apply Kept.alloc | ((with_reducible apply Kept.set); focus (simp <;> omega)) | ((with_reducible apply Kept.via); focus with_reducible assumption))))) H_x
  obtain ⟨c_y0, c_y1, c_y2⟩ := Kept.all3 (show Kept W0 W_b from (by (repeat (first | with_reducible exact Kept.refl _ | with_reducible apply Kept.drew | with_reducible apply Kept.alloc | ((with_reducible apply Kept.set); focus (simp <;> omega)) | ((with_reducible apply Kept.via); focus with_reducible assumption))))) H_y
  obtain ⟨c_a0, c_a1, c_a2, c_a3⟩ := Kept.all4 (show Kept W_a W_b from (by (repeat (first | with_reducible exact Kept.refl _ | with_reducible apply Kept.drew | with_reducible apply Kept.alloc | ((with_reducible apply Kept.set); focus (simp <;> omega)) | ((with_reducible apply Kept.via); focus with_reducible assumption))))) H_a
  obtain ⟨c_b0, c_b1, c_b2, c_b3⟩ := Kept.all4 (show Kept W_b W_b from (by (repeat (first | with_reducible exact Kept.refl _ | with_reducible apply Kept.drew | with_reducible apply Kept.alloc | ((with_reducible apply Kept.set); focus (simp <;> omega)) | ((with_reducible apply Kept.via); focus with_reducible assumption))))) H_b
  go_wp2_with fail
  refine (C1'.out _).mono ?_
  rintro e w3 ⟨rfl, k3⟩
  clear c_x0 c_x1 c_x2 c_y0 c_y1 c_y2 c_a0 c_a1 c_a2 c_a3 c_b0 c_b1 c_b2 c_b3
  go_upto_region 9 with fail
  obtain ⟨c_a0, c_a1, c_a2, c_a3⟩ := Kept.all4 (show Kept W_a w3 from (by (repeat (first | with_reducible exact Kept.refl _ | with_reducible apply Kept.drew | with_reducible apply Kept.alloc | ((with_reducible apply Kept.set); focus (simp <;> omega)) | ((with_reducible apply Kept.via); focus with_reducible assumption))))) H_a
  obtain ⟨c_b0, c_b1, c_b2, c_b3⟩ := Kept.all4 (show Kept W_b w3 from (by (repeat (first | with_reducible exact Kept.refl _ | with_reducible apply Kept.drew | with_reducible apply Kept.alloc | ((with_reducible apply Kept.set); focus (simp <;> omega)) | ((with_reducible apply Kept.via); focus with_reducible assumption))))) H_b
  obtain ⟨c_y0, c_y1, c_y2⟩ := Kept.all3 (show Kept W0 w3 from (by (repeat (first | with_reducible exact Kept.refl _ | with_reducible apply Kept.drew | with_reducible apply Kept.alloc | ((with_reducible apply Kept.set); focus (simp <;> omega)) | ((with_reducible apply Kept.via); focus with_reducible assumption))))) H_y
  have base := Lib.hid (show w3.cell? ⟨g_a, 0, none⟩ = some (.int .u64 a0) ∧ w3.cell? ⟨g_a, 1, none⟩ = some (.int .u64 a1) ∧ w3.cell? ⟨g_a, 2, none⟩ = some (.int .u64 a2) ∧ w3.cell? ⟨g_a, 3, none⟩ = some (.int .u64 a3) ∧ w3.cell? ⟨g_b, 0, none⟩ = some (.int .u64 b0) ∧ w3.cell? ⟨g_b, 1, none⟩ = some (.int .u64 b1) ∧ w3.cell? ⟨g_b, 2, none⟩ = some (.int .u64 b2) ∧ w3.cell? ⟨g_b, 3, none⟩ = some (.int .u64 b3) ∧ w3.cell? ⟨w.heap.size + 1, 0, none⟩ = some (.bool yb) from ⟨c_a0, c_a1, c_a2, c_a3, c_b0, c_b1, c_b2, c_b3, c_y0⟩)
  have zz := Kept.below (show Kept W0 w3 from (by (repeat (first | with_reducible exact Kept.refl _ | with_reducible apply Kept.drew | with_reducible apply Kept.alloc | ((with_reducible apply Kept.set); focus (simp <;> omega)) | ((with_reducible apply Kept.via); focus with_reducible assumption)))))
  have room2 : Room3 w3 (w.heap.size + 1 + 1) := room.kept (by (repeat (first | with_reducible exact Kept.refl _ | with_reducible apply Kept.drew | with_reducible apply Kept.alloc | ((with_reducible apply Kept.set); focus (simp <;> omega)) | ((with_reducible apply Kept.via); focus with_reducible assumption))))
  have kw2 : Kept w w3 := (by (repeat (first | with_reducible exact Kept.refl _ | with_reducible apply Kept.drew | with_reducible apply Kept.alloc | ((with_reducible apply Kept.set); focus (simp <;> omega)) | ((with_reducible apply Kept.via); focus with_reducible assumption))))
  clear c_a0 c_a1 c_a2 c_a3 c_b0 c_b1 c_b2 c_b3 c_y0 c_y1 c_y2
  go_region_held3 (fun w' => w'.cell? ⟨g_a, 0, none⟩ = some (.int .u64 a0) ∧ w'.cell? ⟨g_a, 1, none⟩ = some (.int .u64 a1) ∧ w'.cell? ⟨g_a, 2, none⟩ = some (.int .u64 a2) ∧ w'.cell? ⟨g_a, 3, none⟩ = some (.int .u64 a3) ∧ w'.cell? ⟨g_b, 0, none⟩ = some (.int .u64 b0) ∧ w'.cell? ⟨g_b, 1, none⟩ = some (.int .u64 b1) ∧ w'.cell? ⟨g_b, 2, none⟩ = some (.int .u64 b2) ∧ w'.cell? ⟨g_b, 3, none⟩ = some (.int .u64 b3) ∧ w'.cell? ⟨w.heap.size + 1, 0, none⟩ = some (.bool yb))
    ((first | (refine Kept.all9 ?_ base; focus ((repeat (first | with_reducible exact Kept.refl _ | with_reducible apply Kept.drew | with_reducible apply Kept.alloc | ((with_reducible apply Kept.set); focus (simp <;> omega)) | ((with_reducible apply Kept.via); focus with_reducible assumption))); done)) | (refine far9 (Kept.all9 (by (repeat (first | with_reducible exact Kept.refl _ | with_reducible apply Kept.drew | with_reducible apply Kept.alloc | ((with_reducible apply Kept.set); focus (simp <;> omega)) | ((with_reducible apply Kept.via); focus with_reducible assumption)))) base) ?_; focus ((repeat' apply And.intro) <;> (simp <;> omega)))))
    (first
      | (go_at_call 57; refine (M1'.out _).mono ?_; rintro e v1 ⟨rfl, i1⟩)
      | (go_at_call 44; refine (W1'.out _).mono ?_; rintro e v2 ⟨rfl, i2⟩; obtain ⟨x, y, z, a1, a2, a3, d1, d2, d3⟩ : Room3 v2 (w.heap.size + 1 + 1) := room2.kept (by (repeat (first | with_reducible exact Kept.refl _ | with_reducible apply Kept.drew | with_reducible apply Kept.alloc | ((with_reducible apply Kept.set); focus (simp <;> omega)) | ((with_reducible apply Kept.via); focus with_reducible assumption))))))
  go_wp2
  simp [bodyPost, results, Try.results41, go_sem, *]
  exact (by (repeat (first | with_reducible exact Kept.refl _ | with_reducible apply Kept.drew | with_reducible apply Kept.alloc | ((with_reducible apply Kept.set); focus (simp <;> omega)) | ((with_reducible apply Kept.via); focus with_reducible assumption))))
set_option maxHeartbeats 1600000 in
theorem refAdd_more (xb yb : Bool) (xh xl yh yl a0 a1 a2 a3 b0 b1 b2 b3 r0 r1 r2 r3 h l : Int) (w : World) (hb : (xb == yb) = false) (D1 : ∀ w, Calls Try.prog 33 #[.agg #[.bool xb, .int .u64 xh, .int .u64 xl]] w fun e w' => e = .returned (.agg #[.int .u64 a0, .int .u64 a1, .int .u64 a2, .int .u64 a3]) ∧ Kept w w') (D2 : ∀ w, Calls Try.prog 33 #[.agg #[.bool yb, .int .u64 yh, .int .u64 yl]] w fun e w' => e = .returned (.agg #[.int .u64 b0, .int .u64 b1, .int .u64 b2, .int .u64 b3]) ∧ Kept w w') (C1 : ∀ w, Calls Try.prog 35 #[.agg #[.int .u64 a0, .int .u64 a1, .int .u64 a2, .int .u64 a3], .agg #[.int .u64 b0, .int .u64 b1, .int .u64 b2, .int .u64 b3]] w fun e w' => e = .returned (.bool false) ∧ Kept w w') (M1 : ∀ w, Calls Try.prog 57 #[.agg #[.int .u64 a0, .int .u64 a1, .int .u64 a2, .int .u64 a3], .agg #[.int .u64 b0, .int .u64 b1, .int .u64 b2, .int .u64 b3]] w fun e w' => e = .returned (.agg #[.int .u64 r0, .int .u64 r1, .int .u64 r2, .int .u64 r3]) ∧ Kept w w') (W1 : ∀ w, Calls Try.prog 44 #[.agg #[.int .u64 r0, .int .u64 r1, .int .u64 r2, .int .u64 r3], .bool xb] w fun e w' => e = .returned (.agg #[.bool (xb && nz h l), .int .u64 h, .int .u64 l]) ∧ Kept w w') :
    Calls Try.prog 41 #[.agg #[.bool xb, .int .u64 xh, .int .u64 xl], .agg #[.bool yb, .int .u64 yh, .int .u64 yl]] w fun e w' => e = .returned (.tuple #[.agg #[.bool (xb && nz h l), .int .u64 h, .int .u64 l], .int .i64 0]) ∧ Kept w w' := by
  have D1' := Lib.hid D1
  have D2' := Lib.hid D2
  have C1' := Lib.hid C1
  have M1' := Lib.hid M1
  have W1' := Lib.hid W1
  clear D1 D2 C1 M1 W1
  go_enter Try.func41, Try.ntmps41
  go_upto_region 1 with fail
  generalize hW : (World.alloc (World.alloc (World.alloc w (.cells #[.bool xb, .int .u64 xh, .int .u64 xl] 31)) (.cells #[.bool yb, .int .u64 yh, .int .u64 yl] 31)) (.cells #[.bool false, .int .u64 0, .int .u64 0] 31)) = W0
  have base := Lib.hid (show W0.cell? ⟨w.heap.size, 0, none⟩ = some (.bool xb) ∧ W0.cell? ⟨w.heap.size, 1, none⟩ = some (.int .u64 xh) ∧ W0.cell? ⟨w.heap.size, 2, none⟩ = some (.int .u64 xl) ∧ W0.cell? ⟨w.heap.size + 1, 0, none⟩ = some (.bool yb) ∧ W0.cell? ⟨w.heap.size + 1, 1, none⟩ = some (.int .u64 yh) ∧ W0.cell? ⟨w.heap.size + 1, 2, none⟩ = some (.int .u64 yl) from by subst hW; simp [go_sem])
  have room : Room3 W0 (w.heap.size + 1 + 1) := by subst hW; exact ⟨_, _, _, by first | (simp [go_sem]; done) | (simp [go_sem]; rfl), by first | (simp [go_sem]; done) | (simp [go_sem]; rfl), by first | (simp [go_sem]; done) | (simp [go_sem]; rfl), by simp [go_sem], by simp [go_sem], by simp [go_sem]⟩
  have kw : Kept w W0 := by subst hW; exact (by (repeat (first | with_reducible exact Kept.refl _ | with_reducible apply Kept.drew | with_reducible apply Kept.alloc | ((with_reducible apply Kept.set); focus (simp <;> omega)) | ((with_reducible apply Kept.via); focus with_reducible assumption))))
  have zw : w.heap.size + 3 ≤ W0.heap.size := by subst hW; simp
  clear hW
  obtain ⟨x0, x1, x2, y0, y1, y2⟩ := Kept.all6 (Kept.refl _) base
  have H_x := Lib.hid (And.intro x0 (And.intro x1 x2))
  have H_y := Lib.hid (And.intro y0 (And.intro y1 y2))
  clear base x0 x1 x2 y0 y1 y2
  obtain ⟨c_x0, c_x1, c_x2⟩ := Kept.all3 (show Kept W0 W0 from (by (repeat (first | with_reducible exact Kept.refl _ | with_reducible apply Kept.drew | with_reducible apply Kept.alloc | ((with_reducible apply Kept.set); focus (simp <;> omega)) | ((with_reducible apply Kept.via); focus with_reducible assumption))))) H_x
  go_wp2_with fail
  refine (D1'.out _).mono ?_
  rintro e w1 ⟨rfl, k1⟩
  clear c_x0 c_x1 c_x2
  go_upto_region 2 with fail
  have L_a : w.heap.size + 1 + 1 < w1.heap.size := by have := Kept.below (show Kept W0 w1 from (by (repeat (first | with_reducible exact Kept.refl _ | with_reducible apply Kept.drew | with_reducible apply Kept.alloc | ((with_reducible apply Kept.set); focus (simp <;> omega)) | ((with_reducible apply Kept.via); focus with_reducible assumption))))); omega
  generalize hW : World.alloc w1 (.cells #[.int .u64 a0, .int .u64 a1, .int .u64 a2, .int .u64 a3] 49) = W_a
  have K_a : Kept w1 W_a := by subst hW; exact (Kept.refl _).alloc _ _
  have H_a := Lib.hid (show W_a.cell? ⟨w1.heap.size, 0, none⟩ = some (.int .u64 a0) ∧ W_a.cell? ⟨w1.heap.size, 1, none⟩ = some (.int .u64 a1) ∧ W_a.cell? ⟨w1.heap.size, 2, none⟩ = some (.int .u64 a2) ∧ W_a.cell? ⟨w1.heap.size, 3, none⟩ = some (.int .u64 a3) from by subst hW; simp [go_sem])
  clear hW
  generalize w1.heap.size = g_a at *
  obtain ⟨c_y0, c_y1, c_y2⟩ := Kept.all3 (show Kept W0 W_a from (by (repeat (first | with_reducible exact Kept.refl _ | with_reducible apply Kept.drew | with_reducible apply Kept.alloc | ((with_reducible apply Kept.set); focus (simp <;> omega)) | ((with_reducible apply Kept.via); focus with_reducible assumption))))) H_y
  go_wp2_with fail
  refine (D2'.out _).mono ?_
  rintro e w2 ⟨rfl, k2⟩
  clear c_y0 c_y1 c_y2
  go_upto_region 3 with fail
  have L_b : w.heap.size + 1 + 1 < w2.heap.size := by have := Kept.below (show Kept W0 w2 from (by (repeat (first | with_reducible exact Kept.refl _ | with_reducible apply Kept.drew | with_reducible apply Kept.alloc | ((with_reducible apply Kept.set); focus (simp <;> omega)) | ((with_reducible apply Kept.via); focus with_reducible assumption))))); omega
  generalize hW : World.alloc w2 (.cells #[.int .u64 b0, .int .u64 b1, .int .u64 b2, .int .u64 b3] 49) = W_b
  have K_b : Kept w2 W_b := by subst hW; exact (Kept.refl _).alloc _ _
  have H_b := Lib.hid (show W_b.cell? ⟨w2.heap.size, 0, none⟩ = some (.int .u64 b0) ∧ W_b.cell? ⟨w2.heap.size, 1, none⟩ = some (.int .u64 b1) ∧ W_b.cell? ⟨w2.heap.size, 2, none⟩ = some (.int .u64 b2) ∧ W_b.cell? ⟨w2.heap.size, 3, none⟩ = some (.int .u64 b3) from by subst hW; simp [go_sem])
  clear hW
  generalize w2.heap.size = g_b at *
  obtain ⟨c_x0, c_x1, c_x2⟩ := Kept.all3 (show Kept W0 W_b from (by (repeat (first | with_reducible exact Kept.refl _ | with_reducible apply Kept.drew | with_reducible apply Kept.alloc | ((with_reducible apply Kept.set); focus (simp <;> omega)) | ((with_reducible apply Kept.via); focus with_reducible assumption))))) H_x
  obtain ⟨c_y0, c_y1, c_y2⟩ := Kept.all3 (show Kept W0 W_b from (by (repeat (first | with_reducible exact Kept.refl _ | with_reducible apply Kept.drew | with_reducible apply Kept.alloc | ((with_reducible apply Kept.set); focus (simp <;> omega)) | ((with_reducible apply Kept.via); focus with_reducible assumption))))) H_y
  obtain ⟨c_a0, c_a1, c_a2, c_a3⟩ := Kept.all4 (show Kept W_a W_b from (by (repeat (first | with_reducible exact Kept.refl _ | with_reducible apply Kept.drew | with_reducible apply Kept.alloc | ((with_reducible apply Kept.set); focus (simp <;> omega)) | ((with_reducible apply Kept.via); focus with_reducible assumption))))) H_a
  obtain ⟨c_b0, c_b1, c_b2, c_b3⟩ := Kept.all4 (show Kept W_b W_b from (by (repeat (first | with_reducible exact Kept.refl _ | with_reducible apply Kept.drew | with_reducible apply Kept.alloc | ((with_reducible apply Kept.set); focus (simp <;> omega)) | ((with_reducible apply Kept.via); focus with_reducible assumption))))) H_b
  go_wp2_with fail
  refine (C1'.out _).mono ?_
  rintro e w3 ⟨rfl, k3⟩
  clear c_x0 c_x1 c_x2 c_y0 c_y1 c_y2 c_a0 c_a1 c_a2 c_a3 c_b0 c_b1 c_b2 c_b3
  go_upto_region 10 with fail
  obtain ⟨c_a0, c_a1, c_a2, c_a3⟩ := Kept.all4 (show Kept W_a w3 from (by (repeat (first | with_reducible exact Kept.refl _ | with_reducible apply Kept.drew | with_reducible apply Kept.alloc | ((with_reducible apply Kept.set); focus (simp <;> omega)) | ((with_reducible apply Kept.via); focus with_reducible assumption))))) H_a
  obtain ⟨c_b0, c_b1, c_b2, c_b3⟩ := Kept.all4 (show Kept W_b w3 from (by (repeat (first | with_reducible exact Kept.refl _ | with_reducible apply Kept.drew | with_reducible apply Kept.alloc | ((with_reducible apply Kept.set); focus (simp <;> omega)) | ((with_reducible apply Kept.via); focus with_reducible assumption))))) H_b
  obtain ⟨c_x0, c_x1, c_x2⟩ := Kept.all3 (show Kept W0 w3 from (by (repeat (first | with_reducible exact Kept.refl _ | with_reducible apply Kept.drew | with_reducible apply Kept.alloc | ((with_reducible apply Kept.set); focus (simp <;> omega)) | ((with_reducible apply Kept.via); focus with_reducible assumption))))) H_x
  have base := Lib.hid (show w3.cell? ⟨g_a, 0, none⟩ = some (.int .u64 a0) ∧ w3.cell? ⟨g_a, 1, none⟩ = some (.int .u64 a1) ∧ w3.cell? ⟨g_a, 2, none⟩ = some (.int .u64 a2) ∧ w3.cell? ⟨g_a, 3, none⟩ = some (.int .u64 a3) ∧ w3.cell? ⟨g_b, 0, none⟩ = some (.int .u64 b0) ∧ w3.cell? ⟨g_b, 1, none⟩ = some (.int .u64 b1) ∧ w3.cell? ⟨g_b, 2, none⟩ = some (.int .u64 b2) ∧ w3.cell? ⟨g_b, 3, none⟩ = some (.int .u64 b3) ∧ w3.cell? ⟨w.heap.size, 0, none⟩ = some (.bool xb) from ⟨c_a0, c_a1, c_a2, c_a3, c_b0, c_b1, c_b2, c_b3, c_x0⟩)
  have zz := Kept.below (show Kept W0 w3 from (by (repeat (first | with_reducible exact Kept.refl _ | with_reducible apply Kept.drew | with_reducible apply Kept.alloc | ((with_reducible apply Kept.set); focus (simp <;> omega)) | ((with_reducible apply Kept.via); focus with_reducible assumption)))))
  have room2 : Room3 w3 (w.heap.size + 1 + 1) := room.kept (by (repeat (first | with_reducible exact Kept.refl _ | with_reducible apply Kept.drew | with_reducible apply Kept.alloc | ((with_reducible apply Kept.set); focus (simp <;> omega)) | ((with_reducible apply Kept.via); focus with_reducible assumption))))
  have kw2 : Kept w w3 := (by (repeat (first | with_reducible exact Kept.refl _ | with_reducible apply Kept.drew | with_reducible apply Kept.alloc | ((with_reducible apply Kept.set); focus (simp <;> omega)) | ((with_reducible apply Kept.via); focus with_reducible assumption))))
  clear c_a0 c_a1 c_a2 c_a3 c_b0 c_b1 c_b2 c_b3 c_x0 c_x1 c_x2
  go_region_held3 (fun w' => w'.cell? ⟨g_a, 0, none⟩ = some (.int .u64 a0) ∧ w'.cell? ⟨g_a, 1, none⟩ = some (.int .u64 a1) ∧ w'.cell? ⟨g_a, 2, none⟩ = some (.int .u64 a2) ∧ w'.cell? ⟨g_a, 3, none⟩ = some (.int .u64 a3) ∧ w'.cell? ⟨g_b, 0, none⟩ = some (.int .u64 b0) ∧ w'.cell? ⟨g_b, 1, none⟩ = some (.int .u64 b1) ∧ w'.cell? ⟨g_b, 2, none⟩ = some (.int .u64 b2) ∧ w'.cell? ⟨g_b, 3, none⟩ = some (.int .u64 b3) ∧ w'.cell? ⟨w.heap.size, 0, none⟩ = some (.bool xb))
    ((first | (refine Kept.all9 ?_ base; focus ((repeat (first | with_reducible exact Kept.refl _ | with_reducible apply Kept.drew | with_reducible apply Kept.alloc | ((with_reducible apply Kept.set); focus (simp <;> omega)) | ((with_reducible apply Kept.via); focus with_reducible assumption))); done)) | (refine far9 (Kept.all9 (by (repeat (first | with_reducible exact Kept.refl _ | with_reducible apply Kept.drew | with_reducible apply Kept.alloc | ((with_reducible apply Kept.set); focus (simp <;> omega)) | ((with_reducible apply Kept.via); focus with_reducible assumption)))) base) ?_; focus ((repeat' apply And.intro) <;> (simp <;> omega)))))
    (first
      | (go_at_call 57; refine (M1'.out _).mono ?_; rintro e v1 ⟨rfl, i1⟩)
      | (go_at_call 44; refine (W1'.out _).mono ?_; rintro e v2 ⟨rfl, i2⟩; obtain ⟨x, y, z, a1, a2, a3, d1, d2, d3⟩ : Room3 v2 (w.heap.size + 1 + 1) := room2.kept (by (repeat (first | with_reducible exact Kept.refl _ | with_reducible apply Kept.drew | with_reducible apply Kept.alloc | ((with_reducible apply Kept.set); focus (simp <;> omega)) | ((with_reducible apply Kept.via); focus with_reducible assumption))))))
  go_wp2
  simp [bodyPost, results, Try.results41, go_sem, *]
  exact (by (repeat (first | with_reducible exact Kept.refl _ | with_reducible apply Kept.drew | with_reducible apply Kept.alloc | ((with_reducible apply Kept.set); focus (simp <;> omega)) | ((with_reducible apply Kept.via); focus with_reducible assumption))))

section
variable {b1 b2 b : Bool} {xh xl yh yl h l : Int}
theorem dig_b {x : Int} (hx : Word x) : 0 ≤ x % 4294967296 ∧ x % 4294967296 < 4294967296 ∧ 0 ≤ x / 4294967296 ∧ x / 4294967296 < 4294967296 := by unfold Word at hx; omega
theorem refLess_sz (h1 : Word xh) (h2 : Word xl) (h3 : Word yh) (h4 : Word yl) (w : World) :
    Calls Try.prog 35 #[.agg #[.int .u64 (xl % 4294967296), .int .u64 (xl / 4294967296), .int .u64 (xh % 4294967296), .int .u64 (xh / 4294967296)], .agg #[.int .u64 (yl % 4294967296), .int .u64 (yl / 4294967296), .int .u64 (yh % 4294967296), .int .u64 (yh / 4294967296)]] w fun e w' => e = .returned (.bool (decide (sz xh xl < sz yh yl))) ∧ Kept w w' := by
  have a := dig_b h1; have b := dig_b h2; have c := dig_b h3; have d := dig_b h4
  have := refLess (xl % 4294967296) (xl / 4294967296) (xh % 4294967296) (xh / 4294967296) (yl % 4294967296) (yl / 4294967296) (yh % 4294967296) (yh / 4294967296) w (by omega) (by omega) (by omega) (by omega) (by omega) (by omega) (by omega) (by omega) (by omega) (by omega) (by omega) (by omega)
  rw [show decide (sz xh xl < sz yh yl) = decide ((xh / 4294967296 * 79228162514264337593543950336 + xh % 4294967296 * 18446744073709551616 + xl / 4294967296 * 4294967296 + xl % 4294967296) < (yh / 4294967296 * 79228162514264337593543950336 + yh % 4294967296 * 18446744073709551616 + yl / 4294967296 * 4294967296 + yl % 4294967296)) by rw [decide_eq_decide]; unfold sz; omega]
  exact this
theorem refPlus_ok (h1 : Word xh) (h2 : Word xl) (h3 : Word yh) (h4 : Word yl) : ∃ r0 r1 r2 r3 c : Int, (0 ≤ r0 ∧ r0 < 4294967296) ∧ (0 ≤ r1 ∧ r1 < 4294967296) ∧ (0 ≤ r2 ∧ r2 < 4294967296) ∧ (0 ≤ r3 ∧ r3 < 4294967296) ∧ (0 ≤ c ∧ c ≤ 1) ∧ c * 340282366920938463463374607431768211456 + sz (r3 * 4294967296 + r2) (r1 * 4294967296 + r0) = sz xh xl + sz yh yl ∧ ∀ w, Calls Try.prog 56 #[.agg #[.int .u64 (xl % 4294967296), .int .u64 (xl / 4294967296), .int .u64 (xh % 4294967296), .int .u64 (xh / 4294967296)], .agg #[.int .u64 (yl % 4294967296), .int .u64 (yl / 4294967296), .int .u64 (yh % 4294967296), .int .u64 (yh / 4294967296)]] w fun e w' => e = .returned (.tuple #[.agg #[.int .u64 r0, .int .u64 r1, .int .u64 r2, .int .u64 r3], .int .u64 c]) ∧ Kept w w' := by
  have a := dig_b h1; have b := dig_b h2; have c := dig_b h3; have d := dig_b h4
  have C := fun w => plus_raw (xl % 4294967296) (xl / 4294967296) (xh % 4294967296) (xh / 4294967296) (yl % 4294967296) (yl / 4294967296) (yh % 4294967296) (yh / 4294967296) _ _ _ _ _ _ _ _ w b.1 b.2.1 b.2.2.1 b.2.2.2 a.1 a.2.1 a.2.2.1 a.2.2.2 d.1 d.2.1 d.2.2.1 d.2.2.2 c.1 c.2.1 c.2.2.1 c.2.2.2 (by omega) (by omega) (by omega) (by omega) (by omega) (by omega) rfl rfl rfl rfl rfl rfl rfl rfl
  refine ⟨_, _, _, _, _, ?_, ?_, ?_, ?_, ?_, ?_, C⟩ <;> (try unfold sz) <;> omega
theorem refMinus_ok (h1 : Word xh) (h2 : Word xl) (h3 : Word yh) (h4 : Word yl) (ge : sz yh yl ≤ sz xh xl) : ∃ r0 r1 r2 r3 : Int, (0 ≤ r0 ∧ r0 < 4294967296) ∧ (0 ≤ r1 ∧ r1 < 4294967296) ∧ (0 ≤ r2 ∧ r2 < 4294967296) ∧ (0 ≤ r3 ∧ r3 < 4294967296) ∧ sz (r3 * 4294967296 + r2) (r1 * 4294967296 + r0) = sz xh xl - sz yh yl ∧ ∀ w, Calls Try.prog 57 #[.agg #[.int .u64 (xl % 4294967296), .int .u64 (xl / 4294967296), .int .u64 (xh % 4294967296), .int .u64 (xh / 4294967296)], .agg #[.int .u64 (yl % 4294967296), .int .u64 (yl / 4294967296), .int .u64 (yh % 4294967296), .int .u64 (yh / 4294967296)]] w fun e w' => e = .returned (.agg #[.int .u64 r0, .int .u64 r1, .int .u64 r2, .int .u64 r3]) ∧ Kept w w' := by
  have a := dig_b h1; have b := dig_b h2; have c := dig_b h3; have d := dig_b h4
  have C := fun w => minus_raw (xl % 4294967296) (xl / 4294967296) (xh % 4294967296) (xh / 4294967296) (yl % 4294967296) (yl / 4294967296) (yh % 4294967296) (yh / 4294967296) _ _ _ _ _ _ _ _ w b.1 b.2.1 b.2.2.1 b.2.2.2 a.1 a.2.1 a.2.2.1 a.2.2.2 d.1 d.2.1 d.2.2.1 d.2.2.2 c.1 c.2.1 c.2.2.1 c.2.2.2 (by omega) (by omega) (by omega) (by omega) (by omega) (by omega) rfl rfl rfl rfl rfl rfl rfl rfl
  unfold sz at ge
  refine ⟨_, _, _, _, ?_, ?_, ?_, ?_, ?_, C⟩ <;> (try unfold sz) <;> omega
end
end Go.Proofs.Ytfkdbelajideiaa
