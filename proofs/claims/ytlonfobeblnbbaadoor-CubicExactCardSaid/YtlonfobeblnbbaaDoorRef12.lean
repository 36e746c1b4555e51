/-
  Contracts of the document's answers of layer 12.
-/
import Derived.Test.YtlonfobeblnbbaaDoorCon12
import Derived.Test.YtlonfobeblnbbaaDoorRef11
import Derived.Deep.DeepCutAuto
namespace Go.Proofs.YtlonfobeblnbbaaDoor
open Go.RowKit Go.BigFrame
set_option linter.unusedVariables false

set_option maxRecDepth 100000 in
set_option maxHeartbeats 1600000 in
theorem refCubed_pos (n m ph pl qh ql yh yl : Int) (pb qb yb : Bool) (hm : n = m) (m0 : 0 ≤ m) (m1 : m ≤ 2147483648) (w : World) (MU : ∀ w, Calls Tryd.prog 44 #[.int .i64 m, .int .i64 m] w fun e w' => e = .returned (.agg #[.bool pb, .int .u64 ph, .int .u64 pl]) ∧ Kept w w') (S1 : ∀ w, Calls Tryd.prog 20 #[.agg #[.bool pb, .int .u64 ph, .int .u64 pl], .int .u64 m] w fun e w' => e = .returned (.tuple #[.agg #[.bool qb, .int .u64 qh, .int .u64 ql], .int .i64 0]) ∧ Kept w w') (S2 : ∀ w, Calls Tryd.prog 20 #[.agg #[.bool qb, .int .u64 qh, .int .u64 ql], .int .u64 262144] w fun e w' => e = .returned (.tuple #[.agg #[.bool yb, .int .u64 yh, .int .u64 yl], .int .i64 0]) ∧ Kept w w') : Calls Tryd.prog 19 #[.int .i64 n] w fun e w' => e = .returned (.agg #[.bool yb, .int .u64 yh, .int .u64 yl]) ∧ Kept w w' := by
  have MU' := Lib.hid MU
  have S1' := Lib.hid S1
  have S2' := Lib.hid S2
  clear MU S1 S2
  subst hm
  have d0 : decide (n < 0) = false := by simp; omega
  go_enter Tryd.func19, Tryd.ntmps19
  go_upto_region 1 with fail
  generalize hW : World.alloc w (.cells #[.bool false, .int .u64 0, .int .u64 0] 33) = W0
  have RM := Lib.hid (show Room3 W0 w.heap.size from by subst hW; exact ⟨_, _, _, by first | (simp [go_sem]; done) | (simp [go_sem]; rfl), by first | (simp [go_sem]; done) | (simp [go_sem]; rfl), by first | (simp [go_sem]; done) | (simp [go_sem]; rfl), by simp [go_sem], by simp [go_sem], by simp [go_sem]⟩)
  have K0 : Kept w W0 := by subst hW; exact (Kept.refl _).alloc _ _
  clear hW
  go_wp2_with fail
  refine (MU'.out _).mono ?_
  rintro e w11 ⟨rfl, k11⟩
  go_wp2_with fail
  refine (S1'.out _).mono ?_
  rintro e w12 ⟨rfl, k12⟩
  go_upto_region 5 with fail
  generalize hW : World.alloc w12 (.cells #[.bool qb, .int .u64 qh, .int .u64 ql] 33) = W_x
  have K_x : Kept w12 W_x := by subst hW; exact (Kept.refl _).alloc _ _
  have H_x := Lib.hid (show W_x.cell? ⟨w12.heap.size, 0, none⟩ = some (.bool qb) ∧ W_x.cell? ⟨w12.heap.size, 1, none⟩ = some (.int .u64 qh) ∧ W_x.cell? ⟨w12.heap.size, 2, none⟩ = some (.int .u64 ql) from by subst hW; simp [go_sem])
  clear hW
  generalize w12.heap.size = g_x at *
  obtain ⟨c_x0, c_x1, c_x2⟩ := Kept.all3 (show Kept W_x W_x from (by (repeat (first | with_reducible exact Kept.refl _ | with_reducible apply Kept.drew | with_reducible apply Kept.alloc | ((with_reducible apply Kept.set); focus (simp <;> omega)) | ((with_reducible apply Kept.via); focus with_reducible assumption))))) H_x
  go_wp2_with fail
  refine (S2'.out _).mono ?_
  rintro e w13 ⟨rfl, k13⟩
  clear c_x0 c_x1 c_x2
  go_upto_region 6 with fail
  generalize hW : World.alloc w13 (.cells #[.bool yb, .int .u64 yh, .int .u64 yl] 33) = W_y
  have K_y : Kept w13 W_y := by subst hW; exact (Kept.refl _).alloc _ _
  have H_y := Lib.hid (show W_y.cell? ⟨w13.heap.size, 0, none⟩ = some (.bool yb) ∧ W_y.cell? ⟨w13.heap.size, 1, none⟩ = some (.int .u64 yh) ∧ W_y.cell? ⟨w13.heap.size, 2, none⟩ = some (.int .u64 yl) from by subst hW; simp [go_sem])
  clear hW
  generalize w13.heap.size = g_y at *
  obtain ⟨c_y0, c_y1, c_y2⟩ := Kept.all3 (show Kept W_y W_y from (by (repeat (first | with_reducible exact Kept.refl _ | with_reducible apply Kept.drew | with_reducible apply Kept.alloc | ((with_reducible apply Kept.set); focus (simp <;> omega)) | ((with_reducible apply Kept.via); focus with_reducible assumption))))) H_y
  obtain ⟨nx, ny, nz, na1, na2, na3, nb1, nb2, nb3⟩ := Room3.kept RM.out (show Kept W0 W_y from (by (repeat (first | with_reducible exact Kept.refl _ | with_reducible apply Kept.drew | with_reducible apply Kept.alloc | ((with_reducible apply Kept.set); focus (simp <;> omega)) | ((with_reducible apply Kept.via); focus with_reducible assumption)))))
  go_wp2
  simp [bodyPost, results, Tryd.results19, go_sem, *]
  exact (by (repeat (first | with_reducible exact Kept.refl _ | with_reducible apply Kept.drew | with_reducible apply Kept.alloc | ((with_reducible apply Kept.set); focus (simp <;> omega)) | ((with_reducible apply Kept.via); focus with_reducible assumption))))
set_option maxRecDepth 100000 in
set_option maxHeartbeats 1600000 in
theorem refCubed_neg (n ph pl qh ql yh yl zh zl : Int) (pb qb yb zb : Bool) (hn : n < 0) (n2 : -2147483648 ≤ n) (w : World) (MU : ∀ w, Calls Tryd.prog 44 #[.int .i64 (-n), .int .i64 (-n)] w fun e w' => e = .returned (.agg #[.bool pb, .int .u64 ph, .int .u64 pl]) ∧ Kept w w') (S1 : ∀ w, Calls Tryd.prog 20 #[.agg #[.bool pb, .int .u64 ph, .int .u64 pl], .int .u64 (-n)] w fun e w' => e = .returned (.tuple #[.agg #[.bool qb, .int .u64 qh, .int .u64 ql], .int .i64 0]) ∧ Kept w w') (S2 : ∀ w, Calls Tryd.prog 20 #[.agg #[.bool qb, .int .u64 qh, .int .u64 ql], .int .u64 262144] w fun e w' => e = .returned (.tuple #[.agg #[.bool yb, .int .u64 yh, .int .u64 yl], .int .i64 0]) ∧ Kept w w') (NG : ∀ w, Calls Tryd.prog 45 #[.agg #[.bool yb, .int .u64 yh, .int .u64 yl]] w fun e w' => e = .returned (.agg #[.bool zb, .int .u64 zh, .int .u64 zl]) ∧ Kept w w') : Calls Tryd.prog 19 #[.int .i64 n] w fun e w' => e = .returned (.agg #[.bool zb, .int .u64 zh, .int .u64 zl]) ∧ Kept w w' := by
  have MU' := Lib.hid MU
  have S1' := Lib.hid S1
  have S2' := Lib.hid S2
  have NG' := Lib.hid NG
  clear MU S1 S2 NG
  have d0 : decide (n < 0) = true := by simp [hn]
  have n0 : -9223372036854775808 ≤ -n := by omega
  have n1 : -n ≤ 9223372036854775807 := by omega
  have n3 : 0 ≤ -n := by omega
  go_enter Tryd.func19, Tryd.ntmps19
  go_upto_region 1 with fail
  generalize hW : World.alloc w (.cells #[.bool false, .int .u64 0, .int .u64 0] 33) = W0
  have RM := Lib.hid (show Room3 W0 w.heap.size from by subst hW; exact ⟨_, _, _, by first | (simp [go_sem]; done) | (simp [go_sem]; rfl), by first | (simp [go_sem]; done) | (simp [go_sem]; rfl), by first | (simp [go_sem]; done) | (simp [go_sem]; rfl), by simp [go_sem], by simp [go_sem], by simp [go_sem]⟩)
  have K0 : Kept w W0 := by subst hW; exact (Kept.refl _).alloc _ _
  clear hW
  go_wp2_with fail
  refine (MU'.out _).mono ?_
  rintro e w11 ⟨rfl, k11⟩
  go_wp2_with fail
  refine (S1'.out _).mono ?_
  rintro e w12 ⟨rfl, k12⟩
  go_upto_region 5 with fail
  generalize hW : World.alloc w12 (.cells #[.bool qb, .int .u64 qh, .int .u64 ql] 33) = W_x
  have K_x : Kept w12 W_x := by subst hW; exact (Kept.refl _).alloc _ _
  have H_x := Lib.hid (show W_x.cell? ⟨w12.heap.size, 0, none⟩ = some (.bool qb) ∧ W_x.cell? ⟨w12.heap.size, 1, none⟩ = some (.int .u64 qh) ∧ W_x.cell? ⟨w12.heap.size, 2, none⟩ = some (.int .u64 ql) from by subst hW; simp [go_sem])
  clear hW
  generalize w12.heap.size = g_x at *
  obtain ⟨c_x0, c_x1, c_x2⟩ := Kept.all3 (show Kept W_x W_x from (by (repeat (first | with_reducible exact Kept.refl _ | with_reducible apply Kept.drew | with_reducible apply Kept.alloc | ((with_reducible apply Kept.set); focus (simp <;> omega)) | ((with_reducible apply Kept.via); focus with_reducible assumption))))) H_x
  go_wp2_with fail
  refine (S2'.out _).mono ?_
  rintro e w13 ⟨rfl, k13⟩
  clear c_x0 c_x1 c_x2
  go_upto_region 6 with fail
  generalize hW : World.alloc w13 (.cells #[.bool yb, .int .u64 yh, .int .u64 yl] 33) = W_y
  have K_y : Kept w13 W_y := by subst hW; exact (Kept.refl _).alloc _ _
  have H_y := Lib.hid (show W_y.cell? ⟨w13.heap.size, 0, none⟩ = some (.bool yb) ∧ W_y.cell? ⟨w13.heap.size, 1, none⟩ = some (.int .u64 yh) ∧ W_y.cell? ⟨w13.heap.size, 2, none⟩ = some (.int .u64 yl) from by subst hW; simp [go_sem])
  clear hW
  generalize w13.heap.size = g_y at *
  obtain ⟨c_y0, c_y1, c_y2⟩ := Kept.all3 (show Kept W_y W_y from (by (repeat (first | with_reducible exact Kept.refl _ | with_reducible apply Kept.drew | with_reducible apply Kept.alloc | ((with_reducible apply Kept.set); focus (simp <;> omega)) | ((with_reducible apply Kept.via); focus with_reducible assumption))))) H_y
  go_wp2_with fail
  refine (NG'.out _).mono ?_
  rintro e w14 ⟨rfl, k14⟩
  clear c_y0 c_y1 c_y2
  obtain ⟨nx, ny, nz, na1, na2, na3, nb1, nb2, nb3⟩ := Room3.kept RM.out (show Kept W0 w14 from (by (repeat (first | with_reducible exact Kept.refl _ | with_reducible apply Kept.drew | with_reducible apply Kept.alloc | ((with_reducible apply Kept.set); focus (simp <;> omega)) | ((with_reducible apply Kept.via); focus with_reducible assumption)))))
  go_wp2
  simp [bodyPost, results, Tryd.results19, go_sem, *]
  exact (by (repeat (first | with_reducible exact Kept.refl _ | with_reducible apply Kept.drew | with_reducible apply Kept.alloc | ((with_reducible apply Kept.set); focus (simp <;> omega)) | ((with_reducible apply Kept.via); focus with_reducible assumption))))
theorem refCubed_ok {n : Int} (h : -2147483648 ≤ n ∧ n ≤ 2147483648) {b : Bool} {zh zl : Int} (r : Rep b zh zl (cubeN n)) (w : World) : Calls Tryd.prog 19 #[.int .i64 n] w fun e w' => e = .returned (.agg #[.bool b, .int .u64 zh, .int .u64 zl]) ∧ Kept w w' := by
  have key : ∀ m : Int, 0 ≤ m → m ≤ 2147483648 → ∃ ph pl qh ql yh yl pb qb yb, Rep pb ph pl (m * m) ∧ Rep qb qh ql (m * m * m) ∧ Rep yb yh yl (cubeN m) := fun m m0 m1 => by
    have c := cube_range (d := m) (by omega)
    have c3 : 0 ≤ m * m * m ∧ m * m * m ≤ 9903520314283042199192993792 := ⟨cu_nonneg m0, by have := cu_le m0 m1; simpa using this⟩
    have c2 : 0 ≤ m * m ∧ m * m ≤ 4611686018427387904 := ⟨sq_nonneg m0, by have := sq_le m0 m1; simpa using this⟩
    obtain ⟨pb, ph, pl, r1⟩ := rep_ex (m * m) (by unfold InBig; omega)
    obtain ⟨qb, qh, ql, r2⟩ := rep_ex (m * m * m) (by unfold InBig; omega)
    obtain ⟨yb, yh, yl, r3⟩ := rep_ex (cubeN m) (by unfold InBig; omega)
    exact ⟨ph, pl, qh, ql, yh, yl, pb, qb, yb, r1, r2, r3⟩
  by_cases hn : n < 0
  · obtain ⟨ph, pl, qh, ql, yh, yl, pb, qb, yb, r1, r2, r3⟩ := key (-n) (by omega) (by omega)
    have e : cubeN n = -(numOf yb yh yl) := by
      rw [r3.2.2.1]; unfold cubeN; rw [cu_neg]; omega
    obtain ⟨b2, hb2⟩ := Neg_rep (b1 := yb) r3.1 r3.2.1
    have u := rep_uniq r (show Rep b2 yh yl (cubeN n) from by rw [e]; exact hb2)
    obtain ⟨rfl, rfl, rfl⟩ := u
    exact refCubed_neg n ph pl qh ql _ _ _ _ pb qb yb _ hn (by omega) w (fun w => refMul_rep (by unfold In64; omega) (by unfold In64; omega) r1 w) (fun w => refScale_yes r1.1 r1.2.1 ⟨by omega, by omega⟩ (by rw [r1.2.2.1]; exact r2) w) (fun w => refScale_yes r2.1 r2.2.1 ⟨by omega, by omega⟩ (by rw [r2.2.2.1]; exact r3) w) (fun w => refNeg_ok r3.1 r3.2.1 (by rw [← e]; exact r) w)
  · obtain ⟨ph, pl, qh, ql, yh, yl, pb, qb, yb, r1, r2, r3⟩ := key n (by omega) (by omega)
    obtain ⟨rfl, rfl, rfl⟩ := rep_uniq r r3
    exact refCubed_pos n n ph pl qh ql _ _ pb qb _ rfl (by omega) (by omega) w (fun w => refMul_rep (by unfold In64; omega) (by unfold In64; omega) r1 w) (fun w => refScale_yes r1.1 r1.2.1 ⟨by omega, by omega⟩ (by rw [r1.2.2.1]; exact r2) w) (fun w => refScale_yes r2.1 r2.2.1 ⟨by omega, by omega⟩ (by rw [r2.2.2.1]; exact r3) w)
set_option maxRecDepth 100000 in
set_option maxHeartbeats 1600000 in
theorem refRise_any (d n yh yl qh ql rest v : Int) (yb qb : Bool) (w : World) (CL : ∀ w, Calls Tryd.prog 38 #[.int .i64 d, .int .i64 (-2147483648), .int .i64 2147483648] w fun e w' => e = .returned (.int .i64 n) ∧ Kept w w') (CU : ∀ w, Calls Tryd.prog 19 #[.int .i64 n] w fun e w' => e = .returned (.agg #[.bool yb, .int .u64 yh, .int .u64 yl]) ∧ Kept w w') (DV : ∀ w, Calls Tryd.prog 39 #[.agg #[.bool yb, .int .u64 yh, .int .u64 yl], .int .u64 10000000000000000000] w fun e w' => e = .returned (.tuple #[.agg #[.bool qb, .int .u64 qh, .int .u64 ql], .int .u64 rest, .int .i64 0]) ∧ Kept w w') (IN : ∀ w, Calls Tryd.prog 40 #[.agg #[.bool qb, .int .u64 qh, .int .u64 ql]] w fun e w' => e = .returned (.int .i64 v) ∧ Kept w w') : Calls Tryd.prog 14 #[.int .i64 d] w fun e w' => e = .returned (.int .i64 v) ∧ Kept w w' := by
  have CL' := Lib.hid CL
  have CU' := Lib.hid CU
  have DV' := Lib.hid DV
  have IN' := Lib.hid IN
  clear CL CU DV IN
  go_enter Tryd.func14, Tryd.ntmps14
  go_wp2_with fail
  refine (CL'.out _).mono ?_
  rintro e w1 ⟨rfl, k1⟩
  go_wp2_with fail
  refine (CU'.out _).mono ?_
  rintro e w2 ⟨rfl, k2⟩
  go_wp2_with fail
  refine (DV'.out _).mono ?_
  rintro e w3 ⟨rfl, k3⟩
  go_upto_region 3 with fail
  generalize hW : World.alloc w3 (.cells #[.bool qb, .int .u64 qh, .int .u64 ql] 33) = W_q
  have K_q : Kept w3 W_q := by subst hW; exact (Kept.refl _).alloc _ _
  have H_q := Lib.hid (show W_q.cell? ⟨w3.heap.size, 0, none⟩ = some (.bool qb) ∧ W_q.cell? ⟨w3.heap.size, 1, none⟩ = some (.int .u64 qh) ∧ W_q.cell? ⟨w3.heap.size, 2, none⟩ = some (.int .u64 ql) from by subst hW; simp [go_sem])
  clear hW
  generalize w3.heap.size = g_q at *
  obtain ⟨c_q0, c_q1, c_q2⟩ := Kept.all3 (show Kept W_q W_q from (by (repeat (first | with_reducible exact Kept.refl _ | with_reducible apply Kept.drew | with_reducible apply Kept.alloc | ((with_reducible apply Kept.set); focus (simp <;> omega)) | ((with_reducible apply Kept.via); focus with_reducible assumption))))) H_q
  go_wp2_with fail
  refine (IN'.out _).mono ?_
  rintro e w4 ⟨rfl, k4⟩
  clear c_q0 c_q1 c_q2
  go_wp2
  go_ret
  exact ⟨rfl, (by (repeat (first | with_reducible exact Kept.refl _ | with_reducible apply Kept.drew | with_reducible apply Kept.alloc | ((with_reducible apply Kept.set); focus (simp <;> omega)) | ((with_reducible apply Kept.via); focus with_reducible assumption))))⟩
theorem refRise_ok {d v : Int} (h : riseN d = v) (w : World) : Calls Tryd.prog 14 #[.int .i64 d] w fun e w' => e = .returned (.int .i64 v) ∧ Kept w w' := by
  have cr := clampT_range d
  obtain ⟨n, en⟩ : ∃ n, clampT d = n := ⟨_, rfl⟩
  rw [en] at cr
  have c := cube_range cr
  obtain ⟨yb, yh, yl, ry⟩ := rep_ex (cubeN n) (by unfold InBig; omega)
  have ev : v = cubeN n / 10000000000000000000 := by rw [← h]; unfold riseN cubeN; rw [en]
  have rr := rise_range d
  rw [h] at rr
  obtain ⟨qb, qh, ql, rq⟩ := rep_ex v (by unfold InBig; omega)
  refine refRise_any d n yh yl qh ql _ v yb qb w (fun w => clampLift d (-2147483648) 2147483648 n (by rw [← en]; rfl) w) (fun w => refCubed_ok cr ry w) (fun w => refDiv_ok ry.1 ry.2.1 ⟨by omega, by omega⟩ (by omega) (by rw [ry.2.2.1, ← ev]; exact rq) w) (fun w => ?_)
  have q := refInt_ok (b := qb) rq.1 rq.2.1 w
  rw [rq.2.2.1, heldAt_of (by unfold In64; omega)] at q
  exact q
set_option maxRecDepth 100000 in
set_option maxHeartbeats 1600000 in
theorem refAt_no {on : Bool} {s f m k es now : Int} (w : World) (CK0 : ∀ w, Calls Tryd.prog 30 #[.agg #[.bool on, .int .i64 s, .int .i64 f, .int .i64 m, .int .i64 k, .int .i64 es]] w fun e w' => e = .returned (.bool false) ∧ Kept w w') : Calls Tryd.prog 16 #[.agg #[.bool on, .int .i64 s, .int .i64 f, .int .i64 m, .int .i64 k, .int .i64 es], .int .i64 now] w fun e w' => e = .returned (.int .i64 0) ∧ Kept w w' := by
  have CK := Lib.hid CK0
  clear CK0
  go_enter Tryd.func16, Tryd.ntmps16
  go_upto_region 1 with fail
  generalize hW : World.alloc w (.cells #[.bool on, .int .i64 s, .int .i64 f, .int .i64 m, .int .i64 k, .int .i64 es] 23) = We
  have KWe : Kept w We := by subst hW; exact (Kept.refl _).alloc _ _
  have RWe := Lib.hid (show RE We w.heap.size (⟨on, s, f, m, k, es⟩ : Ep) from by subst hW; exact re_new w (⟨on, s, f, m, k, es⟩ : Ep) _)
  have LWe : w.heap.size < We.heap.size := by subst hW; simp
  clear hW
  generalize hgWe : w.heap.size = gWe at *
  clear LWe
  have kz1 := KWe
  obtain ⟨ce0, ce1, ce2, ce3, ce4, ce5⟩ := (RWe.out).1
  go_wp2_with fail
  refine (CK.out _).mono ?_
  rintro e w2 ⟨rfl, k2⟩
  clear ce0 ce1 ce2 ce3 ce4 ce5
  have Re2 := Lib.hid (RWe.out.kept k2)
  clear RWe
  have kz2 := Kept.trans kz1 k2
  clear kz1 k2
  obtain ⟨ce0, ce1, ce2, ce3, ce4, ce5⟩ := (Re2.out).1
  go_wp2
  go_ret
  exact ⟨rfl, kz2⟩
set_option maxRecDepth 100000 in
set_option maxHeartbeats 1600000 in
theorem refAt_off {s f m k es now : Int}  (w : World) (CK0 : ∀ w, Calls Tryd.prog 30 #[.agg #[.bool false, .int .i64 s, .int .i64 f, .int .i64 m, .int .i64 k, .int .i64 es]] w fun e w' => e = .returned (.bool true) ∧ Kept w w') : Calls Tryd.prog 16 #[.agg #[.bool false, .int .i64 s, .int .i64 f, .int .i64 m, .int .i64 k, .int .i64 es], .int .i64 now] w fun e w' => e = .returned (.int .i64 0) ∧ Kept w w' := by
  have CK := Lib.hid CK0
  clear CK0
  go_enter Tryd.func16, Tryd.ntmps16
  go_upto_region 1 with fail
  generalize hW : World.alloc w (.cells #[.bool false, .int .i64 s, .int .i64 f, .int .i64 m, .int .i64 k, .int .i64 es] 23) = We
  have KWe : Kept w We := by subst hW; exact (Kept.refl _).alloc _ _
  have RWe := Lib.hid (show RE We w.heap.size (⟨false, s, f, m, k, es⟩ : Ep) from by subst hW; exact re_new w (⟨false, s, f, m, k, es⟩ : Ep) _)
  have LWe : w.heap.size < We.heap.size := by subst hW; simp
  clear hW
  generalize hgWe : w.heap.size = gWe at *
  clear LWe
  have kz1 := KWe
  obtain ⟨ce0, ce1, ce2, ce3, ce4, ce5⟩ := (RWe.out).1
  go_wp2_with fail
  refine (CK.out _).mono ?_
  rintro e w2 ⟨rfl, k2⟩
  clear ce0 ce1 ce2 ce3 ce4 ce5
  have Re2 := Lib.hid (RWe.out.kept k2)
  clear RWe
  have kz2 := Kept.trans kz1 k2
  clear kz1 k2
  obtain ⟨ce0, ce1, ce2, ce3, ce4, ce5⟩ := (Re2.out).1
  go_wp2
  go_ret
  exact ⟨rfl, kz2⟩
theorem subLift12 {a b n : Int} (ha : In64 a) (hb : In64 b) (hn : heldAt (a - b) = n) (w : World) : Calls Tryd.prog 41 #[.int .i64 a, .int .i64 b] w fun e w' => e = .returned (.int .i64 n) ∧ Kept w w' :=
  (refSub_lit_s a b n w ha hb hn).mono (fun _ _ ⟨h, k⟩ => ⟨h, k ▸ Kept.refl _⟩)
set_option maxRecDepth 100000 in
set_option maxHeartbeats 1600000 in
theorem refAt_on {s f m k es now : Int} {t u r v : Int} (hs : In64 s) (hk : In64 k) (hnow : In64 now) (m0 : 0 ≤ m) (m1 : m ≤ 68719476736) (e1 : heldAt (now - s) = t) (e2 : heldAt (t - k) = u) (e3 : riseN u = r) (e4 : gapK (m + r) = v) (w : World) (CK0 : ∀ w, Calls Tryd.prog 30 #[.agg #[.bool true, .int .i64 s, .int .i64 f, .int .i64 m, .int .i64 k, .int .i64 es]] w fun e w' => e = .returned (.bool true) ∧ Kept w w') : Calls Tryd.prog 16 #[.agg #[.bool true, .int .i64 s, .int .i64 f, .int .i64 m, .int .i64 k, .int .i64 es], .int .i64 now] w fun e w' => e = .returned (.int .i64 v) ∧ Kept w w' := by
  have CK := Lib.hid CK0
  clear CK0
  have SB := Lib.hid (fun w => subLift12 hnow hs e1 w)
  have ht : In64 t := by rw [← e1]; exact heldAt_in _
  have SK := Lib.hid (fun w => subLift12 ht hk e2 w)
  have RI_ := Lib.hid (fun w => refRise_ok e3 w)
  have rr := rise_range u
  rw [e3] at rr
  have ew : IntKind.i64.wrap (m + r) = m + r := by rw [IntKind.wrap_i64]; omega
  have CL := Lib.hid (fun w => clampLift (m + r) 0 68719476736 v (by rw [← e4]; unfold clampAt gapK; rfl) w)
  clear e1 e2 e3 e4 ht hs hk hnow
  go_enter Tryd.func16, Tryd.ntmps16
  go_upto_region 1 with fail
  generalize hW : World.alloc w (.cells #[.bool true, .int .i64 s, .int .i64 f, .int .i64 m, .int .i64 k, .int .i64 es] 23) = We
  have KWe : Kept w We := by subst hW; exact (Kept.refl _).alloc _ _
  have RWe := Lib.hid (show RE We w.heap.size (⟨true, s, f, m, k, es⟩ : Ep) from by subst hW; exact re_new w (⟨true, s, f, m, k, es⟩ : Ep) _)
  have LWe : w.heap.size < We.heap.size := by subst hW; simp
  clear hW
  generalize hgWe : w.heap.size = gWe at *
  clear LWe
  have kz1 := KWe
  obtain ⟨ce0, ce1, ce2, ce3, ce4, ce5⟩ := (RWe.out).1
  go_wp2_with fail
  refine (CK.out _).mono ?_
  rintro e w2 ⟨rfl, k2⟩
  clear ce0 ce1 ce2 ce3 ce4 ce5
  have Re2 := Lib.hid (RWe.out.kept k2)
  clear RWe
  have kz2 := Kept.trans kz1 k2
  clear kz1 k2
  obtain ⟨ce0, ce1, ce2, ce3, ce4, ce5⟩ := (Re2.out).1
  go_wp2_with fail
  refine (SB.out _).mono ?_
  rintro e w3 ⟨rfl, k3⟩
  clear ce0 ce1 ce2 ce3 ce4 ce5
  have Re3 := Lib.hid (Re2.out.kept k3)
  clear Re2
  have kz3 := Kept.trans kz2 k3
  clear kz2 k3
  go_upto_region 5 with fail
  have H_e := Lib.hid (show w3.cell? ⟨gWe, 0, none⟩ = some (.bool true) ∧ w3.cell? ⟨gWe, 1, none⟩ = some (.int .i64 s) ∧ w3.cell? ⟨gWe, 2, none⟩ = some (.int .i64 f) ∧ w3.cell? ⟨gWe, 3, none⟩ = some (.int .i64 m) ∧ w3.cell? ⟨gWe, 4, none⟩ = some (.int .i64 k) ∧ w3.cell? ⟨gWe, 5, none⟩ = some (.int .i64 es) from (Re3.out).1)
  have B_e := Lib.hid (Kept.alln6 (show Kept w3 w3 from (by (repeat (first | with_reducible exact Kept.refl _ | with_reducible apply Kept.drew | with_reducible apply Kept.alloc | ((with_reducible apply Kept.set); focus (simp <;> omega)) | ((with_reducible apply Kept.via); focus with_reducible assumption))))) H_e)
  have kall : Kept w w3 := (by (repeat (first | with_reducible exact Kept.refl _ | with_reducible apply Kept.drew | with_reducible apply Kept.alloc | ((with_reducible apply Kept.set); focus (simp <;> omega)) | ((with_reducible apply Kept.via); focus with_reducible assumption))))
  obtain ⟨q_e0, q_e1, q_e2, q_e3, q_e4, q_e5⟩ := kwn6 B_e
  clear B_e
  refine wp_region_kept (by kernel_rfl) (by as_aux_lemma => kernel_rfl) ?_
  repeat (go_big_quiet_step (first | (with_reducible exact kept_of (SK.out _)) | (with_reducible exact kept_of (RI_.out _)) | (with_reducible exact kept_of (CL.out _))))
  refine wpQuiet_nil ?_
  intro wq hw'
  have kq : Kept w3 wq := by obtain ⟨p, rfl⟩ := hw'; exact p.k
  clear hw'
  clear kall
  have kq2 := Kept.trans kz3 kq
  go_wp2
  go_ret
  exact ⟨rfl, kq2⟩
theorem refAt_ok {h : Ep} {now v : Int} (hi : In64E h) (hnow : In64 now) (e : atN h now = v) (w : World) : Calls Tryd.prog 16 #[.agg #[.bool h.on, .int .i64 h.start, .int .i64 h.first, .int .i64 h.most, .int .i64 h.k, .int .i64 h.est], .int .i64 now] w fun e w' => e = .returned (.int .i64 v) ∧ Kept w w' := by
  subst e
  obtain ⟨on, s, f, m, k, es⟩ := h
  by_cases hm : MayE ⟨on, s, f, m, k, es⟩
  · have CK := fun w => refCheck11_ok (h := ⟨on, s, f, m, k, es⟩) (v := true) ⟨fun _ => hm, fun _ => rfl⟩ w
    cases on with
    | false =>
      have e : atN ⟨false, s, f, m, k, es⟩ now = 0 := if_neg (fun x => by have := x.2; cases this)
      rw [e]; exact refAt_off w CK
    | true =>
      have O : OnE ⟨true, s, f, m, k, es⟩ := ⟨hm, rfl⟩
      have q := onE_in O
      obtain ⟨q1, q2, q3, q4, q5, q6⟩ := q
      rw [atN_on O]
      exact refAt_on hi.1 hi.2.2.2.1 hnow q3.1 q3.2 rfl rfl rfl rfl w CK
  · have CK := fun w => refCheck11_ok (h := ⟨on, s, f, m, k, es⟩) (v := false) ⟨fun x => (by cases x), fun x => absurd x hm⟩ w
    have e : atN ⟨on, s, f, m, k, es⟩ now = 0 := if_neg (fun x => hm x.1)
    rw [e]; exact refAt_no w CK
set_option maxRecDepth 100000 in
set_option maxHeartbeats 1600000 in
theorem refTg_no {on : Bool} {s f m k es now x : Int}  (w : World) (CK0 : ∀ w, Calls Tryd.prog 30 #[.agg #[.bool on, .int .i64 s, .int .i64 f, .int .i64 m, .int .i64 k, .int .i64 es]] w fun e w' => e = .returned (.bool false) ∧ Kept w w') : Calls Tryd.prog 18 #[.agg #[.bool on, .int .i64 s, .int .i64 f, .int .i64 m, .int .i64 k, .int .i64 es], .int .i64 now, .int .i64 x] w fun e w' => e = .returned (.int .i64 x) ∧ Kept w w' := by
  have CK := Lib.hid CK0
  clear CK0
  go_enter Tryd.func18, Tryd.ntmps18
  go_upto_region 1 with fail
  generalize hW : World.alloc w (.cells #[.bool on, .int .i64 s, .int .i64 f, .int .i64 m, .int .i64 k, .int .i64 es] 23) = We
  have KWe : Kept w We := by subst hW; exact (Kept.refl _).alloc _ _
  have RWe := Lib.hid (show RE We w.heap.size (⟨on, s, f, m, k, es⟩ : Ep) from by subst hW; exact re_new w (⟨on, s, f, m, k, es⟩ : Ep) _)
  have LWe : w.heap.size < We.heap.size := by subst hW; simp
  clear hW
  generalize hgWe : w.heap.size = gWe at *
  clear LWe
  have kz1 := KWe
  obtain ⟨ce0, ce1, ce2, ce3, ce4, ce5⟩ := (RWe.out).1
  go_wp2_with fail
  refine (CK.out _).mono ?_
  rintro e w2 ⟨rfl, k2⟩
  clear ce0 ce1 ce2 ce3 ce4 ce5
  have Re2 := Lib.hid (RWe.out.kept k2)
  clear RWe
  have kz2 := Kept.trans kz1 k2
  clear kz1 k2
  obtain ⟨ce0, ce1, ce2, ce3, ce4, ce5⟩ := (Re2.out).1
  go_wp2
  go_ret
  exact ⟨rfl, kz2⟩
set_option maxRecDepth 100000 in
set_option maxHeartbeats 1600000 in
theorem refTg_off {s f m k es now x : Int}  (w : World) (CK0 : ∀ w, Calls Tryd.prog 30 #[.agg #[.bool false, .int .i64 s, .int .i64 f, .int .i64 m, .int .i64 k, .int .i64 es]] w fun e w' => e = .returned (.bool true) ∧ Kept w w') : Calls Tryd.prog 18 #[.agg #[.bool false, .int .i64 s, .int .i64 f, .int .i64 m, .int .i64 k, .int .i64 es], .int .i64 now, .int .i64 x] w fun e w' => e = .returned (.int .i64 x) ∧ Kept w w' := by
  have CK := Lib.hid CK0
  clear CK0
  go_enter Tryd.func18, Tryd.ntmps18
  go_upto_region 1 with fail
  generalize hW : World.alloc w (.cells #[.bool false, .int .i64 s, .int .i64 f, .int .i64 m, .int .i64 k, .int .i64 es] 23) = We
  have KWe : Kept w We := by subst hW; exact (Kept.refl _).alloc _ _
  have RWe := Lib.hid (show RE We w.heap.size (⟨false, s, f, m, k, es⟩ : Ep) from by subst hW; exact re_new w (⟨false, s, f, m, k, es⟩ : Ep) _)
  have LWe : w.heap.size < We.heap.size := by subst hW; simp
  clear hW
  generalize hgWe : w.heap.size = gWe at *
  clear LWe
  have kz1 := KWe
  obtain ⟨ce0, ce1, ce2, ce3, ce4, ce5⟩ := (RWe.out).1
  go_wp2_with fail
  refine (CK.out _).mono ?_
  rintro e w2 ⟨rfl, k2⟩
  clear ce0 ce1 ce2 ce3 ce4 ce5
  have Re2 := Lib.hid (RWe.out.kept k2)
  clear RWe
  have kz2 := Kept.trans kz1 k2
  clear kz1 k2
  obtain ⟨ce0, ce1, ce2, ce3, ce4, ce5⟩ := (Re2.out).1
  go_wp2
  go_ret
  exact ⟨rfl, kz2⟩
set_option maxRecDepth 100000 in
set_option maxHeartbeats 1600000 in
theorem refTg_neg {s f m k es now x : Int} (h : x < 0) (w : World) (CK0 : ∀ w, Calls Tryd.prog 30 #[.agg #[.bool true, .int .i64 s, .int .i64 f, .int .i64 m, .int .i64 k, .int .i64 es]] w fun e w' => e = .returned (.bool true) ∧ Kept w w') : Calls Tryd.prog 18 #[.agg #[.bool true, .int .i64 s, .int .i64 f, .int .i64 m, .int .i64 k, .int .i64 es], .int .i64 now, .int .i64 x] w fun e w' => e = .returned (.int .i64 x) ∧ Kept w w' := by
  have CK := Lib.hid CK0
  clear CK0
  have d0 : decide (x < 0) = true := by simp; omega
  go_enter Tryd.func18, Tryd.ntmps18
  go_upto_region 1 with fail
  generalize hW : World.alloc w (.cells #[.bool true, .int .i64 s, .int .i64 f, .int .i64 m, .int .i64 k, .int .i64 es] 23) = We
  have KWe : Kept w We := by subst hW; exact (Kept.refl _).alloc _ _
  have RWe := Lib.hid (show RE We w.heap.size (⟨true, s, f, m, k, es⟩ : Ep) from by subst hW; exact re_new w (⟨true, s, f, m, k, es⟩ : Ep) _)
  have LWe : w.heap.size < We.heap.size := by subst hW; simp
  clear hW
  generalize hgWe : w.heap.size = gWe at *
  clear LWe
  have kz1 := KWe
  obtain ⟨ce0, ce1, ce2, ce3, ce4, ce5⟩ := (RWe.out).1
  go_wp2_with fail
  refine (CK.out _).mono ?_
  rintro e w2 ⟨rfl, k2⟩
  clear ce0 ce1 ce2 ce3 ce4 ce5
  have Re2 := Lib.hid (RWe.out.kept k2)
  clear RWe
  have kz2 := Kept.trans kz1 k2
  clear kz1 k2
  obtain ⟨ce0, ce1, ce2, ce3, ce4, ce5⟩ := (Re2.out).1
  go_wp2
  go_ret
  exact ⟨rfl, kz2⟩
set_option maxRecDepth 100000 in
set_option maxHeartbeats 1600000 in
theorem refTg_lo {s f m k es now x : Int} {law : Int} (hi : In64E (⟨true, s, f, m, k, es⟩ : Ep)) (hnow : In64 now) (hx : In64 x) (x0 : 0 ≤ x) (e1 : atN (⟨true, s, f, m, k, es⟩ : Ep) now = law) (h : law < x) (w : World) (CK0 : ∀ w, Calls Tryd.prog 30 #[.agg #[.bool true, .int .i64 s, .int .i64 f, .int .i64 m, .int .i64 k, .int .i64 es]] w fun e w' => e = .returned (.bool true) ∧ Kept w w') : Calls Tryd.prog 18 #[.agg #[.bool true, .int .i64 s, .int .i64 f, .int .i64 m, .int .i64 k, .int .i64 es], .int .i64 now, .int .i64 x] w fun e w' => e = .returned (.int .i64 x) ∧ Kept w w' := by
  have CK := Lib.hid CK0
  clear CK0
  have d0 : decide (x < 0) = false := by simp; omega
  have QA := Lib.hid (fun w => refAt_ok hi hnow e1 w)
  have d1 : decide (law < x) = true := by simp; omega
  clear e1 hi hnow hx
  go_enter Tryd.func18, Tryd.ntmps18
  go_upto_region 1 with fail
  generalize hW : World.alloc w (.cells #[.bool true, .int .i64 s, .int .i64 f, .int .i64 m, .int .i64 k, .int .i64 es] 23) = We
  have KWe : Kept w We := by subst hW; exact (Kept.refl _).alloc _ _
  have RWe := Lib.hid (show RE We w.heap.size (⟨true, s, f, m, k, es⟩ : Ep) from by subst hW; exact re_new w (⟨true, s, f, m, k, es⟩ : Ep) _)
  have LWe : w.heap.size < We.heap.size := by subst hW; simp
  clear hW
  generalize hgWe : w.heap.size = gWe at *
  clear LWe
  have kz1 := KWe
  obtain ⟨ce0, ce1, ce2, ce3, ce4, ce5⟩ := (RWe.out).1
  go_wp2_with fail
  refine (CK.out _).mono ?_
  rintro e w2 ⟨rfl, k2⟩
  clear ce0 ce1 ce2 ce3 ce4 ce5
  have Re2 := Lib.hid (RWe.out.kept k2)
  clear RWe
  have kz2 := Kept.trans kz1 k2
  clear kz1 k2
  obtain ⟨ce0, ce1, ce2, ce3, ce4, ce5⟩ := (Re2.out).1
  go_wp2_with fail
  refine (QA.out _).mono ?_
  rintro e w3 ⟨rfl, k3⟩
  clear ce0 ce1 ce2 ce3 ce4 ce5
  have Re3 := Lib.hid (Re2.out.kept k3)
  clear Re2
  have kz3 := Kept.trans kz2 k3
  clear kz2 k3
  obtain ⟨ce0, ce1, ce2, ce3, ce4, ce5⟩ := (Re3.out).1
  go_wp2
  go_ret
  exact ⟨rfl, kz3⟩
set_option maxRecDepth 100000 in
set_option maxHeartbeats 1600000 in
theorem refTg_hi {s f m k es now x : Int} {law : Int} (hi : In64E (⟨true, s, f, m, k, es⟩ : Ep)) (hnow : In64 now) (hx : In64 x) (x0 : 0 ≤ x) (e1 : atN (⟨true, s, f, m, k, es⟩ : Ep) now = law) {hg q : Int} (hq : x.tdiv 2 = q) (hq64 : In64 q) (e2 : heldAt (x + q) = hg) (h : x ≤ law) (h2 : hg < law) (w : World) (CK0 : ∀ w, Calls Tryd.prog 30 #[.agg #[.bool true, .int .i64 s, .int .i64 f, .int .i64 m, .int .i64 k, .int .i64 es]] w fun e w' => e = .returned (.bool true) ∧ Kept w w') : Calls Tryd.prog 18 #[.agg #[.bool true, .int .i64 s, .int .i64 f, .int .i64 m, .int .i64 k, .int .i64 es], .int .i64 now, .int .i64 x] w fun e w' => e = .returned (.int .i64 hg) ∧ Kept w w' := by
  have CK := Lib.hid CK0
  clear CK0
  have d0 : decide (x < 0) = false := by simp; omega
  have QA := Lib.hid (fun w => refAt_ok hi hnow e1 w)
  have hw64 : wrap64 q = q := by unfold wrap64; unfold In64 at hq64; omega
  have AD := Lib.hid (fun w => addLift (a := x) (b := q) hx hq64 e2 w)
  have d1 : decide (law < x) = false := by simp; omega
  have d2 : decide (hg < law) = true := by simp; omega
  clear e1 e2 hi hnow hx hq64
  go_enter Tryd.func18, Tryd.ntmps18
  go_upto_region 1 with fail
  generalize hW : World.alloc w (.cells #[.bool true, .int .i64 s, .int .i64 f, .int .i64 m, .int .i64 k, .int .i64 es] 23) = We
  have KWe : Kept w We := by subst hW; exact (Kept.refl _).alloc _ _
  have RWe := Lib.hid (show RE We w.heap.size (⟨true, s, f, m, k, es⟩ : Ep) from by subst hW; exact re_new w (⟨true, s, f, m, k, es⟩ : Ep) _)
  have LWe : w.heap.size < We.heap.size := by subst hW; simp
  clear hW
  generalize hgWe : w.heap.size = gWe at *
  clear LWe
  have kz1 := KWe
  obtain ⟨ce0, ce1, ce2, ce3, ce4, ce5⟩ := (RWe.out).1
  go_wp2_with fail
  refine (CK.out _).mono ?_
  rintro e w2 ⟨rfl, k2⟩
  clear ce0 ce1 ce2 ce3 ce4 ce5
  have Re2 := Lib.hid (RWe.out.kept k2)
  clear RWe
  have kz2 := Kept.trans kz1 k2
  clear kz1 k2
  obtain ⟨ce0, ce1, ce2, ce3, ce4, ce5⟩ := (Re2.out).1
  go_wp2_with fail
  refine (QA.out _).mono ?_
  rintro e w3 ⟨rfl, k3⟩
  clear ce0 ce1 ce2 ce3 ce4 ce5
  have Re3 := Lib.hid (Re2.out.kept k3)
  clear Re2
  have kz3 := Kept.trans kz2 k3
  clear kz2 k3
  obtain ⟨ce0, ce1, ce2, ce3, ce4, ce5⟩ := (Re3.out).1
  go_wp2_with fail
  refine (AD.out _).mono ?_
  rintro e w4 ⟨rfl, k4⟩
  clear ce0 ce1 ce2 ce3 ce4 ce5
  have Re4 := Lib.hid (Re3.out.kept k4)
  clear Re3
  have kz4 := Kept.trans kz3 k4
  clear kz3 k4
  obtain ⟨ce0, ce1, ce2, ce3, ce4, ce5⟩ := (Re4.out).1
  go_wp2
  go_ret
  exact ⟨rfl, kz4⟩
set_option maxRecDepth 100000 in
set_option maxHeartbeats 1600000 in
theorem refTg_mid {s f m k es now x : Int} {law : Int} (hi : In64E (⟨true, s, f, m, k, es⟩ : Ep)) (hnow : In64 now) (hx : In64 x) (x0 : 0 ≤ x) (e1 : atN (⟨true, s, f, m, k, es⟩ : Ep) now = law) {hg q : Int} (hq : x.tdiv 2 = q) (hq64 : In64 q) (e2 : heldAt (x + q) = hg) (h : x ≤ law) (h2 : law ≤ hg) (w : World) (CK0 : ∀ w, Calls Tryd.prog 30 #[.agg #[.bool true, .int .i64 s, .int .i64 f, .int .i64 m, .int .i64 k, .int .i64 es]] w fun e w' => e = .returned (.bool true) ∧ Kept w w') : Calls Tryd.prog 18 #[.agg #[.bool true, .int .i64 s, .int .i64 f, .int .i64 m, .int .i64 k, .int .i64 es], .int .i64 now, .int .i64 x] w fun e w' => e = .returned (.int .i64 law) ∧ Kept w w' := by
  have CK := Lib.hid CK0
  clear CK0
  have d0 : decide (x < 0) = false := by simp; omega
  have QA := Lib.hid (fun w => refAt_ok hi hnow e1 w)
  have hw64 : wrap64 q = q := by unfold wrap64; unfold In64 at hq64; omega
  have AD := Lib.hid (fun w => addLift (a := x) (b := q) hx hq64 e2 w)
  have d1 : decide (law < x) = false := by simp; omega
  have d2 : decide (hg < law) = false := by simp; omega
  clear e1 e2 hi hnow hx hq64
  go_enter Tryd.func18, Tryd.ntmps18
  go_upto_region 1 with fail
  generalize hW : World.alloc w (.cells #[.bool true, .int .i64 s, .int .i64 f, .int .i64 m, .int .i64 k, .int .i64 es] 23) = We
  have KWe : Kept w We := by subst hW; exact (Kept.refl _).alloc _ _
  have RWe := Lib.hid (show RE We w.heap.size (⟨true, s, f, m, k, es⟩ : Ep) from by subst hW; exact re_new w (⟨true, s, f, m, k, es⟩ : Ep) _)
  have LWe : w.heap.size < We.heap.size := by subst hW; simp
  clear hW
  generalize hgWe : w.heap.size = gWe at *
  clear LWe
  have kz1 := KWe
  obtain ⟨ce0, ce1, ce2, ce3, ce4, ce5⟩ := (RWe.out).1
  go_wp2_with fail
  refine (CK.out _).mono ?_
  rintro e w2 ⟨rfl, k2⟩
  clear ce0 ce1 ce2 ce3 ce4 ce5
  have Re2 := Lib.hid (RWe.out.kept k2)
  clear RWe
  have kz2 := Kept.trans kz1 k2
  clear kz1 k2
  obtain ⟨ce0, ce1, ce2, ce3, ce4, ce5⟩ := (Re2.out).1
  go_wp2_with fail
  refine (QA.out _).mono ?_
  rintro e w3 ⟨rfl, k3⟩
  clear ce0 ce1 ce2 ce3 ce4 ce5
  have Re3 := Lib.hid (Re2.out.kept k3)
  clear Re2
  have kz3 := Kept.trans kz2 k3
  clear kz2 k3
  obtain ⟨ce0, ce1, ce2, ce3, ce4, ce5⟩ := (Re3.out).1
  go_wp2_with fail
  refine (AD.out _).mono ?_
  rintro e w4 ⟨rfl, k4⟩
  clear ce0 ce1 ce2 ce3 ce4 ce5
  have Re4 := Lib.hid (Re3.out.kept k4)
  clear Re3
  have kz4 := Kept.trans kz3 k4
  clear kz3 k4
  obtain ⟨ce0, ce1, ce2, ce3, ce4, ce5⟩ := (Re4.out).1
  go_wp2
  go_ret
  exact ⟨rfl, kz4⟩
theorem refTarget_ok {h : Ep} {now x v : Int} (hi : In64E h) (hnow : In64 now) (hx : In64 x) (e : targetN h now x = v) (w : World) : Calls Tryd.prog 18 #[.agg #[.bool h.on, .int .i64 h.start, .int .i64 h.first, .int .i64 h.most, .int .i64 h.k, .int .i64 h.est], .int .i64 now, .int .i64 x] w fun e w' => e = .returned (.int .i64 v) ∧ Kept w w' := by
  subst e
  obtain ⟨on, s, f, m, k, es⟩ := h
  by_cases hm : MayE ⟨on, s, f, m, k, es⟩
  · have CK := fun w => refCheck11_ok (h := ⟨on, s, f, m, k, es⟩) (v := true) ⟨fun _ => hm, fun _ => rfl⟩ w
    cases on with
    | false =>
      have e : targetN ⟨false, s, f, m, k, es⟩ now x = x := if_neg (fun z => by have := z.1.2; cases this)
      rw [e]; exact refTg_off w CK
    | true =>
      have O : OnE ⟨true, s, f, m, k, es⟩ := ⟨hm, rfl⟩
      by_cases x0 : 0 ≤ x
      · have e : targetN ⟨true, s, f, m, k, es⟩ now x = (if atN ⟨true, s, f, m, k, es⟩ now < x then x else if heldAt (x + x / 2) < atN ⟨true, s, f, m, k, es⟩ now then heldAt (x + x / 2) else atN ⟨true, s, f, m, k, es⟩ now) := by
          unfold targetN; rw [if_pos ⟨O, x0⟩, atN_on O]
        rw [e]
        by_cases h1 : atN ⟨true, s, f, m, k, es⟩ now < x
        · rw [if_pos h1]; exact refTg_lo hi hnow hx x0 rfl h1 w CK
        · rw [if_neg h1]
          by_cases h2 : heldAt (x + x / 2) < atN ⟨true, s, f, m, k, es⟩ now
          · rw [if_pos h2]; exact refTg_hi hi hnow hx x0 rfl (Int.tdiv_eq_ediv_of_nonneg x0) (by unfold In64 at *; omega) rfl (Int.not_lt.1 h1) h2 w CK
          · rw [if_neg h2]; exact refTg_mid hi hnow hx x0 rfl (Int.tdiv_eq_ediv_of_nonneg x0) (by unfold In64 at *; omega) rfl (Int.not_lt.1 h1) (Int.not_lt.1 h2) w CK
      · have e : targetN ⟨true, s, f, m, k, es⟩ now x = x := if_neg (fun z => x0 z.2)
        rw [e]; exact refTg_neg (Int.not_le.1 x0) w CK
  · have CK := fun w => refCheck11_ok (h := ⟨on, s, f, m, k, es⟩) (v := false) ⟨fun z => (by cases z), fun z => absurd z hm⟩ w
    have e : targetN ⟨on, s, f, m, k, es⟩ now x = x := if_neg (fun z => hm z.1.1)
    rw [e]; exact refTg_no w CK
end Go.Proofs.YtlonfobeblnbbaaDoor
