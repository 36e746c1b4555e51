/-
  The walk of BigDivides: it answers true, whatever it is given.
-/
import Derived.Test.YtahbijfmhdiafaaAwake02
namespace Go.Proofs.Ytahbijfmhdiafaa
open Go.RowKit Go.BigFrame

set_option maxRecDepth 100000 in
set_option maxHeartbeats 1600000 in
theorem divs_zero (xb : Bool) (xh xl : Int) (w : World)   :
    Calls Try.prog 5 #[.agg #[.bool xb, .int .u64 xh, .int .u64 xl], .int .u64 0] w fun e w' => e = .returned (.bool true) ∧ Kept w w' := by
  go_enter Try.func5, Try.ntmps5
  go_upto_region 1 with fail
  generalize hW : (World.alloc w (.cells #[.bool xb, .int .u64 xh, .int .u64 xl] 24)) = W0
  have base := Lib.hid (show W0.cell? ⟨w.heap.size, 0, none⟩ = some (.bool xb) ∧ W0.cell? ⟨w.heap.size, 1, none⟩ = some (.int .u64 xh) ∧ W0.cell? ⟨w.heap.size, 2, none⟩ = some (.int .u64 xl) from by subst hW; simp [go_sem])
  have kw : Kept w W0 := by subst hW; exact (by (repeat (first | with_reducible exact Kept.refl _ | with_reducible apply Kept.drew | with_reducible apply Kept.alloc | ((with_reducible apply Kept.set); focus (simp <;> omega)) | ((with_reducible apply Kept.via); focus with_reducible assumption))))
  have zw : w.heap.size + 1 ≤ W0.heap.size := by subst hW; simp
  clear hW
  have H_x := Lib.hid (Kept.all3 (Kept.refl _) base)
  clear base
  generalize w.heap.size = g_x at *
  go_wp2_with fail
  refine (awake02 _).mono ?_
  rintro e w1 ⟨rfl, k1⟩
  obtain ⟨c_x0, c_x1, c_x2⟩ := Kept.all3 (show Kept W0 w1 from (by (repeat (first | with_reducible exact Kept.refl _ | with_reducible apply Kept.drew | with_reducible apply Kept.alloc | ((with_reducible apply Kept.set); focus (simp <;> omega)) | ((with_reducible apply Kept.via); focus with_reducible assumption))))) H_x
  go_wp2_with fail
  refine (Div_zero _ _ _ _).mono ?_
  rintro e w2 ⟨rfl, k2⟩
  clear c_x0 c_x1 c_x2
  go_upto_region 3 with fail
  generalize hW : World.alloc w2 (.cells #[.bool false, .int .u64 0, .int .u64 0] 24) = W_q
  have K_q : Kept w2 W_q := by subst hW; exact (Kept.refl _).alloc _ _
  have H_q := Lib.hid (show W_q.cell? ⟨w2.heap.size, 0, none⟩ = some (.bool false) ∧ W_q.cell? ⟨w2.heap.size, 1, none⟩ = some (.int .u64 0) ∧ W_q.cell? ⟨w2.heap.size, 2, none⟩ = some (.int .u64 0) from by subst hW; simp [go_sem])
  clear hW
  generalize w2.heap.size = g_q at *
  obtain ⟨c_q0, c_q1, c_q2⟩ := Kept.all3 (show Kept W_q W_q from (by (repeat (first | with_reducible exact Kept.refl _ | with_reducible apply Kept.drew | with_reducible apply Kept.alloc | ((with_reducible apply Kept.set); focus (simp <;> omega)) | ((with_reducible apply Kept.via); focus with_reducible assumption))))) H_q
  have kall : Kept w W_q := (by (repeat (first | with_reducible exact Kept.refl _ | with_reducible apply Kept.drew | with_reducible apply Kept.alloc | ((with_reducible apply Kept.set); focus (simp <;> omega)) | ((with_reducible apply Kept.via); focus with_reducible assumption))))
  go_wp2
  go_ret
  exact ⟨rfl, kall⟩
set_option maxRecDepth 100000 in
set_option maxHeartbeats 1600000 in
theorem divs_up (xb : Bool) (xh xl : Int) (d r c : Int) (qb pb nb : Bool) (qh ql ph pl nh nl : Int) (w : World) (_d0 : ¬ d = 0) (d1 : (d == 0) = false) (c0 : 0 ≤ c) (r1 : r < d) (D1 : ∀ w, Calls Try.prog 14 #[.agg #[.bool xb, .int .u64 xh, .int .u64 xl], .int .u64 d] w fun e w' => e = .returned (.tuple #[.agg #[.bool qb, .int .u64 qh, .int .u64 ql], .int .u64 r, .int .i64 0]) ∧ Kept w w') (C1 : ∀ w, Calls Try.prog 22 #[.agg #[.bool xb, .int .u64 xh, .int .u64 xl], .agg #[.bool false, .int .u64 0, .int .u64 0]] w fun e w' => e = .returned (.int .i64 c) ∧ Kept w w') (S1 : ∀ w, Calls Try.prog 12 #[.agg #[.bool qb, .int .u64 qh, .int .u64 ql], .int .u64 d] w fun e w' => e = .returned (.tuple #[.agg #[.bool pb, .int .u64 ph, .int .u64 pl], .int .i64 0]) ∧ Kept w w') (A1 : ∀ w, Calls Try.prog 10 #[.agg #[.bool pb, .int .u64 ph, .int .u64 pl], .agg #[.bool false, .int .u64 0, .int .u64 r]] w fun e w' => e = .returned (.tuple #[.agg #[.bool nb, .int .u64 nh, .int .u64 nl], .int .i64 0]) ∧ Kept w w') (C2 : ∀ w, Calls Try.prog 22 #[.agg #[.bool nb, .int .u64 nh, .int .u64 nl], .agg #[.bool xb, .int .u64 xh, .int .u64 xl]] w fun e w' => e = .returned (.int .i64 0) ∧ Kept w w') :
    Calls Try.prog 5 #[.agg #[.bool xb, .int .u64 xh, .int .u64 xl], .int .u64 d] w fun e w' => e = .returned (.bool true) ∧ Kept w w' := by
  have D1' := Lib.hid D1
  have C1' := Lib.hid C1
  have S1' := Lib.hid S1
  have A1' := Lib.hid A1
  have C2' := Lib.hid C2
  clear D1 C1 S1 A1 C2
  go_enter Try.func5, Try.ntmps5
  go_upto_region 1 with fail
  generalize hW : (World.alloc w (.cells #[.bool xb, .int .u64 xh, .int .u64 xl] 24)) = W0
  have base := Lib.hid (show W0.cell? ⟨w.heap.size, 0, none⟩ = some (.bool xb) ∧ W0.cell? ⟨w.heap.size, 1, none⟩ = some (.int .u64 xh) ∧ W0.cell? ⟨w.heap.size, 2, none⟩ = some (.int .u64 xl) from by subst hW; simp [go_sem])
  have kw : Kept w W0 := by subst hW; exact (by (repeat (first | with_reducible exact Kept.refl _ | with_reducible apply Kept.drew | with_reducible apply Kept.alloc | ((with_reducible apply Kept.set); focus (simp <;> omega)) | ((with_reducible apply Kept.via); focus with_reducible assumption))))
  have zw : w.heap.size + 1 ≤ W0.heap.size := by subst hW; simp
  clear hW
  have H_x := Lib.hid (Kept.all3 (Kept.refl _) base)
  clear base
  generalize w.heap.size = g_x at *
  go_wp2_with fail
  refine (awake02 _).mono ?_
  rintro e w1 ⟨rfl, k1⟩
  obtain ⟨c_x0, c_x1, c_x2⟩ := Kept.all3 (show Kept W0 w1 from (by (repeat (first | with_reducible exact Kept.refl _ | with_reducible apply Kept.drew | with_reducible apply Kept.alloc | ((with_reducible apply Kept.set); focus (simp <;> omega)) | ((with_reducible apply Kept.via); focus with_reducible assumption))))) H_x
  go_wp2_with fail
  refine (D1'.out _).mono ?_
  rintro e w2 ⟨rfl, k2⟩
  clear c_x0 c_x1 c_x2
  go_upto_region 3 with fail
  generalize hW : World.alloc w2 (.cells #[.bool qb, .int .u64 qh, .int .u64 ql] 24) = W_q
  have K_q : Kept w2 W_q := by subst hW; exact (Kept.refl _).alloc _ _
  have H_q := Lib.hid (show W_q.cell? ⟨w2.heap.size, 0, none⟩ = some (.bool qb) ∧ W_q.cell? ⟨w2.heap.size, 1, none⟩ = some (.int .u64 qh) ∧ W_q.cell? ⟨w2.heap.size, 2, none⟩ = some (.int .u64 ql) from by subst hW; simp [go_sem])
  clear hW
  generalize w2.heap.size = g_q at *
  have cb : decide (0 ≤ c) = true := by simp [c0]
  have rb : decide (r < d) = true := by simp [r1]
  obtain ⟨c_x0, c_x1, c_x2⟩ := Kept.all3 (show Kept W0 W_q from (by (repeat (first | with_reducible exact Kept.refl _ | with_reducible apply Kept.drew | with_reducible apply Kept.alloc | ((with_reducible apply Kept.set); focus (simp <;> omega)) | ((with_reducible apply Kept.via); focus with_reducible assumption))))) H_x
  go_wp2_with fail
  refine (C1'.out _).mono ?_
  rintro e w3 ⟨rfl, k3⟩
  clear c_x0 c_x1 c_x2
  obtain ⟨c_q0, c_q1, c_q2⟩ := Kept.all3 (show Kept W_q w3 from (by (repeat (first | with_reducible exact Kept.refl _ | with_reducible apply Kept.drew | with_reducible apply Kept.alloc | ((with_reducible apply Kept.set); focus (simp <;> omega)) | ((with_reducible apply Kept.via); focus with_reducible assumption))))) H_q
  go_wp2_with fail
  refine (S1'.out _).mono ?_
  rintro e w4 ⟨rfl, k4⟩
  clear c_q0 c_q1 c_q2
  go_upto_region 7 with fail
  generalize hW : World.alloc w4 (.cells #[.bool pb, .int .u64 ph, .int .u64 pl] 24) = W_p
  have K_p : Kept w4 W_p := by subst hW; exact (Kept.refl _).alloc _ _
  have H_p := Lib.hid (show W_p.cell? ⟨w4.heap.size, 0, none⟩ = some (.bool pb) ∧ W_p.cell? ⟨w4.heap.size, 1, none⟩ = some (.int .u64 ph) ∧ W_p.cell? ⟨w4.heap.size, 2, none⟩ = some (.int .u64 pl) from by subst hW; simp [go_sem])
  clear hW
  generalize w4.heap.size = g_p at *
  obtain ⟨c_p0, c_p1, c_p2⟩ := Kept.all3 (show Kept W_p W_p from (by (repeat (first | with_reducible exact Kept.refl _ | with_reducible apply Kept.drew | with_reducible apply Kept.alloc | ((with_reducible apply Kept.set); focus (simp <;> omega)) | ((with_reducible apply Kept.via); focus with_reducible assumption))))) H_p
  go_wp2_with fail
  refine (A1'.out _).mono ?_
  rintro e w5 ⟨rfl, k5⟩
  clear c_p0 c_p1 c_p2
  go_upto_region 8 with fail
  generalize hW : World.alloc w5 (.cells #[.bool nb, .int .u64 nh, .int .u64 nl] 24) = W_n
  have K_n : Kept w5 W_n := by subst hW; exact (Kept.refl _).alloc _ _
  have H_n := Lib.hid (show W_n.cell? ⟨w5.heap.size, 0, none⟩ = some (.bool nb) ∧ W_n.cell? ⟨w5.heap.size, 1, none⟩ = some (.int .u64 nh) ∧ W_n.cell? ⟨w5.heap.size, 2, none⟩ = some (.int .u64 nl) from by subst hW; simp [go_sem])
  clear hW
  generalize w5.heap.size = g_n at *
  obtain ⟨c_x0, c_x1, c_x2⟩ := Kept.all3 (show Kept W0 W_n from (by (repeat (first | with_reducible exact Kept.refl _ | with_reducible apply Kept.drew | with_reducible apply Kept.alloc | ((with_reducible apply Kept.set); focus (simp <;> omega)) | ((with_reducible apply Kept.via); focus with_reducible assumption))))) H_x
  obtain ⟨c_n0, c_n1, c_n2⟩ := Kept.all3 (show Kept W_n W_n from (by (repeat (first | with_reducible exact Kept.refl _ | with_reducible apply Kept.drew | with_reducible apply Kept.alloc | ((with_reducible apply Kept.set); focus (simp <;> omega)) | ((with_reducible apply Kept.via); focus with_reducible assumption))))) H_n
  go_wp2_with fail
  refine (C2'.out _).mono ?_
  rintro e w6 ⟨rfl, k6⟩
  clear c_x0 c_x1 c_x2 c_n0 c_n1 c_n2
  go_wp2
  go_ret
  exact ⟨rfl, (by (repeat (first | with_reducible exact Kept.refl _ | with_reducible apply Kept.drew | with_reducible apply Kept.alloc | ((with_reducible apply Kept.set); focus (simp <;> omega)) | ((with_reducible apply Kept.via); focus with_reducible assumption))))⟩
set_option maxRecDepth 100000 in
set_option maxHeartbeats 1600000 in
theorem divs_down (xb : Bool) (xh xl : Int) (d r : Int) (qb kb pb fb nb : Bool) (qh ql kh kl ph pl fh fl nh nl : Int) (w : World) (_d0 : ¬ d = 0) (d1 : (d == 0) = false) (r1 : r < d) (D1 : ∀ w, Calls Try.prog 14 #[.agg #[.bool xb, .int .u64 xh, .int .u64 xl], .int .u64 d] w fun e w' => e = .returned (.tuple #[.agg #[.bool qb, .int .u64 qh, .int .u64 ql], .int .u64 r, .int .i64 0]) ∧ Kept w w') (C1 : ∀ w, Calls Try.prog 22 #[.agg #[.bool xb, .int .u64 xh, .int .u64 xl], .agg #[.bool false, .int .u64 0, .int .u64 0]] w fun e w' => e = .returned (.int .i64 (-1)) ∧ Kept w w') (A1 : ∀ w, Calls Try.prog 10 #[.agg #[.bool qb, .int .u64 qh, .int .u64 ql], .agg #[.bool false, .int .u64 0, .int .u64 1]] w fun e w' => e = .returned (.tuple #[.agg #[.bool kb, .int .u64 kh, .int .u64 kl], .int .i64 0]) ∧ Kept w w') (S1 : ∀ w, Calls Try.prog 12 #[.agg #[.bool kb, .int .u64 kh, .int .u64 kl], .int .u64 d] w fun e w' => e = .returned (.tuple #[.agg #[.bool pb, .int .u64 ph, .int .u64 pl], .int .i64 0]) ∧ Kept w w') (A2 : ∀ w, Calls Try.prog 10 #[.agg #[.bool false, .int .u64 0, .int .u64 r], .agg #[.bool true, .int .u64 0, .int .u64 d]] w fun e w' => e = .returned (.tuple #[.agg #[.bool fb, .int .u64 fh, .int .u64 fl], .int .i64 0]) ∧ Kept w w') (A3 : ∀ w, Calls Try.prog 10 #[.agg #[.bool pb, .int .u64 ph, .int .u64 pl], .agg #[.bool fb, .int .u64 fh, .int .u64 fl]] w fun e w' => e = .returned (.tuple #[.agg #[.bool nb, .int .u64 nh, .int .u64 nl], .int .i64 0]) ∧ Kept w w') (C2 : ∀ w, Calls Try.prog 22 #[.agg #[.bool nb, .int .u64 nh, .int .u64 nl], .agg #[.bool xb, .int .u64 xh, .int .u64 xl]] w fun e w' => e = .returned (.int .i64 0) ∧ Kept w w') :
    Calls Try.prog 5 #[.agg #[.bool xb, .int .u64 xh, .int .u64 xl], .int .u64 d] w fun e w' => e = .returned (.bool true) ∧ Kept w w' := by
  have D1' := Lib.hid D1
  have C1' := Lib.hid C1
  have A1' := Lib.hid A1
  have S1' := Lib.hid S1
  have A2' := Lib.hid A2
  have A3' := Lib.hid A3
  have C2' := Lib.hid C2
  clear D1 C1 A1 S1 A2 A3 C2
  go_enter Try.func5, Try.ntmps5
  go_upto_region 1 with fail
  generalize hW : (World.alloc w (.cells #[.bool xb, .int .u64 xh, .int .u64 xl] 24)) = W0
  have base := Lib.hid (show W0.cell? ⟨w.heap.size, 0, none⟩ = some (.bool xb) ∧ W0.cell? ⟨w.heap.size, 1, none⟩ = some (.int .u64 xh) ∧ W0.cell? ⟨w.heap.size, 2, none⟩ = some (.int .u64 xl) from by subst hW; simp [go_sem])
  have kw : Kept w W0 := by subst hW; exact (by (repeat (first | with_reducible exact Kept.refl _ | with_reducible apply Kept.drew | with_reducible apply Kept.alloc | ((with_reducible apply Kept.set); focus (simp <;> omega)) | ((with_reducible apply Kept.via); focus with_reducible assumption))))
  have zw : w.heap.size + 1 ≤ W0.heap.size := by subst hW; simp
  clear hW
  have H_x := Lib.hid (Kept.all3 (Kept.refl _) base)
  clear base
  generalize w.heap.size = g_x at *
  go_wp2_with fail
  refine (awake02 _).mono ?_
  rintro e w1 ⟨rfl, k1⟩
  obtain ⟨c_x0, c_x1, c_x2⟩ := Kept.all3 (show Kept W0 w1 from (by (repeat (first | with_reducible exact Kept.refl _ | with_reducible apply Kept.drew | with_reducible apply Kept.alloc | ((with_reducible apply Kept.set); focus (simp <;> omega)) | ((with_reducible apply Kept.via); focus with_reducible assumption))))) H_x
  go_wp2_with fail
  refine (D1'.out _).mono ?_
  rintro e w2 ⟨rfl, k2⟩
  clear c_x0 c_x1 c_x2
  go_upto_region 3 with fail
  generalize hW : World.alloc w2 (.cells #[.bool qb, .int .u64 qh, .int .u64 ql] 24) = W_q
  have K_q : Kept w2 W_q := by subst hW; exact (Kept.refl _).alloc _ _
  have H_q := Lib.hid (show W_q.cell? ⟨w2.heap.size, 0, none⟩ = some (.bool qb) ∧ W_q.cell? ⟨w2.heap.size, 1, none⟩ = some (.int .u64 qh) ∧ W_q.cell? ⟨w2.heap.size, 2, none⟩ = some (.int .u64 ql) from by subst hW; simp [go_sem])
  clear hW
  generalize w2.heap.size = g_q at *
  have rb : decide (r < d) = true := by simp [r1]
  obtain ⟨c_x0, c_x1, c_x2⟩ := Kept.all3 (show Kept W0 W_q from (by (repeat (first | with_reducible exact Kept.refl _ | with_reducible apply Kept.drew | with_reducible apply Kept.alloc | ((with_reducible apply Kept.set); focus (simp <;> omega)) | ((with_reducible apply Kept.via); focus with_reducible assumption))))) H_x
  go_wp2_with fail
  refine (C1'.out _).mono ?_
  rintro e w3 ⟨rfl, k3⟩
  clear c_x0 c_x1 c_x2
  go_upto_region 9 with fail
  have base_k := Lib.hid (show w3.cell? ⟨g_q, 0, none⟩ = some (.bool qb) ∧ w3.cell? ⟨g_q, 1, none⟩ = some (.int .u64 qh) ∧ w3.cell? ⟨g_q, 2, none⟩ = some (.int .u64 ql) from by
    obtain ⟨q0, q1, q2⟩ := Kept.all3 (show Kept W_q w3 from (by (repeat (first | with_reducible exact Kept.refl _ | with_reducible apply Kept.drew | with_reducible apply Kept.alloc | ((with_reducible apply Kept.set); focus (simp <;> omega)) | ((with_reducible apply Kept.via); focus with_reducible assumption))))) H_q
    exact ⟨q0, q1, q2⟩)
  go_cut [13, 14] (fun s13 s14 wx => ∃ g : Nat, s13 = .pointer (some ⟨g, 0, none⟩) ∧ s14 = .int .i64 0 ∧ wx.cell? ⟨g, 0, none⟩ = some (.bool kb) ∧ wx.cell? ⟨g, 1, none⟩ = some (.int .u64 kh) ∧ wx.cell? ⟨g, 2, none⟩ = some (.int .u64 kl) ∧ Kept w3 wx)
  case first =>
    go_region_held3 (fun w' => w'.cell? ⟨g_q, 0, none⟩ = some (.bool qb) ∧ w'.cell? ⟨g_q, 1, none⟩ = some (.int .u64 qh) ∧ w'.cell? ⟨g_q, 2, none⟩ = some (.int .u64 ql))
      ((first | (refine Kept.all3 ?_ base_k; focus ((repeat (first | with_reducible exact Kept.refl _ | with_reducible apply Kept.drew | with_reducible apply Kept.alloc | ((with_reducible apply Kept.set); focus (simp <;> omega)) | ((with_reducible apply Kept.via); focus with_reducible assumption))); done)) | (refine far3 (Kept.all3 (by (repeat (first | with_reducible exact Kept.refl _ | with_reducible apply Kept.drew | with_reducible apply Kept.alloc | ((with_reducible apply Kept.set); focus (simp <;> omega)) | ((with_reducible apply Kept.via); focus with_reducible assumption)))) base_k) ?_; focus ((repeat' apply And.intro) <;> (simp <;> omega)))))
      (first
        | (go_at_call 16; refine (of_1 _).mono ?_; rintro e v1 ⟨rfl, i1⟩; (try (first | (with_reducible have nr := Room3.newD i1) | (with_reducible have nr := Room3.new i1) | (with_reducible have nr := Room3.kept nr i1))); have y1 := Kept.below i1; (try simp at y1))
        | (go_at_call 10; refine (A1'.out _).mono ?_; rintro e v2 ⟨rfl, i2⟩; (try (first | (with_reducible have nr := Room3.newD i2) | (with_reducible have nr := Room3.new i2) | (with_reducible have nr := Room3.kept nr i2))); have y2 := Kept.below i2; (try simp at y2); (try (obtain ⟨nx, ny, nz, na1, na2, na3, nb1, nb2, nb3⟩ := nr))))
    all_goals
      go_wp2_with fail
      go_meet
      exact ⟨_, rfl, rfl, by simp [*, go_sem], by simp [*, go_sem], by simp [*, go_sem], (by (repeat (first | with_reducible exact Kept.refl _ | with_reducible apply Kept.drew | with_reducible apply Kept.alloc | ((with_reducible apply Kept.set); focus (simp <;> omega)) | ((with_reducible apply Kept.via); focus with_reducible assumption))))⟩
  obtain ⟨g_k, rfl, rfl, e0, e1, e2, K_k⟩ := hcut
  generalize wc = W_k at *
  have H_k := Lib.hid (And.intro e0 (And.intro e1 e2))
  clear e0 e1 e2 base_k
  obtain ⟨c_k0, c_k1, c_k2⟩ := Kept.all3 (show Kept W_k W_k from (by (repeat (first | with_reducible exact Kept.refl _ | with_reducible apply Kept.drew | with_reducible apply Kept.alloc | ((with_reducible apply Kept.set); focus (simp <;> omega)) | ((with_reducible apply Kept.via); focus with_reducible assumption))))) H_k
  go_wp2_with fail
  refine (S1'.out _).mono ?_
  rintro e w4 ⟨rfl, k4⟩
  clear c_k0 c_k1 c_k2
  go_upto_region 11 with fail
  generalize hW : World.alloc w4 (.cells #[.bool pb, .int .u64 ph, .int .u64 pl] 24) = W_p
  have K_p : Kept w4 W_p := by subst hW; exact (Kept.refl _).alloc _ _
  have H_p := Lib.hid (show W_p.cell? ⟨w4.heap.size, 0, none⟩ = some (.bool pb) ∧ W_p.cell? ⟨w4.heap.size, 1, none⟩ = some (.int .u64 ph) ∧ W_p.cell? ⟨w4.heap.size, 2, none⟩ = some (.int .u64 pl) from by subst hW; simp [go_sem])
  clear hW
  generalize w4.heap.size = g_p at *
  go_wp2_with fail
  refine (A2'.out _).mono ?_
  rintro e w5 ⟨rfl, k5⟩
  go_upto_region 12 with fail
  generalize hW : World.alloc w5 (.cells #[.bool fb, .int .u64 fh, .int .u64 fl] 24) = W_f
  have K_f : Kept w5 W_f := by subst hW; exact (Kept.refl _).alloc _ _
  have H_f := Lib.hid (show W_f.cell? ⟨w5.heap.size, 0, none⟩ = some (.bool fb) ∧ W_f.cell? ⟨w5.heap.size, 1, none⟩ = some (.int .u64 fh) ∧ W_f.cell? ⟨w5.heap.size, 2, none⟩ = some (.int .u64 fl) from by subst hW; simp [go_sem])
  clear hW
  generalize w5.heap.size = g_f at *
  obtain ⟨c_p0, c_p1, c_p2⟩ := Kept.all3 (show Kept W_p W_f from (by (repeat (first | with_reducible exact Kept.refl _ | with_reducible apply Kept.drew | with_reducible apply Kept.alloc | ((with_reducible apply Kept.set); focus (simp <;> omega)) | ((with_reducible apply Kept.via); focus with_reducible assumption))))) H_p
  obtain ⟨c_f0, c_f1, c_f2⟩ := Kept.all3 (show Kept W_f W_f from (by (repeat (first | with_reducible exact Kept.refl _ | with_reducible apply Kept.drew | with_reducible apply Kept.alloc | ((with_reducible apply Kept.set); focus (simp <;> omega)) | ((with_reducible apply Kept.via); focus with_reducible assumption))))) H_f
  go_wp2_with fail
  refine (A3'.out _).mono ?_
  rintro e w6 ⟨rfl, k6⟩
  clear c_p0 c_p1 c_p2 c_f0 c_f1 c_f2
  go_upto_region 13 with fail
  generalize hW : World.alloc w6 (.cells #[.bool nb, .int .u64 nh, .int .u64 nl] 24) = W_n
  have K_n : Kept w6 W_n := by subst hW; exact (Kept.refl _).alloc _ _
  have H_n := Lib.hid (show W_n.cell? ⟨w6.heap.size, 0, none⟩ = some (.bool nb) ∧ W_n.cell? ⟨w6.heap.size, 1, none⟩ = some (.int .u64 nh) ∧ W_n.cell? ⟨w6.heap.size, 2, none⟩ = some (.int .u64 nl) from by subst hW; simp [go_sem])
  clear hW
  generalize w6.heap.size = g_n at *
  obtain ⟨c_x0, c_x1, c_x2⟩ := Kept.all3 (show Kept W0 W_n from (by (repeat (first | with_reducible exact Kept.refl _ | with_reducible apply Kept.drew | with_reducible apply Kept.alloc | ((with_reducible apply Kept.set); focus (simp <;> omega)) | ((with_reducible apply Kept.via); focus with_reducible assumption))))) H_x
  obtain ⟨c_n0, c_n1, c_n2⟩ := Kept.all3 (show Kept W_n W_n from (by (repeat (first | with_reducible exact Kept.refl _ | with_reducible apply Kept.drew | with_reducible apply Kept.alloc | ((with_reducible apply Kept.set); focus (simp <;> omega)) | ((with_reducible apply Kept.via); focus with_reducible assumption))))) H_n
  go_wp2_with fail
  refine (C2'.out _).mono ?_
  rintro e w7 ⟨rfl, k7⟩
  clear c_x0 c_x1 c_x2 c_n0 c_n1 c_n2
  go_wp2
  go_ret
  exact ⟨rfl, (by (repeat (first | with_reducible exact Kept.refl _ | with_reducible apply Kept.drew | with_reducible apply Kept.alloc | ((with_reducible apply Kept.set); focus (simp <;> omega)) | ((with_reducible apply Kept.via); focus with_reducible assumption))))⟩

theorem bigDivides_walk (xb : Bool) (xh xl d : Int) (w : World) (h1 : Word xh) (h2 : Word xl) (hd : Word d) :
    Calls Try.prog 5 #[.agg #[.bool xb, .int .u64 xh, .int .u64 xl], .int .u64 d] w fun e w' => e = .returned (.bool true) ∧ Kept w w' := by
  by_cases z : d = 0
  · subst z; exact divs_zero xb xh xl w
  have pd : 0 < d := by have := hd.1; omega
  have zb : (d == 0) = false := by simp [z]
  generalize ex : numOf xb xh xl = x
  have ix : InBig x := by rw [← ex]; exact numOf_in h1 h2
  have e := Int.mul_ediv_add_emod x d
  have r0 := Int.emod_nonneg x z
  have r1 := Int.emod_lt_of_pos x pd
  have wr : Word (x % d) := ⟨r0, by have := hd.2; omega⟩
  have w1 : Word 1 := by unfold Word; omega
  have iq : InBig (x / d) := by
    unfold InBig at *
    by_cases s : 0 ≤ x
    · have := Int.ediv_nonneg s (show 0 ≤ d by omega); have := Int.ediv_le_self d s; omega
    · have a : x ≤ x / d := by rw [Int.le_ediv_iff_mul_le pd]; have h := Int.mul_nonpos_of_nonpos_of_nonneg (show x ≤ 0 by omega) (show 0 ≤ d - 1 by omega); rw [Int.mul_sub, Int.mul_one] at h; omega
      have b : x / d < 0 := Int.ediv_neg_of_neg_of_pos (by omega) pd
      omega
  obtain ⟨qb, qh, ql, rq⟩ := rep_ex _ iq
  obtain ⟨q1, q2, q3, _⟩ := id rq
  have D1 := fun w => Div_ok (b1 := xb) h1 h2 hd pd (by rw [ex]; exact rq) w
  rw [ex] at D1
  have C1 := fun w => Cmp_ok (b1 := xb) (b2 := false) h1 h2 word_zero word_zero w
  rw [ex, show numOf false 0 0 = 0 by decide] at C1
  obtain ⟨nb, nh, nl, rn⟩ := rep_ex x ix
  obtain ⟨n1, n2, n3, _⟩ := id rn
  have C2 := fun w => Cmp_ok (b1 := nb) (b2 := xb) n1 n2 h1 h2 w
  rw [ex, n3, show cmpI x x = 0 by simp [cmpI]] at C2
  have er : numOf false 0 (x % d) = x % d := by rw [numOf_false]; unfold sz; omega
  by_cases s : 0 ≤ x
  · have q0 := Int.ediv_nonneg s (show 0 ≤ d by omega)
    have p0 := Int.mul_nonneg (show 0 ≤ d by omega) q0
    obtain ⟨pb, ph, pl, rp⟩ := rep_ex (x / d * d) (by unfold InBig at *; rw [Int.mul_comm]; omega)
    obtain ⟨p1, p2, p3, _⟩ := id rp
    refine divs_up xb xh xl d (x % d) _ qb pb nb qh ql ph pl nh nl w z zb ?_ r1 D1 C1 (Scale_yes q1 q2 hd (by rw [q3]; exact rp)) (Add_ok p1 p2 word_zero wr (by rw [p3, er, Int.mul_comm, e]; exact rn)) C2
    unfold cmpI; split; omega; rw [if_neg (by omega)]; omega
  · rw [show cmpI x 0 = -1 by unfold cmpI; rw [if_neg (by omega), if_pos (by omega)]] at C1
    have b : x / d < 0 := Int.ediv_neg_of_neg_of_pos (by omega) pd
    have m : (x / d + 1) * d = d * (x / d) + d := by rw [Int.add_mul, Int.one_mul, Int.mul_comm]
    have m0 : (x / d + 1) * d ≤ 0 := Int.mul_nonpos_of_nonpos_of_nonneg (by omega) (by omega)
    obtain ⟨kb, kh, kl, rk⟩ := rep_ex (x / d + 1) (by unfold InBig at *; omega)
    obtain ⟨k1, k2, k3, _⟩ := id rk
    obtain ⟨pb, ph, pl, rp⟩ := rep_ex ((x / d + 1) * d) (by unfold InBig at *; omega)
    obtain ⟨p1, p2, p3, _⟩ := id rp
    have ed : numOf true 0 d = -d := by rw [numOf_true]; unfold sz; omega
    have dlt := hd.2
    obtain ⟨fb, fh, fl, rf⟩ := rep_ex (x % d + -d) (by unfold InBig at *; omega)
    obtain ⟨f1, f2, f3, _⟩ := id rf
    exact divs_down xb xh xl d (x % d) qb kb pb fb nb qh ql kh kl ph pl fh fl nh nl w z zb r1 D1 C1 (Add_ok q1 q2 word_zero w1 (by rw [q3, show numOf false 0 1 = 1 by decide]; exact rk)) (Scale_yes k1 k2 hd (by rw [k3]; exact rp)) (Add_ok word_zero wr word_zero hd (by rw [er, ed]; exact rf)) (Add_ok p1 p2 f1 f2 (by rw [p3, f3, m, show d * (x / d) + d + (x % d + -d) = x by omega]; exact rn)) C2
end Go.Proofs.Ytahbijfmhdiafaa
