/-
  The walk of RootRises: it answers true, whatever it is given.
-/
import Derived.Test.YtgmhcgmaidnbeaaAwake03
namespace Go.Proofs.Ytgmhcgmaidnbeaa
open Go.RowKit Go.BigFrame

set_option maxRecDepth 100000 in
set_option maxHeartbeats 1600000 in
theorem rises_head3 (xb yb : Bool) (xh xl yh yl p tx ty hx hy : Int) (hp : p = 1 ∨ (p ≤ 0 ∧ tx ≤ ty ∧ hx ≤ hy)) (w : World) (C1 : ∀ w, Calls Try.prog 18 #[.agg #[.bool false, .int .u64 xh, .int .u64 xl], .agg #[.bool false, .int .u64 yh, .int .u64 yl]] w fun e w' => e = .returned (.int .i64 p) ∧ Kept w w') (T1 : ∀ w, Calls Try.prog 14 #[.agg #[.bool xb, .int .u64 xh, .int .u64 xl]] w fun e w' => e = .returned (.int .u64 tx) ∧ Kept w w') (T2 : ∀ w, Calls Try.prog 14 #[.agg #[.bool false, .int .u64 xh, .int .u64 xl]] w fun e w' => e = .returned (.int .u64 tx) ∧ Kept w w') (T3 : ∀ w, Calls Try.prog 14 #[.agg #[.bool false, .int .u64 yh, .int .u64 yl]] w fun e w' => e = .returned (.int .u64 ty) ∧ Kept w w') (H1 : ∀ w, Calls Try.prog 16 #[.agg #[.bool xb, .int .u64 xh, .int .u64 xl]] w fun e w' => e = .returned (.int .u64 hx) ∧ Kept w w') (H2 : ∀ w, Calls Try.prog 16 #[.agg #[.bool false, .int .u64 xh, .int .u64 xl]] w fun e w' => e = .returned (.int .u64 hx) ∧ Kept w w') (H3 : ∀ w, Calls Try.prog 16 #[.agg #[.bool false, .int .u64 yh, .int .u64 yl]] w fun e w' => e = .returned (.int .u64 hy) ∧ Kept w w') :
    Calls Try.prog 6 #[.agg #[.bool xb, .int .u64 xh, .int .u64 xl], .agg #[.bool yb, .int .u64 yh, .int .u64 yl]] w fun e w' => e = .returned (.bool true) ∧ Kept w w' := by
  have C1' := Lib.hid C1
  have T1' := Lib.hid T1
  have T2' := Lib.hid T2
  have T3' := Lib.hid T3
  have H1' := Lib.hid H1
  have H2' := Lib.hid H2
  have H3' := Lib.hid H3
  clear C1 T1 T2 T3 H1 H2 H3
  have HP := Lib.hid hp
  clear hp
  go_enter Try.func6, Try.ntmps6
  go_upto_region 1 with fail
  generalize hW : (World.alloc (World.alloc w (.cells #[.bool xb, .int .u64 xh, .int .u64 xl] 24)) (.cells #[.bool yb, .int .u64 yh, .int .u64 yl] 24)) = W0
  have base := Lib.hid (show W0.cell? ⟨w.heap.size, 0, none⟩ = some (.bool xb) ∧ W0.cell? ⟨w.heap.size, 1, none⟩ = some (.int .u64 xh) ∧ W0.cell? ⟨w.heap.size, 2, none⟩ = some (.int .u64 xl) ∧ W0.cell? ⟨w.heap.size + 1, 0, none⟩ = some (.bool yb) ∧ W0.cell? ⟨w.heap.size + 1, 1, none⟩ = some (.int .u64 yh) ∧ W0.cell? ⟨w.heap.size + 1, 2, none⟩ = some (.int .u64 yl) from by subst hW; simp [go_sem])
  have kw : Kept w W0 := by subst hW; exact (by (repeat (first | with_reducible exact Kept.refl _ | with_reducible apply Kept.drew | with_reducible apply Kept.alloc | ((with_reducible apply Kept.set); focus (simp <;> omega)) | ((with_reducible apply Kept.via); focus with_reducible assumption))))
  have zw : w.heap.size + 2 ≤ W0.heap.size := by subst hW; simp
  clear hW
  have H_x := Lib.hid (show W0.cell? ⟨w.heap.size, 0, none⟩ = some (.bool xb) ∧ W0.cell? ⟨w.heap.size, 1, none⟩ = some (.int .u64 xh) ∧ W0.cell? ⟨w.heap.size, 2, none⟩ = some (.int .u64 xl) from (Kept.all6 (Kept.refl _) base).imp id fun h => h.imp id fun h => h.1)
  have H_y := Lib.hid (Kept.all6 (Kept.refl _) base).2.2.2
  clear base
  generalize w.heap.size + 1 = g_y at *
  generalize w.heap.size = g_x at *
  go_wp2_with fail
  refine (awake03 _).mono ?_
  rintro e w1 ⟨rfl, k1⟩
  obtain ⟨c_x0, c_x1, c_x2⟩ := Kept.all3 (show Kept W0 w1 from (by (repeat (first | with_reducible exact Kept.refl _ | with_reducible apply Kept.drew | with_reducible apply Kept.alloc | ((with_reducible apply Kept.set); focus (simp <;> omega)) | ((with_reducible apply Kept.via); focus with_reducible assumption))))) H_x
  go_upto_region 3 with fail
  generalize hW : World.alloc w1 (.cells #[.bool false, .int .u64 xh, .int .u64 xl] 24) = W_a
  have K_a : Kept w1 W_a := by subst hW; exact (Kept.refl _).alloc _ _
  have H_a := Lib.hid (show W_a.cell? ⟨w1.heap.size, 0, none⟩ = some (.bool false) ∧ W_a.cell? ⟨w1.heap.size, 1, none⟩ = some (.int .u64 xh) ∧ W_a.cell? ⟨w1.heap.size, 2, none⟩ = some (.int .u64 xl) from by subst hW; simp [go_sem])
  clear hW
  generalize w1.heap.size = g_a at *
  clear c_x0 c_x1 c_x2
  obtain ⟨c_y0, c_y1, c_y2⟩ := Kept.all3 (show Kept W0 W_a from (by (repeat (first | with_reducible exact Kept.refl _ | with_reducible apply Kept.drew | with_reducible apply Kept.alloc | ((with_reducible apply Kept.set); focus (simp <;> omega)) | ((with_reducible apply Kept.via); focus with_reducible assumption))))) H_y
  go_upto_region 4 with fail
  generalize hW : World.alloc W_a (.cells #[.bool false, .int .u64 yh, .int .u64 yl] 24) = W_b
  have K_b : Kept W_a W_b := by subst hW; exact (Kept.refl _).alloc _ _
  have H_b := Lib.hid (show W_b.cell? ⟨W_a.heap.size, 0, none⟩ = some (.bool false) ∧ W_b.cell? ⟨W_a.heap.size, 1, none⟩ = some (.int .u64 yh) ∧ W_b.cell? ⟨W_a.heap.size, 2, none⟩ = some (.int .u64 yl) from by subst hW; simp [go_sem])
  clear hW
  generalize W_a.heap.size = g_b at *
  clear c_y0 c_y1 c_y2
  go_cut [8] (fun s8 wx => s8 = .bool true ∧ Kept W_b wx)
  case first =>
    rcases HP.out with rfl | ⟨p1, p2, p3⟩
    · clear HP
      have B_a := Lib.hid (Kept.all3 (show Kept W_a W_b from (by (repeat (first | with_reducible exact Kept.refl _ | with_reducible apply Kept.drew | with_reducible apply Kept.alloc | ((with_reducible apply Kept.set); focus (simp <;> omega)) | ((with_reducible apply Kept.via); focus with_reducible assumption))))) H_a)
      have B_b := Lib.hid (Kept.all3 (show Kept W_b W_b from (by (repeat (first | with_reducible exact Kept.refl _ | with_reducible apply Kept.drew | with_reducible apply Kept.alloc | ((with_reducible apply Kept.set); focus (simp <;> omega)) | ((with_reducible apply Kept.via); focus with_reducible assumption))))) H_b)
      have kall : Kept w W_b := (by (repeat (first | with_reducible exact Kept.refl _ | with_reducible apply Kept.drew | with_reducible apply Kept.alloc | ((with_reducible apply Kept.set); focus (simp <;> omega)) | ((with_reducible apply Kept.via); focus with_reducible assumption))))
      obtain ⟨q_a0, q_a1, q_a2⟩ := kw3 B_a
      obtain ⟨q_b0, q_b1, q_b2⟩ := kw3 B_b
      clear B_a B_b
      refine wp_region_kept (by kernel_rfl) (by as_aux_lemma => kernel_rfl) ?_
      repeat (go_big_quiet_step (first | (with_reducible exact kept_of (C1'.out _))))
      refine wpQuiet_nil ?_
      intro wq hw'
      have kq : Kept W_b wq := by obtain ⟨p, rfl⟩ := hw'; exact p.k
      clear hw'
      go_wp2_with fail
      go_meet
      exact ⟨rfl, kq⟩
    · clear HP
      have q1 : decide (0 < p) = false := by simp; omega
      have q2 : decide (tx ≤ ty) = true := by simp [p2]
      have q3 : decide (hx ≤ hy) = true := by simp [p3]
      have B_a := Lib.hid (Kept.all3 (show Kept W_a W_b from (by (repeat (first | with_reducible exact Kept.refl _ | with_reducible apply Kept.drew | with_reducible apply Kept.alloc | ((with_reducible apply Kept.set); focus (simp <;> omega)) | ((with_reducible apply Kept.via); focus with_reducible assumption))))) H_a)
      have B_b := Lib.hid (Kept.all3 (show Kept W_b W_b from (by (repeat (first | with_reducible exact Kept.refl _ | with_reducible apply Kept.drew | with_reducible apply Kept.alloc | ((with_reducible apply Kept.set); focus (simp <;> omega)) | ((with_reducible apply Kept.via); focus with_reducible assumption))))) H_b)
      have kall : Kept w W_b := (by (repeat (first | with_reducible exact Kept.refl _ | with_reducible apply Kept.drew | with_reducible apply Kept.alloc | ((with_reducible apply Kept.set); focus (simp <;> omega)) | ((with_reducible apply Kept.via); focus with_reducible assumption))))
      obtain ⟨q_a0, q_a1, q_a2⟩ := kw3 B_a
      obtain ⟨q_b0, q_b1, q_b2⟩ := kw3 B_b
      clear B_a B_b
      refine wp_region_kept (by kernel_rfl) (by as_aux_lemma => kernel_rfl) ?_
      repeat (go_big_quiet_step (first | (with_reducible exact kept_of (C1'.out _)) | (with_reducible exact kept_of (T2'.out _)) | (with_reducible exact kept_of (T3'.out _)) | (with_reducible exact kept_of (H2'.out _)) | (with_reducible exact kept_of (H3'.out _))))
      refine wpQuiet_nil ?_
      intro wq hw'
      have kq : Kept W_b wq := by obtain ⟨p, rfl⟩ := hw'; exact p.k
      clear hw'
      go_wp2_with fail
      go_meet
      exact ⟨rfl, kq⟩
  obtain ⟨rfl, K_less⟩ := hcut
  clear HP
  generalize wc = W_less at *
  go_upto_region 5 with fail
  have B_x := Lib.hid (Kept.all3 (show Kept W0 W_less from (by (repeat (first | with_reducible exact Kept.refl _ | with_reducible apply Kept.drew | with_reducible apply Kept.alloc | ((with_reducible apply Kept.set); focus (simp <;> omega)) | ((with_reducible apply Kept.via); focus with_reducible assumption))))) H_x)
  have B_a := Lib.hid (Kept.all3 (show Kept W_a W_less from (by (repeat (first | with_reducible exact Kept.refl _ | with_reducible apply Kept.drew | with_reducible apply Kept.alloc | ((with_reducible apply Kept.set); focus (simp <;> omega)) | ((with_reducible apply Kept.via); focus with_reducible assumption))))) H_a)
  have kall : Kept w W_less := (by (repeat (first | with_reducible exact Kept.refl _ | with_reducible apply Kept.drew | with_reducible apply Kept.alloc | ((with_reducible apply Kept.set); focus (simp <;> omega)) | ((with_reducible apply Kept.via); focus with_reducible assumption))))
  obtain ⟨q_x0, q_x1, q_x2⟩ := kw3 B_x
  obtain ⟨q_a0, q_a1, q_a2⟩ := kw3 B_a
  clear B_x B_a
  refine wp_region_kept (by kernel_rfl) (by as_aux_lemma => kernel_rfl) ?_
  repeat (go_big_quiet_step (first | (with_reducible exact kept_of (T1'.out _)) | (with_reducible exact kept_of (T2'.out _)) | (with_reducible exact kept_of (H1'.out _)) | (with_reducible exact kept_of (H2'.out _))))
  refine wpQuiet_nil ?_
  intro wq hw'
  have kq : Kept W_less wq := by obtain ⟨p, rfl⟩ := hw'; exact p.k
  clear hw'
  go_wp2
  go_ret
  exact ⟨rfl, kall.trans kq⟩

theorem rootRises_walk (xb yb : Bool) (xh xl yh yl : Int) (w : World) (h1 : Word xh) (h2 : Word xl) (h3 : Word yh) (h4 : Word yl) :
    Calls Try.prog 6 #[.agg #[.bool xb, .int .u64 xh, .int .u64 xl], .agg #[.bool yb, .int .u64 yh, .int .u64 yl]] w fun e w' => e = .returned (.bool true) ∧ Kept w w' := by
  obtain ⟨tx, htx⟩ := third_ex (sz_nonneg h1 h2)
  obtain ⟨ty, hty⟩ := third_ex (sz_nonneg h3 h4)
  obtain ⟨hx, hhx⟩ := half_ex (sz_nonneg h1 h2)
  obtain ⟨hy, hhy⟩ := half_ex (sz_nonneg h3 h4)
  refine rises_head3 xb yb xh xl yh yl _ tx ty hx hy ?_ w (Cmp_ok h1 h2 h3 h4) (Third_ok h1 h2 htx) (Third_ok h1 h2 htx) (Third_ok h3 h4 hty) (Half_ok h1 h2 hhx) (Half_ok h1 h2 hhx) (Half_ok h3 h4 hhy)
  rw [numOf_false, numOf_false]
  rcases Int.lt_or_le (sz yh yl) (sz xh xl) with c | c
  · exact Or.inl (by unfold cmpI; rw [if_neg (by omega), if_neg (by omega)])
  · exact Or.inr ⟨by unfold cmpI; split; omega; rw [if_pos (by omega)]; omega, third_rises htx hty c, half_rises hhx hhy c⟩
end Go.Proofs.Ytgmhcgmaidnbeaa
