/-
  The walk of BigBack: it answers true, whatever it is given.
-/
import Derived.Test.YtahbijfmhdiafaaAwake02
namespace Go.Proofs.Ytahbijfmhdiafaa
open Go.RowKit Go.BigFrame

set_option maxRecDepth 100000 in
set_option maxHeartbeats 1600000 in
theorem back_in (xb yb nxb nyb mxb db : Bool) (xh xl yh yl dh dl : Int) (sb : Bool) (sh sl : Int) (w : World) (A1 : ∀ w, Calls Try.prog 10 #[.agg #[.bool xb, .int .u64 xh, .int .u64 xl], .agg #[.bool yb, .int .u64 yh, .int .u64 yl]] w fun e w' => e = .returned (.tuple #[.agg #[.bool sb, .int .u64 sh, .int .u64 sl], .int .i64 0]) ∧ Kept w w') (A2 : ∀ w, Calls Try.prog 10 #[.agg #[.bool yb, .int .u64 yh, .int .u64 yl], .agg #[.bool xb, .int .u64 xh, .int .u64 xl]] w fun e w' => e = .returned (.tuple #[.agg #[.bool sb, .int .u64 sh, .int .u64 sl], .int .i64 0]) ∧ Kept w w') (N1 : ∀ w, Calls Try.prog 20 #[.agg #[.bool yb, .int .u64 yh, .int .u64 yl]] w fun e w' => e = .returned (.agg #[.bool nyb, .int .u64 yh, .int .u64 yl]) ∧ Kept w w') (A3 : ∀ w, Calls Try.prog 10 #[.agg #[.bool sb, .int .u64 sh, .int .u64 sl], .agg #[.bool nyb, .int .u64 yh, .int .u64 yl]] w fun e w' => e = .returned (.tuple #[.agg #[.bool db, .int .u64 dh, .int .u64 dl], .int .i64 0]) ∧ Kept w w') (N2 : ∀ w, Calls Try.prog 20 #[.agg #[.bool xb, .int .u64 xh, .int .u64 xl]] w fun e w' => e = .returned (.agg #[.bool nxb, .int .u64 xh, .int .u64 xl]) ∧ Kept w w') (A4 : ∀ w, Calls Try.prog 10 #[.agg #[.bool xb, .int .u64 xh, .int .u64 xl], .agg #[.bool nxb, .int .u64 xh, .int .u64 xl]] w fun e w' => e = .returned (.tuple #[.agg #[.bool false, .int .u64 0, .int .u64 0], .int .i64 0]) ∧ Kept w w') (N3 : ∀ w, Calls Try.prog 20 #[.agg #[.bool nxb, .int .u64 xh, .int .u64 xl]] w fun e w' => e = .returned (.agg #[.bool mxb, .int .u64 xh, .int .u64 xl]) ∧ Kept w w') (C1 : ∀ w, Calls Try.prog 22 #[.agg #[.bool db, .int .u64 dh, .int .u64 dl], .agg #[.bool xb, .int .u64 xh, .int .u64 xl]] w fun e w' => e = .returned (.int .i64 0) ∧ Kept w w') (C2 : ∀ w, Calls Try.prog 22 #[.agg #[.bool mxb, .int .u64 xh, .int .u64 xl], .agg #[.bool xb, .int .u64 xh, .int .u64 xl]] w fun e w' => e = .returned (.int .i64 0) ∧ Kept w w') :
    Calls Try.prog 4 #[.agg #[.bool xb, .int .u64 xh, .int .u64 xl], .agg #[.bool yb, .int .u64 yh, .int .u64 yl]] w fun e w' => e = .returned (.bool true) ∧ Kept w w' := by
  have A1' := Lib.hid A1
  have A2' := Lib.hid A2
  have N1' := Lib.hid N1
  have A3' := Lib.hid A3
  have N2' := Lib.hid N2
  have A4' := Lib.hid A4
  have N3' := Lib.hid N3
  have C1' := Lib.hid C1
  have C2' := Lib.hid C2
  clear A1 A2 N1 A3 N2 A4 N3 C1 C2
  go_enter Try.func4, Try.ntmps4
  go_upto_region 1 with fail
  generalize hW : (World.alloc (World.alloc w (.cells #[.bool xb, .int .u64 xh, .int .u64 xl] 24)) (.cells #[.bool yb, .int .u64 yh, .int .u64 yl] 24)) = W0
  have base := Lib.hid (show W0.cell? ⟨w.heap.size, 0, none⟩ = some (.bool xb) ∧ W0.cell? ⟨w.heap.size, 1, none⟩ = some (.int .u64 xh) ∧ W0.cell? ⟨w.heap.size, 2, none⟩ = some (.int .u64 xl) ∧ W0.cell? ⟨w.heap.size + 1, 0, none⟩ = some (.bool yb) ∧ W0.cell? ⟨w.heap.size + 1, 1, none⟩ = some (.int .u64 yh) ∧ W0.cell? ⟨w.heap.size + 1, 2, none⟩ = some (.int .u64 yl) from by subst hW; simp [go_sem])
  have kw : Kept w W0 := by subst hW; exact (by (repeat (first | with_reducible exact Kept.refl _ | with_reducible apply Kept.drew | with_reducible apply Kept.alloc | ((with_reducible apply Kept.set); focus (simp <;> omega)) | ((with_reducible apply Kept.via); focus with_reducible assumption))))
  have zw : w.heap.size + 2 ≤ W0.heap.size := by subst hW; simp
  clear hW
  have H_x := Lib.hid (show W0.cell? ⟨w.heap.size, 0, none⟩ = some (.bool xb) ∧ W0.cell? ⟨w.heap.size, 1, none⟩ = some (.int .u64 xh) ∧ W0.cell? ⟨w.heap.size, 2, none⟩ = some (.int .u64 xl) from (Kept.all6 (Kept.refl _) base).imp id fun h => h.imp id fun h => h.1)
  have H_y := Lib.hid (Kept.all6 (Kept.refl _) base).2.2.2
  clear base
  generalize w.heap.size + 1 = g_y at *
  generalize w.heap.size = g_x at *
  go_wp2_with fail
  refine (awake02 _).mono ?_
  rintro e w1 ⟨rfl, k1⟩
  obtain ⟨c_x0, c_x1, c_x2⟩ := Kept.all3 (show Kept W0 w1 from (by (repeat (first | with_reducible exact Kept.refl _ | with_reducible apply Kept.drew | with_reducible apply Kept.alloc | ((with_reducible apply Kept.set); focus (simp <;> omega)) | ((with_reducible apply Kept.via); focus with_reducible assumption))))) H_x
  obtain ⟨c_y0, c_y1, c_y2⟩ := Kept.all3 (show Kept W0 w1 from (by (repeat (first | with_reducible exact Kept.refl _ | with_reducible apply Kept.drew | with_reducible apply Kept.alloc | ((with_reducible apply Kept.set); focus (simp <;> omega)) | ((with_reducible apply Kept.via); focus with_reducible assumption))))) H_y
  go_wp2_with fail
  refine (A1'.out _).mono ?_
  rintro e w2 ⟨rfl, k2⟩
  clear c_x0 c_x1 c_x2 c_y0 c_y1 c_y2
  go_upto_region 3 with fail
  generalize hW : World.alloc w2 (.cells #[.bool sb, .int .u64 sh, .int .u64 sl] 24) = W_s
  have K_s : Kept w2 W_s := by subst hW; exact (Kept.refl _).alloc _ _
  have H_s := Lib.hid (show W_s.cell? ⟨w2.heap.size, 0, none⟩ = some (.bool sb) ∧ W_s.cell? ⟨w2.heap.size, 1, none⟩ = some (.int .u64 sh) ∧ W_s.cell? ⟨w2.heap.size, 2, none⟩ = some (.int .u64 sl) from by subst hW; simp [go_sem])
  clear hW
  generalize w2.heap.size = g_s at *
  obtain ⟨c_x0, c_x1, c_x2⟩ := Kept.all3 (show Kept W0 W_s from (by (repeat (first | with_reducible exact Kept.refl _ | with_reducible apply Kept.drew | with_reducible apply Kept.alloc | ((with_reducible apply Kept.set); focus (simp <;> omega)) | ((with_reducible apply Kept.via); focus with_reducible assumption))))) H_x
  obtain ⟨c_y0, c_y1, c_y2⟩ := Kept.all3 (show Kept W0 W_s from (by (repeat (first | with_reducible exact Kept.refl _ | with_reducible apply Kept.drew | with_reducible apply Kept.alloc | ((with_reducible apply Kept.set); focus (simp <;> omega)) | ((with_reducible apply Kept.via); focus with_reducible assumption))))) H_y
  go_wp2_with fail
  refine (A2'.out _).mono ?_
  rintro e w3 ⟨rfl, k3⟩
  clear c_x0 c_x1 c_x2 c_y0 c_y1 c_y2
  go_upto_region 4 with fail
  generalize hW : World.alloc w3 (.cells #[.bool sb, .int .u64 sh, .int .u64 sl] 24) = W_t
  have K_t : Kept w3 W_t := by subst hW; exact (Kept.refl _).alloc _ _
  have H_t := Lib.hid (show W_t.cell? ⟨w3.heap.size, 0, none⟩ = some (.bool sb) ∧ W_t.cell? ⟨w3.heap.size, 1, none⟩ = some (.int .u64 sh) ∧ W_t.cell? ⟨w3.heap.size, 2, none⟩ = some (.int .u64 sl) from by subst hW; simp [go_sem])
  clear hW
  generalize w3.heap.size = g_t at *
  go_upto_region 4 with fail
  have base_d := Lib.hid (show W_t.cell? ⟨g_s, 0, none⟩ = some (.bool sb) ∧ W_t.cell? ⟨g_s, 1, none⟩ = some (.int .u64 sh) ∧ W_t.cell? ⟨g_s, 2, none⟩ = some (.int .u64 sl) ∧ W_t.cell? ⟨g_y, 0, none⟩ = some (.bool yb) ∧ W_t.cell? ⟨g_y, 1, none⟩ = some (.int .u64 yh) ∧ W_t.cell? ⟨g_y, 2, none⟩ = some (.int .u64 yl) from by
    obtain ⟨s0, s1, s2⟩ := Kept.all3 (show Kept W_s W_t from (by (repeat (first | with_reducible exact Kept.refl _ | with_reducible apply Kept.drew | with_reducible apply Kept.alloc | ((with_reducible apply Kept.set); focus (simp <;> omega)) | ((with_reducible apply Kept.via); focus with_reducible assumption))))) H_s
    obtain ⟨y0, y1, y2⟩ := Kept.all3 (show Kept W0 W_t from (by (repeat (first | with_reducible exact Kept.refl _ | with_reducible apply Kept.drew | with_reducible apply Kept.alloc | ((with_reducible apply Kept.set); focus (simp <;> omega)) | ((with_reducible apply Kept.via); focus with_reducible assumption))))) H_y
    exact ⟨s0, s1, s2, y0, y1, y2⟩)
  go_cut [10, 11] (fun s10 s11 wx => ∃ g : Nat, s10 = .pointer (some ⟨g, 0, none⟩) ∧ s11 = .int .i64 0 ∧ wx.cell? ⟨g, 0, none⟩ = some (.bool db) ∧ wx.cell? ⟨g, 1, none⟩ = some (.int .u64 dh) ∧ wx.cell? ⟨g, 2, none⟩ = some (.int .u64 dl) ∧ Kept W_t wx)
  case first =>
    go_region_held3 (fun w' => w'.cell? ⟨g_s, 0, none⟩ = some (.bool sb) ∧ w'.cell? ⟨g_s, 1, none⟩ = some (.int .u64 sh) ∧ w'.cell? ⟨g_s, 2, none⟩ = some (.int .u64 sl) ∧ w'.cell? ⟨g_y, 0, none⟩ = some (.bool yb) ∧ w'.cell? ⟨g_y, 1, none⟩ = some (.int .u64 yh) ∧ w'.cell? ⟨g_y, 2, none⟩ = some (.int .u64 yl))
      ((first | (refine Kept.all6 ?_ base_d; focus ((repeat (first | with_reducible exact Kept.refl _ | with_reducible apply Kept.drew | with_reducible apply Kept.alloc | ((with_reducible apply Kept.set); focus (simp <;> omega)) | ((with_reducible apply Kept.via); focus with_reducible assumption))); done)) | (refine far6 (Kept.all6 (by (repeat (first | with_reducible exact Kept.refl _ | with_reducible apply Kept.drew | with_reducible apply Kept.alloc | ((with_reducible apply Kept.set); focus (simp <;> omega)) | ((with_reducible apply Kept.via); focus with_reducible assumption)))) base_d) ?_; focus ((repeat' apply And.intro) <;> (simp <;> omega)))))
      (first
        | (go_at_call 20; refine (N1'.out _).mono ?_; rintro e v1 ⟨rfl, i1⟩; (try (first | (with_reducible have nr := Room3.newD i1) | (with_reducible have nr := Room3.new i1) | (with_reducible have nr := Room3.kept nr i1))); have y1 := Kept.below i1; (try simp at y1))
        | (go_at_call 10; refine (A3'.out _).mono ?_; rintro e v2 ⟨rfl, i2⟩; (try (first | (with_reducible have nr := Room3.newD i2) | (with_reducible have nr := Room3.new i2) | (with_reducible have nr := Room3.kept nr i2))); have y2 := Kept.below i2; (try simp at y2); (try (obtain ⟨nx, ny, nz, na1, na2, na3, nb1, nb2, nb3⟩ := nr))))
    all_goals
      go_wp2_with fail
      go_meet
      exact ⟨_, rfl, rfl, by simp [*, go_sem], by simp [*, go_sem], by simp [*, go_sem], (by (repeat (first | with_reducible exact Kept.refl _ | with_reducible apply Kept.drew | with_reducible apply Kept.alloc | ((with_reducible apply Kept.set); focus (simp <;> omega)) | ((with_reducible apply Kept.via); focus with_reducible assumption))))⟩
  obtain ⟨g_d, rfl, rfl, e0, e1, e2, K_d⟩ := hcut
  generalize wc = W_d at *
  have H_d := Lib.hid (And.intro e0 (And.intro e1 e2))
  clear e0 e1 e2 base_d
  go_upto_region 5 with fail
  have base_z := Lib.hid (show W_d.cell? ⟨g_x, 0, none⟩ = some (.bool xb) ∧ W_d.cell? ⟨g_x, 1, none⟩ = some (.int .u64 xh) ∧ W_d.cell? ⟨g_x, 2, none⟩ = some (.int .u64 xl) from by
    obtain ⟨x0, x1, x2⟩ := Kept.all3 (show Kept W0 W_d from (by (repeat (first | with_reducible exact Kept.refl _ | with_reducible apply Kept.drew | with_reducible apply Kept.alloc | ((with_reducible apply Kept.set); focus (simp <;> omega)) | ((with_reducible apply Kept.via); focus with_reducible assumption))))) H_x
    exact ⟨x0, x1, x2⟩)
  go_cut [12, 13] (fun s12 s13 wx => ∃ g : Nat, s12 = .pointer (some ⟨g, 0, none⟩) ∧ s13 = .int .i64 0 ∧ wx.cell? ⟨g, 0, none⟩ = some (.bool false) ∧ wx.cell? ⟨g, 1, none⟩ = some (.int .u64 0) ∧ wx.cell? ⟨g, 2, none⟩ = some (.int .u64 0) ∧ Kept W_d wx)
  case first =>
    go_region_held3 (fun w' => w'.cell? ⟨g_x, 0, none⟩ = some (.bool xb) ∧ w'.cell? ⟨g_x, 1, none⟩ = some (.int .u64 xh) ∧ w'.cell? ⟨g_x, 2, none⟩ = some (.int .u64 xl))
      ((first | (refine Kept.all3 ?_ base_z; focus ((repeat (first | with_reducible exact Kept.refl _ | with_reducible apply Kept.drew | with_reducible apply Kept.alloc | ((with_reducible apply Kept.set); focus (simp <;> omega)) | ((with_reducible apply Kept.via); focus with_reducible assumption))); done)) | (refine far3 (Kept.all3 (by (repeat (first | with_reducible exact Kept.refl _ | with_reducible apply Kept.drew | with_reducible apply Kept.alloc | ((with_reducible apply Kept.set); focus (simp <;> omega)) | ((with_reducible apply Kept.via); focus with_reducible assumption)))) base_z) ?_; focus ((repeat' apply And.intro) <;> (simp <;> omega)))))
      (first
        | (go_at_call 20; refine (N2'.out _).mono ?_; rintro e v1 ⟨rfl, i1⟩; (try (first | (with_reducible have nr := Room3.newD i1) | (with_reducible have nr := Room3.new i1) | (with_reducible have nr := Room3.kept nr i1))); have y1 := Kept.below i1; (try simp at y1))
        | (go_at_call 10; refine (A4'.out _).mono ?_; rintro e v2 ⟨rfl, i2⟩; (try (first | (with_reducible have nr := Room3.newD i2) | (with_reducible have nr := Room3.new i2) | (with_reducible have nr := Room3.kept nr i2))); have y2 := Kept.below i2; (try simp at y2); (try (obtain ⟨nx, ny, nz, na1, na2, na3, nb1, nb2, nb3⟩ := nr))))
    all_goals
      go_wp2_with fail
      go_meet
      exact ⟨_, rfl, rfl, by simp [*, go_sem], by simp [*, go_sem], by simp [*, go_sem], (by (repeat (first | with_reducible exact Kept.refl _ | with_reducible apply Kept.drew | with_reducible apply Kept.alloc | ((with_reducible apply Kept.set); focus (simp <;> omega)) | ((with_reducible apply Kept.via); focus with_reducible assumption))))⟩
  obtain ⟨g_z, rfl, rfl, e0, e1, e2, K_z⟩ := hcut
  generalize wc = W_z at *
  have H_z := Lib.hid (And.intro e0 (And.intro e1 e2))
  clear e0 e1 e2 base_z
  go_upto_region 6 with fail
  have B_x := Lib.hid (Kept.all3 (show Kept W0 W_z from (by (repeat (first | with_reducible exact Kept.refl _ | with_reducible apply Kept.drew | with_reducible apply Kept.alloc | ((with_reducible apply Kept.set); focus (simp <;> omega)) | ((with_reducible apply Kept.via); focus with_reducible assumption))))) H_x)
  have B_s := Lib.hid (Kept.all3 (show Kept W_s W_z from (by (repeat (first | with_reducible exact Kept.refl _ | with_reducible apply Kept.drew | with_reducible apply Kept.alloc | ((with_reducible apply Kept.set); focus (simp <;> omega)) | ((with_reducible apply Kept.via); focus with_reducible assumption))))) H_s)
  have B_t := Lib.hid (Kept.all3 (show Kept W_t W_z from (by (repeat (first | with_reducible exact Kept.refl _ | with_reducible apply Kept.drew | with_reducible apply Kept.alloc | ((with_reducible apply Kept.set); focus (simp <;> omega)) | ((with_reducible apply Kept.via); focus with_reducible assumption))))) H_t)
  have B_d := Lib.hid (Kept.all3 (show Kept W_d W_z from (by (repeat (first | with_reducible exact Kept.refl _ | with_reducible apply Kept.drew | with_reducible apply Kept.alloc | ((with_reducible apply Kept.set); focus (simp <;> omega)) | ((with_reducible apply Kept.via); focus with_reducible assumption))))) H_d)
  have B_z := Lib.hid (Kept.all3 (show Kept W_z W_z from (by (repeat (first | with_reducible exact Kept.refl _ | with_reducible apply Kept.drew | with_reducible apply Kept.alloc | ((with_reducible apply Kept.set); focus (simp <;> omega)) | ((with_reducible apply Kept.via); focus with_reducible assumption))))) H_z)
  have kall : Kept w W_z := (by (repeat (first | with_reducible exact Kept.refl _ | with_reducible apply Kept.drew | with_reducible apply Kept.alloc | ((with_reducible apply Kept.set); focus (simp <;> omega)) | ((with_reducible apply Kept.via); focus with_reducible assumption))))
  obtain ⟨q_x0, q_x1, q_x2⟩ := kw3 B_x
  obtain ⟨q_s0, q_s1, q_s2⟩ := kw3 B_s
  obtain ⟨q_t0, q_t1, q_t2⟩ := kw3 B_t
  obtain ⟨q_d0, q_d1, q_d2⟩ := kw3 B_d
  obtain ⟨q_z0, q_z1, q_z2⟩ := kw3 B_z
  clear B_x B_s B_t B_d B_z
  refine wp_region_kept (by kernel_rfl) (by as_aux_lemma => kernel_rfl) ?_
  repeat (go_big_quiet_step (first | (with_reducible exact kept_of (C1'.out _)) | (with_reducible exact kept_of (C2'.out _)) | (with_reducible exact kept_of (N2'.out _)) | (with_reducible exact kept_of (N3'.out _))))
  refine wpQuiet_nil ?_
  intro _ hw'
  obtain ⟨⟨wq, kq⟩, hw''⟩ := hw'
  subst hw''
  go_wp2
  go_ret
  exact ⟨rfl, kall.trans kq⟩
set_option maxRecDepth 100000 in
set_option maxHeartbeats 1600000 in
theorem back_over (xb yb nxb nyb mxb db : Bool) (xh xl yh yl dh dl : Int) (w : World) (A1 : ∀ w, Calls Try.prog 10 #[.agg #[.bool xb, .int .u64 xh, .int .u64 xl], .agg #[.bool yb, .int .u64 yh, .int .u64 yl]] w fun e w' => e = .returned (.tuple #[.agg #[.bool false, .int .u64 0, .int .u64 0], .int .i64 10]) ∧ Kept w w') (A2 : ∀ w, Calls Try.prog 10 #[.agg #[.bool yb, .int .u64 yh, .int .u64 yl], .agg #[.bool xb, .int .u64 xh, .int .u64 xl]] w fun e w' => e = .returned (.tuple #[.agg #[.bool false, .int .u64 0, .int .u64 0], .int .i64 10]) ∧ Kept w w') (N1 : ∀ w, Calls Try.prog 20 #[.agg #[.bool yb, .int .u64 yh, .int .u64 yl]] w fun e w' => e = .returned (.agg #[.bool nyb, .int .u64 yh, .int .u64 yl]) ∧ Kept w w') (A3 : ∀ w, Calls Try.prog 10 #[.agg #[.bool false, .int .u64 0, .int .u64 0], .agg #[.bool nyb, .int .u64 yh, .int .u64 yl]] w fun e w' => e = .returned (.tuple #[.agg #[.bool db, .int .u64 dh, .int .u64 dl], .int .i64 0]) ∧ Kept w w') (N2 : ∀ w, Calls Try.prog 20 #[.agg #[.bool xb, .int .u64 xh, .int .u64 xl]] w fun e w' => e = .returned (.agg #[.bool nxb, .int .u64 xh, .int .u64 xl]) ∧ Kept w w') (A4 : ∀ w, Calls Try.prog 10 #[.agg #[.bool xb, .int .u64 xh, .int .u64 xl], .agg #[.bool nxb, .int .u64 xh, .int .u64 xl]] w fun e w' => e = .returned (.tuple #[.agg #[.bool false, .int .u64 0, .int .u64 0], .int .i64 0]) ∧ Kept w w') (N3 : ∀ w, Calls Try.prog 20 #[.agg #[.bool nxb, .int .u64 xh, .int .u64 xl]] w fun e w' => e = .returned (.agg #[.bool mxb, .int .u64 xh, .int .u64 xl]) ∧ Kept w w') (C2 : ∀ w, Calls Try.prog 22 #[.agg #[.bool mxb, .int .u64 xh, .int .u64 xl], .agg #[.bool xb, .int .u64 xh, .int .u64 xl]] w fun e w' => e = .returned (.int .i64 0) ∧ Kept w w') :
    Calls Try.prog 4 #[.agg #[.bool xb, .int .u64 xh, .int .u64 xl], .agg #[.bool yb, .int .u64 yh, .int .u64 yl]] w fun e w' => e = .returned (.bool true) ∧ Kept w w' := by
  have A1' := Lib.hid A1
  have A2' := Lib.hid A2
  have N1' := Lib.hid N1
  have A3' := Lib.hid A3
  have N2' := Lib.hid N2
  have A4' := Lib.hid A4
  have N3' := Lib.hid N3
  have C2' := Lib.hid C2
  clear A1 A2 N1 A3 N2 A4 N3 C2
  go_enter Try.func4, Try.ntmps4
  go_upto_region 1 with fail
  generalize hW : (World.alloc (World.alloc w (.cells #[.bool xb, .int .u64 xh, .int .u64 xl] 24)) (.cells #[.bool yb, .int .u64 yh, .int .u64 yl] 24)) = W0
  have base := Lib.hid (show W0.cell? ⟨w.heap.size, 0, none⟩ = some (.bool xb) ∧ W0.cell? ⟨w.heap.size, 1, none⟩ = some (.int .u64 xh) ∧ W0.cell? ⟨w.heap.size, 2, none⟩ = some (.int .u64 xl) ∧ W0.cell? ⟨w.heap.size + 1, 0, none⟩ = some (.bool yb) ∧ W0.cell? ⟨w.heap.size + 1, 1, none⟩ = some (.int .u64 yh) ∧ W0.cell? ⟨w.heap.size + 1, 2, none⟩ = some (.int .u64 yl) from by subst hW; simp [go_sem])
  have kw : Kept w W0 := by subst hW; exact (by (repeat (first | with_reducible exact Kept.refl _ | with_reducible apply Kept.drew | with_reducible apply Kept.alloc | ((with_reducible apply Kept.set); focus (simp <;> omega)) | ((with_reducible apply Kept.via); focus with_reducible assumption))))
  have zw : w.heap.size + 2 ≤ W0.heap.size := by subst hW; simp
  clear hW
  have H_x := Lib.hid (show W0.cell? ⟨w.heap.size, 0, none⟩ = some (.bool xb) ∧ W0.cell? ⟨w.heap.size, 1, none⟩ = some (.int .u64 xh) ∧ W0.cell? ⟨w.heap.size, 2, none⟩ = some (.int .u64 xl) from (Kept.all6 (Kept.refl _) base).imp id fun h => h.imp id fun h => h.1)
  have H_y := Lib.hid (Kept.all6 (Kept.refl _) base).2.2.2
  clear base
  generalize w.heap.size + 1 = g_y at *
  generalize w.heap.size = g_x at *
  go_wp2_with fail
  refine (awake02 _).mono ?_
  rintro e w1 ⟨rfl, k1⟩
  obtain ⟨c_x0, c_x1, c_x2⟩ := Kept.all3 (show Kept W0 w1 from (by (repeat (first | with_reducible exact Kept.refl _ | with_reducible apply Kept.drew | with_reducible apply Kept.alloc | ((with_reducible apply Kept.set); focus (simp <;> omega)) | ((with_reducible apply Kept.via); focus with_reducible assumption))))) H_x
  obtain ⟨c_y0, c_y1, c_y2⟩ := Kept.all3 (show Kept W0 w1 from (by (repeat (first | with_reducible exact Kept.refl _ | with_reducible apply Kept.drew | with_reducible apply Kept.alloc | ((with_reducible apply Kept.set); focus (simp <;> omega)) | ((with_reducible apply Kept.via); focus with_reducible assumption))))) H_y
  go_wp2_with fail
  refine (A1'.out _).mono ?_
  rintro e w2 ⟨rfl, k2⟩
  clear c_x0 c_x1 c_x2 c_y0 c_y1 c_y2
  go_upto_region 3 with fail
  generalize hW : World.alloc w2 (.cells #[.bool false, .int .u64 0, .int .u64 0] 24) = W_s
  have K_s : Kept w2 W_s := by subst hW; exact (Kept.refl _).alloc _ _
  have H_s := Lib.hid (show W_s.cell? ⟨w2.heap.size, 0, none⟩ = some (.bool false) ∧ W_s.cell? ⟨w2.heap.size, 1, none⟩ = some (.int .u64 0) ∧ W_s.cell? ⟨w2.heap.size, 2, none⟩ = some (.int .u64 0) from by subst hW; simp [go_sem])
  clear hW
  generalize w2.heap.size = g_s at *
  obtain ⟨c_x0, c_x1, c_x2⟩ := Kept.all3 (show Kept W0 W_s from (by (repeat (first | with_reducible exact Kept.refl _ | with_reducible apply Kept.drew | with_reducible apply Kept.alloc | ((with_reducible apply Kept.set); focus (simp <;> omega)) | ((with_reducible apply Kept.via); focus with_reducible assumption))))) H_x
  obtain ⟨c_y0, c_y1, c_y2⟩ := Kept.all3 (show Kept W0 W_s from (by (repeat (first | with_reducible exact Kept.refl _ | with_reducible apply Kept.drew | with_reducible apply Kept.alloc | ((with_reducible apply Kept.set); focus (simp <;> omega)) | ((with_reducible apply Kept.via); focus with_reducible assumption))))) H_y
  go_wp2_with fail
  refine (A2'.out _).mono ?_
  rintro e w3 ⟨rfl, k3⟩
  clear c_x0 c_x1 c_x2 c_y0 c_y1 c_y2
  go_upto_region 4 with fail
  generalize hW : World.alloc w3 (.cells #[.bool false, .int .u64 0, .int .u64 0] 24) = W_t
  have K_t : Kept w3 W_t := by subst hW; exact (Kept.refl _).alloc _ _
  have H_t := Lib.hid (show W_t.cell? ⟨w3.heap.size, 0, none⟩ = some (.bool false) ∧ W_t.cell? ⟨w3.heap.size, 1, none⟩ = some (.int .u64 0) ∧ W_t.cell? ⟨w3.heap.size, 2, none⟩ = some (.int .u64 0) from by subst hW; simp [go_sem])
  clear hW
  generalize w3.heap.size = g_t at *
  go_upto_region 4 with fail
  have base_d := Lib.hid (show W_t.cell? ⟨g_s, 0, none⟩ = some (.bool false) ∧ W_t.cell? ⟨g_s, 1, none⟩ = some (.int .u64 0) ∧ W_t.cell? ⟨g_s, 2, none⟩ = some (.int .u64 0) ∧ W_t.cell? ⟨g_y, 0, none⟩ = some (.bool yb) ∧ W_t.cell? ⟨g_y, 1, none⟩ = some (.int .u64 yh) ∧ W_t.cell? ⟨g_y, 2, none⟩ = some (.int .u64 yl) from by
    obtain ⟨s0, s1, s2⟩ := Kept.all3 (show Kept W_s W_t from (by (repeat (first | with_reducible exact Kept.refl _ | with_reducible apply Kept.drew | with_reducible apply Kept.alloc | ((with_reducible apply Kept.set); focus (simp <;> omega)) | ((with_reducible apply Kept.via); focus with_reducible assumption))))) H_s
    obtain ⟨y0, y1, y2⟩ := Kept.all3 (show Kept W0 W_t from (by (repeat (first | with_reducible exact Kept.refl _ | with_reducible apply Kept.drew | with_reducible apply Kept.alloc | ((with_reducible apply Kept.set); focus (simp <;> omega)) | ((with_reducible apply Kept.via); focus with_reducible assumption))))) H_y
    exact ⟨s0, s1, s2, y0, y1, y2⟩)
  go_cut [10, 11] (fun s10 s11 wx => ∃ g : Nat, s10 = .pointer (some ⟨g, 0, none⟩) ∧ s11 = .int .i64 0 ∧ wx.cell? ⟨g, 0, none⟩ = some (.bool db) ∧ wx.cell? ⟨g, 1, none⟩ = some (.int .u64 dh) ∧ wx.cell? ⟨g, 2, none⟩ = some (.int .u64 dl) ∧ Kept W_t wx)
  case first =>
    go_region_held3 (fun w' => w'.cell? ⟨g_s, 0, none⟩ = some (.bool false) ∧ w'.cell? ⟨g_s, 1, none⟩ = some (.int .u64 0) ∧ w'.cell? ⟨g_s, 2, none⟩ = some (.int .u64 0) ∧ w'.cell? ⟨g_y, 0, none⟩ = some (.bool yb) ∧ w'.cell? ⟨g_y, 1, none⟩ = some (.int .u64 yh) ∧ w'.cell? ⟨g_y, 2, none⟩ = some (.int .u64 yl))
      ((first | (refine Kept.all6 ?_ base_d; focus ((repeat (first | with_reducible exact Kept.refl _ | with_reducible apply Kept.drew | with_reducible apply Kept.alloc | ((with_reducible apply Kept.set); focus (simp <;> omega)) | ((with_reducible apply Kept.via); focus with_reducible assumption))); done)) | (refine far6 (Kept.all6 (by (repeat (first | with_reducible exact Kept.refl _ | with_reducible apply Kept.drew | with_reducible apply Kept.alloc | ((with_reducible apply Kept.set); focus (simp <;> omega)) | ((with_reducible apply Kept.via); focus with_reducible assumption)))) base_d) ?_; focus ((repeat' apply And.intro) <;> (simp <;> omega)))))
      (first
        | (go_at_call 20; refine (N1'.out _).mono ?_; rintro e v1 ⟨rfl, i1⟩; (try (first | (with_reducible have nr := Room3.newD i1) | (with_reducible have nr := Room3.new i1) | (with_reducible have nr := Room3.kept nr i1))); have y1 := Kept.below i1; (try simp at y1))
        | (go_at_call 10; refine (A3'.out _).mono ?_; rintro e v2 ⟨rfl, i2⟩; (try (first | (with_reducible have nr := Room3.newD i2) | (with_reducible have nr := Room3.new i2) | (with_reducible have nr := Room3.kept nr i2))); have y2 := Kept.below i2; (try simp at y2); (try (obtain ⟨nx, ny, nz, na1, na2, na3, nb1, nb2, nb3⟩ := nr))))
    all_goals
      go_wp2_with fail
      go_meet
      exact ⟨_, rfl, rfl, by simp [*, go_sem], by simp [*, go_sem], by simp [*, go_sem], (by (repeat (first | with_reducible exact Kept.refl _ | with_reducible apply Kept.drew | with_reducible apply Kept.alloc | ((with_reducible apply Kept.set); focus (simp <;> omega)) | ((with_reducible apply Kept.via); focus with_reducible assumption))))⟩
  obtain ⟨g_d, rfl, rfl, e0, e1, e2, K_d⟩ := hcut
  generalize wc = W_d at *
  have H_d := Lib.hid (And.intro e0 (And.intro e1 e2))
  clear e0 e1 e2 base_d
  go_upto_region 5 with fail
  have base_z := Lib.hid (show W_d.cell? ⟨g_x, 0, none⟩ = some (.bool xb) ∧ W_d.cell? ⟨g_x, 1, none⟩ = some (.int .u64 xh) ∧ W_d.cell? ⟨g_x, 2, none⟩ = some (.int .u64 xl) from by
    obtain ⟨x0, x1, x2⟩ := Kept.all3 (show Kept W0 W_d from (by (repeat (first | with_reducible exact Kept.refl _ | with_reducible apply Kept.drew | with_reducible apply Kept.alloc | ((with_reducible apply Kept.set); focus (simp <;> omega)) | ((with_reducible apply Kept.via); focus with_reducible assumption))))) H_x
    exact ⟨x0, x1, x2⟩)
  go_cut [12, 13] (fun s12 s13 wx => ∃ g : Nat, s12 = .pointer (some ⟨g, 0, none⟩) ∧ s13 = .int .i64 0 ∧ wx.cell? ⟨g, 0, none⟩ = some (.bool false) ∧ wx.cell? ⟨g, 1, none⟩ = some (.int .u64 0) ∧ wx.cell? ⟨g, 2, none⟩ = some (.int .u64 0) ∧ Kept W_d wx)
  case first =>
    go_region_held3 (fun w' => w'.cell? ⟨g_x, 0, none⟩ = some (.bool xb) ∧ w'.cell? ⟨g_x, 1, none⟩ = some (.int .u64 xh) ∧ w'.cell? ⟨g_x, 2, none⟩ = some (.int .u64 xl))
      ((first | (refine Kept.all3 ?_ base_z; focus ((repeat (first | with_reducible exact Kept.refl _ | with_reducible apply Kept.drew | with_reducible apply Kept.alloc | ((with_reducible apply Kept.set); focus (simp <;> omega)) | ((with_reducible apply Kept.via); focus with_reducible assumption))); done)) | (refine far3 (Kept.all3 (by (repeat (first | with_reducible exact Kept.refl _ | with_reducible apply Kept.drew | with_reducible apply Kept.alloc | ((with_reducible apply Kept.set); focus (simp <;> omega)) | ((with_reducible apply Kept.via); focus with_reducible assumption)))) base_z) ?_; focus ((repeat' apply And.intro) <;> (simp <;> omega)))))
      (first
        | (go_at_call 20; refine (N2'.out _).mono ?_; rintro e v1 ⟨rfl, i1⟩; (try (first | (with_reducible have nr := Room3.newD i1) | (with_reducible have nr := Room3.new i1) | (with_reducible have nr := Room3.kept nr i1))); have y1 := Kept.below i1; (try simp at y1))
        | (go_at_call 10; refine (A4'.out _).mono ?_; rintro e v2 ⟨rfl, i2⟩; (try (first | (with_reducible have nr := Room3.newD i2) | (with_reducible have nr := Room3.new i2) | (with_reducible have nr := Room3.kept nr i2))); have y2 := Kept.below i2; (try simp at y2); (try (obtain ⟨nx, ny, nz, na1, na2, na3, nb1, nb2, nb3⟩ := nr))))
    all_goals
      go_wp2_with fail
      go_meet
      exact ⟨_, rfl, rfl, by simp [*, go_sem], by simp [*, go_sem], by simp [*, go_sem], (by (repeat (first | with_reducible exact Kept.refl _ | with_reducible apply Kept.drew | with_reducible apply Kept.alloc | ((with_reducible apply Kept.set); focus (simp <;> omega)) | ((with_reducible apply Kept.via); focus with_reducible assumption))))⟩
  obtain ⟨g_z, rfl, rfl, e0, e1, e2, K_z⟩ := hcut
  generalize wc = W_z at *
  have H_z := Lib.hid (And.intro e0 (And.intro e1 e2))
  clear e0 e1 e2 base_z
  go_upto_region 6 with fail
  have B_x := Lib.hid (Kept.all3 (show Kept W0 W_z from (by (repeat (first | with_reducible exact Kept.refl _ | with_reducible apply Kept.drew | with_reducible apply Kept.alloc | ((with_reducible apply Kept.set); focus (simp <;> omega)) | ((with_reducible apply Kept.via); focus with_reducible assumption))))) H_x)
  have B_s := Lib.hid (Kept.all3 (show Kept W_s W_z from (by (repeat (first | with_reducible exact Kept.refl _ | with_reducible apply Kept.drew | with_reducible apply Kept.alloc | ((with_reducible apply Kept.set); focus (simp <;> omega)) | ((with_reducible apply Kept.via); focus with_reducible assumption))))) H_s)
  have B_t := Lib.hid (Kept.all3 (show Kept W_t W_z from (by (repeat (first | with_reducible exact Kept.refl _ | with_reducible apply Kept.drew | with_reducible apply Kept.alloc | ((with_reducible apply Kept.set); focus (simp <;> omega)) | ((with_reducible apply Kept.via); focus with_reducible assumption))))) H_t)
  have B_d := Lib.hid (Kept.all3 (show Kept W_d W_z from (by (repeat (first | with_reducible exact Kept.refl _ | with_reducible apply Kept.drew | with_reducible apply Kept.alloc | ((with_reducible apply Kept.set); focus (simp <;> omega)) | ((with_reducible apply Kept.via); focus with_reducible assumption))))) H_d)
  have B_z := Lib.hid (Kept.all3 (show Kept W_z W_z from (by (repeat (first | with_reducible exact Kept.refl _ | with_reducible apply Kept.drew | with_reducible apply Kept.alloc | ((with_reducible apply Kept.set); focus (simp <;> omega)) | ((with_reducible apply Kept.via); focus with_reducible assumption))))) H_z)
  have kall : Kept w W_z := (by (repeat (first | with_reducible exact Kept.refl _ | with_reducible apply Kept.drew | with_reducible apply Kept.alloc | ((with_reducible apply Kept.set); focus (simp <;> omega)) | ((with_reducible apply Kept.via); focus with_reducible assumption))))
  obtain ⟨q_x0, q_x1, q_x2⟩ := kw3 B_x
  obtain ⟨q_s0, q_s1, q_s2⟩ := kw3 B_s
  obtain ⟨q_t0, q_t1, q_t2⟩ := kw3 B_t
  obtain ⟨q_d0, q_d1, q_d2⟩ := kw3 B_d
  obtain ⟨q_z0, q_z1, q_z2⟩ := kw3 B_z
  clear B_x B_s B_t B_d B_z
  refine wp_region_kept (by kernel_rfl) (by as_aux_lemma => kernel_rfl) ?_
  repeat (go_big_quiet_step (first | (with_reducible exact kept_of (C2'.out _)) | (with_reducible exact kept_of (N2'.out _)) | (with_reducible exact kept_of (N3'.out _))))
  refine wpQuiet_nil ?_
  intro _ hw'
  obtain ⟨⟨wq, kq⟩, hw''⟩ := hw'
  subst hw''
  go_wp2
  go_ret
  exact ⟨rfl, kall.trans kq⟩

theorem bigBack_walk (xb yb : Bool) (xh xl yh yl : Int) (w : World) (h1 : Word xh) (h2 : Word xl) (h3 : Word yh) (h4 : Word yl) :
    Calls Try.prog 4 #[.agg #[.bool xb, .int .u64 xh, .int .u64 xl], .agg #[.bool yb, .int .u64 yh, .int .u64 yl]] w fun e w' => e = .returned (.bool true) ∧ Kept w w' := by
  obtain ⟨nyb, rny⟩ := Neg_rep (b1 := yb) h3 h4
  obtain ⟨nxb, rnx⟩ := Neg_rep (b1 := xb) h1 h2
  obtain ⟨mxb, rmx⟩ := Neg_rep (b1 := nxb) h1 h2
  have ny := rny.2.2.1
  have nx := rnx.2.2.1
  have mx := rmx.2.2.1
  have A4 := fun w => Add_ok (b1 := xb) (b2 := nxb) (b := false) (h := 0) (l := 0) h1 h2 h1 h2 ⟨word_zero, word_zero, by rw [nx, show numOf false 0 0 = 0 by decide]; omega, by rw [nx, show numOf xb xh xl + -numOf xb xh xl = 0 by omega]; decide⟩ w
  have C2 := fun w => Cmp_ok (b1 := mxb) (b2 := xb) h1 h2 h1 h2 w
  rw [mx, nx, Int.neg_neg, show cmpI (numOf xb xh xl) (numOf xb xh xl) = 0 by simp [cmpI]] at C2
  by_cases c : InBig (numOf xb xh xl + numOf yb yh yl)
  · obtain ⟨sb, sh, sl, rs⟩ := rep_ex _ c
    obtain ⟨s1, s2, s3, _⟩ := id rs
    have e : numOf sb sh sl + numOf nyb yh yl = numOf xb xh xl := by rw [s3, ny]; omega
    obtain ⟨db, dh, dl, rd⟩ := rep_ex (numOf xb xh xl) (numOf_in h1 h2)
    obtain ⟨d1, d2, d3, _⟩ := id rd
    have C1 := fun w => Cmp_ok (b1 := db) (b2 := xb) d1 d2 h1 h2 w
    rw [d3, show cmpI (numOf xb xh xl) (numOf xb xh xl) = 0 by simp [cmpI]] at C1
    exact back_in xb yb nxb nyb mxb db xh xl yh yl dh dl sb sh sl w (Add_ok h1 h2 h3 h4 rs) (Add_ok h3 h4 h1 h2 (by rw [Int.add_comm]; exact rs)) (Neg_ok rny) (Add_ok s1 s2 h3 h4 (by rw [e]; exact rd)) (Neg_ok rnx) A4 (Neg_ok rmx) C1 C2
  · obtain ⟨db, dh, dl, rd⟩ := rep_ex (numOf false 0 0 + numOf nyb yh yl) (by rw [show numOf false 0 0 = 0 by decide, Int.zero_add]; exact numOf_in h3 h4)
    exact back_over xb yb nxb nyb mxb db xh xl yh yl dh dl w (Add_no h1 h2 h3 h4 c) (Add_no h3 h4 h1 h2 (by rw [Int.add_comm]; exact c)) (Neg_ok rny) (Add_ok word_zero word_zero h3 h4 rd) (Neg_ok rnx) A4 (Neg_ok rmx) C2
end Go.Proofs.Ytahbijfmhdiafaa
