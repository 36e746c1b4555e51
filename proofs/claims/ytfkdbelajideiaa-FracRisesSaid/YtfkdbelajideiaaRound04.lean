/-
  Contracts of package frac: a part, rounded.
-/
import Derived.Test.YtfkdbelajideiaaFrac04
import Derived.Deep.RegionHeld3
import Derived.Deep.RegionWith
import Derived.Deep.DeepCutAuto
namespace Go.Proofs.Ytfkdbelajideiaa
open Go.RowKit Go.BigFrame

set_option maxRecDepth 100000 in
set_option maxHeartbeats 1600000 in
theorem rounded_floor (a b c left v er mh ml qh ql sh sl : Int) (mb qb sb up : Bool) (w : World) (c0 : 1 ≤ c) (c1 : c ≤ 9223372036854775807) (M1 : ∀ w, Calls Try.prog 37 #[.int .i64 a, .int .i64 b] w fun e w' => e = .returned (.agg #[.bool mb, .int .u64 mh, .int .u64 ml]) ∧ Kept w w') (D1 : ∀ w, Calls Try.prog 36 #[.agg #[.bool mb, .int .u64 mh, .int .u64 ml], .int .u64 c] w fun e w' => e = .returned (.tuple #[.agg #[.bool qb, .int .u64 qh, .int .u64 ql], .int .u64 left, .int .i64 0]) ∧ Kept w w') (U1 : ∀ v, Kept w v → Calls Try.prog 24 #[.int .u64 left] v fun e w' => e = .returned (.bool up) ∧ Kept v w') (E1 : (up = false ∧ ∀ w, Calls Try.prog 40 #[.agg #[.bool qb, .int .u64 qh, .int .u64 ql]] w fun e w' => e = .returned (.tuple #[.int .i64 v, .int .i64 er]) ∧ Kept w w') ∨ (up = true ∧ (∀ w, Calls Try.prog 39 #[.int .i64 1] w fun e w' => e = .returned (.agg #[.bool false, .int .u64 0, .int .u64 1]) ∧ Kept w w') ∧ (∀ w, Calls Try.prog 38 #[.agg #[.bool qb, .int .u64 qh, .int .u64 ql], .agg #[.bool false, .int .u64 0, .int .u64 1]] w fun e w' => e = .returned (.tuple #[.agg #[.bool sb, .int .u64 sh, .int .u64 sl], .int .i64 0]) ∧ Kept w w') ∧ ∀ w, Calls Try.prog 40 #[.agg #[.bool sb, .int .u64 sh, .int .u64 sl]] w fun e w' => e = .returned (.tuple #[.int .i64 v, .int .i64 er]) ∧ Kept w w')) :
    Calls Try.prog 25 #[.agg #[.int .i64 a, .int .i64 b, .int .i64 c, .func (Fn.func 24) #[] #[]]] w fun e w' => e = .returned (.tuple #[.int .i64 v, .int .i64 er]) ∧ Kept w w' := by
  have M1' := Lib.hid M1
  have D1' := Lib.hid D1
  have U1' := Lib.hid U1
  have E1' := Lib.hid E1
  clear M1 D1 U1 E1
  have hc : decide (c < 1) = false := by simp; omega
  have hw : IntKind.u64.wrap c = c := by rw [IntKind.wrap_u64]; omega
  go_enter Try.func25, Try.ntmps25
  go_upto_region 1 with fail
  generalize hW : (World.alloc w (.cells #[.int .i64 a, .int .i64 b, .int .i64 c, .func (Fn.func 24) #[] #[]] 41)) = W0
  have base := Lib.hid (show W0.cell? ⟨w.heap.size, 0, none⟩ = some (.int .i64 a) ∧ W0.cell? ⟨w.heap.size, 1, none⟩ = some (.int .i64 b) ∧ W0.cell? ⟨w.heap.size, 2, none⟩ = some (.int .i64 c) ∧ W0.cell? ⟨w.heap.size, 3, none⟩ = some (.func (Fn.func 24) #[] #[]) from by subst hW; simp [go_sem])
  have kw : Kept w W0 := by subst hW; exact (by (repeat (first | with_reducible exact Kept.refl _ | with_reducible apply Kept.drew | with_reducible apply Kept.alloc | ((with_reducible apply Kept.set); focus (simp <;> omega)) | ((with_reducible apply Kept.via); focus with_reducible assumption))))
  have zw : w.heap.size + 1 ≤ W0.heap.size := by subst hW; simp
  clear hW
  have H_p := base
  clear base
  generalize ep : w.heap.size = g_p at *
  obtain ⟨p0, p1, p2, p3⟩ := Kept.four (show Kept W0 W0 from (by (repeat (first | with_reducible exact Kept.refl _ | with_reducible apply Kept.drew | with_reducible apply Kept.alloc | ((with_reducible apply Kept.set); focus (simp <;> omega)) | ((with_reducible apply Kept.via); focus with_reducible assumption))))) H_p
  go_upto_region 3 with fail
  clear p0 p1 p2 p3
  go_cut [4, 5, 6] (fun s4 s5 s6 wx => ∃ g : Nat, s4 = .pointer (some ⟨g, 0, none⟩) ∧ s5 = .int .u64 left ∧ s6 = .int .i64 0 ∧ wx.cell? ⟨g, 0, none⟩ = some (.bool qb) ∧ wx.cell? ⟨g, 1, none⟩ = some (.int .u64 qh) ∧ wx.cell? ⟨g, 2, none⟩ = some (.int .u64 ql) ∧ Thaw3 wx g ∧ g_p < g ∧ Kept W0 wx)
  case first =>
    go_region_held3 (fun w' => w'.cell? ⟨g_p, 0, none⟩ = some (.int .i64 a) ∧ w'.cell? ⟨g_p, 1, none⟩ = some (.int .i64 b) ∧ w'.cell? ⟨g_p, 2, none⟩ = some (.int .i64 c) ∧ w'.cell? ⟨g_p, 3, none⟩ = some (.func (Fn.func 24) #[] #[]))
      ((first | (refine Kept.four ?_ H_p; focus ((repeat (first | with_reducible exact Kept.refl _ | with_reducible apply Kept.drew | with_reducible apply Kept.alloc | ((with_reducible apply Kept.set); focus (simp <;> omega)) | ((with_reducible apply Kept.via); focus with_reducible assumption))); done)) | (refine far_four (Kept.four (by (repeat (first | with_reducible exact Kept.refl _ | with_reducible apply Kept.drew | with_reducible apply Kept.alloc | ((with_reducible apply Kept.set); focus (simp <;> omega)) | ((with_reducible apply Kept.via); focus with_reducible assumption)))) H_p) ?_; focus ((repeat' apply And.intro) <;> (simp <;> omega)))))
      (first
        | (go_at_call 37; refine (M1'.out _).mono ?_; rintro e v1 ⟨rfl, i1⟩; (try (first | (with_reducible have nr := Room3.newD i1) | (with_reducible have nr := Room3.new i1) | (with_reducible have nr := Room3.kept nr i1))); have y1 := Kept.below i1; (try simp at y1))
        | (go_at_call 36; refine (D1'.out _).mono ?_; rintro e v2 ⟨rfl, i2⟩; (try (first | (with_reducible have nr := Room3.newD i2) | (with_reducible have nr := Room3.new i2) | (with_reducible have nr := Room3.kept nr i2))); have y2 := Kept.below i2; (try simp at y2); (try (obtain ⟨nx, ny, nz, na1, na2, na3, nb1, nb2, nb3⟩ := nr))))
    all_goals
      go_wp2_with fail
      go_meet
      exact ⟨_, rfl, rfl, rfl, by simp [*, go_sem], by simp [*, go_sem], by simp [*, go_sem], ⟨by simp [*, go_sem], by simp [*, go_sem], by simp [*, go_sem]⟩, by first | omega | (simp; omega), (by (repeat (first | with_reducible exact Kept.refl _ | with_reducible apply Kept.drew | with_reducible apply Kept.alloc | ((with_reducible apply Kept.set); focus (simp <;> omega)) | ((with_reducible apply Kept.via); focus with_reducible assumption))))⟩
  obtain ⟨g_q, rfl, rfl, rfl, e0, e1, e2, th, lq, K_q⟩ := hcut
  generalize wc = W_q at *
  have H_q := Lib.hid (And.intro e0 (And.intro e1 e2))
  clear e0 e1 e2
  obtain ⟨p0, p1, p2, p3⟩ := Kept.four (show Kept W0 W_q from (by (repeat (first | with_reducible exact Kept.refl _ | with_reducible apply Kept.drew | with_reducible apply Kept.alloc | ((with_reducible apply Kept.set); focus (simp <;> omega)) | ((with_reducible apply Kept.via); focus with_reducible assumption))))) H_p
  go_wp2_with fail
  refine (U1'.out _ (by (repeat (first | with_reducible exact Kept.refl _ | with_reducible apply Kept.drew | with_reducible apply Kept.alloc | ((with_reducible apply Kept.set); focus (simp <;> omega)) | ((with_reducible apply Kept.via); focus with_reducible assumption))))).mono ?_
  rintro e w1 ⟨rfl, k1⟩
  clear p0 p1 p2 p3
  rcases E1'.out with ⟨rfl, X1⟩ | ⟨rfl, O1, A1, X1⟩
  · have X1' := Lib.hid X1
    clear X1 E1' U1' M1' D1'
    obtain ⟨c_q0, c_q1, c_q2⟩ := Kept.all3 (show Kept W_q w1 from (by (repeat (first | with_reducible exact Kept.refl _ | with_reducible apply Kept.drew | with_reducible apply Kept.alloc | ((with_reducible apply Kept.set); focus (simp <;> omega)) | ((with_reducible apply Kept.via); focus with_reducible assumption))))) H_q
    go_wp2_with fail
    refine (X1'.out _).mono ?_
    rintro e w2 ⟨rfl, k2⟩
    clear c_q0 c_q1 c_q2
    go_wp2
    go_ret2
    exact ⟨rfl, (by (repeat (first | with_reducible exact Kept.refl _ | with_reducible apply Kept.drew | with_reducible apply Kept.alloc | ((with_reducible apply Kept.set); focus (simp <;> omega)) | ((with_reducible apply Kept.via); focus with_reducible assumption))))⟩
  · have X1' := Lib.hid X1
    have O1' := Lib.hid O1
    have A1' := Lib.hid A1
    clear X1 O1 A1 E1' U1' M1' D1'
    go_upto_region 5 with fail
    obtain ⟨q0, q1, q2⟩ := Kept.all3 k1 H_q
    obtain ⟨t0, t1, t2⟩ := Thaw3.kept th k1
    have lw : w.heap.size ≤ g_q := by omega
    go_cut [1] (fun s1 wx => s1 = .pointer (some ⟨g_p, 0, none⟩) ∧ wx.cell? ⟨g_q, 0, none⟩ = some (.bool sb) ∧ wx.cell? ⟨g_q, 1, none⟩ = some (.int .u64 sh) ∧ wx.cell? ⟨g_q, 2, none⟩ = some (.int .u64 sl) ∧ Kept w wx)
    case first =>
      go_region_with (first
        | (go_at_call 39; refine (O1'.out _).mono ?_; rintro e v1 ⟨rfl, i1⟩; obtain ⟨q0, q1, q2⟩ := Kept.all3 (show Kept W_q v1 from (by (repeat (first | with_reducible exact Kept.refl _ | with_reducible apply Kept.drew | with_reducible apply Kept.alloc | ((with_reducible apply Kept.set); focus (simp <;> omega)) | ((with_reducible apply Kept.via); focus with_reducible assumption))))) H_q; obtain ⟨t0, t1, t2⟩ := Thaw3.kept th (show Kept W_q v1 from (by (repeat (first | with_reducible exact Kept.refl _ | with_reducible apply Kept.drew | with_reducible apply Kept.alloc | ((with_reducible apply Kept.set); focus (simp <;> omega)) | ((with_reducible apply Kept.via); focus with_reducible assumption))))))
        | (go_at_call 38; refine (A1'.out _).mono ?_; rintro e v2 ⟨rfl, i2⟩; obtain ⟨q0, q1, q2⟩ := Kept.all3 (show Kept W_q v2 from (by (repeat (first | with_reducible exact Kept.refl _ | with_reducible apply Kept.drew | with_reducible apply Kept.alloc | ((with_reducible apply Kept.set); focus (simp <;> omega)) | ((with_reducible apply Kept.via); focus with_reducible assumption))))) H_q; obtain ⟨t0, t1, t2⟩ := Thaw3.kept th (show Kept W_q v2 from (by (repeat (first | with_reducible exact Kept.refl _ | with_reducible apply Kept.drew | with_reducible apply Kept.alloc | ((with_reducible apply Kept.set); focus (simp <;> omega)) | ((with_reducible apply Kept.via); focus with_reducible assumption)))))))
      all_goals
        go_wp2_with fail
        go_meet
        exact ⟨rfl, by simp [*, go_sem], by simp [*, go_sem], by simp [*, go_sem], (by (repeat (first | with_reducible exact Kept.refl _ | with_reducible apply Kept.drew | with_reducible apply Kept.alloc | ((with_reducible apply Kept.set); focus (simp <;> omega)) | ((with_reducible apply Kept.via); focus with_reducible assumption))))⟩
    obtain ⟨rfl, e0, e1, e2, K_s⟩ := hcut
    generalize wc = W_s at *
    have H_s := Lib.hid (And.intro e0 (And.intro e1 e2))
    clear e0 e1 e2 q0 q1 q2 t0 t1 t2
    obtain ⟨c_s0, c_s1, c_s2⟩ := Kept.all3 (show Kept W_s W_s from (by (repeat (first | with_reducible exact Kept.refl _ | with_reducible apply Kept.drew | with_reducible apply Kept.alloc | ((with_reducible apply Kept.set); focus (simp <;> omega)) | ((with_reducible apply Kept.via); focus with_reducible assumption))))) H_s
    go_wp2_with fail
    refine (X1'.out _).mono ?_
    rintro e w2 ⟨rfl, k2⟩
    clear c_s0 c_s1 c_s2
    go_wp2
    go_ret2
    exact ⟨rfl, (by (repeat (first | with_reducible exact Kept.refl _ | with_reducible apply Kept.drew | with_reducible apply Kept.alloc | ((with_reducible apply Kept.set); focus (simp <;> omega)) | ((with_reducible apply Kept.via); focus with_reducible assumption))))⟩
set_option maxRecDepth 100000 in
set_option maxHeartbeats 1600000 in
theorem rounded_ceil (a b c left v er mh ml qh ql sh sl : Int) (mb qb sb up : Bool) (w : World) (c0 : 1 ≤ c) (c1 : c ≤ 9223372036854775807) (M1 : ∀ w, Calls Try.prog 37 #[.int .i64 a, .int .i64 b] w fun e w' => e = .returned (.agg #[.bool mb, .int .u64 mh, .int .u64 ml]) ∧ Kept w w') (D1 : ∀ w, Calls Try.prog 36 #[.agg #[.bool mb, .int .u64 mh, .int .u64 ml], .int .u64 c] w fun e w' => e = .returned (.tuple #[.agg #[.bool qb, .int .u64 qh, .int .u64 ql], .int .u64 left, .int .i64 0]) ∧ Kept w w') (U1 : ∀ v, Kept w v → Calls Try.prog 27 #[.int .u64 left] v fun e w' => e = .returned (.bool up) ∧ Kept v w') (E1 : (up = false ∧ ∀ w, Calls Try.prog 40 #[.agg #[.bool qb, .int .u64 qh, .int .u64 ql]] w fun e w' => e = .returned (.tuple #[.int .i64 v, .int .i64 er]) ∧ Kept w w') ∨ (up = true ∧ (∀ w, Calls Try.prog 39 #[.int .i64 1] w fun e w' => e = .returned (.agg #[.bool false, .int .u64 0, .int .u64 1]) ∧ Kept w w') ∧ (∀ w, Calls Try.prog 38 #[.agg #[.bool qb, .int .u64 qh, .int .u64 ql], .agg #[.bool false, .int .u64 0, .int .u64 1]] w fun e w' => e = .returned (.tuple #[.agg #[.bool sb, .int .u64 sh, .int .u64 sl], .int .i64 0]) ∧ Kept w w') ∧ ∀ w, Calls Try.prog 40 #[.agg #[.bool sb, .int .u64 sh, .int .u64 sl]] w fun e w' => e = .returned (.tuple #[.int .i64 v, .int .i64 er]) ∧ Kept w w')) :
    Calls Try.prog 25 #[.agg #[.int .i64 a, .int .i64 b, .int .i64 c, .func (Fn.func 27) #[] #[]]] w fun e w' => e = .returned (.tuple #[.int .i64 v, .int .i64 er]) ∧ Kept w w' := by
  have M1' := Lib.hid M1
  have D1' := Lib.hid D1
  have U1' := Lib.hid U1
  have E1' := Lib.hid E1
  clear M1 D1 U1 E1
  have hc : decide (c < 1) = false := by simp; omega
  have hw : IntKind.u64.wrap c = c := by rw [IntKind.wrap_u64]; omega
  go_enter Try.func25, Try.ntmps25
  go_upto_region 1 with fail
  generalize hW : (World.alloc w (.cells #[.int .i64 a, .int .i64 b, .int .i64 c, .func (Fn.func 27) #[] #[]] 41)) = W0
  have base := Lib.hid (show W0.cell? ⟨w.heap.size, 0, none⟩ = some (.int .i64 a) ∧ W0.cell? ⟨w.heap.size, 1, none⟩ = some (.int .i64 b) ∧ W0.cell? ⟨w.heap.size, 2, none⟩ = some (.int .i64 c) ∧ W0.cell? ⟨w.heap.size, 3, none⟩ = some (.func (Fn.func 27) #[] #[]) from by subst hW; simp [go_sem])
  have kw : Kept w W0 := by subst hW; exact (by (repeat (first | with_reducible exact Kept.refl _ | with_reducible apply Kept.drew | with_reducible apply Kept.alloc | ((with_reducible apply Kept.set); focus (simp <;> omega)) | ((with_reducible apply Kept.via); focus with_reducible assumption))))
  have zw : w.heap.size + 1 ≤ W0.heap.size := by subst hW; simp
  clear hW
  have H_p := base
  clear base
  generalize ep : w.heap.size = g_p at *
  obtain ⟨p0, p1, p2, p3⟩ := Kept.four (show Kept W0 W0 from (by (repeat (first | with_reducible exact Kept.refl _ | with_reducible apply Kept.drew | with_reducible apply Kept.alloc | ((with_reducible apply Kept.set); focus (simp <;> omega)) | ((with_reducible apply Kept.via); focus with_reducible assumption))))) H_p
  go_upto_region 3 with fail
  clear p0 p1 p2 p3
  go_cut [4, 5, 6] (fun s4 s5 s6 wx => ∃ g : Nat, s4 = .pointer (some ⟨g, 0, none⟩) ∧ s5 = .int .u64 left ∧ s6 = .int .i64 0 ∧ wx.cell? ⟨g, 0, none⟩ = some (.bool qb) ∧ wx.cell? ⟨g, 1, none⟩ = some (.int .u64 qh) ∧ wx.cell? ⟨g, 2, none⟩ = some (.int .u64 ql) ∧ Thaw3 wx g ∧ g_p < g ∧ Kept W0 wx)
  case first =>
    go_region_held3 (fun w' => w'.cell? ⟨g_p, 0, none⟩ = some (.int .i64 a) ∧ w'.cell? ⟨g_p, 1, none⟩ = some (.int .i64 b) ∧ w'.cell? ⟨g_p, 2, none⟩ = some (.int .i64 c) ∧ w'.cell? ⟨g_p, 3, none⟩ = some (.func (Fn.func 27) #[] #[]))
      ((first | (refine Kept.four ?_ H_p; focus ((repeat (first | with_reducible exact Kept.refl _ | with_reducible apply Kept.drew | with_reducible apply Kept.alloc | ((with_reducible apply Kept.set); focus (simp <;> omega)) | ((with_reducible apply Kept.via); focus with_reducible assumption))); done)) | (refine far_four (Kept.four (by (repeat (first | with_reducible exact Kept.refl _ | with_reducible apply Kept.drew | with_reducible apply Kept.alloc | ((with_reducible apply Kept.set); focus (simp <;> omega)) | ((with_reducible apply Kept.via); focus with_reducible assumption)))) H_p) ?_; focus ((repeat' apply And.intro) <;> (simp <;> omega)))))
      (first
        | (go_at_call 37; refine (M1'.out _).mono ?_; rintro e v1 ⟨rfl, i1⟩; (try (first | (with_reducible have nr := Room3.newD i1) | (with_reducible have nr := Room3.new i1) | (with_reducible have nr := Room3.kept nr i1))); have y1 := Kept.below i1; (try simp at y1))
        | (go_at_call 36; refine (D1'.out _).mono ?_; rintro e v2 ⟨rfl, i2⟩; (try (first | (with_reducible have nr := Room3.newD i2) | (with_reducible have nr := Room3.new i2) | (with_reducible have nr := Room3.kept nr i2))); have y2 := Kept.below i2; (try simp at y2); (try (obtain ⟨nx, ny, nz, na1, na2, na3, nb1, nb2, nb3⟩ := nr))))
    all_goals
      go_wp2_with fail
      go_meet
      exact ⟨_, rfl, rfl, rfl, by simp [*, go_sem], by simp [*, go_sem], by simp [*, go_sem], ⟨by simp [*, go_sem], by simp [*, go_sem], by simp [*, go_sem]⟩, by first | omega | (simp; omega), (by (repeat (first | with_reducible exact Kept.refl _ | with_reducible apply Kept.drew | with_reducible apply Kept.alloc | ((with_reducible apply Kept.set); focus (simp <;> omega)) | ((with_reducible apply Kept.via); focus with_reducible assumption))))⟩
  obtain ⟨g_q, rfl, rfl, rfl, e0, e1, e2, th, lq, K_q⟩ := hcut
  generalize wc = W_q at *
  have H_q := Lib.hid (And.intro e0 (And.intro e1 e2))
  clear e0 e1 e2
  obtain ⟨p0, p1, p2, p3⟩ := Kept.four (show Kept W0 W_q from (by (repeat (first | with_reducible exact Kept.refl _ | with_reducible apply Kept.drew | with_reducible apply Kept.alloc | ((with_reducible apply Kept.set); focus (simp <;> omega)) | ((with_reducible apply Kept.via); focus with_reducible assumption))))) H_p
  go_wp2_with fail
  refine (U1'.out _ (by (repeat (first | with_reducible exact Kept.refl _ | with_reducible apply Kept.drew | with_reducible apply Kept.alloc | ((with_reducible apply Kept.set); focus (simp <;> omega)) | ((with_reducible apply Kept.via); focus with_reducible assumption))))).mono ?_
  rintro e w1 ⟨rfl, k1⟩
  clear p0 p1 p2 p3
  rcases E1'.out with ⟨rfl, X1⟩ | ⟨rfl, O1, A1, X1⟩
  · have X1' := Lib.hid X1
    clear X1 E1' U1' M1' D1'
    obtain ⟨c_q0, c_q1, c_q2⟩ := Kept.all3 (show Kept W_q w1 from (by (repeat (first | with_reducible exact Kept.refl _ | with_reducible apply Kept.drew | with_reducible apply Kept.alloc | ((with_reducible apply Kept.set); focus (simp <;> omega)) | ((with_reducible apply Kept.via); focus with_reducible assumption))))) H_q
    go_wp2_with fail
    refine (X1'.out _).mono ?_
    rintro e w2 ⟨rfl, k2⟩
    clear c_q0 c_q1 c_q2
    go_wp2
    go_ret2
    exact ⟨rfl, (by (repeat (first | with_reducible exact Kept.refl _ | with_reducible apply Kept.drew | with_reducible apply Kept.alloc | ((with_reducible apply Kept.set); focus (simp <;> omega)) | ((with_reducible apply Kept.via); focus with_reducible assumption))))⟩
  · have X1' := Lib.hid X1
    have O1' := Lib.hid O1
    have A1' := Lib.hid A1
    clear X1 O1 A1 E1' U1' M1' D1'
    go_upto_region 5 with fail
    obtain ⟨q0, q1, q2⟩ := Kept.all3 k1 H_q
    obtain ⟨t0, t1, t2⟩ := Thaw3.kept th k1
    have lw : w.heap.size ≤ g_q := by omega
    go_cut [1] (fun s1 wx => s1 = .pointer (some ⟨g_p, 0, none⟩) ∧ wx.cell? ⟨g_q, 0, none⟩ = some (.bool sb) ∧ wx.cell? ⟨g_q, 1, none⟩ = some (.int .u64 sh) ∧ wx.cell? ⟨g_q, 2, none⟩ = some (.int .u64 sl) ∧ Kept w wx)
    case first =>
      go_region_with (first
        | (go_at_call 39; refine (O1'.out _).mono ?_; rintro e v1 ⟨rfl, i1⟩; obtain ⟨q0, q1, q2⟩ := Kept.all3 (show Kept W_q v1 from (by (repeat (first | with_reducible exact Kept.refl _ | with_reducible apply Kept.drew | with_reducible apply Kept.alloc | ((with_reducible apply Kept.set); focus (simp <;> omega)) | ((with_reducible apply Kept.via); focus with_reducible assumption))))) H_q; obtain ⟨t0, t1, t2⟩ := Thaw3.kept th (show Kept W_q v1 from (by (repeat (first | with_reducible exact Kept.refl _ | with_reducible apply Kept.drew | with_reducible apply Kept.alloc | ((with_reducible apply Kept.set); focus (simp <;> omega)) | ((with_reducible apply Kept.via); focus with_reducible assumption))))))
        | (go_at_call 38; refine (A1'.out _).mono ?_; rintro e v2 ⟨rfl, i2⟩; obtain ⟨q0, q1, q2⟩ := Kept.all3 (show Kept W_q v2 from (by (repeat (first | with_reducible exact Kept.refl _ | with_reducible apply Kept.drew | with_reducible apply Kept.alloc | ((with_reducible apply Kept.set); focus (simp <;> omega)) | ((with_reducible apply Kept.via); focus with_reducible assumption))))) H_q; obtain ⟨t0, t1, t2⟩ := Thaw3.kept th (show Kept W_q v2 from (by (repeat (first | with_reducible exact Kept.refl _ | with_reducible apply Kept.drew | with_reducible apply Kept.alloc | ((with_reducible apply Kept.set); focus (simp <;> omega)) | ((with_reducible apply Kept.via); focus with_reducible assumption)))))))
      all_goals
        go_wp2_with fail
        go_meet
        exact ⟨rfl, by simp [*, go_sem], by simp [*, go_sem], by simp [*, go_sem], (by (repeat (first | with_reducible exact Kept.refl _ | with_reducible apply Kept.drew | with_reducible apply Kept.alloc | ((with_reducible apply Kept.set); focus (simp <;> omega)) | ((with_reducible apply Kept.via); focus with_reducible assumption))))⟩
    obtain ⟨rfl, e0, e1, e2, K_s⟩ := hcut
    generalize wc = W_s at *
    have H_s := Lib.hid (And.intro e0 (And.intro e1 e2))
    clear e0 e1 e2 q0 q1 q2 t0 t1 t2
    obtain ⟨c_s0, c_s1, c_s2⟩ := Kept.all3 (show Kept W_s W_s from (by (repeat (first | with_reducible exact Kept.refl _ | with_reducible apply Kept.drew | with_reducible apply Kept.alloc | ((with_reducible apply Kept.set); focus (simp <;> omega)) | ((with_reducible apply Kept.via); focus with_reducible assumption))))) H_s
    go_wp2_with fail
    refine (X1'.out _).mono ?_
    rintro e w2 ⟨rfl, k2⟩
    clear c_s0 c_s1 c_s2
    go_wp2
    go_ret2
    exact ⟨rfl, (by (repeat (first | with_reducible exact Kept.refl _ | with_reducible apply Kept.drew | with_reducible apply Kept.alloc | ((with_reducible apply Kept.set); focus (simp <;> omega)) | ((with_reducible apply Kept.via); focus with_reducible assumption))))⟩
set_option maxRecDepth 100000 in
set_option maxHeartbeats 1600000 in
theorem rounded_near (a b c left v er mh ml qh ql sh sl : Int) (mb qb sb up : Bool) (ad : Addr) (w : World) (c0 : 1 ≤ c) (c1 : c ≤ 9223372036854775807) (M1 : ∀ w, Calls Try.prog 37 #[.int .i64 a, .int .i64 b] w fun e w' => e = .returned (.agg #[.bool mb, .int .u64 mh, .int .u64 ml]) ∧ Kept w w') (D1 : ∀ w, Calls Try.prog 36 #[.agg #[.bool mb, .int .u64 mh, .int .u64 ml], .int .u64 c] w fun e w' => e = .returned (.tuple #[.agg #[.bool qb, .int .u64 qh, .int .u64 ql], .int .u64 left, .int .i64 0]) ∧ Kept w w') (U1 : ∀ v, Kept w v → Calls Try.prog 28 #[.int .u64 left, .pointer (some ad)] v fun e w' => e = .returned (.bool up) ∧ Kept v w') (E1 : (up = false ∧ ∀ w, Calls Try.prog 40 #[.agg #[.bool qb, .int .u64 qh, .int .u64 ql]] w fun e w' => e = .returned (.tuple #[.int .i64 v, .int .i64 er]) ∧ Kept w w') ∨ (up = true ∧ (∀ w, Calls Try.prog 39 #[.int .i64 1] w fun e w' => e = .returned (.agg #[.bool false, .int .u64 0, .int .u64 1]) ∧ Kept w w') ∧ (∀ w, Calls Try.prog 38 #[.agg #[.bool qb, .int .u64 qh, .int .u64 ql], .agg #[.bool false, .int .u64 0, .int .u64 1]] w fun e w' => e = .returned (.tuple #[.agg #[.bool sb, .int .u64 sh, .int .u64 sl], .int .i64 0]) ∧ Kept w w') ∧ ∀ w, Calls Try.prog 40 #[.agg #[.bool sb, .int .u64 sh, .int .u64 sl]] w fun e w' => e = .returned (.tuple #[.int .i64 v, .int .i64 er]) ∧ Kept w w')) :
    Calls Try.prog 25 #[.agg #[.int .i64 a, .int .i64 b, .int .i64 c, .func (Fn.func 28) #[] #[.pointer (some ad)]]] w fun e w' => e = .returned (.tuple #[.int .i64 v, .int .i64 er]) ∧ Kept w w' := by
  have M1' := Lib.hid M1
  have D1' := Lib.hid D1
  have U1' := Lib.hid U1
  have E1' := Lib.hid E1
  clear M1 D1 U1 E1
  have hc : decide (c < 1) = false := by simp; omega
  have hw : IntKind.u64.wrap c = c := by rw [IntKind.wrap_u64]; omega
  go_enter Try.func25, Try.ntmps25
  go_upto_region 1 with fail
  generalize hW : (World.alloc w (.cells #[.int .i64 a, .int .i64 b, .int .i64 c, .func (Fn.func 28) #[] #[.pointer (some ad)]] 41)) = W0
  have base := Lib.hid (show W0.cell? ⟨w.heap.size, 0, none⟩ = some (.int .i64 a) ∧ W0.cell? ⟨w.heap.size, 1, none⟩ = some (.int .i64 b) ∧ W0.cell? ⟨w.heap.size, 2, none⟩ = some (.int .i64 c) ∧ W0.cell? ⟨w.heap.size, 3, none⟩ = some (.func (Fn.func 28) #[] #[.pointer (some ad)]) from by subst hW; simp [go_sem])
  have kw : Kept w W0 := by subst hW; exact (by (repeat (first | with_reducible exact Kept.refl _ | with_reducible apply Kept.drew | with_reducible apply Kept.alloc | ((with_reducible apply Kept.set); focus (simp <;> omega)) | ((with_reducible apply Kept.via); focus with_reducible assumption))))
  have zw : w.heap.size + 1 ≤ W0.heap.size := by subst hW; simp
  clear hW
  have H_p := base
  clear base
  generalize ep : w.heap.size = g_p at *
  obtain ⟨p0, p1, p2, p3⟩ := Kept.four (show Kept W0 W0 from (by (repeat (first | with_reducible exact Kept.refl _ | with_reducible apply Kept.drew | with_reducible apply Kept.alloc | ((with_reducible apply Kept.set); focus (simp <;> omega)) | ((with_reducible apply Kept.via); focus with_reducible assumption))))) H_p
  go_upto_region 3 with fail
  clear p0 p1 p2 p3
  go_cut [4, 5, 6] (fun s4 s5 s6 wx => ∃ g : Nat, s4 = .pointer (some ⟨g, 0, none⟩) ∧ s5 = .int .u64 left ∧ s6 = .int .i64 0 ∧ wx.cell? ⟨g, 0, none⟩ = some (.bool qb) ∧ wx.cell? ⟨g, 1, none⟩ = some (.int .u64 qh) ∧ wx.cell? ⟨g, 2, none⟩ = some (.int .u64 ql) ∧ Thaw3 wx g ∧ g_p < g ∧ Kept W0 wx)
  case first =>
    go_region_held3 (fun w' => w'.cell? ⟨g_p, 0, none⟩ = some (.int .i64 a) ∧ w'.cell? ⟨g_p, 1, none⟩ = some (.int .i64 b) ∧ w'.cell? ⟨g_p, 2, none⟩ = some (.int .i64 c) ∧ w'.cell? ⟨g_p, 3, none⟩ = some (.func (Fn.func 28) #[] #[.pointer (some ad)]))
      ((first | (refine Kept.four ?_ H_p; focus ((repeat (first | with_reducible exact Kept.refl _ | with_reducible apply Kept.drew | with_reducible apply Kept.alloc | ((with_reducible apply Kept.set); focus (simp <;> omega)) | ((with_reducible apply Kept.via); focus with_reducible assumption))); done)) | (refine far_four (Kept.four (by (repeat (first | with_reducible exact Kept.refl _ | with_reducible apply Kept.drew | with_reducible apply Kept.alloc | ((with_reducible apply Kept.set); focus (simp <;> omega)) | ((with_reducible apply Kept.via); focus with_reducible assumption)))) H_p) ?_; focus ((repeat' apply And.intro) <;> (simp <;> omega)))))
      (first
        | (go_at_call 37; refine (M1'.out _).mono ?_; rintro e v1 ⟨rfl, i1⟩; (try (first | (with_reducible have nr := Room3.newD i1) | (with_reducible have nr := Room3.new i1) | (with_reducible have nr := Room3.kept nr i1))); have y1 := Kept.below i1; (try simp at y1))
        | (go_at_call 36; refine (D1'.out _).mono ?_; rintro e v2 ⟨rfl, i2⟩; (try (first | (with_reducible have nr := Room3.newD i2) | (with_reducible have nr := Room3.new i2) | (with_reducible have nr := Room3.kept nr i2))); have y2 := Kept.below i2; (try simp at y2); (try (obtain ⟨nx, ny, nz, na1, na2, na3, nb1, nb2, nb3⟩ := nr))))
    all_goals
      go_wp2_with fail
      go_meet
      exact ⟨_, rfl, rfl, rfl, by simp [*, go_sem], by simp [*, go_sem], by simp [*, go_sem], ⟨by simp [*, go_sem], by simp [*, go_sem], by simp [*, go_sem]⟩, by first | omega | (simp; omega), (by (repeat (first | with_reducible exact Kept.refl _ | with_reducible apply Kept.drew | with_reducible apply Kept.alloc | ((with_reducible apply Kept.set); focus (simp <;> omega)) | ((with_reducible apply Kept.via); focus with_reducible assumption))))⟩
  obtain ⟨g_q, rfl, rfl, rfl, e0, e1, e2, th, lq, K_q⟩ := hcut
  generalize wc = W_q at *
  have H_q := Lib.hid (And.intro e0 (And.intro e1 e2))
  clear e0 e1 e2
  obtain ⟨p0, p1, p2, p3⟩ := Kept.four (show Kept W0 W_q from (by (repeat (first | with_reducible exact Kept.refl _ | with_reducible apply Kept.drew | with_reducible apply Kept.alloc | ((with_reducible apply Kept.set); focus (simp <;> omega)) | ((with_reducible apply Kept.via); focus with_reducible assumption))))) H_p
  go_wp2_with fail
  refine (U1'.out _ (by (repeat (first | with_reducible exact Kept.refl _ | with_reducible apply Kept.drew | with_reducible apply Kept.alloc | ((with_reducible apply Kept.set); focus (simp <;> omega)) | ((with_reducible apply Kept.via); focus with_reducible assumption))))).mono ?_
  rintro e w1 ⟨rfl, k1⟩
  clear p0 p1 p2 p3
  rcases E1'.out with ⟨rfl, X1⟩ | ⟨rfl, O1, A1, X1⟩
  · have X1' := Lib.hid X1
    clear X1 E1' U1' M1' D1'
    obtain ⟨c_q0, c_q1, c_q2⟩ := Kept.all3 (show Kept W_q w1 from (by (repeat (first | with_reducible exact Kept.refl _ | with_reducible apply Kept.drew | with_reducible apply Kept.alloc | ((with_reducible apply Kept.set); focus (simp <;> omega)) | ((with_reducible apply Kept.via); focus with_reducible assumption))))) H_q
    go_wp2_with fail
    refine (X1'.out _).mono ?_
    rintro e w2 ⟨rfl, k2⟩
    clear c_q0 c_q1 c_q2
    go_wp2
    go_ret2
    exact ⟨rfl, (by (repeat (first | with_reducible exact Kept.refl _ | with_reducible apply Kept.drew | with_reducible apply Kept.alloc | ((with_reducible apply Kept.set); focus (simp <;> omega)) | ((with_reducible apply Kept.via); focus with_reducible assumption))))⟩
  · have X1' := Lib.hid X1
    have O1' := Lib.hid O1
    have A1' := Lib.hid A1
    clear X1 O1 A1 E1' U1' M1' D1'
    go_upto_region 5 with fail
    obtain ⟨q0, q1, q2⟩ := Kept.all3 k1 H_q
    obtain ⟨t0, t1, t2⟩ := Thaw3.kept th k1
    have lw : w.heap.size ≤ g_q := by omega
    go_cut [1] (fun s1 wx => s1 = .pointer (some ⟨g_p, 0, none⟩) ∧ wx.cell? ⟨g_q, 0, none⟩ = some (.bool sb) ∧ wx.cell? ⟨g_q, 1, none⟩ = some (.int .u64 sh) ∧ wx.cell? ⟨g_q, 2, none⟩ = some (.int .u64 sl) ∧ Kept w wx)
    case first =>
      go_region_with (first
        | (go_at_call 39; refine (O1'.out _).mono ?_; rintro e v1 ⟨rfl, i1⟩; obtain ⟨q0, q1, q2⟩ := Kept.all3 (show Kept W_q v1 from (by (repeat (first | with_reducible exact Kept.refl _ | with_reducible apply Kept.drew | with_reducible apply Kept.alloc | ((with_reducible apply Kept.set); focus (simp <;> omega)) | ((with_reducible apply Kept.via); focus with_reducible assumption))))) H_q; obtain ⟨t0, t1, t2⟩ := Thaw3.kept th (show Kept W_q v1 from (by (repeat (first | with_reducible exact Kept.refl _ | with_reducible apply Kept.drew | with_reducible apply Kept.alloc | ((with_reducible apply Kept.set); focus (simp <;> omega)) | ((with_reducible apply Kept.via); focus with_reducible assumption))))))
        | (go_at_call 38; refine (A1'.out _).mono ?_; rintro e v2 ⟨rfl, i2⟩; obtain ⟨q0, q1, q2⟩ := Kept.all3 (show Kept W_q v2 from (by (repeat (first | with_reducible exact Kept.refl _ | with_reducible apply Kept.drew | with_reducible apply Kept.alloc | ((with_reducible apply Kept.set); focus (simp <;> omega)) | ((with_reducible apply Kept.via); focus with_reducible assumption))))) H_q; obtain ⟨t0, t1, t2⟩ := Thaw3.kept th (show Kept W_q v2 from (by (repeat (first | with_reducible exact Kept.refl _ | with_reducible apply Kept.drew | with_reducible apply Kept.alloc | ((with_reducible apply Kept.set); focus (simp <;> omega)) | ((with_reducible apply Kept.via); focus with_reducible assumption)))))))
      all_goals
        go_wp2_with fail
        go_meet
        exact ⟨rfl, by simp [*, go_sem], by simp [*, go_sem], by simp [*, go_sem], (by (repeat (first | with_reducible exact Kept.refl _ | with_reducible apply Kept.drew | with_reducible apply Kept.alloc | ((with_reducible apply Kept.set); focus (simp <;> omega)) | ((with_reducible apply Kept.via); focus with_reducible assumption))))⟩
    obtain ⟨rfl, e0, e1, e2, K_s⟩ := hcut
    generalize wc = W_s at *
    have H_s := Lib.hid (And.intro e0 (And.intro e1 e2))
    clear e0 e1 e2 q0 q1 q2 t0 t1 t2
    obtain ⟨c_s0, c_s1, c_s2⟩ := Kept.all3 (show Kept W_s W_s from (by (repeat (first | with_reducible exact Kept.refl _ | with_reducible apply Kept.drew | with_reducible apply Kept.alloc | ((with_reducible apply Kept.set); focus (simp <;> omega)) | ((with_reducible apply Kept.via); focus with_reducible assumption))))) H_s
    go_wp2_with fail
    refine (X1'.out _).mono ?_
    rintro e w2 ⟨rfl, k2⟩
    clear c_s0 c_s1 c_s2
    go_wp2
    go_ret2
    exact ⟨rfl, (by (repeat (first | with_reducible exact Kept.refl _ | with_reducible apply Kept.drew | with_reducible apply Kept.alloc | ((with_reducible apply Kept.set); focus (simp <;> omega)) | ((with_reducible apply Kept.via); focus with_reducible assumption))))⟩
end Go.Proofs.Ytfkdbelajideiaa
