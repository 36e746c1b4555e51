/-
  The walk of RootEight: it answers true, whatever it is given.
-/
import Derived.Test.YtgmhcgmaidnbeaaAwake03
namespace Go.Proofs.Ytgmhcgmaidnbeaa
open Go.RowKit Go.BigFrame

set_option maxRecDepth 100000 in
set_option maxHeartbeats 1600000 in
theorem eight_head (xb yb zb : Bool) (xh xl yh yl zh zl t n h m er fr : Int) (he : (er = 0 ∧ IntKind.u64.wrap (t - IntKind.u64.wrap (2 * n)) ≤ 1) ∨ er = 10) (hf : (fr = 0 ∧ IntKind.u64.wrap (h - IntKind.u64.wrap (2 * m)) ≤ 1) ∨ fr = 10) (w : World) (S1 : ∀ w, Calls Try.prog 21 #[.agg #[.bool false, .int .u64 xh, .int .u64 xl], .int .u64 8] w fun e w' => e = .returned (.tuple #[.agg #[.bool yb, .int .u64 yh, .int .u64 yl], .int .i64 er]) ∧ Kept w w') (S2 : ∀ w, Calls Try.prog 21 #[.agg #[.bool false, .int .u64 xh, .int .u64 xl], .int .u64 4] w fun e w' => e = .returned (.tuple #[.agg #[.bool zb, .int .u64 zh, .int .u64 zl], .int .i64 fr]) ∧ Kept w w') (T1 : ∀ w, Calls Try.prog 14 #[.agg #[.bool yb, .int .u64 yh, .int .u64 yl]] w fun e w' => e = .returned (.int .u64 t) ∧ Kept w w') (T2 : ∀ w, Calls Try.prog 14 #[.agg #[.bool xb, .int .u64 xh, .int .u64 xl]] w fun e w' => e = .returned (.int .u64 n) ∧ Kept w w') (H1 : ∀ w, Calls Try.prog 16 #[.agg #[.bool zb, .int .u64 zh, .int .u64 zl]] w fun e w' => e = .returned (.int .u64 h) ∧ Kept w w') (H2 : ∀ w, Calls Try.prog 16 #[.agg #[.bool xb, .int .u64 xh, .int .u64 xl]] w fun e w' => e = .returned (.int .u64 m) ∧ Kept w w') :
    Calls Try.prog 8 #[.agg #[.bool xb, .int .u64 xh, .int .u64 xl]] w fun e w' => e = .returned (.bool true) ∧ Kept w w' := by
  have S1' := Lib.hid S1
  have S2' := Lib.hid S2
  have T1' := Lib.hid T1
  have T2' := Lib.hid T2
  have H1' := Lib.hid H1
  have H2' := Lib.hid H2
  clear S1 S2 T1 T2 H1 H2
  have HE := Lib.hid he
  have HF := Lib.hid hf
  clear he hf
  go_enter Try.func8, Try.ntmps8
  go_upto_region 1 with fail
  generalize hW : (World.alloc w (.cells #[.bool xb, .int .u64 xh, .int .u64 xl] 24)) = W0
  have base := Lib.hid (show W0.cell? ⟨w.heap.size, 0, none⟩ = some (.bool xb) ∧ W0.cell? ⟨w.heap.size, 1, none⟩ = some (.int .u64 xh) ∧ W0.cell? ⟨w.heap.size, 2, none⟩ = some (.int .u64 xl) from by subst hW; simp [go_sem])
  have kw : Kept w W0 := by subst hW; exact (by (repeat (first | with_reducible exact Kept.refl _ | with_reducible apply Kept.drew | with_reducible apply Kept.alloc | ((with_reducible apply Kept.set); focus (simp <;> omega)) | ((with_reducible apply Kept.via); focus with_reducible assumption))))
  have zw : w.heap.size + 1 ≤ W0.heap.size := by subst hW; simp
  clear hW
  have H_x := base
  clear base
  generalize w.heap.size = g_x at *
  go_wp2_with fail
  refine (awake03 _).mono ?_
  rintro e w1 ⟨rfl, k1⟩
  obtain ⟨c_x0, c_x1, c_x2⟩ := Kept.all3 (show Kept W0 w1 from (by (repeat (first | with_reducible exact Kept.refl _ | with_reducible apply Kept.drew | with_reducible apply Kept.alloc | ((with_reducible apply Kept.set); focus (simp <;> omega)) | ((with_reducible apply Kept.via); focus with_reducible assumption))))) H_x
  go_upto_region 3 with fail
  generalize hW : World.alloc w1 (.cells #[.bool false, .int .u64 xh, .int .u64 xl] 24) = W_s
  have K_s : Kept w1 W_s := by subst hW; exact (Kept.refl _).alloc _ _
  have H_s := Lib.hid (show W_s.cell? ⟨w1.heap.size, 0, none⟩ = some (.bool false) ∧ W_s.cell? ⟨w1.heap.size, 1, none⟩ = some (.int .u64 xh) ∧ W_s.cell? ⟨w1.heap.size, 2, none⟩ = some (.int .u64 xl) from by subst hW; simp [go_sem])
  clear hW
  generalize w1.heap.size = g_s at *
  clear c_x0 c_x1 c_x2
  obtain ⟨c_s0, c_s1, c_s2⟩ := Kept.all3 (show Kept W_s W_s from (by (repeat (first | with_reducible exact Kept.refl _ | with_reducible apply Kept.drew | with_reducible apply Kept.alloc | ((with_reducible apply Kept.set); focus (simp <;> omega)) | ((with_reducible apply Kept.via); focus with_reducible assumption))))) H_s
  go_wp2_with fail
  refine (S1'.out _).mono ?_
  rintro e w2 ⟨rfl, k2⟩
  clear c_s0 c_s1 c_s2
  go_upto_region 4 with fail
  generalize hW : World.alloc w2 (.cells #[.bool yb, .int .u64 yh, .int .u64 yl] 24) = W_y
  have K_y : Kept w2 W_y := by subst hW; exact (Kept.refl _).alloc _ _
  have H_y := Lib.hid (show W_y.cell? ⟨w2.heap.size, 0, none⟩ = some (.bool yb) ∧ W_y.cell? ⟨w2.heap.size, 1, none⟩ = some (.int .u64 yh) ∧ W_y.cell? ⟨w2.heap.size, 2, none⟩ = some (.int .u64 yl) from by subst hW; simp [go_sem])
  clear hW
  generalize w2.heap.size = g_y at *
  obtain ⟨c_s0, c_s1, c_s2⟩ := Kept.all3 (show Kept W_s W_y from (by (repeat (first | with_reducible exact Kept.refl _ | with_reducible apply Kept.drew | with_reducible apply Kept.alloc | ((with_reducible apply Kept.set); focus (simp <;> omega)) | ((with_reducible apply Kept.via); focus with_reducible assumption))))) H_s
  go_wp2_with fail
  refine (S2'.out _).mono ?_
  rintro e w3 ⟨rfl, k3⟩
  clear c_s0 c_s1 c_s2
  go_upto_region 5 with fail
  generalize hW : World.alloc w3 (.cells #[.bool zb, .int .u64 zh, .int .u64 zl] 24) = W_z
  have K_z : Kept w3 W_z := by subst hW; exact (Kept.refl _).alloc _ _
  have H_z := Lib.hid (show W_z.cell? ⟨w3.heap.size, 0, none⟩ = some (.bool zb) ∧ W_z.cell? ⟨w3.heap.size, 1, none⟩ = some (.int .u64 zh) ∧ W_z.cell? ⟨w3.heap.size, 2, none⟩ = some (.int .u64 zl) from by subst hW; simp [go_sem])
  clear hW
  generalize w3.heap.size = g_z at *
  go_cut [9] (fun s9 wx => s9 = .int .u64 (IntKind.u64.wrap (t - IntKind.u64.wrap (2 * n))) ∧ Kept W_z wx)
  case first =>
    have B_y := Lib.hid (Kept.all3 (show Kept W_y W_z from (by (repeat (first | with_reducible exact Kept.refl _ | with_reducible apply Kept.drew | with_reducible apply Kept.alloc | ((with_reducible apply Kept.set); focus (simp <;> omega)) | ((with_reducible apply Kept.via); focus with_reducible assumption))))) H_y)
    have B_x := Lib.hid (Kept.all3 (show Kept W0 W_z from (by (repeat (first | with_reducible exact Kept.refl _ | with_reducible apply Kept.drew | with_reducible apply Kept.alloc | ((with_reducible apply Kept.set); focus (simp <;> omega)) | ((with_reducible apply Kept.via); focus with_reducible assumption))))) H_x)
    have kall : Kept w W_z := (by (repeat (first | with_reducible exact Kept.refl _ | with_reducible apply Kept.drew | with_reducible apply Kept.alloc | ((with_reducible apply Kept.set); focus (simp <;> omega)) | ((with_reducible apply Kept.via); focus with_reducible assumption))))
    obtain ⟨q_y0, q_y1, q_y2⟩ := kw3 B_y
    obtain ⟨q_x0, q_x1, q_x2⟩ := kw3 B_x
    clear B_y B_x
    refine wp_region_kept (by kernel_rfl) (by as_aux_lemma => kernel_rfl) ?_
    repeat (go_big_quiet_step (first | (with_reducible exact kept_of (T1'.out _)) | (with_reducible exact kept_of (T2'.out _))))
    refine wpQuiet_nil ?_
    intro wq hw'
    have kq : Kept W_z wq := by obtain ⟨p, rfl⟩ := hw'; exact p.k
    clear hw'
    go_wp2_with fail
    go_meet
    exact ⟨rfl, kq⟩
  obtain ⟨rfl, K_W_t⟩ := hcut
  generalize wc = W_t at *
  go_upto_region 6 with fail
  go_cut [10] (fun s10 wx => s10 = .int .u64 (IntKind.u64.wrap (h - IntKind.u64.wrap (2 * m))) ∧ Kept W_t wx)
  case first =>
    have B_z := Lib.hid (Kept.all3 (show Kept W_z W_t from (by (repeat (first | with_reducible exact Kept.refl _ | with_reducible apply Kept.drew | with_reducible apply Kept.alloc | ((with_reducible apply Kept.set); focus (simp <;> omega)) | ((with_reducible apply Kept.via); focus with_reducible assumption))))) H_z)
    have B_x := Lib.hid (Kept.all3 (show Kept W0 W_t from (by (repeat (first | with_reducible exact Kept.refl _ | with_reducible apply Kept.drew | with_reducible apply Kept.alloc | ((with_reducible apply Kept.set); focus (simp <;> omega)) | ((with_reducible apply Kept.via); focus with_reducible assumption))))) H_x)
    have kall : Kept w W_t := (by (repeat (first | with_reducible exact Kept.refl _ | with_reducible apply Kept.drew | with_reducible apply Kept.alloc | ((with_reducible apply Kept.set); focus (simp <;> omega)) | ((with_reducible apply Kept.via); focus with_reducible assumption))))
    obtain ⟨q_z0, q_z1, q_z2⟩ := kw3 B_z
    obtain ⟨q_x0, q_x1, q_x2⟩ := kw3 B_x
    clear B_z B_x
    refine wp_region_kept (by kernel_rfl) (by as_aux_lemma => kernel_rfl) ?_
    repeat (go_big_quiet_step (first | (with_reducible exact kept_of (H1'.out _)) | (with_reducible exact kept_of (H2'.out _))))
    refine wpQuiet_nil ?_
    intro wq hw'
    have kq : Kept W_t wq := by obtain ⟨p, rfl⟩ := hw'; exact p.k
    clear hw'
    go_wp2_with fail
    go_meet
    exact ⟨rfl, kq⟩
  obtain ⟨rfl, K_W_h⟩ := hcut
  generalize wc = W_h at *
  generalize IntKind.u64.wrap (t - IntKind.u64.wrap (2 * n)) = tt at *
  generalize IntKind.u64.wrap (h - IntKind.u64.wrap (2 * m)) = hh at *
  rcases HE.out with ⟨rfl, e1⟩ | rfl <;> rcases HF.out with ⟨rfl, f1⟩ | rfl
  all_goals
    clear HE HF
    go_wp2
    go_ret
    exact ⟨rfl, (by (repeat (first | with_reducible exact Kept.refl _ | with_reducible apply Kept.drew | with_reducible apply Kept.alloc | ((with_reducible apply Kept.set); focus (simp <;> omega)) | ((with_reducible apply Kept.via); focus with_reducible assumption))))⟩

theorem wrap_small {a : Int} (h0 : 0 ≤ a) (h1 : a ≤ 1) {t n : Int} (e : t - 2 * n = a) : IntKind.u64.wrap (t - IntKind.u64.wrap (2 * n)) ≤ 1 := by
  rw [IntKind.wrap_u64, IntKind.wrap_u64]; omega
theorem rootEight_walk (xb : Bool) (xh xl : Int) (w : World) (h1 : Word xh) (h2 : Word xl) :
    Calls Try.prog 8 #[.agg #[.bool xb, .int .u64 xh, .int .u64 xl]] w fun e w' => e = .returned (.bool true) ∧ Kept w w' := by
  obtain ⟨n, hn⟩ := third_ex (sz_nonneg h1 h2)
  obtain ⟨m, hm⟩ := half_ex (sz_nonneg h1 h2)
  have s0 := sz_nonneg h1 h2
  obtain ⟨yb, yh, yl, er, t, he, S1, T1⟩ : ∃ (yb : Bool) (yh yl er t : Int), ((er = 0 ∧ IntKind.u64.wrap (t - IntKind.u64.wrap (2 * n)) ≤ 1) ∨ er = 10) ∧ (∀ w, Calls Try.prog 21 #[.agg #[.bool false, .int .u64 xh, .int .u64 xl], .int .u64 8] w fun e w' => e = .returned (.tuple #[.agg #[.bool yb, .int .u64 yh, .int .u64 yl], .int .i64 er]) ∧ Kept w w') ∧ (∀ w, Calls Try.prog 14 #[.agg #[.bool yb, .int .u64 yh, .int .u64 yl]] w fun e w' => e = .returned (.int .u64 t) ∧ Kept w w') := by
    by_cases c : InBig (numOf false xh xl * 8)
    · obtain ⟨yb, yh, yl, r⟩ := rep_ex _ c
      have es := rep_size r
      rw [numOf_false, if_neg (by omega)] at es
      obtain ⟨t, ht⟩ := third_ex (s := sz xh xl * 8) (by omega)
      have := third_eight hn ht
      exact ⟨yb, yh, yl, 0, t, Or.inl ⟨rfl, wrap_small this.1 this.2 rfl⟩, Scale_yes h1 h2 (by unfold Word; omega) r, Third_ok r.1 r.2.1 (by rw [es]; exact ht)⟩
    · exact ⟨false, 0, 0, 10, 0, Or.inr rfl, Scale_over h1 h2 (by unfold Word; omega) c, Third_ok word_zero word_zero ⟨by decide, by decide, by decide⟩⟩
  obtain ⟨zb, zh, zl, fr, h, hf, S2, H1⟩ : ∃ (zb : Bool) (zh zl fr h : Int), ((fr = 0 ∧ IntKind.u64.wrap (h - IntKind.u64.wrap (2 * m)) ≤ 1) ∨ fr = 10) ∧ (∀ w, Calls Try.prog 21 #[.agg #[.bool false, .int .u64 xh, .int .u64 xl], .int .u64 4] w fun e w' => e = .returned (.tuple #[.agg #[.bool zb, .int .u64 zh, .int .u64 zl], .int .i64 fr]) ∧ Kept w w') ∧ (∀ w, Calls Try.prog 16 #[.agg #[.bool zb, .int .u64 zh, .int .u64 zl]] w fun e w' => e = .returned (.int .u64 h) ∧ Kept w w') := by
    by_cases c : InBig (numOf false xh xl * 4)
    · obtain ⟨yb, yh, yl, r⟩ := rep_ex _ c
      have es := rep_size r
      rw [numOf_false, if_neg (by omega)] at es
      obtain ⟨t, ht⟩ := half_ex (s := sz xh xl * 4) (by omega)
      have := half_four hm ht
      exact ⟨yb, yh, yl, 0, t, Or.inl ⟨rfl, wrap_small this.1 this.2 rfl⟩, Scale_yes h1 h2 (by unfold Word; omega) r, Half_ok r.1 r.2.1 (by rw [es]; exact ht)⟩
    · exact ⟨false, 0, 0, 10, 0, Or.inr rfl, Scale_over h1 h2 (by unfold Word; omega) c, Half_ok word_zero word_zero ⟨by decide, by decide, by decide⟩⟩
  exact eight_head xb yb zb xh xl yh yl zh zl t n h m er fr he hf w S1 S2 T1 (Third_ok h1 h2 hn) H1 (Half_ok h1 h2 hm)
end Go.Proofs.Ytgmhcgmaidnbeaa
