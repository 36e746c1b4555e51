/-
  The walk of RootBounds: it answers true, whatever it is given.
-/
import Derived.Test.YtgmhcgmaidnbeaaAwake03
namespace Go.Proofs.Ytgmhcgmaidnbeaa
open Go.RowKit Go.BigFrame

set_option maxRecDepth 100000 in
set_option maxHeartbeats 1600000 in
theorem bounds_head (xb db : Bool) (xh xl ch cl dh dl sh sl uh ul n m p q fr : Int) (n0 : 0 ≤ n) (n1 : n ≤ 6981463658331) (m0 : 0 ≤ m) (m1 : m ≤ 18446744073709551615) (hp : p ≤ 0) (hq : q ≤ 0) (hf : fr = 0 ∨ fr = 10) (w : World) (T1 : ∀ w, Calls Try.prog 14 #[.agg #[.bool xb, .int .u64 xh, .int .u64 xl]] w fun e w' => e = .returned (.int .u64 n) ∧ Kept w w') (Q1 : ∀ w, Calls Try.prog 10 #[.int .u64 n] w fun e w' => e = .returned (.tuple #[.agg #[.bool false, .int .u64 ch, .int .u64 cl], .int .i64 0]) ∧ Kept w w') (Q2 : ∀ w, Calls Try.prog 10 #[.int .u64 (n + 1)] w fun e w' => e = .returned (.tuple #[.agg #[.bool db, .int .u64 dh, .int .u64 dl], .int .i64 fr]) ∧ Kept w w') (H1 : ∀ w, Calls Try.prog 16 #[.agg #[.bool xb, .int .u64 xh, .int .u64 xl]] w fun e w' => e = .returned (.int .u64 m) ∧ Kept w w') (C1 : ∀ w, Calls Try.prog 18 #[.agg #[.bool false, .int .u64 ch, .int .u64 cl], .agg #[.bool false, .int .u64 xh, .int .u64 xl]] w fun e w' => e = .returned (.int .i64 p) ∧ Kept w w') (C2 : fr = 0 → ∀ w, Calls Try.prog 18 #[.agg #[.bool db, .int .u64 dh, .int .u64 dl], .agg #[.bool false, .int .u64 xh, .int .u64 xl]] w fun e w' => e = .returned (.int .i64 1) ∧ Kept w w') (S1 : ∀ w, Calls Try.prog 12 #[.int .u64 m] w fun e w' => e = .returned (.agg #[.bool false, .int .u64 sh, .int .u64 sl]) ∧ Kept w w') (C3 : ∀ w, Calls Try.prog 18 #[.agg #[.bool false, .int .u64 sh, .int .u64 sl], .agg #[.bool false, .int .u64 xh, .int .u64 xl]] w fun e w' => e = .returned (.int .i64 q) ∧ Kept w w') (S2 : ¬ m = 18446744073709551615 → ∀ w, Calls Try.prog 12 #[.int .u64 (m + 1)] w fun e w' => e = .returned (.agg #[.bool false, .int .u64 uh, .int .u64 ul]) ∧ Kept w w') (C4 : ¬ m = 18446744073709551615 → ∀ w, Calls Try.prog 18 #[.agg #[.bool false, .int .u64 uh, .int .u64 ul], .agg #[.bool false, .int .u64 xh, .int .u64 xl]] w fun e w' => e = .returned (.int .i64 1) ∧ Kept w w') :
    Calls Try.prog 4 #[.agg #[.bool xb, .int .u64 xh, .int .u64 xl]] w fun e w' => e = .returned (.bool true) ∧ Kept w w' := by
  have T1' := Lib.hid T1
  have Q1' := Lib.hid Q1
  have Q2' := Lib.hid Q2
  have H1' := Lib.hid H1
  have C1' := Lib.hid C1
  have C2' := Lib.hid C2
  have S1' := Lib.hid S1
  have C3' := Lib.hid C3
  have S2' := Lib.hid S2
  have C4' := Lib.hid C4
  clear T1 Q1 Q2 H1 C1 C2 S1 C3 S2 C4
  have HF := Lib.hid hf
  clear hf
  go_enter Try.func4, Try.ntmps4
  go_upto_region 1 with fail
  generalize hW : (World.alloc w (.cells #[.bool xb, .int .u64 xh, .int .u64 xl] 24)) = W0
  have base := Lib.hid (show W0.cell? ⟨w.heap.size, 0, none⟩ = some (.bool xb) ∧ W0.cell? ⟨w.heap.size, 1, none⟩ = some (.int .u64 xh) ∧ W0.cell? ⟨w.heap.size, 2, none⟩ = some (.int .u64 xl) from by subst hW; simp [go_sem])
  have kw : Kept w W0 := by subst hW; exact (by (repeat (first | with_reducible exact Kept.refl _ | with_reducible apply Kept.drew | with_reducible apply Kept.alloc | ((with_reducible apply Kept.set); focus (simp <;> omega)) | ((with_reducible apply Kept.via); focus with_reducible assumption))))
  have zw : w.heap.size + 1 ≤ W0.heap.size := by subst hW; simp
  clear hW
  have H_x := base
  clear base
  generalize w.heap.size = g_x at *
  go_wp2_with fail
  refine (awake03 _).mono ?_
  rintro e w1 ⟨rfl, k1⟩
  obtain ⟨c_x0, c_x1, c_x2⟩ := Kept.all3 (show Kept W0 w1 from (by (repeat (first | with_reducible exact Kept.refl _ | with_reducible apply Kept.drew | with_reducible apply Kept.alloc | ((with_reducible apply Kept.set); focus (simp <;> omega)) | ((with_reducible apply Kept.via); focus with_reducible assumption))))) H_x
  go_upto_region 3 with fail
  generalize hW : World.alloc w1 (.cells #[.bool false, .int .u64 xh, .int .u64 xl] 24) = W_s
  have K_s : Kept w1 W_s := by subst hW; exact (Kept.refl _).alloc _ _
  have H_s := Lib.hid (show W_s.cell? ⟨w1.heap.size, 0, none⟩ = some (.bool false) ∧ W_s.cell? ⟨w1.heap.size, 1, none⟩ = some (.int .u64 xh) ∧ W_s.cell? ⟨w1.heap.size, 2, none⟩ = some (.int .u64 xl) from by subst hW; simp [go_sem])
  clear hW
  generalize w1.heap.size = g_s at *
  clear c_x0 c_x1 c_x2
  obtain ⟨c_x0, c_x1, c_x2⟩ := Kept.all3 (show Kept W0 W_s from (by (repeat (first | with_reducible exact Kept.refl _ | with_reducible apply Kept.drew | with_reducible apply Kept.alloc | ((with_reducible apply Kept.set); focus (simp <;> omega)) | ((with_reducible apply Kept.via); focus with_reducible assumption))))) H_x
  go_wp2_with fail
  refine (T1'.out _).mono ?_
  rintro e w2 ⟨rfl, k2⟩
  clear c_x0 c_x1 c_x2
  go_wp2_with fail
  refine (Q1'.out _).mono ?_
  rintro e w3 ⟨rfl, k3⟩
  go_upto_region 5 with fail
  generalize hW : World.alloc w3 (.cells #[.bool false, .int .u64 ch, .int .u64 cl] 24) = W_c
  have K_c : Kept w3 W_c := by subst hW; exact (Kept.refl _).alloc _ _
  have H_c := Lib.hid (show W_c.cell? ⟨w3.heap.size, 0, none⟩ = some (.bool false) ∧ W_c.cell? ⟨w3.heap.size, 1, none⟩ = some (.int .u64 ch) ∧ W_c.cell? ⟨w3.heap.size, 2, none⟩ = some (.int .u64 cl) from by subst hW; simp [go_sem])
  clear hW
  generalize w3.heap.size = g_c at *
  go_wp2_with fail
  refine (Q2'.out _).mono ?_
  rintro e w4 ⟨rfl, k4⟩
  go_upto_region 6 with fail
  generalize hW : World.alloc w4 (.cells #[.bool db, .int .u64 dh, .int .u64 dl] 24) = W_d
  have K_d : Kept w4 W_d := by subst hW; exact (Kept.refl _).alloc _ _
  have H_d := Lib.hid (show W_d.cell? ⟨w4.heap.size, 0, none⟩ = some (.bool db) ∧ W_d.cell? ⟨w4.heap.size, 1, none⟩ = some (.int .u64 dh) ∧ W_d.cell? ⟨w4.heap.size, 2, none⟩ = some (.int .u64 dl) from by subst hW; simp [go_sem])
  clear hW
  generalize w4.heap.size = g_d at *
  obtain ⟨c_x0, c_x1, c_x2⟩ := Kept.all3 (show Kept W0 W_d from (by (repeat (first | with_reducible exact Kept.refl _ | with_reducible apply Kept.drew | with_reducible apply Kept.alloc | ((with_reducible apply Kept.set); focus (simp <;> omega)) | ((with_reducible apply Kept.via); focus with_reducible assumption))))) H_x
  go_wp2_with fail
  refine (H1'.out _).mono ?_
  rintro e w5 ⟨rfl, k5⟩
  clear c_x0 c_x1 c_x2
  go_upto_region 7 with fail
  obtain ⟨c_c0, c_c1, c_c2⟩ := Kept.all3 (show Kept W_c w5 from (by (repeat (first | with_reducible exact Kept.refl _ | with_reducible apply Kept.drew | with_reducible apply Kept.alloc | ((with_reducible apply Kept.set); focus (simp <;> omega)) | ((with_reducible apply Kept.via); focus with_reducible assumption))))) H_c
  obtain ⟨c_s0, c_s1, c_s2⟩ := Kept.all3 (show Kept W_s w5 from (by (repeat (first | with_reducible exact Kept.refl _ | with_reducible apply Kept.drew | with_reducible apply Kept.alloc | ((with_reducible apply Kept.set); focus (simp <;> omega)) | ((with_reducible apply Kept.via); focus with_reducible assumption))))) H_s
  obtain ⟨c_d0, c_d1, c_d2⟩ := Kept.all3 (show Kept W_d w5 from (by (repeat (first | with_reducible exact Kept.refl _ | with_reducible apply Kept.drew | with_reducible apply Kept.alloc | ((with_reducible apply Kept.set); focus (simp <;> omega)) | ((with_reducible apply Kept.via); focus with_reducible assumption))))) H_d
  go_cut [11] (fun s11 wx => s11 = .bool true ∧ Kept w5 wx)
  case first =>
    rcases HF.out with rfl | rfl
    · clear HF
      have C2a := Lib.hid (C2'.out rfl)
      clear C2'
      go_wp2_with fail
      refine (C1'.out _).mono ?_
      rintro e v1 ⟨rfl, i1⟩
      obtain ⟨d_s0, d_s1, d_s2⟩ := Kept.all3 (show Kept W_s v1 from (by (repeat (first | with_reducible exact Kept.refl _ | with_reducible apply Kept.drew | with_reducible apply Kept.alloc | ((with_reducible apply Kept.set); focus (simp <;> omega)) | ((with_reducible apply Kept.via); focus with_reducible assumption))))) H_s
      obtain ⟨d_d0, d_d1, d_d2⟩ := Kept.all3 (show Kept W_d v1 from (by (repeat (first | with_reducible exact Kept.refl _ | with_reducible apply Kept.drew | with_reducible apply Kept.alloc | ((with_reducible apply Kept.set); focus (simp <;> omega)) | ((with_reducible apply Kept.via); focus with_reducible assumption))))) H_d
      clear c_s0 c_s1 c_s2 c_d0 c_d1 c_d2 c_c0 c_c1 c_c2
      go_wp2_with fail
      refine (C2a.out _).mono ?_
      rintro e v2 ⟨rfl, i2⟩
      go_wp2_with fail
      go_meet
      exact ⟨rfl, (by (repeat (first | with_reducible exact Kept.refl _ | with_reducible apply Kept.drew | with_reducible apply Kept.alloc | ((with_reducible apply Kept.set); focus (simp <;> omega)) | ((with_reducible apply Kept.via); focus with_reducible assumption))))⟩
    · clear HF
      clear C2'
      go_wp2_with fail
      refine (C1'.out _).mono ?_
      rintro e v1 ⟨rfl, i1⟩
      go_wp2_with fail
      go_meet
      exact ⟨rfl, (by (repeat (first | with_reducible exact Kept.refl _ | with_reducible apply Kept.drew | with_reducible apply Kept.alloc | ((with_reducible apply Kept.set); focus (simp <;> omega)) | ((with_reducible apply Kept.via); focus with_reducible assumption))))⟩
  obtain ⟨rfl, K_third⟩ := hcut
  clear c_c0 c_c1 c_c2 c_s0 c_s1 c_s2 c_d0 c_d1 c_d2
  clear C2' HF
  generalize wc = W_third at *
  by_cases hm : m = 18446744073709551615
  · subst hm
    clear S2' C4'
    go_upto_region 8 with fail
    have B_s := Lib.hid (Kept.all3 (show Kept W_s W_third from (by (repeat (first | with_reducible exact Kept.refl _ | with_reducible apply Kept.drew | with_reducible apply Kept.alloc | ((with_reducible apply Kept.set); focus (simp <;> omega)) | ((with_reducible apply Kept.via); focus with_reducible assumption))))) H_s)
    have kall : Kept w W_third := (by (repeat (first | with_reducible exact Kept.refl _ | with_reducible apply Kept.drew | with_reducible apply Kept.alloc | ((with_reducible apply Kept.set); focus (simp <;> omega)) | ((with_reducible apply Kept.via); focus with_reducible assumption))))
    obtain ⟨q_s0, q_s1, q_s2⟩ := kw3 B_s
    clear B_s
    refine wp_region_kept (by kernel_rfl) (by as_aux_lemma => kernel_rfl) ?_
    repeat (go_big_quiet_step (first | (with_reducible exact kept_of (S1'.out _)) | (with_reducible exact kept_of (C3'.out _))))
    refine wpQuiet_nil ?_
    intro wq hw'
    have kq : Kept W_third wq := by obtain ⟨p, rfl⟩ := hw'; exact p.k
    clear hw'
    go_wp2
    go_ret
    exact ⟨rfl, kall.trans kq⟩
  · have S2a := Lib.hid (S2'.out hm)
    have C4a := Lib.hid (C4'.out hm)
    clear S2' C4'
    have hm' : (m == 18446744073709551615) = false := by simp [hm]
    have hw : IntKind.u64.wrap (m + 1) = m + 1 := by rw [IntKind.wrap_u64]; omega
    go_upto_region 8 with fail
    have B_s := Lib.hid (Kept.all3 (show Kept W_s W_third from (by (repeat (first | with_reducible exact Kept.refl _ | with_reducible apply Kept.drew | with_reducible apply Kept.alloc | ((with_reducible apply Kept.set); focus (simp <;> omega)) | ((with_reducible apply Kept.via); focus with_reducible assumption))))) H_s)
    have kall : Kept w W_third := (by (repeat (first | with_reducible exact Kept.refl _ | with_reducible apply Kept.drew | with_reducible apply Kept.alloc | ((with_reducible apply Kept.set); focus (simp <;> omega)) | ((with_reducible apply Kept.via); focus with_reducible assumption))))
    obtain ⟨q_s0, q_s1, q_s2⟩ := kw3 B_s
    clear B_s
    refine wp_region_kept (by kernel_rfl) (by as_aux_lemma => kernel_rfl) ?_
    repeat (go_big_quiet_step (first | (with_reducible exact kept_of (S1'.out _)) | (with_reducible exact kept_of (C3'.out _)) | (with_reducible exact kept_of (S2a.out _)) | (with_reducible exact kept_of (C4a.out _))))
    refine wpQuiet_nil ?_
    intro wq hw'
    have kq : Kept W_third wq := by obtain ⟨p, rfl⟩ := hw'; exact p.k
    clear hw'
    go_wp2
    go_ret
    exact ⟨rfl, kall.trans kq⟩

theorem cmpI_le {x y : Int} (h : x ≤ y) : cmpI x y ≤ 0 := by unfold cmpI; split; omega; rw [if_pos (by omega)]; omega
theorem cmpI_gt {x y : Int} (h : y < x) : cmpI x y = 1 := by unfold cmpI; rw [if_neg (by omega), if_neg (by omega)]
theorem rootBounds_walk (xb : Bool) (xh xl : Int) (w : World) (h1 : Word xh) (h2 : Word xl) :
    Calls Try.prog 4 #[.agg #[.bool xb, .int .u64 xh, .int .u64 xl]] w fun e w' => e = .returned (.bool true) ∧ Kept w w' := by
  obtain ⟨n, hn⟩ := third_ex (sz_nonneg h1 h2)
  obtain ⟨m, hm⟩ := half_ex (sz_nonneg h1 h2)
  have n1 := third_most hn (sz_lt h1 h2)
  have m1 := half_most hm (sz_lt h1 h2)
  have n0 := hn.1; have m0 := hm.1
  obtain ⟨ch, cl, rc⟩ := cube_rep n0 n1
  obtain ⟨sh, sl, rs⟩ := square_rep (n := m) ⟨m0, by omega⟩
  have C1 := fun w => Cmp_ok (b1 := false) (b2 := false) rc.1 rc.2.1 h1 h2 w
  have C3 := fun w => Cmp_ok (b1 := false) (b2 := false) rs.1 rs.2.1 h1 h2 w
  rw [rc.2.2.1, numOf_false] at C1
  rw [rs.2.2.1, numOf_false] at C3
  obtain ⟨db, dh, dl, fr, hf, Q2, C2⟩ : ∃ (db : Bool) (dh dl fr : Int), (fr = 0 ∨ fr = 10) ∧ (∀ w, Calls Try.prog 10 #[.int .u64 (n + 1)] w fun e w' => e = .returned (.tuple #[.agg #[.bool db, .int .u64 dh, .int .u64 dl], .int .i64 fr]) ∧ Kept w w') ∧ (fr = 0 → ∀ w, Calls Try.prog 18 #[.agg #[.bool db, .int .u64 dh, .int .u64 dl], .agg #[.bool false, .int .u64 xh, .int .u64 xl]] w fun e w' => e = .returned (.int .i64 1) ∧ Kept w w') := by
    by_cases c : n + 1 ≤ 6981463658331
    · obtain ⟨dh, dl, r⟩ := cube_rep (n := n + 1) (by omega) c
      refine ⟨false, dh, dl, 0, Or.inl rfl, Cube_ok ⟨by omega, by omega⟩ r, fun _ w => ?_⟩
      have := Cmp_ok (b1 := false) (b2 := false) r.1 r.2.1 h1 h2 w
      rw [r.2.2.1, numOf_false, cmpI_gt hn.2.2] at this
      exact this
    · exact ⟨false, 0, 0, 10, Or.inr rfl, Cube_no ⟨by omega, by omega⟩ (cube_over (by omega) (by omega)), fun h => absurd h (by omega)⟩
  obtain ⟨uh, ul, S2, C4⟩ : ∃ uh ul : Int, (¬ m = 18446744073709551615 → ∀ w, Calls Try.prog 12 #[.int .u64 (m + 1)] w fun e w' => e = .returned (.agg #[.bool false, .int .u64 uh, .int .u64 ul]) ∧ Kept w w') ∧ (¬ m = 18446744073709551615 → ∀ w, Calls Try.prog 18 #[.agg #[.bool false, .int .u64 uh, .int .u64 ul], .agg #[.bool false, .int .u64 xh, .int .u64 xl]] w fun e w' => e = .returned (.int .i64 1) ∧ Kept w w') := by
    by_cases c : m = 18446744073709551615
    · exact ⟨0, 0, fun h => absurd c h, fun h => absurd c h⟩
    · obtain ⟨uh, ul, r⟩ := square_rep (n := m + 1) ⟨by omega, by omega⟩
      refine ⟨uh, ul, fun _ => Square_ok ⟨by omega, by omega⟩ r, fun _ w => ?_⟩
      have := Cmp_ok (b1 := false) (b2 := false) r.1 r.2.1 h1 h2 w
      rw [r.2.2.1, numOf_false, cmpI_gt hm.2.2] at this
      exact this
  exact bounds_head xb db xh xl ch cl dh dl sh sl uh ul n m _ _ fr n0 n1 m0 m1 (cmpI_le hn.2.1) (cmpI_le hm.2.1) hf w (Third_ok h1 h2 hn) (Cube_ok ⟨n0, by omega⟩ rc) Q2 (Half_ok h1 h2 hm) C1 C2 (Square_ok ⟨m0, by omega⟩ rs) C3 S2 C4
end Go.Proofs.Ytgmhcgmaidnbeaa
