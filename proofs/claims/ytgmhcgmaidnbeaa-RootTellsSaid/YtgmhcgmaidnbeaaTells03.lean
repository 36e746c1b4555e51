/-
  The walk of RootTells: it answers true, whatever it is given.
-/
import Derived.Test.YtgmhcgmaidnbeaaRefP03
namespace Go.Proofs.Ytgmhcgmaidnbeaa
open Go.RowKit Go.BigFrame

set_option maxRecDepth 100000 in
set_option maxHeartbeats 1600000 in
theorem tells_head3 (xb cb : Bool) (n xh xl ch cl sh sl t h er : Int) (w : World) (Q1 : ∀ w, Calls Try.prog 10 #[.int .u64 n] w fun e w' => e = .returned (.tuple #[.agg #[.bool cb, .int .u64 ch, .int .u64 cl], .int .i64 er]) ∧ Kept w w') (Q2 : ∀ w, Calls Try.prog 11 #[.int .u64 n] w fun e w' => e = .returned (.tuple #[.agg #[.bool cb, .int .u64 ch, .int .u64 cl], .int .i64 er]) ∧ Kept w w') (S1 : ∀ w, Calls Try.prog 12 #[.int .u64 n] w fun e w' => e = .returned (.agg #[.bool false, .int .u64 sh, .int .u64 sl]) ∧ Kept w w') (S2 : ∀ w, Calls Try.prog 13 #[.int .u64 n] w fun e w' => e = .returned (.agg #[.bool false, .int .u64 sh, .int .u64 sl]) ∧ Kept w w') (T1 : ∀ w, Calls Try.prog 14 #[.agg #[.bool xb, .int .u64 xh, .int .u64 xl]] w fun e w' => e = .returned (.int .u64 t) ∧ Kept w w') (T2 : ∀ w, Calls Try.prog 15 #[.agg #[.bool xb, .int .u64 xh, .int .u64 xl]] w fun e w' => e = .returned (.int .u64 t) ∧ Kept w w') (H1 : ∀ w, Calls Try.prog 16 #[.agg #[.bool xb, .int .u64 xh, .int .u64 xl]] w fun e w' => e = .returned (.int .u64 h) ∧ Kept w w') (H2 : ∀ w, Calls Try.prog 17 #[.agg #[.bool xb, .int .u64 xh, .int .u64 xl]] w fun e w' => e = .returned (.int .u64 h) ∧ Kept w w') :
    Calls Try.prog 3 #[.int .u64 n, .agg #[.bool xb, .int .u64 xh, .int .u64 xl]] w fun e w' => e = .returned (.bool true) ∧ Kept w w' := by
  have Q1' := Lib.hid Q1
  have Q2' := Lib.hid Q2
  have S1' := Lib.hid S1
  have S2' := Lib.hid S2
  have T1' := Lib.hid T1
  have T2' := Lib.hid T2
  have H1' := Lib.hid H1
  have H2' := Lib.hid H2
  clear Q1 Q2 S1 S2 T1 T2 H1 H2
  go_enter Try.func3, Try.ntmps3
  go_upto_region 1 with fail
  generalize hW : (World.alloc w (.cells #[.bool xb, .int .u64 xh, .int .u64 xl] 24)) = W0
  have base := Lib.hid (show W0.cell? ⟨w.heap.size, 0, none⟩ = some (.bool xb) ∧ W0.cell? ⟨w.heap.size, 1, none⟩ = some (.int .u64 xh) ∧ W0.cell? ⟨w.heap.size, 2, none⟩ = some (.int .u64 xl) from by subst hW; simp [go_sem])
  have kw : Kept w W0 := by subst hW; exact (by (repeat (first | with_reducible exact Kept.refl _ | with_reducible apply Kept.drew | with_reducible apply Kept.alloc | ((with_reducible apply Kept.set); focus (simp <;> omega)) | ((with_reducible apply Kept.via); focus with_reducible assumption))))
  have zw : w.heap.size + 1 ≤ W0.heap.size := by subst hW; simp
  clear hW
  have H_x := base
  clear base
  generalize w.heap.size = g_x at *
  go_wp2_with fail
  refine (awake03 _).mono ?_
  rintro e w1 ⟨rfl, k1⟩
  go_wp2_with fail
  refine (Q1'.out _).mono ?_
  rintro e w2 ⟨rfl, k2⟩
  go_upto_region 3 with fail
  generalize hW : World.alloc w2 (.cells #[.bool cb, .int .u64 ch, .int .u64 cl] 24) = W_c
  have K_c : Kept w2 W_c := by subst hW; exact (Kept.refl _).alloc _ _
  have H_c := Lib.hid (show W_c.cell? ⟨w2.heap.size, 0, none⟩ = some (.bool cb) ∧ W_c.cell? ⟨w2.heap.size, 1, none⟩ = some (.int .u64 ch) ∧ W_c.cell? ⟨w2.heap.size, 2, none⟩ = some (.int .u64 cl) from by subst hW; simp [go_sem])
  clear hW
  generalize w2.heap.size = g_c at *
  go_wp2_with fail
  refine (Q2'.out _).mono ?_
  rintro e w3 ⟨rfl, k3⟩
  go_upto_region 4 with fail
  generalize hW : World.alloc w3 (.cells #[.bool cb, .int .u64 ch, .int .u64 cl] 24) = W_d
  have K_d : Kept w3 W_d := by subst hW; exact (Kept.refl _).alloc _ _
  have H_d := Lib.hid (show W_d.cell? ⟨w3.heap.size, 0, none⟩ = some (.bool cb) ∧ W_d.cell? ⟨w3.heap.size, 1, none⟩ = some (.int .u64 ch) ∧ W_d.cell? ⟨w3.heap.size, 2, none⟩ = some (.int .u64 cl) from by subst hW; simp [go_sem])
  clear hW
  generalize w3.heap.size = g_d at *
  have B_x := Lib.hid (Kept.all3 (show Kept W0 W_d from (by (repeat (first | with_reducible exact Kept.refl _ | with_reducible apply Kept.drew | with_reducible apply Kept.alloc | ((with_reducible apply Kept.set); focus (simp <;> omega)) | ((with_reducible apply Kept.via); focus with_reducible assumption))))) H_x)
  have B_c := Lib.hid (Kept.all3 (show Kept W_c W_d from (by (repeat (first | with_reducible exact Kept.refl _ | with_reducible apply Kept.drew | with_reducible apply Kept.alloc | ((with_reducible apply Kept.set); focus (simp <;> omega)) | ((with_reducible apply Kept.via); focus with_reducible assumption))))) H_c)
  have B_d := Lib.hid (Kept.all3 (show Kept W_d W_d from (by (repeat (first | with_reducible exact Kept.refl _ | with_reducible apply Kept.drew | with_reducible apply Kept.alloc | ((with_reducible apply Kept.set); focus (simp <;> omega)) | ((with_reducible apply Kept.via); focus with_reducible assumption))))) H_d)
  have kall : Kept w W_d := (by (repeat (first | with_reducible exact Kept.refl _ | with_reducible apply Kept.drew | with_reducible apply Kept.alloc | ((with_reducible apply Kept.set); focus (simp <;> omega)) | ((with_reducible apply Kept.via); focus with_reducible assumption))))
  obtain ⟨q_x0, q_x1, q_x2⟩ := kw3 B_x
  obtain ⟨q_c0, q_c1, q_c2⟩ := kw3 B_c
  obtain ⟨q_d0, q_d1, q_d2⟩ := kw3 B_d
  clear B_x B_c B_d
  refine wp_region_kept (by kernel_rfl) (by as_aux_lemma => kernel_rfl) ?_
  repeat (go_big_quiet_step (first | (with_reducible exact kept_of (S1'.out _)) | (with_reducible exact kept_of (S2'.out _)) | (with_reducible exact kept_of (T1'.out _)) | (with_reducible exact kept_of (T2'.out _)) | (with_reducible exact kept_of (H1'.out _)) | (with_reducible exact kept_of (H2'.out _))))
  refine wpQuiet_nil ?_
  intro wq hw'
  have kq : Kept W_d wq := by obtain ⟨p, rfl⟩ := hw'; exact p.k
  clear hw'
  go_wp2
  go_ret
  exact ⟨rfl, kall.trans kq⟩

theorem rootTells_walk (xb : Bool) (n xh xl : Int) (w : World) (hn : Word n) (h1 : Word xh) (h2 : Word xl) :
    Calls Try.prog 3 #[.int .u64 n, .agg #[.bool xb, .int .u64 xh, .int .u64 xl]] w fun e w' => e = .returned (.bool true) ∧ Kept w w' := by
  obtain ⟨t, ht⟩ := third_ex (sz_nonneg h1 h2)
  obtain ⟨h, hh⟩ := half_ex (sz_nonneg h1 h2)
  obtain ⟨sh, sl, rs⟩ := square_rep hn
  rcases Int.lt_or_le 6981463658331 n with k | k
  · exact tells_head3 xb false n xh xl 0 0 sh sl t h 10 w (Cube_no hn (cube_over hn.1 k)) (refCube_no hn (cube_over hn.1 k)) (Square_ok hn rs) (refSquare_ok hn rs) (Third_ok h1 h2 ht) (refThird_ok h1 h2 ht) (Half_ok h1 h2 hh) (refHalf_ok h1 h2 hh)
  · obtain ⟨ch, cl, rc⟩ := cube_rep hn.1 k
    exact tells_head3 xb false n xh xl ch cl sh sl t h 0 w (Cube_ok hn rc) (refCube_ok hn rc) (Square_ok hn rs) (refSquare_ok hn rs) (Third_ok h1 h2 ht) (refThird_ok h1 h2 ht) (Half_ok h1 h2 hh) (refHalf_ok h1 h2 hh)
end Go.Proofs.Ytgmhcgmaidnbeaa
