/-
  The walk of BigTells: it answers true, whatever it is given.
-/
import Derived.Test.YtahbijfmhdiafaaAwake02
import Derived.Test.YtahbijfmhdiafaaRefI02
namespace Go.Proofs.Ytahbijfmhdiafaa
open Go.RowKit Go.BigFrame

set_option maxRecDepth 100000 in
set_option maxHeartbeats 3200000 in
theorem tells_all (xb yb sb pb ub ab mb nb : Bool) (xh xl yh yl a b n sh sl er ph pl gr uh ul rr ir ah al mh ml kr tr : Int) (w : World) (A1 : ∀ w, Calls Try.prog 10 #[.agg #[.bool xb, .int .u64 xh, .int .u64 xl], .agg #[.bool yb, .int .u64 yh, .int .u64 yl]] w fun e w' => e = .returned (.tuple #[.agg #[.bool sb, .int .u64 sh, .int .u64 sl], .int .i64 er]) ∧ Kept w w') (A2 : ∀ w, Calls Try.prog 11 #[.agg #[.bool xb, .int .u64 xh, .int .u64 xl], .agg #[.bool yb, .int .u64 yh, .int .u64 yl]] w fun e w' => e = .returned (.tuple #[.agg #[.bool sb, .int .u64 sh, .int .u64 sl], .int .i64 er]) ∧ Kept w w') (C1 : ∀ w, Calls Try.prog 12 #[.agg #[.bool xb, .int .u64 xh, .int .u64 xl], .int .u64 n] w fun e w' => e = .returned (.tuple #[.agg #[.bool pb, .int .u64 ph, .int .u64 pl], .int .i64 gr]) ∧ Kept w w') (C2 : ∀ w, Calls Try.prog 13 #[.agg #[.bool xb, .int .u64 xh, .int .u64 xl], .int .u64 n] w fun e w' => e = .returned (.tuple #[.agg #[.bool pb, .int .u64 ph, .int .u64 pl], .int .i64 gr]) ∧ Kept w w') (D1 : ∀ w, Calls Try.prog 14 #[.agg #[.bool xb, .int .u64 xh, .int .u64 xl], .int .u64 n] w fun e w' => e = .returned (.tuple #[.agg #[.bool ub, .int .u64 uh, .int .u64 ul], .int .u64 rr, .int .i64 ir]) ∧ Kept w w') (D2 : ∀ w, Calls Try.prog 15 #[.agg #[.bool xb, .int .u64 xh, .int .u64 xl], .int .u64 n] w fun e w' => e = .returned (.tuple #[.agg #[.bool ub, .int .u64 uh, .int .u64 ul], .int .u64 rr, .int .i64 ir]) ∧ Kept w w') (O1 : ∀ w, Calls Try.prog 16 #[.int .i64 a] w fun e w' => e = .returned (.agg #[.bool ab, .int .u64 ah, .int .u64 al]) ∧ Kept w w') (O2 : ∀ w, Calls Try.prog 17 #[.int .i64 a] w fun e w' => e = .returned (.agg #[.bool ab, .int .u64 ah, .int .u64 al]) ∧ Kept w w') (M1 : ∀ w, Calls Try.prog 18 #[.int .i64 a, .int .i64 b] w fun e w' => e = .returned (.agg #[.bool mb, .int .u64 mh, .int .u64 ml]) ∧ Kept w w') (M2 : ∀ w, Calls Try.prog 19 #[.int .i64 a, .int .i64 b] w fun e w' => e = .returned (.agg #[.bool mb, .int .u64 mh, .int .u64 ml]) ∧ Kept w w') (G1 : ∀ w, Calls Try.prog 20 #[.agg #[.bool xb, .int .u64 xh, .int .u64 xl]] w fun e w' => e = .returned (.agg #[.bool nb, .int .u64 xh, .int .u64 xl]) ∧ Kept w w') (G2 : ∀ w, Calls Try.prog 21 #[.agg #[.bool xb, .int .u64 xh, .int .u64 xl]] w fun e w' => e = .returned (.agg #[.bool nb, .int .u64 xh, .int .u64 xl]) ∧ Kept w w') (K1 : ∀ w, Calls Try.prog 22 #[.agg #[.bool xb, .int .u64 xh, .int .u64 xl], .agg #[.bool yb, .int .u64 yh, .int .u64 yl]] w fun e w' => e = .returned (.int .i64 kr) ∧ Kept w w') (K2 : ∀ w, Calls Try.prog 23 #[.agg #[.bool xb, .int .u64 xh, .int .u64 xl], .agg #[.bool yb, .int .u64 yh, .int .u64 yl]] w fun e w' => e = .returned (.int .i64 kr) ∧ Kept w w') (I1 : ∀ w, Calls Try.prog 24 #[.agg #[.bool xb, .int .u64 xh, .int .u64 xl]] w fun e w' => e = .returned (.int .i64 tr) ∧ Kept w w') (I2 : ∀ w, Calls Try.prog 25 #[.agg #[.bool xb, .int .u64 xh, .int .u64 xl]] w fun e w' => e = .returned (.int .i64 tr) ∧ Kept w w') :
    Calls Try.prog 3 #[.agg #[.bool xb, .int .u64 xh, .int .u64 xl], .agg #[.bool yb, .int .u64 yh, .int .u64 yl], .int .i64 a, .int .i64 b, .int .u64 n] w fun e w' => e = .returned (.bool true) ∧ Kept w w' := by
  have A1' := Lib.hid A1
  have A2' := Lib.hid A2
  have C1' := Lib.hid C1
  have C2' := Lib.hid C2
  have D1' := Lib.hid D1
  have D2' := Lib.hid D2
  have O1' := Lib.hid O1
  have O2' := Lib.hid O2
  have M1' := Lib.hid M1
  have M2' := Lib.hid M2
  have G1' := Lib.hid G1
  have G2' := Lib.hid G2
  have K1' := Lib.hid K1
  have K2' := Lib.hid K2
  have I1' := Lib.hid I1
  have I2' := Lib.hid I2
  clear A1 A2 C1 C2 D1 D2 O1 O2 M1 M2 G1 G2 K1 K2 I1 I2
  go_enter Try.func3, Try.ntmps3
  go_upto_region 1 with fail
  generalize hW : (World.alloc (World.alloc w (.cells #[.bool xb, .int .u64 xh, .int .u64 xl] 24)) (.cells #[.bool yb, .int .u64 yh, .int .u64 yl] 24)) = W0
  have base := Lib.hid (show W0.cell? ⟨w.heap.size, 0, none⟩ = some (.bool xb) ∧ W0.cell? ⟨w.heap.size, 1, none⟩ = some (.int .u64 xh) ∧ W0.cell? ⟨w.heap.size, 2, none⟩ = some (.int .u64 xl) ∧ W0.cell? ⟨w.heap.size + 1, 0, none⟩ = some (.bool yb) ∧ W0.cell? ⟨w.heap.size + 1, 1, none⟩ = some (.int .u64 yh) ∧ W0.cell? ⟨w.heap.size + 1, 2, none⟩ = some (.int .u64 yl) from by subst hW; simp [go_sem])
  have kw : Kept w W0 := by subst hW; exact (by (repeat (first | with_reducible exact Kept.refl _ | with_reducible apply Kept.drew | with_reducible apply Kept.alloc | ((with_reducible apply Kept.set); focus (simp <;> omega)) | ((with_reducible apply Kept.via); focus with_reducible assumption))))
  have zw : w.heap.size + 2 ≤ W0.heap.size := by subst hW; simp
  clear hW
  obtain ⟨x0, x1, x2, y0, y1, y2⟩ := Kept.all6 (Kept.refl _) base
  have H_x := Lib.hid (And.intro x0 (And.intro x1 x2))
  have H_y := Lib.hid (And.intro y0 (And.intro y1 y2))
  clear base x0 x1 x2 y0 y1 y2
  generalize w.heap.size + 1 = g_y at *
  generalize w.heap.size = g_x at *
  go_wp2_with fail
  refine (awake02 _).mono ?_
  rintro e w1 ⟨rfl, k1⟩
  obtain ⟨c_x0, c_x1, c_x2⟩ := Kept.all3 (show Kept W0 w1 from (by (repeat (first | with_reducible exact Kept.refl _ | with_reducible apply Kept.drew | with_reducible apply Kept.alloc | ((with_reducible apply Kept.set); focus (simp <;> omega)) | ((with_reducible apply Kept.via); focus with_reducible assumption))))) H_x
  obtain ⟨c_y0, c_y1, c_y2⟩ := Kept.all3 (show Kept W0 w1 from (by (repeat (first | with_reducible exact Kept.refl _ | with_reducible apply Kept.drew | with_reducible apply Kept.alloc | ((with_reducible apply Kept.set); focus (simp <;> omega)) | ((with_reducible apply Kept.via); focus with_reducible assumption))))) H_y
  go_wp2_with fail
  refine (A1'.out _).mono ?_
  rintro e w2 ⟨rfl, k2⟩
  clear c_x0 c_x1 c_x2 c_y0 c_y1 c_y2
  go_upto_region 3 with fail
  generalize hW : World.alloc w2 (.cells #[.bool sb, .int .u64 sh, .int .u64 sl] 24) = W_s
  have K_s : Kept w2 W_s := by subst hW; exact (Kept.refl _).alloc _ _
  have H_s := Lib.hid (show W_s.cell? ⟨w2.heap.size, 0, none⟩ = some (.bool sb) ∧ W_s.cell? ⟨w2.heap.size, 1, none⟩ = some (.int .u64 sh) ∧ W_s.cell? ⟨w2.heap.size, 2, none⟩ = some (.int .u64 sl) from by subst hW; simp [go_sem])
  clear hW
  generalize w2.heap.size = g_s at *
  obtain ⟨c_x0, c_x1, c_x2⟩ := Kept.all3 (show Kept W0 W_s from (by (repeat (first | with_reducible exact Kept.refl _ | with_reducible apply Kept.drew | with_reducible apply Kept.alloc | ((with_reducible apply Kept.set); focus (simp <;> omega)) | ((with_reducible apply Kept.via); focus with_reducible assumption))))) H_x
  obtain ⟨c_y0, c_y1, c_y2⟩ := Kept.all3 (show Kept W0 W_s from (by (repeat (first | with_reducible exact Kept.refl _ | with_reducible apply Kept.drew | with_reducible apply Kept.alloc | ((with_reducible apply Kept.set); focus (simp <;> omega)) | ((with_reducible apply Kept.via); focus with_reducible assumption))))) H_y
  go_wp2_with fail
  refine (A2'.out _).mono ?_
  rintro e w3 ⟨rfl, k3⟩
  clear c_x0 c_x1 c_x2 c_y0 c_y1 c_y2
  go_upto_region 4 with fail
  generalize hW : World.alloc w3 (.cells #[.bool sb, .int .u64 sh, .int .u64 sl] 24) = W_t
  have K_t : Kept w3 W_t := by subst hW; exact (Kept.refl _).alloc _ _
  have H_t := Lib.hid (show W_t.cell? ⟨w3.heap.size, 0, none⟩ = some (.bool sb) ∧ W_t.cell? ⟨w3.heap.size, 1, none⟩ = some (.int .u64 sh) ∧ W_t.cell? ⟨w3.heap.size, 2, none⟩ = some (.int .u64 sl) from by subst hW; simp [go_sem])
  clear hW
  generalize w3.heap.size = g_t at *
  obtain ⟨c_x0, c_x1, c_x2⟩ := Kept.all3 (show Kept W0 W_t from (by (repeat (first | with_reducible exact Kept.refl _ | with_reducible apply Kept.drew | with_reducible apply Kept.alloc | ((with_reducible apply Kept.set); focus (simp <;> omega)) | ((with_reducible apply Kept.via); focus with_reducible assumption))))) H_x
  go_wp2_with fail
  refine (C1'.out _).mono ?_
  rintro e w4 ⟨rfl, k4⟩
  clear c_x0 c_x1 c_x2
  go_upto_region 5 with fail
  generalize hW : World.alloc w4 (.cells #[.bool pb, .int .u64 ph, .int .u64 pl] 24) = W_p
  have K_p : Kept w4 W_p := by subst hW; exact (Kept.refl _).alloc _ _
  have H_p := Lib.hid (show W_p.cell? ⟨w4.heap.size, 0, none⟩ = some (.bool pb) ∧ W_p.cell? ⟨w4.heap.size, 1, none⟩ = some (.int .u64 ph) ∧ W_p.cell? ⟨w4.heap.size, 2, none⟩ = some (.int .u64 pl) from by subst hW; simp [go_sem])
  clear hW
  generalize w4.heap.size = g_p at *
  obtain ⟨c_x0, c_x1, c_x2⟩ := Kept.all3 (show Kept W0 W_p from (by (repeat (first | with_reducible exact Kept.refl _ | with_reducible apply Kept.drew | with_reducible apply Kept.alloc | ((with_reducible apply Kept.set); focus (simp <;> omega)) | ((with_reducible apply Kept.via); focus with_reducible assumption))))) H_x
  go_wp2_with fail
  refine (C2'.out _).mono ?_
  rintro e w5 ⟨rfl, k5⟩
  clear c_x0 c_x1 c_x2
  go_upto_region 6 with fail
  generalize hW : World.alloc w5 (.cells #[.bool pb, .int .u64 ph, .int .u64 pl] 24) = W_q
  have K_q : Kept w5 W_q := by subst hW; exact (Kept.refl _).alloc _ _
  have H_q := Lib.hid (show W_q.cell? ⟨w5.heap.size, 0, none⟩ = some (.bool pb) ∧ W_q.cell? ⟨w5.heap.size, 1, none⟩ = some (.int .u64 ph) ∧ W_q.cell? ⟨w5.heap.size, 2, none⟩ = some (.int .u64 pl) from by subst hW; simp [go_sem])
  clear hW
  generalize w5.heap.size = g_q at *
  obtain ⟨c_x0, c_x1, c_x2⟩ := Kept.all3 (show Kept W0 W_q from (by (repeat (first | with_reducible exact Kept.refl _ | with_reducible apply Kept.drew | with_reducible apply Kept.alloc | ((with_reducible apply Kept.set); focus (simp <;> omega)) | ((with_reducible apply Kept.via); focus with_reducible assumption))))) H_x
  go_wp2_with fail
  refine (D1'.out _).mono ?_
  rintro e w6 ⟨rfl, k6⟩
  clear c_x0 c_x1 c_x2
  go_upto_region 7 with fail
  generalize hW : World.alloc w6 (.cells #[.bool ub, .int .u64 uh, .int .u64 ul] 24) = W_u
  have K_u : Kept w6 W_u := by subst hW; exact (Kept.refl _).alloc _ _
  have H_u := Lib.hid (show W_u.cell? ⟨w6.heap.size, 0, none⟩ = some (.bool ub) ∧ W_u.cell? ⟨w6.heap.size, 1, none⟩ = some (.int .u64 uh) ∧ W_u.cell? ⟨w6.heap.size, 2, none⟩ = some (.int .u64 ul) from by subst hW; simp [go_sem])
  clear hW
  generalize w6.heap.size = g_u at *
  obtain ⟨c_x0, c_x1, c_x2⟩ := Kept.all3 (show Kept W0 W_u from (by (repeat (first | with_reducible exact Kept.refl _ | with_reducible apply Kept.drew | with_reducible apply Kept.alloc | ((with_reducible apply Kept.set); focus (simp <;> omega)) | ((with_reducible apply Kept.via); focus with_reducible assumption))))) H_x
  go_wp2_with fail
  refine (D2'.out _).mono ?_
  rintro e w7 ⟨rfl, k7⟩
  clear c_x0 c_x1 c_x2
  go_upto_region 8 with fail
  generalize hW : World.alloc w7 (.cells #[.bool ub, .int .u64 uh, .int .u64 ul] 24) = W_v
  have K_v : Kept w7 W_v := by subst hW; exact (Kept.refl _).alloc _ _
  have H_v := Lib.hid (show W_v.cell? ⟨w7.heap.size, 0, none⟩ = some (.bool ub) ∧ W_v.cell? ⟨w7.heap.size, 1, none⟩ = some (.int .u64 uh) ∧ W_v.cell? ⟨w7.heap.size, 2, none⟩ = some (.int .u64 ul) from by subst hW; simp [go_sem])
  clear hW
  generalize w7.heap.size = g_v at *
  obtain ⟨c_s0, c_s1, c_s2⟩ := Kept.all3 (show Kept W_s W_v from (by (repeat (first | with_reducible exact Kept.refl _ | with_reducible apply Kept.drew | with_reducible apply Kept.alloc | ((with_reducible apply Kept.set); focus (simp <;> omega)) | ((with_reducible apply Kept.via); focus with_reducible assumption))))) H_s
  obtain ⟨c_t0, c_t1, c_t2⟩ := Kept.all3 (show Kept W_t W_v from (by (repeat (first | with_reducible exact Kept.refl _ | with_reducible apply Kept.drew | with_reducible apply Kept.alloc | ((with_reducible apply Kept.set); focus (simp <;> omega)) | ((with_reducible apply Kept.via); focus with_reducible assumption))))) H_t
  obtain ⟨c_p0, c_p1, c_p2⟩ := Kept.all3 (show Kept W_p W_v from (by (repeat (first | with_reducible exact Kept.refl _ | with_reducible apply Kept.drew | with_reducible apply Kept.alloc | ((with_reducible apply Kept.set); focus (simp <;> omega)) | ((with_reducible apply Kept.via); focus with_reducible assumption))))) H_p
  obtain ⟨c_q0, c_q1, c_q2⟩ := Kept.all3 (show Kept W_q W_v from (by (repeat (first | with_reducible exact Kept.refl _ | with_reducible apply Kept.drew | with_reducible apply Kept.alloc | ((with_reducible apply Kept.set); focus (simp <;> omega)) | ((with_reducible apply Kept.via); focus with_reducible assumption))))) H_q
  obtain ⟨c_u0, c_u1, c_u2⟩ := Kept.all3 (show Kept W_u W_v from (by (repeat (first | with_reducible exact Kept.refl _ | with_reducible apply Kept.drew | with_reducible apply Kept.alloc | ((with_reducible apply Kept.set); focus (simp <;> omega)) | ((with_reducible apply Kept.via); focus with_reducible assumption))))) H_u
  obtain ⟨c_v0, c_v1, c_v2⟩ := Kept.all3 (show Kept W_v W_v from (by (repeat (first | with_reducible exact Kept.refl _ | with_reducible apply Kept.drew | with_reducible apply Kept.alloc | ((with_reducible apply Kept.set); focus (simp <;> omega)) | ((with_reducible apply Kept.via); focus with_reducible assumption))))) H_v
  go_upto_region 9 with fail
  clear c_s0 c_s1 c_s2 c_t0 c_t1 c_t2 c_p0 c_p1 c_p2 c_q0 c_q1 c_q2 c_u0 c_u1 c_u2 c_v0 c_v1 c_v2
  have B_x := Lib.hid (Kept.all3 (show Kept W0 W_v from (by (repeat (first | with_reducible exact Kept.refl _ | with_reducible apply Kept.drew | with_reducible apply Kept.alloc | ((with_reducible apply Kept.set); focus (simp <;> omega)) | ((with_reducible apply Kept.via); focus with_reducible assumption))))) H_x)
  have B_y := Lib.hid (Kept.all3 (show Kept W0 W_v from (by (repeat (first | with_reducible exact Kept.refl _ | with_reducible apply Kept.drew | with_reducible apply Kept.alloc | ((with_reducible apply Kept.set); focus (simp <;> omega)) | ((with_reducible apply Kept.via); focus with_reducible assumption))))) H_y)
  have kall : Kept w W_v := (by (repeat (first | with_reducible exact Kept.refl _ | with_reducible apply Kept.drew | with_reducible apply Kept.alloc | ((with_reducible apply Kept.set); focus (simp <;> omega)) | ((with_reducible apply Kept.via); focus with_reducible assumption))))
  obtain ⟨q_x0, q_x1, q_x2⟩ := kw3 B_x
  obtain ⟨q_y0, q_y1, q_y2⟩ := kw3 B_y
  clear B_x B_y
  refine wp_region_kept (by kernel_rfl) (by as_aux_lemma => kernel_rfl) ?_
  repeat (go_big_quiet_step (first | (with_reducible exact kept_of (O1'.out _)) | (with_reducible exact kept_of (O2'.out _)) | (with_reducible exact kept_of (M1'.out _)) | (with_reducible exact kept_of (M2'.out _)) | (with_reducible exact kept_of (G1'.out _)) | (with_reducible exact kept_of (G2'.out _)) | (with_reducible exact kept_of (K1'.out _)) | (with_reducible exact kept_of (K2'.out _)) | (with_reducible exact kept_of (I1'.out _)) | (with_reducible exact kept_of (I2'.out _))))
  refine wpQuiet_nil ?_
  intro wq hw'
  have kq : Kept W_v wq := by obtain ⟨p, rfl⟩ := hw'; exact p.k
  clear hw'
  go_wp2
  go_ret
  exact ⟨rfl, kall.trans kq⟩

theorem bigTells_walk (xb yb : Bool) (xh xl yh yl a b n : Int) (w : World) (h1 : Word xh) (h2 : Word xl) (h3 : Word yh) (h4 : Word yl) (ha : In64 a) (hb : In64 b) (hn : Word n) :
    Calls Try.prog 3 #[.agg #[.bool xb, .int .u64 xh, .int .u64 xl], .agg #[.bool yb, .int .u64 yh, .int .u64 yl], .int .i64 a, .int .i64 b, .int .u64 n] w fun e w' => e = .returned (.bool true) ∧ Kept w w' := by
  obtain ⟨sb, sh, sl, er, A1, A2⟩ : ∃ (sb : Bool) (sh sl er : Int), (∀ w, Calls Try.prog 10 #[.agg #[.bool xb, .int .u64 xh, .int .u64 xl], .agg #[.bool yb, .int .u64 yh, .int .u64 yl]] w fun e w' => e = .returned (.tuple #[.agg #[.bool sb, .int .u64 sh, .int .u64 sl], .int .i64 er]) ∧ Kept w w') ∧ (∀ w, Calls Try.prog 11 #[.agg #[.bool xb, .int .u64 xh, .int .u64 xl], .agg #[.bool yb, .int .u64 yh, .int .u64 yl]] w fun e w' => e = .returned (.tuple #[.agg #[.bool sb, .int .u64 sh, .int .u64 sl], .int .i64 er]) ∧ Kept w w') := by
    by_cases c : InBig (numOf xb xh xl + numOf yb yh yl)
    · obtain ⟨sb, sh, sl, r⟩ := rep_ex _ c
      exact ⟨sb, sh, sl, 0, Add_ok h1 h2 h3 h4 r, refAdd_ok h1 h2 h3 h4 r⟩
    · exact ⟨false, 0, 0, 10, Add_no h1 h2 h3 h4 c, refAdd_no h1 h2 h3 h4 c⟩
  obtain ⟨pb, ph, pl, gr, C1, C2⟩ : ∃ (pb : Bool) (ph pl gr : Int), (∀ w, Calls Try.prog 12 #[.agg #[.bool xb, .int .u64 xh, .int .u64 xl], .int .u64 n] w fun e w' => e = .returned (.tuple #[.agg #[.bool pb, .int .u64 ph, .int .u64 pl], .int .i64 gr]) ∧ Kept w w') ∧ (∀ w, Calls Try.prog 13 #[.agg #[.bool xb, .int .u64 xh, .int .u64 xl], .int .u64 n] w fun e w' => e = .returned (.tuple #[.agg #[.bool pb, .int .u64 ph, .int .u64 pl], .int .i64 gr]) ∧ Kept w w') := by
    by_cases c : InBig (numOf xb xh xl * n)
    · obtain ⟨pb, ph, pl, r⟩ := rep_ex _ c
      exact ⟨pb, ph, pl, 0, Scale_yes h1 h2 hn r, refScale_yes h1 h2 hn r⟩
    · exact ⟨false, 0, 0, 10, Scale_over h1 h2 hn c, refScale_no h1 h2 hn c⟩
  obtain ⟨ub, uh, ul, rr, ir, D1, D2⟩ : ∃ (ub : Bool) (uh ul rr ir : Int), (∀ w, Calls Try.prog 14 #[.agg #[.bool xb, .int .u64 xh, .int .u64 xl], .int .u64 n] w fun e w' => e = .returned (.tuple #[.agg #[.bool ub, .int .u64 uh, .int .u64 ul], .int .u64 rr, .int .i64 ir]) ∧ Kept w w') ∧ (∀ w, Calls Try.prog 15 #[.agg #[.bool xb, .int .u64 xh, .int .u64 xl], .int .u64 n] w fun e w' => e = .returned (.tuple #[.agg #[.bool ub, .int .u64 uh, .int .u64 ul], .int .u64 rr, .int .i64 ir]) ∧ Kept w w') := by
    by_cases z : n = 0
    · subst z
      exact ⟨false, 0, 0, 0, 20, Div_zero xb xh xl, refDiv_zero xb xh xl⟩
    · have pn : 0 < n := by have := hn.1; omega
      have iq : InBig (numOf xb xh xl / n) := by
        have ix := numOf_in (b := xb) h1 h2
        unfold InBig at *
        by_cases s : 0 ≤ numOf xb xh xl
        · have := Int.ediv_nonneg s (show 0 ≤ n by omega); have := Int.ediv_le_self n s; omega
        · have a : numOf xb xh xl ≤ numOf xb xh xl / n := by rw [Int.le_ediv_iff_mul_le pn]; have h := Int.mul_nonpos_of_nonpos_of_nonneg (show numOf xb xh xl ≤ 0 by omega) (show 0 ≤ n - 1 by omega); rw [Int.mul_sub, Int.mul_one] at h; omega
          have b : numOf xb xh xl / n < 0 := Int.ediv_neg_of_neg_of_pos (by omega) pn
          omega
      obtain ⟨ub, uh, ul, r⟩ := rep_ex _ iq
      exact ⟨ub, uh, ul, _, 0, Div_ok h1 h2 hn pn r, refDiv_ok h1 h2 hn pn r⟩
  obtain ⟨mb, mh, ml, rm⟩ := rep_ex (a * b) (mul_in ha hb)
  obtain ⟨nb, rn⟩ := Neg_rep (b1 := xb) h1 h2
  exact tells_all xb yb sb pb ub _ mb nb xh xl yh yl a b n sh sl er ph pl gr uh ul rr ir _ _ mh ml _ _ w A1 A2 C1 C2 D1 D2 (Of_ok a ha).2 (refOf_ok a ha) (Mul_rep ha hb rm) (refMul_rep ha hb rm) (Neg_ok rn) (refNeg_ok h1 h2 rn) (Cmp_ok h1 h2 h3 h4) (refCmp_ok h1 h2 h3 h4) (Int_ok h1 h2) (refInt_ok h1 h2)
end Go.Proofs.Ytahbijfmhdiafaa
