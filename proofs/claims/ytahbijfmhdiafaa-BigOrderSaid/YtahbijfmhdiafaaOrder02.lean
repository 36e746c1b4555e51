/-
  The walk of BigOrder: it answers true, whatever it is given.
-/
import Derived.Test.YtahbijfmhdiafaaAwake02
namespace Go.Proofs.Ytahbijfmhdiafaa
open Go.RowKit Go.BigFrame

set_option maxRecDepth 100000 in
set_option maxHeartbeats 1600000 in
theorem order_head (xb yb zb nxb nyb ab bb sb tb : Bool) (xh xl yh yl zh zl ah al bh bl sh sl th tl a b n p q r er fr : Int) (w : World) (hn0 : -1 ≤ n) (hn1 : n ≤ 1) (far : n ≤ 0 ∨ p ≤ 0 ∨ 0 < q) (small : (a < b ∧ r = -1) ∨ (a = b ∧ r = 0) ∨ (b < a ∧ r = 1)) (eok : (er = 0 ∨ er = 10) ∧ (fr = 0 ∨ fr = 10)) (C1 : ∀ w, Calls Try.prog 22 #[.agg #[.bool xb, .int .u64 xh, .int .u64 xl], .agg #[.bool yb, .int .u64 yh, .int .u64 yl]] w fun e w' => e = .returned (.int .i64 n) ∧ Kept w w') (A1 : ∀ w, Calls Try.prog 10 #[.agg #[.bool xb, .int .u64 xh, .int .u64 xl], .agg #[.bool zb, .int .u64 zh, .int .u64 zl]] w fun e w' => e = .returned (.tuple #[.agg #[.bool sb, .int .u64 sh, .int .u64 sl], .int .i64 er]) ∧ Kept w w') (A2 : ∀ w, Calls Try.prog 10 #[.agg #[.bool yb, .int .u64 yh, .int .u64 yl], .agg #[.bool zb, .int .u64 zh, .int .u64 zl]] w fun e w' => e = .returned (.tuple #[.agg #[.bool tb, .int .u64 th, .int .u64 tl], .int .i64 fr]) ∧ Kept w w') (C2 : ∀ w, Calls Try.prog 22 #[.agg #[.bool yb, .int .u64 yh, .int .u64 yl], .agg #[.bool zb, .int .u64 zh, .int .u64 zl]] w fun e w' => e = .returned (.int .i64 p) ∧ Kept w w') (C3 : ∀ w, Calls Try.prog 22 #[.agg #[.bool xb, .int .u64 xh, .int .u64 xl], .agg #[.bool zb, .int .u64 zh, .int .u64 zl]] w fun e w' => e = .returned (.int .i64 q) ∧ Kept w w') (O1 : ∀ w, Calls Try.prog 16 #[.int .i64 a] w fun e w' => e = .returned (.agg #[.bool ab, .int .u64 ah, .int .u64 al]) ∧ Kept w w') (O2 : ∀ w, Calls Try.prog 16 #[.int .i64 b] w fun e w' => e = .returned (.agg #[.bool bb, .int .u64 bh, .int .u64 bl]) ∧ Kept w w') (C4 : ∀ w, Calls Try.prog 22 #[.agg #[.bool ab, .int .u64 ah, .int .u64 al], .agg #[.bool bb, .int .u64 bh, .int .u64 bl]] w fun e w' => e = .returned (.int .i64 r) ∧ Kept w w') (C5 : ∀ w, Calls Try.prog 22 #[.agg #[.bool yb, .int .u64 yh, .int .u64 yl], .agg #[.bool xb, .int .u64 xh, .int .u64 xl]] w fun e w' => e = .returned (.int .i64 (-n)) ∧ Kept w w') (N1 : ∀ w, Calls Try.prog 20 #[.agg #[.bool xb, .int .u64 xh, .int .u64 xl]] w fun e w' => e = .returned (.agg #[.bool nxb, .int .u64 xh, .int .u64 xl]) ∧ Kept w w') (N2 : ∀ w, Calls Try.prog 20 #[.agg #[.bool yb, .int .u64 yh, .int .u64 yl]] w fun e w' => e = .returned (.agg #[.bool nyb, .int .u64 yh, .int .u64 yl]) ∧ Kept w w') (C6 : ∀ w, Calls Try.prog 22 #[.agg #[.bool nxb, .int .u64 xh, .int .u64 xl], .agg #[.bool nyb, .int .u64 yh, .int .u64 yl]] w fun e w' => e = .returned (.int .i64 (-n)) ∧ Kept w w') (C7 : er = 0 → fr = 0 → ∀ w, Calls Try.prog 22 #[.agg #[.bool sb, .int .u64 sh, .int .u64 sl], .agg #[.bool tb, .int .u64 th, .int .u64 tl]] w fun e w' => e = .returned (.int .i64 n) ∧ Kept w w') :
    Calls Try.prog 7 #[.agg #[.bool xb, .int .u64 xh, .int .u64 xl], .agg #[.bool yb, .int .u64 yh, .int .u64 yl], .agg #[.bool zb, .int .u64 zh, .int .u64 zl], .int .i64 a, .int .i64 b] w fun e w' => e = .returned (.bool true) ∧ Kept w w' := by
  have C1' := Lib.hid C1
  have A1' := Lib.hid A1
  have A2' := Lib.hid A2
  have C2' := Lib.hid C2
  have C3' := Lib.hid C3
  have O1' := Lib.hid O1
  have O2' := Lib.hid O2
  have C4' := Lib.hid C4
  have C5' := Lib.hid C5
  have N1' := Lib.hid N1
  have N2' := Lib.hid N2
  have C6' := Lib.hid C6
  have C7' := Lib.hid C7
  clear C1 A1 A2 C2 C3 O1 O2 C4 C5 N1 N2 C6 C7
  go_enter Try.func7, Try.ntmps7
  go_upto_region 1 with fail
  generalize hW : (World.alloc (World.alloc (World.alloc w (.cells #[.bool xb, .int .u64 xh, .int .u64 xl] 24)) (.cells #[.bool yb, .int .u64 yh, .int .u64 yl] 24)) (.cells #[.bool zb, .int .u64 zh, .int .u64 zl] 24)) = W0
  have base := Lib.hid (show W0.cell? ⟨w.heap.size, 0, none⟩ = some (.bool xb) ∧ W0.cell? ⟨w.heap.size, 1, none⟩ = some (.int .u64 xh) ∧ W0.cell? ⟨w.heap.size, 2, none⟩ = some (.int .u64 xl) ∧ W0.cell? ⟨w.heap.size + 1, 0, none⟩ = some (.bool yb) ∧ W0.cell? ⟨w.heap.size + 1, 1, none⟩ = some (.int .u64 yh) ∧ W0.cell? ⟨w.heap.size + 1, 2, none⟩ = some (.int .u64 yl) ∧ W0.cell? ⟨w.heap.size + 1 + 1, 0, none⟩ = some (.bool zb) ∧ W0.cell? ⟨w.heap.size + 1 + 1, 1, none⟩ = some (.int .u64 zh) ∧ W0.cell? ⟨w.heap.size + 1 + 1, 2, none⟩ = some (.int .u64 zl) from by subst hW; simp [go_sem])
  have kw : Kept w W0 := by subst hW; exact (by (repeat (first | with_reducible exact Kept.refl _ | with_reducible apply Kept.drew | with_reducible apply Kept.alloc | ((with_reducible apply Kept.set); focus (simp <;> omega)) | ((with_reducible apply Kept.via); focus with_reducible assumption))))
  have zw : w.heap.size + 3 ≤ W0.heap.size := by subst hW; simp
  clear hW
  obtain ⟨x0, x1, x2, y0, y1, y2, z0, z1, z2⟩ := Kept.all9 (Kept.refl _) base
  have H_x := Lib.hid (And.intro x0 (And.intro x1 x2))
  have H_y := Lib.hid (And.intro y0 (And.intro y1 y2))
  have H_z := Lib.hid (And.intro z0 (And.intro z1 z2))
  clear base x0 x1 x2 y0 y1 y2 z0 z1 z2
  generalize w.heap.size + 1 + 1 = g_z at *
  generalize w.heap.size + 1 = g_y at *
  generalize w.heap.size = g_x at *
  have FAR := Lib.hid far
  have SM := Lib.hid small
  have EOK := Lib.hid eok
  clear far small eok
  go_wp2_with fail
  refine (awake02 _).mono ?_
  rintro e w1 ⟨rfl, k1⟩
  obtain ⟨c_x0, c_x1, c_x2⟩ := Kept.all3 (show Kept W0 w1 from (by (repeat (first | with_reducible exact Kept.refl _ | with_reducible apply Kept.drew | with_reducible apply Kept.alloc | ((with_reducible apply Kept.set); focus (simp <;> omega)) | ((with_reducible apply Kept.via); focus with_reducible assumption))))) H_x
  obtain ⟨c_y0, c_y1, c_y2⟩ := Kept.all3 (show Kept W0 w1 from (by (repeat (first | with_reducible exact Kept.refl _ | with_reducible apply Kept.drew | with_reducible apply Kept.alloc | ((with_reducible apply Kept.set); focus (simp <;> omega)) | ((with_reducible apply Kept.via); focus with_reducible assumption))))) H_y
  go_wp2_with fail
  refine (C1'.out _).mono ?_
  rintro e w2 ⟨rfl, k2⟩
  clear c_x0 c_x1 c_x2 c_y0 c_y1 c_y2
  obtain ⟨c_x0, c_x1, c_x2⟩ := Kept.all3 (show Kept W0 w2 from (by (repeat (first | with_reducible exact Kept.refl _ | with_reducible apply Kept.drew | with_reducible apply Kept.alloc | ((with_reducible apply Kept.set); focus (simp <;> omega)) | ((with_reducible apply Kept.via); focus with_reducible assumption))))) H_x
  obtain ⟨c_z0, c_z1, c_z2⟩ := Kept.all3 (show Kept W0 w2 from (by (repeat (first | with_reducible exact Kept.refl _ | with_reducible apply Kept.drew | with_reducible apply Kept.alloc | ((with_reducible apply Kept.set); focus (simp <;> omega)) | ((with_reducible apply Kept.via); focus with_reducible assumption))))) H_z
  go_wp2_with fail
  refine (A1'.out _).mono ?_
  rintro e w3 ⟨rfl, k3⟩
  clear c_x0 c_x1 c_x2 c_z0 c_z1 c_z2
  go_upto_region 4 with fail
  generalize hW : World.alloc w3 (.cells #[.bool sb, .int .u64 sh, .int .u64 sl] 24) = W_s
  have K_s : Kept w3 W_s := by subst hW; exact (Kept.refl _).alloc _ _
  have H_s := Lib.hid (show W_s.cell? ⟨w3.heap.size, 0, none⟩ = some (.bool sb) ∧ W_s.cell? ⟨w3.heap.size, 1, none⟩ = some (.int .u64 sh) ∧ W_s.cell? ⟨w3.heap.size, 2, none⟩ = some (.int .u64 sl) from by subst hW; simp [go_sem])
  clear hW
  generalize w3.heap.size = g_s at *
  obtain ⟨c_y0, c_y1, c_y2⟩ := Kept.all3 (show Kept W0 W_s from (by (repeat (first | with_reducible exact Kept.refl _ | with_reducible apply Kept.drew | with_reducible apply Kept.alloc | ((with_reducible apply Kept.set); focus (simp <;> omega)) | ((with_reducible apply Kept.via); focus with_reducible assumption))))) H_y
  obtain ⟨c_z0, c_z1, c_z2⟩ := Kept.all3 (show Kept W0 W_s from (by (repeat (first | with_reducible exact Kept.refl _ | with_reducible apply Kept.drew | with_reducible apply Kept.alloc | ((with_reducible apply Kept.set); focus (simp <;> omega)) | ((with_reducible apply Kept.via); focus with_reducible assumption))))) H_z
  go_wp2_with fail
  refine (A2'.out _).mono ?_
  rintro e w4 ⟨rfl, k4⟩
  clear c_y0 c_y1 c_y2 c_z0 c_z1 c_z2
  go_upto_region 5 with fail
  generalize hW : World.alloc w4 (.cells #[.bool tb, .int .u64 th, .int .u64 tl] 24) = W_t
  have K_t : Kept w4 W_t := by subst hW; exact (Kept.refl _).alloc _ _
  have H_t := Lib.hid (show W_t.cell? ⟨w4.heap.size, 0, none⟩ = some (.bool tb) ∧ W_t.cell? ⟨w4.heap.size, 1, none⟩ = some (.int .u64 th) ∧ W_t.cell? ⟨w4.heap.size, 2, none⟩ = some (.int .u64 tl) from by subst hW; simp [go_sem])
  clear hW
  generalize w4.heap.size = g_t at *
  obtain ⟨c_x0, c_x1, c_x2⟩ := Kept.all3 (show Kept W0 W_t from (by (repeat (first | with_reducible exact Kept.refl _ | with_reducible apply Kept.drew | with_reducible apply Kept.alloc | ((with_reducible apply Kept.set); focus (simp <;> omega)) | ((with_reducible apply Kept.via); focus with_reducible assumption))))) H_x
  obtain ⟨c_y0, c_y1, c_y2⟩ := Kept.all3 (show Kept W0 W_t from (by (repeat (first | with_reducible exact Kept.refl _ | with_reducible apply Kept.drew | with_reducible apply Kept.alloc | ((with_reducible apply Kept.set); focus (simp <;> omega)) | ((with_reducible apply Kept.via); focus with_reducible assumption))))) H_y
  obtain ⟨c_z0, c_z1, c_z2⟩ := Kept.all3 (show Kept W0 W_t from (by (repeat (first | with_reducible exact Kept.refl _ | with_reducible apply Kept.drew | with_reducible apply Kept.alloc | ((with_reducible apply Kept.set); focus (simp <;> omega)) | ((with_reducible apply Kept.via); focus with_reducible assumption))))) H_z
  go_cut [17] (fun s17 wx => s17 = .bool true ∧ Kept W_t wx)
  case first =>
    by_cases hn : n ≤ 0
    · go_wp2_with fail
      go_meet
      exact ⟨rfl, (by (repeat (first | with_reducible exact Kept.refl _ | with_reducible apply Kept.drew | with_reducible apply Kept.alloc | ((with_reducible apply Kept.set); focus (simp <;> omega)) | ((with_reducible apply Kept.via); focus with_reducible assumption))))⟩
    · have hn' : decide (n ≤ 0) = false := by simp [hn]
      go_wp2_with fail
      refine (C2'.out _).mono ?_
      rintro e v1 ⟨rfl, i1⟩
      by_cases hp : p ≤ 0
      · go_wp2_with fail
        go_meet
        exact ⟨rfl, (by (repeat (first | with_reducible exact Kept.refl _ | with_reducible apply Kept.drew | with_reducible apply Kept.alloc | ((with_reducible apply Kept.set); focus (simp <;> omega)) | ((with_reducible apply Kept.via); focus with_reducible assumption))))⟩
      · have hp' : decide (p ≤ 0) = false := by simp [hp]
        have hq : 0 < q := by have := FAR.out; omega
        obtain ⟨d_x0, d_x1, d_x2⟩ := Kept.all3 (show Kept W0 v1 from (by (repeat (first | with_reducible exact Kept.refl _ | with_reducible apply Kept.drew | with_reducible apply Kept.alloc | ((with_reducible apply Kept.set); focus (simp <;> omega)) | ((with_reducible apply Kept.via); focus with_reducible assumption))))) H_x
        obtain ⟨d_z0, d_z1, d_z2⟩ := Kept.all3 (show Kept W0 v1 from (by (repeat (first | with_reducible exact Kept.refl _ | with_reducible apply Kept.drew | with_reducible apply Kept.alloc | ((with_reducible apply Kept.set); focus (simp <;> omega)) | ((with_reducible apply Kept.via); focus with_reducible assumption))))) H_z
        go_wp2_with fail
        refine (C3'.out _).mono ?_
        rintro e v2 ⟨rfl, i2⟩
        go_wp2_with fail
        go_meet
        exact ⟨rfl, (by (repeat (first | with_reducible exact Kept.refl _ | with_reducible apply Kept.drew | with_reducible apply Kept.alloc | ((with_reducible apply Kept.set); focus (simp <;> omega)) | ((with_reducible apply Kept.via); focus with_reducible assumption))))⟩
  obtain ⟨rfl, K_far⟩ := hcut
  clear c_x0 c_x1 c_x2 c_y0 c_y1 c_y2 c_z0 c_z1 c_z2
  generalize wc = W_far at *
  go_upto_region 6 with fail
  go_cut [18] (fun s18 wx => s18 = .bool true ∧ Kept W_far wx)
  case first =>
    rcases SM.out with ⟨h1, h2⟩ | ⟨h1, h2⟩ | ⟨h1, h2⟩
    · subst h2
      have t1 : decide (a < b) = true := by simp [h1]
      clear SM FAR EOK
      go_wp2_with fail
      refine (O1'.out _).mono ?_
      rintro e v0 ⟨rfl, i0⟩
      go_wp2_with fail
      refine (O2'.out _).mono ?_
      rintro e v1 ⟨rfl, i1⟩
      go_wp2_with fail
      refine (C4'.out _).mono ?_
      rintro e v2 ⟨rfl, i2⟩
      go_wp2_with fail
      go_meet
      exact ⟨rfl, (by (repeat (first | with_reducible exact Kept.refl _ | with_reducible apply Kept.drew | with_reducible apply Kept.alloc | ((with_reducible apply Kept.set); focus (simp <;> omega)) | ((with_reducible apply Kept.via); focus with_reducible assumption))))⟩
    · subst h2
      subst h1
      clear SM FAR EOK
      go_wp2_with fail
      refine (O1'.out _).mono ?_
      rintro e v0 ⟨rfl, i0⟩
      go_wp2_with fail
      refine (O2'.out _).mono ?_
      rintro e v1 ⟨rfl, i1⟩
      go_wp2_with fail
      refine (C4'.out _).mono ?_
      rintro e v2 ⟨rfl, i2⟩
      go_wp2_with fail
      go_meet
      exact ⟨rfl, (by (repeat (first | with_reducible exact Kept.refl _ | with_reducible apply Kept.drew | with_reducible apply Kept.alloc | ((with_reducible apply Kept.set); focus (simp <;> omega)) | ((with_reducible apply Kept.via); focus with_reducible assumption))))⟩
    · subst h2
      have t1 : decide (a < b) = false := by simp; omega
      have t2 : (a == b) = false := by simp; omega
      have t3 : decide (b < a) = true := by simp [h1]
      have t4 : ¬ a < b := by omega
      have t5 : ¬ a = b := by omega
      clear SM FAR EOK
      go_wp2_with fail
      refine (O1'.out _).mono ?_
      rintro e v0 ⟨rfl, i0⟩
      go_wp2_with fail
      refine (O2'.out _).mono ?_
      rintro e v1 ⟨rfl, i1⟩
      go_wp2_with fail
      refine (C4'.out _).mono ?_
      rintro e v2 ⟨rfl, i2⟩
      go_wp2_with fail
      go_meet
      exact ⟨rfl, (by (repeat (first | with_reducible exact Kept.refl _ | with_reducible apply Kept.drew | with_reducible apply Kept.alloc | ((with_reducible apply Kept.set); focus (simp <;> omega)) | ((with_reducible apply Kept.via); focus with_reducible assumption))))⟩
  obtain ⟨rfl, K_small⟩ := hcut
  generalize wc = W_small at *
  go_upto_region 7 with fail
  have hn3 : n = -1 ∨ n = 0 ∨ n = 1 := by omega
  have HN := Lib.hid hn3
  clear hn3
  have B_x := Lib.hid (Kept.all3 (show Kept W0 W_small from (by (repeat (first | with_reducible exact Kept.refl _ | with_reducible apply Kept.drew | with_reducible apply Kept.alloc | ((with_reducible apply Kept.set); focus (simp <;> omega)) | ((with_reducible apply Kept.via); focus with_reducible assumption))))) H_x)
  have B_y := Lib.hid (Kept.all3 (show Kept W0 W_small from (by (repeat (first | with_reducible exact Kept.refl _ | with_reducible apply Kept.drew | with_reducible apply Kept.alloc | ((with_reducible apply Kept.set); focus (simp <;> omega)) | ((with_reducible apply Kept.via); focus with_reducible assumption))))) H_y)
  have B_s := Lib.hid (Kept.all3 (show Kept W_s W_small from (by (repeat (first | with_reducible exact Kept.refl _ | with_reducible apply Kept.drew | with_reducible apply Kept.alloc | ((with_reducible apply Kept.set); focus (simp <;> omega)) | ((with_reducible apply Kept.via); focus with_reducible assumption))))) H_s)
  have B_t := Lib.hid (Kept.all3 (show Kept W_t W_small from (by (repeat (first | with_reducible exact Kept.refl _ | with_reducible apply Kept.drew | with_reducible apply Kept.alloc | ((with_reducible apply Kept.set); focus (simp <;> omega)) | ((with_reducible apply Kept.via); focus with_reducible assumption))))) H_t)
  have kall : Kept w W_small := (by (repeat (first | with_reducible exact Kept.refl _ | with_reducible apply Kept.drew | with_reducible apply Kept.alloc | ((with_reducible apply Kept.set); focus (simp <;> omega)) | ((with_reducible apply Kept.via); focus with_reducible assumption))))
  clear H_x H_y H_z H_s H_t SM FAR hn0 hn1
  rcases EOK.out with ⟨h1 | h1, h2 | h2⟩
  · subst h1 h2
    clear EOK
    have C8' := Lib.hid (C7'.out rfl rfl)
    clear C7'
    rcases HN.out with rfl | rfl | rfl
    all_goals
      clear HN
      obtain ⟨q_x0, q_x1, q_x2⟩ := kw3 B_x
      obtain ⟨q_y0, q_y1, q_y2⟩ := kw3 B_y
      obtain ⟨q_s0, q_s1, q_s2⟩ := kw3 B_s
      obtain ⟨q_t0, q_t1, q_t2⟩ := kw3 B_t
      clear B_x B_y B_s B_t
      refine wp_region_kept (by kernel_rfl) (by as_aux_lemma => kernel_rfl) ?_
      repeat (go_big_quiet_step (first | (with_reducible exact kept_of (C5'.out _)) | (with_reducible exact kept_of (C6'.out _)) | (with_reducible exact kept_of (N1'.out _)) | (with_reducible exact kept_of (N2'.out _)) | (with_reducible exact kept_of (C8'.out _))))
      refine wpQuiet_nil ?_
      intro _ hw'
      obtain ⟨⟨wq, kq⟩, hw''⟩ := hw'
      subst hw''
      go_wp2
      go_ret
      exact ⟨rfl, kall.trans kq⟩
  · subst h1 h2
    clear EOK
    clear C7'
    rcases HN.out with rfl | rfl | rfl
    all_goals
      clear HN
      obtain ⟨q_x0, q_x1, q_x2⟩ := kw3 B_x
      obtain ⟨q_y0, q_y1, q_y2⟩ := kw3 B_y
      obtain ⟨q_s0, q_s1, q_s2⟩ := kw3 B_s
      obtain ⟨q_t0, q_t1, q_t2⟩ := kw3 B_t
      clear B_x B_y B_s B_t
      refine wp_region_kept (by kernel_rfl) (by as_aux_lemma => kernel_rfl) ?_
      repeat (go_big_quiet_step (first | (with_reducible exact kept_of (C5'.out _)) | (with_reducible exact kept_of (C6'.out _)) | (with_reducible exact kept_of (N1'.out _)) | (with_reducible exact kept_of (N2'.out _))))
      refine wpQuiet_nil ?_
      intro _ hw'
      obtain ⟨⟨wq, kq⟩, hw''⟩ := hw'
      subst hw''
      go_wp2
      go_ret
      exact ⟨rfl, kall.trans kq⟩
  · subst h1 h2
    clear EOK
    clear C7'
    rcases HN.out with rfl | rfl | rfl
    all_goals
      clear HN
      obtain ⟨q_x0, q_x1, q_x2⟩ := kw3 B_x
      obtain ⟨q_y0, q_y1, q_y2⟩ := kw3 B_y
      obtain ⟨q_s0, q_s1, q_s2⟩ := kw3 B_s
      obtain ⟨q_t0, q_t1, q_t2⟩ := kw3 B_t
      clear B_x B_y B_s B_t
      refine wp_region_kept (by kernel_rfl) (by as_aux_lemma => kernel_rfl) ?_
      repeat (go_big_quiet_step (first | (with_reducible exact kept_of (C5'.out _)) | (with_reducible exact kept_of (C6'.out _)) | (with_reducible exact kept_of (N1'.out _)) | (with_reducible exact kept_of (N2'.out _))))
      refine wpQuiet_nil ?_
      intro _ hw'
      obtain ⟨⟨wq, kq⟩, hw''⟩ := hw'
      subst hw''
      go_wp2
      go_ret
      exact ⟨rfl, kall.trans kq⟩
  · subst h1 h2
    clear EOK
    clear C7'
    rcases HN.out with rfl | rfl | rfl
    all_goals
      clear HN
      obtain ⟨q_x0, q_x1, q_x2⟩ := kw3 B_x
      obtain ⟨q_y0, q_y1, q_y2⟩ := kw3 B_y
      obtain ⟨q_s0, q_s1, q_s2⟩ := kw3 B_s
      obtain ⟨q_t0, q_t1, q_t2⟩ := kw3 B_t
      clear B_x B_y B_s B_t
      refine wp_region_kept (by kernel_rfl) (by as_aux_lemma => kernel_rfl) ?_
      repeat (go_big_quiet_step (first | (with_reducible exact kept_of (C5'.out _)) | (with_reducible exact kept_of (C6'.out _)) | (with_reducible exact kept_of (N1'.out _)) | (with_reducible exact kept_of (N2'.out _))))
      refine wpQuiet_nil ?_
      intro _ hw'
      obtain ⟨⟨wq, kq⟩, hw''⟩ := hw'
      subst hw''
      go_wp2
      go_ret
      exact ⟨rfl, kall.trans kq⟩

theorem cmpI_range (x y : Int) : -1 ≤ cmpI x y ∧ cmpI x y ≤ 1 := by unfold cmpI; split; omega; split <;> omega
theorem cmpI_turn (x y : Int) : cmpI y x = -(cmpI x y) := by unfold cmpI; repeat' split; all_goals omega
theorem cmpI_neg (x y : Int) : cmpI (-x) (-y) = -(cmpI x y) := by unfold cmpI; repeat' split; all_goals omega
theorem cmpI_add (x y z : Int) : cmpI (x + z) (y + z) = cmpI x y := by unfold cmpI; repeat' split; all_goals omega
theorem sum_ex {b1 b2 : Bool} {xh xl yh yl : Int} (h1 : Word xh) (h2 : Word xl) (h3 : Word yh) (h4 : Word yl) : ∃ (b : Bool) (h l er : Int), (er = 0 ∨ er = 10) ∧ (er = 0 → Rep b h l (numOf b1 xh xl + numOf b2 yh yl)) ∧ ∀ w, Calls Try.prog 10 #[.agg #[.bool b1, .int .u64 xh, .int .u64 xl], .agg #[.bool b2, .int .u64 yh, .int .u64 yl]] w fun e w' => e = .returned (.tuple #[.agg #[.bool b, .int .u64 h, .int .u64 l], .int .i64 er]) ∧ Kept w w' := by
  by_cases c : InBig (numOf b1 xh xl + numOf b2 yh yl)
  · obtain ⟨b, h, l, r⟩ := rep_ex _ c
    exact ⟨b, h, l, 0, Or.inl rfl, fun _ => r, Add_ok h1 h2 h3 h4 r⟩
  · exact ⟨false, 0, 0, 10, Or.inr rfl, fun h => absurd h (by omega), Add_no h1 h2 h3 h4 c⟩
theorem bigOrder_walk (xb yb zb : Bool) (xh xl yh yl zh zl a b : Int) (w : World) (h1 : Word xh) (h2 : Word xl) (h3 : Word yh) (h4 : Word yl) (h5 : Word zh) (h6 : Word zl) (ha : In64 a) (hb : In64 b) :
    Calls Try.prog 7 #[.agg #[.bool xb, .int .u64 xh, .int .u64 xl], .agg #[.bool yb, .int .u64 yh, .int .u64 yl], .agg #[.bool zb, .int .u64 zh, .int .u64 zl], .int .i64 a, .int .i64 b] w fun e w' => e = .returned (.bool true) ∧ Kept w w' := by
  obtain ⟨nxb, rnx⟩ := Neg_rep (b1 := xb) h1 h2
  obtain ⟨nyb, rny⟩ := Neg_rep (b1 := yb) h3 h4
  obtain ⟨ra, O1⟩ := Of_ok a ha
  obtain ⟨rb, O2⟩ := Of_ok b hb
  obtain ⟨a1, a2, a3, _⟩ := id ra
  obtain ⟨b1, b2, b3, _⟩ := id rb
  obtain ⟨sb, sh, sl, er, e1, e2, A1⟩ := sum_ex (b1 := xb) (b2 := zb) h1 h2 h5 h6
  obtain ⟨tb, th, tl, fr, f1, f2, A2⟩ := sum_ex (b1 := yb) (b2 := zb) h3 h4 h5 h6
  have C5 := fun w => Cmp_ok (b1 := yb) (b2 := xb) h3 h4 h1 h2 w
  rw [cmpI_turn] at C5
  have C6 := fun w => Cmp_ok (b1 := nxb) (b2 := nyb) h1 h2 h3 h4 w
  rw [rnx.2.2.1, rny.2.2.1, cmpI_neg] at C6
  have C4 := fun w => Cmp_ok (b1 := decide (a < 0)) (b2 := decide (b < 0)) a1 a2 b1 b2 w
  rw [a3, b3] at C4
  refine order_head xb yb zb nxb nyb _ _ sb tb xh xl yh yl zh zl _ _ _ _ sh sl th tl a b _ _ _ _ er fr w (cmpI_range _ _).1 (cmpI_range _ _).2 ?_ ?_ ⟨e1, f1⟩ (Cmp_ok h1 h2 h3 h4) A1 A2 (Cmp_ok h3 h4 h5 h6) (Cmp_ok h1 h2 h5 h6) O1 O2 C4 C5 (Neg_ok rnx) (Neg_ok rny) C6 ?_
  · unfold cmpI; by_cases p : numOf xb xh xl ≤ numOf yb yh yl
    · left; split; omega; rw [if_pos (by omega)]; omega
    · by_cases q : numOf yb yh yl ≤ numOf zb zh zl
      · right; left; split; omega; rw [if_pos (by omega)]; omega
      · right; right; rw [if_neg (by omega), if_neg (by omega)]; omega
  · unfold cmpI
    rcases Int.lt_trichotomy a b with h | h | h
    · exact Or.inl ⟨h, by rw [if_neg (by omega), if_pos h]⟩
    · exact Or.inr (Or.inl ⟨h, by rw [if_pos h]⟩)
    · exact Or.inr (Or.inr ⟨h, by rw [if_neg (by omega), if_neg (by omega)]⟩)
  · intro p q w
    have r1 := e2 p
    have r2 := f2 q
    have C7 := Cmp_ok (b1 := sb) (b2 := tb) r1.1 r1.2.1 r2.1 r2.2.1 w
    rw [r1.2.2.1, r2.2.2.1, cmpI_add] at C7
    exact C7
end Go.Proofs.Ytahbijfmhdiafaa
