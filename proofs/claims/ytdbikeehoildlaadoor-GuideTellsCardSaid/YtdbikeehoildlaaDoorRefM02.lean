/-
  In one text: RefF02, RefH02.
-/
import Derived.Test.YtdbikeehoildlaaDoorRefL02
namespace Go.Proofs.YtdbikeehoildlaaDoor
open Go.RowKit Go.BigFrame

/-- Six digits that may be written. -/
def Out6 (w : World) (g : Nat) (o0 o1 o2 o3 o4 o5 : Int) : Prop := (w.cell? ⟨g, 0, none⟩ = some (.int .u64 o0) ∧ w.cell? ⟨g, 1, none⟩ = some (.int .u64 o1) ∧ w.cell? ⟨g, 2, none⟩ = some (.int .u64 o2) ∧ w.cell? ⟨g, 3, none⟩ = some (.int .u64 o3) ∧ w.cell? ⟨g, 4, none⟩ = some (.int .u64 o4) ∧ w.cell? ⟨g, 5, none⟩ = some (.int .u64 o5)) ∧ w.frozen? ⟨g, 0, none⟩ = false ∧ w.frozen? ⟨g, 1, none⟩ = false ∧ w.frozen? ⟨g, 2, none⟩ = false ∧ w.frozen? ⟨g, 3, none⟩ = false ∧ w.frozen? ⟨g, 4, none⟩ = false ∧ w.frozen? ⟨g, 5, none⟩ = false
theorem Out6.kept {w1 w2 : World} {g : Nat} {o0 o1 o2 o3 o4 o5 : Int} (h : Out6 w1 g o0 o1 o2 o3 o4 o5) (k : Kept w1 w2) : Out6 w2 g o0 o1 o2 o3 o4 o5 := by
  obtain ⟨⟨a0, a1, a2, a3, a4, a5⟩, b0, b1, b2, b3, b4, b5⟩ := h
  exact ⟨⟨k.read a0, k.read a1, k.read a2, k.read a3, k.read a4, k.read a5⟩, k.thaw b0, k.thaw b1, k.thaw b2, k.thaw b3, k.thaw b4, k.thaw b5⟩

set_option maxRecDepth 100000 in
set_option maxHeartbeats 3200000 in
theorem refScale_fit (xb : Bool) (xh xl n j0 j1 a0 a1 a2 a3 c1 c2 c3 c4 s0 s1 s2 s3 e1 e2 e3 e4 t0 t1 t2 t3 h l : Int) (w : World) (hn0 : 0 ≤ n) (hn1 : n < 18446744073709551616) (hk0 : n % 4294967296 = j0) (hk1 : n / 4294967296 = j1) (p_c1 : 0 ≤ c1) (q_c1 : c1 < 4294967296) (p_c2 : 0 ≤ c2) (q_c2 : c2 < 4294967296) (p_c3 : 0 ≤ c3) (q_c3 : c3 < 4294967296) (p_c4 : 0 ≤ c4) (q_c4 : c4 < 4294967296) (p_s1 : 0 ≤ s1) (q_s1 : s1 < 4294967296) (p_s2 : 0 ≤ s2) (q_s2 : s2 < 4294967296) (p_s3 : 0 ≤ s3) (q_s3 : s3 < 4294967296) (p_e1 : 0 ≤ e1) (q_e1 : e1 < 4294967296) (p_e2 : 0 ≤ e2) (q_e2 : e2 < 4294967296) (p_e3 : 0 ≤ e3) (q_e3 : e3 < 4294967296) (p_e4 : 0 ≤ e4) (q_e4 : e4 < 4294967296) (m00 : 0 ≤ j0 * a0) (n00 : j0 * a0 ≤ 18446744065119617025) (m01 : 0 ≤ j0 * a1) (n01 : j0 * a1 ≤ 18446744065119617025) (m02 : 0 ≤ j0 * a2) (n02 : j0 * a2 ≤ 18446744065119617025) (m03 : 0 ≤ j0 * a3) (n03 : j0 * a3 ≤ 18446744065119617025) (m10 : 0 ≤ j1 * a0) (n10 : j1 * a0 ≤ 18446744065119617025) (m11 : 0 ≤ j1 * a1) (n11 : j1 * a1 ≤ 18446744065119617025) (m12 : 0 ≤ j1 * a2) (n12 : j1 * a2 ≤ 18446744065119617025) (m13 : 0 ≤ j1 * a3) (n13 : j1 * a3 ≤ 18446744065119617025) (z3 : t3 = 0) (z4 : e4 = 0) (E1 : (j0 * a0) / 4294967296 = c1) (S0 : (j0 * a0) % 4294967296 = s0) (E2 : (j0 * a1 + c1) / 4294967296 = c2) (S1 : (j0 * a1 + c1) % 4294967296 = s1) (E3 : (j0 * a2 + c2) / 4294967296 = c3) (S2 : (j0 * a2 + c2) % 4294967296 = s2) (E4 : (j0 * a3 + c3) / 4294967296 = c4) (S3 : (j0 * a3 + c3) % 4294967296 = s3) (G1 : (j1 * a0 + s1) / 4294967296 = e1) (T0 : (j1 * a0 + s1) % 4294967296 = t0) (G2 : (j1 * a1 + s2 + e1) / 4294967296 = e2) (T1 : (j1 * a1 + s2 + e1) % 4294967296 = t1) (G3 : (j1 * a2 + s3 + e2) / 4294967296 = e3) (T2 : (j1 * a2 + s3 + e2) % 4294967296 = t2) (G4 : (j1 * a3 + c4 + e3) / 4294967296 = e4) (T3 : (j1 * a3 + c4 + e3) % 4294967296 = t3) (D1 : ∀ w, Calls Tryd.prog 53 #[.agg #[.bool xb, .int .u64 xh, .int .u64 xl]] w fun e w' => e = .returned (.agg #[.int .u64 a0, .int .u64 a1, .int .u64 a2, .int .u64 a3]) ∧ Kept w w') (W1 : ∀ w, Calls Tryd.prog 70 #[.agg #[.int .u64 s0, .int .u64 t0, .int .u64 t1, .int .u64 t2], .bool xb] w fun e w' => e = .returned (.agg #[.bool (xb && nz h l), .int .u64 h, .int .u64 l]) ∧ Kept w w') :
    Calls Tryd.prog 56 #[.agg #[.bool xb, .int .u64 xh, .int .u64 xl], .int .u64 n] w fun e w' => e = .returned (.tuple #[.agg #[.bool (xb && nz h l), .int .u64 h, .int .u64 l], .int .i64 0]) ∧ Kept w w' := by
  have D1' := Lib.hid D1
  have W1' := Lib.hid W1
  clear D1 W1
  have E1' := Lib.hid E1
  have S0' := Lib.hid S0
  have E2' := Lib.hid E2
  have S1' := Lib.hid S1
  have E3' := Lib.hid E3
  have S2' := Lib.hid S2
  have E4' := Lib.hid E4
  have S3' := Lib.hid S3
  have G1' := Lib.hid G1
  have T0' := Lib.hid T0
  have G2' := Lib.hid G2
  have T1' := Lib.hid T1
  have G3' := Lib.hid G3
  have T2' := Lib.hid T2
  have G4' := Lib.hid G4
  have T3' := Lib.hid T3
  have HK0 := Lib.hid hk0
  have HK1 := Lib.hid hk1
  clear hk0 hk1 E1 S0 E2 S1 E3 S2 E4 S3 G1 T0 G2 T1 G3 T2 G4 T3
  have Z3 := Lib.hid z3
  have Z4 := Lib.hid z4
  clear z3 z4
  go_enter Tryd.func56, Tryd.ntmps56
  go_upto_region 1 with fail
  generalize hW : (World.alloc (World.alloc w (.cells #[.bool xb, .int .u64 xh, .int .u64 xl] 61)) (.cells #[.bool false, .int .u64 0, .int .u64 0] 61)) = W0
  have base := Lib.hid (show W0.cell? ⟨w.heap.size, 0, none⟩ = some (.bool xb) ∧ W0.cell? ⟨w.heap.size, 1, none⟩ = some (.int .u64 xh) ∧ W0.cell? ⟨w.heap.size, 2, none⟩ = some (.int .u64 xl) from by subst hW; simp [go_sem])
  have room : Room3 W0 (w.heap.size + 1) := by subst hW; exact ⟨_, _, _, by first | (simp [go_sem]; done) | (simp [go_sem]; rfl), by first | (simp [go_sem]; done) | (simp [go_sem]; rfl), by first | (simp [go_sem]; done) | (simp [go_sem]; rfl), by simp [go_sem], by simp [go_sem], by simp [go_sem]⟩
  have kw : Kept w W0 := by subst hW; exact (by (repeat (first | with_reducible exact Kept.refl _ | with_reducible apply Kept.drew | with_reducible apply Kept.alloc | ((with_reducible apply Kept.set); focus (simp <;> omega)) | ((with_reducible apply Kept.via); focus with_reducible assumption))))
  have zw : w.heap.size + 2 ≤ W0.heap.size := by subst hW; simp
  clear hW
  have H_x := Lib.hid (Kept.all3 (Kept.refl _) base)
  clear base
  obtain ⟨c_x0, c_x1, c_x2⟩ := Kept.all3 (show Kept W0 W0 from (by (repeat (first | with_reducible exact Kept.refl _ | with_reducible apply Kept.drew | with_reducible apply Kept.alloc | ((with_reducible apply Kept.set); focus (simp <;> omega)) | ((with_reducible apply Kept.via); focus with_reducible assumption))))) H_x
  go_wp2_with fail
  refine (D1'.out _).mono ?_
  rintro e w1 ⟨rfl, k1⟩
  clear c_x0 c_x1 c_x2
  go_upto_region 2 with fail
  have L_a : w.heap.size + 1 < w1.heap.size := by have := Kept.below (show Kept W0 w1 from (by (repeat (first | with_reducible exact Kept.refl _ | with_reducible apply Kept.drew | with_reducible apply Kept.alloc | ((with_reducible apply Kept.set); focus (simp <;> omega)) | ((with_reducible apply Kept.via); focus with_reducible assumption))))); omega
  generalize hW : World.alloc w1 (.cells #[.int .u64 a0, .int .u64 a1, .int .u64 a2, .int .u64 a3] 84) = W_a
  have K_a : Kept w1 W_a := by subst hW; exact (Kept.refl _).alloc _ _
  have H_a := Lib.hid (show W_a.cell? ⟨w1.heap.size, 0, none⟩ = some (.int .u64 a0) ∧ W_a.cell? ⟨w1.heap.size, 1, none⟩ = some (.int .u64 a1) ∧ W_a.cell? ⟨w1.heap.size, 2, none⟩ = some (.int .u64 a2) ∧ W_a.cell? ⟨w1.heap.size, 3, none⟩ = some (.int .u64 a3) from by subst hW; simp [go_sem])
  clear hW
  generalize w1.heap.size = g_a at *
  go_upto_region 3 with fail
  rw [HK0.out, HK1.out]
  generalize hW : World.alloc W_a (.cells #[.int .u64 j0, .int .u64 j1] 98) = W_k
  have K_k : Kept W_a W_k := by subst hW; exact (Kept.refl _).alloc _ _
  have H_k := Lib.hid (show W_k.cell? ⟨W_a.heap.size, 0, none⟩ = some (.int .u64 j0) ∧ W_k.cell? ⟨W_a.heap.size, 1, none⟩ = some (.int .u64 j1) from by subst hW; simp [go_sem])
  clear hW
  generalize W_a.heap.size = g_k at *
  have F_a := Lib.hid (Kept.all4 K_k H_a)
  have kxk : Kept W0 W_k := (by (repeat (first | with_reducible exact Kept.refl _ | with_reducible apply Kept.drew | with_reducible apply Kept.alloc | ((with_reducible apply Kept.set); focus (simp <;> omega)) | ((with_reducible apply Kept.via); focus with_reducible assumption))))
  have kwk : Kept w W_k := kw.trans kxk
  have zwk : w.heap.size + 1 < W_k.heap.size := by have := Kept.below kxk; omega
  go_upto_region 4 with fail
  generalize hW : World.alloc W_k (.cells #[.int .u64 0, .int .u64 0, .int .u64 0, .int .u64 0, .int .u64 0, .int .u64 0] 99) = W2
  have O0 : Out6 W2 W_k.heap.size 0 0 0 0 0 0 := by subst hW; exact ⟨⟨by simp [go_sem], by simp [go_sem], by simp [go_sem], by simp [go_sem], by simp [go_sem], by simp [go_sem]⟩, by simp [go_sem], by simp [go_sem], by simp [go_sem], by simp [go_sem], by simp [go_sem], by simp [go_sem]⟩
  have k12 : Kept W_k W2 := by subst hW; exact (Kept.refl _).alloc _ _
  clear hW
  have hg : W_k.heap.size ≤ W_k.heap.size := Nat.le_refl _
  generalize hgg : W_k.heap.size = g at O0 hg ⊢
  have hg2 : W_k.heap.size ≤ g := by omega
  have hg3 : w.heap.size + 1 < g := by omega
  clear hgg hg
  go_wp2_with fail
  go_loopw [9] (fun i wx => ∃ k : Int, i = .int .i64 k ∧ ((k = 0 ∧ Out6 wx g 0 0 0 0 0 0) ∨ (k = 1 ∧ Out6 wx g s0 s1 s2 s3 c4 0) ∨ (k = 2 ∧ Out6 wx g s0 t0 t1 t2 t3 e4)) ∧ Kept W_k wx) (fun i _ => (2 - intOf i).toNat)
  case atStart => exact ⟨0, rfl, Or.inl ⟨rfl, O0⟩, k12⟩
  case round =>
    obtain ⟨k, rfl, hk, kr⟩ := hrel
    rcases hk with ⟨rfl, ho⟩ | ⟨rfl, ho⟩ | ⟨rfl, ho⟩
    · go_wp2_with fail
      go_loopw [10, 11] (fun c i wx => ∃ k : Int, i = .int .i64 k ∧ ((k = 0 ∧ c = .int .u64 0 ∧ Out6 wx g 0 0 0 0 0 0) ∨ (k = 1 ∧ c = .int .u64 c1 ∧ Out6 wx g s0 0 0 0 0 0) ∨ (k = 2 ∧ c = .int .u64 c2 ∧ Out6 wx g s0 s1 0 0 0 0) ∨ (k = 3 ∧ c = .int .u64 c3 ∧ Out6 wx g s0 s1 s2 0 0 0) ∨ (k = 4 ∧ c = .int .u64 c4 ∧ Out6 wx g s0 s1 s2 s3 0 0)) ∧ Kept W_k wx) (fun _ i _ => (4 - intOf i).toNat)
      case atStart => exact ⟨0, rfl, Or.inl ⟨rfl, rfl, ho⟩, kr⟩
      case round =>
        clear ho kr
        obtain ⟨k, rfl, hk, kr⟩ := hrel
        rcases hk with ⟨rfl, rfl, ho⟩ | ⟨rfl, rfl, ho⟩ | ⟨rfl, rfl, ho⟩ | ⟨rfl, rfl, ho⟩ | ⟨rfl, rfl, ho⟩
        · go_wp2_with fail
          have g0 : ∀ p : KW wr, p.w.cell? ⟨g_k, 0, none⟩ = some (.int .u64 j0) := fun p => p.k.read (kr.read H_k.out.1)
          have g1 : ∀ p : KW wr, p.w.cell? ⟨g_a, 0, none⟩ = some (.int .u64 a0) := fun p => p.k.read (kr.read F_a.out.1)
          have g2 : ∀ p : KW wr, p.w.cell? ⟨g, 0, none⟩ = some (.int .u64 0) := fun p => p.k.read ho.1.1
          refine wp_region_kept (by kernel_rfl) (by kernel_rfl) ?_
          repeat (go_big_quiet_step (fail))
          refine wpQuiet_nil ?_
          intro wq hw'
          have kq : Kept wr wq := by obtain ⟨p, rfl⟩ := hw'; exact p.k
          clear hw' g0 g1 g2
          obtain ⟨⟨f0, f1, f2, f3, f4, f5⟩, z0, z1, z2, z3, z4, z5⟩ := ho.kept kq
          go_wp2_with fail
          go_roundw
          case rel =>
            refine ⟨1, rfl, Or.inr (Or.inl ⟨rfl, by rw [E1'.out], ?_⟩), ?_⟩
            · rw [S0'.out]
              exact ⟨⟨by simp [go_sem, *], by simp [go_sem, *], by simp [go_sem, *], by simp [go_sem, *], by simp [go_sem, *], by simp [go_sem, *]⟩, by simp [go_sem, *], by simp [go_sem, *], by simp [go_sem, *], by simp [go_sem, *], by simp [go_sem, *], by simp [go_sem, *]⟩
            · exact Kept.set hg2 (kr.trans kq)
          case measure => simp [intOf]
        · go_wp2_with fail
          have g0 : ∀ p : KW wr, p.w.cell? ⟨g_k, 0, none⟩ = some (.int .u64 j0) := fun p => p.k.read (kr.read H_k.out.1)
          have g1 : ∀ p : KW wr, p.w.cell? ⟨g_a, 1, none⟩ = some (.int .u64 a1) := fun p => p.k.read (kr.read F_a.out.2.1)
          have g2 : ∀ p : KW wr, p.w.cell? ⟨g, 1, none⟩ = some (.int .u64 0) := fun p => p.k.read ho.1.2.1
          refine wp_region_kept (by kernel_rfl) (by kernel_rfl) ?_
          repeat (go_big_quiet_step (fail))
          refine wpQuiet_nil ?_
          intro wq hw'
          have kq : Kept wr wq := by obtain ⟨p, rfl⟩ := hw'; exact p.k
          clear hw' g0 g1 g2
          obtain ⟨⟨f0, f1, f2, f3, f4, f5⟩, z0, z1, z2, z3, z4, z5⟩ := ho.kept kq
          go_wp2_with fail
          go_roundw
          case rel =>
            refine ⟨2, rfl, Or.inr (Or.inr (Or.inl ⟨rfl, by rw [E2'.out], ?_⟩)), ?_⟩
            · rw [S1'.out]
              exact ⟨⟨by simp [go_sem, *], by simp [go_sem, *], by simp [go_sem, *], by simp [go_sem, *], by simp [go_sem, *], by simp [go_sem, *]⟩, by simp [go_sem, *], by simp [go_sem, *], by simp [go_sem, *], by simp [go_sem, *], by simp [go_sem, *], by simp [go_sem, *]⟩
            · exact Kept.set hg2 (kr.trans kq)
          case measure => simp [intOf]
        · go_wp2_with fail
          have g0 : ∀ p : KW wr, p.w.cell? ⟨g_k, 0, none⟩ = some (.int .u64 j0) := fun p => p.k.read (kr.read H_k.out.1)
          have g1 : ∀ p : KW wr, p.w.cell? ⟨g_a, 2, none⟩ = some (.int .u64 a2) := fun p => p.k.read (kr.read F_a.out.2.2.1)
          have g2 : ∀ p : KW wr, p.w.cell? ⟨g, 2, none⟩ = some (.int .u64 0) := fun p => p.k.read ho.1.2.2.1
          refine wp_region_kept (by kernel_rfl) (by kernel_rfl) ?_
          repeat (go_big_quiet_step (fail))
          refine wpQuiet_nil ?_
          intro wq hw'
          have kq : Kept wr wq := by obtain ⟨p, rfl⟩ := hw'; exact p.k
          clear hw' g0 g1 g2
          obtain ⟨⟨f0, f1, f2, f3, f4, f5⟩, z0, z1, z2, z3, z4, z5⟩ := ho.kept kq
          go_wp2_with fail
          go_roundw
          case rel =>
            refine ⟨3, rfl, Or.inr (Or.inr (Or.inr (Or.inl ⟨rfl, by rw [E3'.out], ?_⟩))), ?_⟩
            · rw [S2'.out]
              exact ⟨⟨by simp [go_sem, *], by simp [go_sem, *], by simp [go_sem, *], by simp [go_sem, *], by simp [go_sem, *], by simp [go_sem, *]⟩, by simp [go_sem, *], by simp [go_sem, *], by simp [go_sem, *], by simp [go_sem, *], by simp [go_sem, *], by simp [go_sem, *]⟩
            · exact Kept.set hg2 (kr.trans kq)
          case measure => simp [intOf]
        · go_wp2_with fail
          have g0 : ∀ p : KW wr, p.w.cell? ⟨g_k, 0, none⟩ = some (.int .u64 j0) := fun p => p.k.read (kr.read H_k.out.1)
          have g1 : ∀ p : KW wr, p.w.cell? ⟨g_a, 3, none⟩ = some (.int .u64 a3) := fun p => p.k.read (kr.read F_a.out.2.2.2)
          have g2 : ∀ p : KW wr, p.w.cell? ⟨g, 3, none⟩ = some (.int .u64 0) := fun p => p.k.read ho.1.2.2.2.1
          refine wp_region_kept (by kernel_rfl) (by kernel_rfl) ?_
          repeat (go_big_quiet_step (fail))
          refine wpQuiet_nil ?_
          intro wq hw'
          have kq : Kept wr wq := by obtain ⟨p, rfl⟩ := hw'; exact p.k
          clear hw' g0 g1 g2
          obtain ⟨⟨f0, f1, f2, f3, f4, f5⟩, z0, z1, z2, z3, z4, z5⟩ := ho.kept kq
          go_wp2_with fail
          go_roundw
          case rel =>
            refine ⟨4, rfl, Or.inr (Or.inr (Or.inr (Or.inr (⟨rfl, by rw [E4'.out], ?_⟩)))), ?_⟩
            · rw [S3'.out]
              exact ⟨⟨by simp [go_sem, *], by simp [go_sem, *], by simp [go_sem, *], by simp [go_sem, *], by simp [go_sem, *], by simp [go_sem, *]⟩, by simp [go_sem, *], by simp [go_sem, *], by simp [go_sem, *], by simp [go_sem, *], by simp [go_sem, *], by simp [go_sem, *]⟩
            · exact Kept.set hg2 (kr.trans kq)
          case measure => simp [intOf]
        · obtain ⟨⟨f0, f1, f2, f3, f4, f5⟩, z0, z1, z2, z3, z4, z5⟩ := ho
          go_wp2_with fail
          go_roundw
          case rel =>
            refine ⟨1, rfl, Or.inr (Or.inl ⟨rfl, ?_⟩), ?_⟩
            · exact ⟨⟨by simp [go_sem, *], by simp [go_sem, *], by simp [go_sem, *], by simp [go_sem, *], by simp [go_sem, *], by simp [go_sem, *]⟩, by simp [go_sem, *], by simp [go_sem, *], by simp [go_sem, *], by simp [go_sem, *], by simp [go_sem, *], by simp [go_sem, *]⟩
            · exact Kept.set hg2 kr
          case measure => simp [intOf]
    · go_wp2_with fail
      go_loopw [10, 11] (fun c i wx => ∃ k : Int, i = .int .i64 k ∧ ((k = 0 ∧ c = .int .u64 0 ∧ Out6 wx g s0 s1 s2 s3 c4 0) ∨ (k = 1 ∧ c = .int .u64 e1 ∧ Out6 wx g s0 t0 s2 s3 c4 0) ∨ (k = 2 ∧ c = .int .u64 e2 ∧ Out6 wx g s0 t0 t1 s3 c4 0) ∨ (k = 3 ∧ c = .int .u64 e3 ∧ Out6 wx g s0 t0 t1 t2 c4 0) ∨ (k = 4 ∧ c = .int .u64 e4 ∧ Out6 wx g s0 t0 t1 t2 t3 0)) ∧ Kept W_k wx) (fun _ i _ => (4 - intOf i).toNat)
      case atStart => exact ⟨0, rfl, Or.inl ⟨rfl, rfl, ho⟩, kr⟩
      case round =>
        clear ho kr
        obtain ⟨k, rfl, hk, kr⟩ := hrel
        rcases hk with ⟨rfl, rfl, ho⟩ | ⟨rfl, rfl, ho⟩ | ⟨rfl, rfl, ho⟩ | ⟨rfl, rfl, ho⟩ | ⟨rfl, rfl, ho⟩
        · go_wp2_with fail
          have g0 : ∀ p : KW wr, p.w.cell? ⟨g_k, 1, none⟩ = some (.int .u64 j1) := fun p => p.k.read (kr.read H_k.out.2)
          have g1 : ∀ p : KW wr, p.w.cell? ⟨g_a, 0, none⟩ = some (.int .u64 a0) := fun p => p.k.read (kr.read F_a.out.1)
          have g2 : ∀ p : KW wr, p.w.cell? ⟨g, 1, none⟩ = some (.int .u64 s1) := fun p => p.k.read ho.1.2.1
          refine wp_region_kept (by kernel_rfl) (by kernel_rfl) ?_
          repeat (go_big_quiet_step (fail))
          refine wpQuiet_nil ?_
          intro wq hw'
          have kq : Kept wr wq := by obtain ⟨p, rfl⟩ := hw'; exact p.k
          clear hw' g0 g1 g2
          obtain ⟨⟨f0, f1, f2, f3, f4, f5⟩, z0, z1, z2, z3, z4, z5⟩ := ho.kept kq
          go_wp2_with fail
          go_roundw
          case rel =>
            refine ⟨1, rfl, Or.inr (Or.inl ⟨rfl, by rw [G1'.out], ?_⟩), ?_⟩
            · rw [T0'.out]
              exact ⟨⟨by simp [go_sem, *], by simp [go_sem, *], by simp [go_sem, *], by simp [go_sem, *], by simp [go_sem, *], by simp [go_sem, *]⟩, by simp [go_sem, *], by simp [go_sem, *], by simp [go_sem, *], by simp [go_sem, *], by simp [go_sem, *], by simp [go_sem, *]⟩
            · exact Kept.set hg2 (kr.trans kq)
          case measure => simp [intOf]
        · go_wp2_with fail
          have g0 : ∀ p : KW wr, p.w.cell? ⟨g_k, 1, none⟩ = some (.int .u64 j1) := fun p => p.k.read (kr.read H_k.out.2)
          have g1 : ∀ p : KW wr, p.w.cell? ⟨g_a, 1, none⟩ = some (.int .u64 a1) := fun p => p.k.read (kr.read F_a.out.2.1)
          have g2 : ∀ p : KW wr, p.w.cell? ⟨g, 2, none⟩ = some (.int .u64 s2) := fun p => p.k.read ho.1.2.2.1
          refine wp_region_kept (by kernel_rfl) (by kernel_rfl) ?_
          repeat (go_big_quiet_step (fail))
          refine wpQuiet_nil ?_
          intro wq hw'
          have kq : Kept wr wq := by obtain ⟨p, rfl⟩ := hw'; exact p.k
          clear hw' g0 g1 g2
          obtain ⟨⟨f0, f1, f2, f3, f4, f5⟩, z0, z1, z2, z3, z4, z5⟩ := ho.kept kq
          go_wp2_with fail
          go_roundw
          case rel =>
            refine ⟨2, rfl, Or.inr (Or.inr (Or.inl ⟨rfl, by rw [G2'.out], ?_⟩)), ?_⟩
            · rw [T1'.out]
              exact ⟨⟨by simp [go_sem, *], by simp [go_sem, *], by simp [go_sem, *], by simp [go_sem, *], by simp [go_sem, *], by simp [go_sem, *]⟩, by simp [go_sem, *], by simp [go_sem, *], by simp [go_sem, *], by simp [go_sem, *], by simp [go_sem, *], by simp [go_sem, *]⟩
            · exact Kept.set hg2 (kr.trans kq)
          case measure => simp [intOf]
        · go_wp2_with fail
          have g0 : ∀ p : KW wr, p.w.cell? ⟨g_k, 1, none⟩ = some (.int .u64 j1) := fun p => p.k.read (kr.read H_k.out.2)
          have g1 : ∀ p : KW wr, p.w.cell? ⟨g_a, 2, none⟩ = some (.int .u64 a2) := fun p => p.k.read (kr.read F_a.out.2.2.1)
          have g2 : ∀ p : KW wr, p.w.cell? ⟨g, 3, none⟩ = some (.int .u64 s3) := fun p => p.k.read ho.1.2.2.2.1
          refine wp_region_kept (by kernel_rfl) (by kernel_rfl) ?_
          repeat (go_big_quiet_step (fail))
          refine wpQuiet_nil ?_
          intro wq hw'
          have kq : Kept wr wq := by obtain ⟨p, rfl⟩ := hw'; exact p.k
          clear hw' g0 g1 g2
          obtain ⟨⟨f0, f1, f2, f3, f4, f5⟩, z0, z1, z2, z3, z4, z5⟩ := ho.kept kq
          go_wp2_with fail
          go_roundw
          case rel =>
            refine ⟨3, rfl, Or.inr (Or.inr (Or.inr (Or.inl ⟨rfl, by rw [G3'.out], ?_⟩))), ?_⟩
            · rw [T2'.out]
              exact ⟨⟨by simp [go_sem, *], by simp [go_sem, *], by simp [go_sem, *], by simp [go_sem, *], by simp [go_sem, *], by simp [go_sem, *]⟩, by simp [go_sem, *], by simp [go_sem, *], by simp [go_sem, *], by simp [go_sem, *], by simp [go_sem, *], by simp [go_sem, *]⟩
            · exact Kept.set hg2 (kr.trans kq)
          case measure => simp [intOf]
        · go_wp2_with fail
          have g0 : ∀ p : KW wr, p.w.cell? ⟨g_k, 1, none⟩ = some (.int .u64 j1) := fun p => p.k.read (kr.read H_k.out.2)
          have g1 : ∀ p : KW wr, p.w.cell? ⟨g_a, 3, none⟩ = some (.int .u64 a3) := fun p => p.k.read (kr.read F_a.out.2.2.2)
          have g2 : ∀ p : KW wr, p.w.cell? ⟨g, 4, none⟩ = some (.int .u64 c4) := fun p => p.k.read ho.1.2.2.2.2.1
          refine wp_region_kept (by kernel_rfl) (by kernel_rfl) ?_
          repeat (go_big_quiet_step (fail))
          refine wpQuiet_nil ?_
          intro wq hw'
          have kq : Kept wr wq := by obtain ⟨p, rfl⟩ := hw'; exact p.k
          clear hw' g0 g1 g2
          obtain ⟨⟨f0, f1, f2, f3, f4, f5⟩, z0, z1, z2, z3, z4, z5⟩ := ho.kept kq
          go_wp2_with fail
          go_roundw
          case rel =>
            refine ⟨4, rfl, Or.inr (Or.inr (Or.inr (Or.inr (⟨rfl, by rw [G4'.out], ?_⟩)))), ?_⟩
            · rw [T3'.out]
              exact ⟨⟨by simp [go_sem, *], by simp [go_sem, *], by simp [go_sem, *], by simp [go_sem, *], by simp [go_sem, *], by simp [go_sem, *]⟩, by simp [go_sem, *], by simp [go_sem, *], by simp [go_sem, *], by simp [go_sem, *], by simp [go_sem, *], by simp [go_sem, *]⟩
            · exact Kept.set hg2 (kr.trans kq)
          case measure => simp [intOf]
        · obtain ⟨⟨f0, f1, f2, f3, f4, f5⟩, z0, z1, z2, z3, z4, z5⟩ := ho
          go_wp2_with fail
          go_roundw
          case rel =>
            refine ⟨2, rfl, Or.inr (Or.inr ⟨rfl, ?_⟩), ?_⟩
            · exact ⟨⟨by simp [go_sem, *], by simp [go_sem, *], by simp [go_sem, *], by simp [go_sem, *], by simp [go_sem, *], by simp [go_sem, *]⟩, by simp [go_sem, *], by simp [go_sem, *], by simp [go_sem, *], by simp [go_sem, *], by simp [go_sem, *], by simp [go_sem, *]⟩
            · exact Kept.set hg2 kr
          case measure => simp [intOf]
    · have kx : Kept W0 wr := kxk.trans kr
      have kwr : Kept w wr := kwk.trans kr
      have z3' := Z3.out
      subst z3'
      have z4' := Z4.out
      subst z4'
      obtain ⟨⟨f0, f1, f2, f3, f4, f5⟩, z0, z1, z2, z3, z4, z5⟩ := ho
      obtain ⟨c_x0, c_x1, c_x2⟩ := Kept.all3 kx H_x
      go_wp2_with fail
      refine (W1'.out _).mono ?_
      rintro e v9 ⟨rfl, i9⟩
      obtain ⟨x, y, z, u1, u2, u3, w1', w2', w3'⟩ := room.kept (kx.trans i9)
      go_wp2
      simp [bodyPost, results, Tryd.results56, go_sem, *]
      exact (by (repeat (first | with_reducible exact Kept.refl _ | with_reducible apply Kept.drew | with_reducible apply Kept.alloc | ((with_reducible apply Kept.set); focus (simp <;> omega)) | ((with_reducible apply Kept.via); focus with_reducible assumption))))
set_option maxRecDepth 100000 in
set_option maxHeartbeats 3200000 in
theorem refScale_over (xb : Bool) (xh xl n j0 j1 a0 a1 a2 a3 c1 c2 c3 c4 s0 s1 s2 s3 e1 e2 e3 e4 t0 t1 t2 t3 : Int) (w : World) (hn0 : 0 ≤ n) (hn1 : n < 18446744073709551616) (hk0 : n % 4294967296 = j0) (hk1 : n / 4294967296 = j1) (p_c1 : 0 ≤ c1) (q_c1 : c1 < 4294967296) (p_c2 : 0 ≤ c2) (q_c2 : c2 < 4294967296) (p_c3 : 0 ≤ c3) (q_c3 : c3 < 4294967296) (p_c4 : 0 ≤ c4) (q_c4 : c4 < 4294967296) (p_s1 : 0 ≤ s1) (q_s1 : s1 < 4294967296) (p_s2 : 0 ≤ s2) (q_s2 : s2 < 4294967296) (p_s3 : 0 ≤ s3) (q_s3 : s3 < 4294967296) (p_e1 : 0 ≤ e1) (q_e1 : e1 < 4294967296) (p_e2 : 0 ≤ e2) (q_e2 : e2 < 4294967296) (p_e3 : 0 ≤ e3) (q_e3 : e3 < 4294967296) (p_e4 : 0 ≤ e4) (q_e4 : e4 < 4294967296) (m00 : 0 ≤ j0 * a0) (n00 : j0 * a0 ≤ 18446744065119617025) (m01 : 0 ≤ j0 * a1) (n01 : j0 * a1 ≤ 18446744065119617025) (m02 : 0 ≤ j0 * a2) (n02 : j0 * a2 ≤ 18446744065119617025) (m03 : 0 ≤ j0 * a3) (n03 : j0 * a3 ≤ 18446744065119617025) (m10 : 0 ≤ j1 * a0) (n10 : j1 * a0 ≤ 18446744065119617025) (m11 : 0 ≤ j1 * a1) (n11 : j1 * a1 ≤ 18446744065119617025) (m12 : 0 ≤ j1 * a2) (n12 : j1 * a2 ≤ 18446744065119617025) (m13 : 0 ≤ j1 * a3) (n13 : j1 * a3 ≤ 18446744065119617025) (hv : 0 < t3 ∨ (t3 = 0 ∧ 0 < e4)) (E1 : (j0 * a0) / 4294967296 = c1) (S0 : (j0 * a0) % 4294967296 = s0) (E2 : (j0 * a1 + c1) / 4294967296 = c2) (S1 : (j0 * a1 + c1) % 4294967296 = s1) (E3 : (j0 * a2 + c2) / 4294967296 = c3) (S2 : (j0 * a2 + c2) % 4294967296 = s2) (E4 : (j0 * a3 + c3) / 4294967296 = c4) (S3 : (j0 * a3 + c3) % 4294967296 = s3) (G1 : (j1 * a0 + s1) / 4294967296 = e1) (T0 : (j1 * a0 + s1) % 4294967296 = t0) (G2 : (j1 * a1 + s2 + e1) / 4294967296 = e2) (T1 : (j1 * a1 + s2 + e1) % 4294967296 = t1) (G3 : (j1 * a2 + s3 + e2) / 4294967296 = e3) (T2 : (j1 * a2 + s3 + e2) % 4294967296 = t2) (G4 : (j1 * a3 + c4 + e3) / 4294967296 = e4) (T3 : (j1 * a3 + c4 + e3) % 4294967296 = t3) (D1 : ∀ w, Calls Tryd.prog 53 #[.agg #[.bool xb, .int .u64 xh, .int .u64 xl]] w fun e w' => e = .returned (.agg #[.int .u64 a0, .int .u64 a1, .int .u64 a2, .int .u64 a3]) ∧ Kept w w') :
    Calls Tryd.prog 56 #[.agg #[.bool xb, .int .u64 xh, .int .u64 xl], .int .u64 n] w fun e w' => e = .returned (.tuple #[.agg #[.bool false, .int .u64 0, .int .u64 0], .int .i64 10]) ∧ Kept w w' := by
  have D1' := Lib.hid D1
  clear D1
  have E1' := Lib.hid E1
  have S0' := Lib.hid S0
  have E2' := Lib.hid E2
  have S1' := Lib.hid S1
  have E3' := Lib.hid E3
  have S2' := Lib.hid S2
  have E4' := Lib.hid E4
  have S3' := Lib.hid S3
  have G1' := Lib.hid G1
  have T0' := Lib.hid T0
  have G2' := Lib.hid G2
  have T1' := Lib.hid T1
  have G3' := Lib.hid G3
  have T2' := Lib.hid T2
  have G4' := Lib.hid G4
  have T3' := Lib.hid T3
  have HK0 := Lib.hid hk0
  have HK1 := Lib.hid hk1
  clear hk0 hk1 E1 S0 E2 S1 E3 S2 E4 S3 G1 T0 G2 T1 G3 T2 G4 T3
  have HV := Lib.hid hv
  clear hv
  go_enter Tryd.func56, Tryd.ntmps56
  go_upto_region 1 with fail
  generalize hW : (World.alloc (World.alloc w (.cells #[.bool xb, .int .u64 xh, .int .u64 xl] 61)) (.cells #[.bool false, .int .u64 0, .int .u64 0] 61)) = W0
  have base := Lib.hid (show W0.cell? ⟨w.heap.size, 0, none⟩ = some (.bool xb) ∧ W0.cell? ⟨w.heap.size, 1, none⟩ = some (.int .u64 xh) ∧ W0.cell? ⟨w.heap.size, 2, none⟩ = some (.int .u64 xl) from by subst hW; simp [go_sem])
  have room : Room3 W0 (w.heap.size + 1) := by subst hW; exact ⟨_, _, _, by first | (simp [go_sem]; done) | (simp [go_sem]; rfl), by first | (simp [go_sem]; done) | (simp [go_sem]; rfl), by first | (simp [go_sem]; done) | (simp [go_sem]; rfl), by simp [go_sem], by simp [go_sem], by simp [go_sem]⟩
  have kw : Kept w W0 := by subst hW; exact (by (repeat (first | with_reducible exact Kept.refl _ | with_reducible apply Kept.drew | with_reducible apply Kept.alloc | ((with_reducible apply Kept.set); focus (simp <;> omega)) | ((with_reducible apply Kept.via); focus with_reducible assumption))))
  have zw : w.heap.size + 2 ≤ W0.heap.size := by subst hW; simp
  clear hW
  have H_x := Lib.hid (Kept.all3 (Kept.refl _) base)
  clear base
  obtain ⟨c_x0, c_x1, c_x2⟩ := Kept.all3 (show Kept W0 W0 from (by (repeat (first | with_reducible exact Kept.refl _ | with_reducible apply Kept.drew | with_reducible apply Kept.alloc | ((with_reducible apply Kept.set); focus (simp <;> omega)) | ((with_reducible apply Kept.via); focus with_reducible assumption))))) H_x
  go_wp2_with fail
  refine (D1'.out _).mono ?_
  rintro e w1 ⟨rfl, k1⟩
  clear c_x0 c_x1 c_x2
  go_upto_region 2 with fail
  have L_a : w.heap.size + 1 < w1.heap.size := by have := Kept.below (show Kept W0 w1 from (by (repeat (first | with_reducible exact Kept.refl _ | with_reducible apply Kept.drew | with_reducible apply Kept.alloc | ((with_reducible apply Kept.set); focus (simp <;> omega)) | ((with_reducible apply Kept.via); focus with_reducible assumption))))); omega
  generalize hW : World.alloc w1 (.cells #[.int .u64 a0, .int .u64 a1, .int .u64 a2, .int .u64 a3] 84) = W_a
  have K_a : Kept w1 W_a := by subst hW; exact (Kept.refl _).alloc _ _
  have H_a := Lib.hid (show W_a.cell? ⟨w1.heap.size, 0, none⟩ = some (.int .u64 a0) ∧ W_a.cell? ⟨w1.heap.size, 1, none⟩ = some (.int .u64 a1) ∧ W_a.cell? ⟨w1.heap.size, 2, none⟩ = some (.int .u64 a2) ∧ W_a.cell? ⟨w1.heap.size, 3, none⟩ = some (.int .u64 a3) from by subst hW; simp [go_sem])
  clear hW
  generalize w1.heap.size = g_a at *
  go_upto_region 3 with fail
  rw [HK0.out, HK1.out]
  generalize hW : World.alloc W_a (.cells #[.int .u64 j0, .int .u64 j1] 98) = W_k
  have K_k : Kept W_a W_k := by subst hW; exact (Kept.refl _).alloc _ _
  have H_k := Lib.hid (show W_k.cell? ⟨W_a.heap.size, 0, none⟩ = some (.int .u64 j0) ∧ W_k.cell? ⟨W_a.heap.size, 1, none⟩ = some (.int .u64 j1) from by subst hW; simp [go_sem])
  clear hW
  generalize W_a.heap.size = g_k at *
  have F_a := Lib.hid (Kept.all4 K_k H_a)
  have kxk : Kept W0 W_k := (by (repeat (first | with_reducible exact Kept.refl _ | with_reducible apply Kept.drew | with_reducible apply Kept.alloc | ((with_reducible apply Kept.set); focus (simp <;> omega)) | ((with_reducible apply Kept.via); focus with_reducible assumption))))
  have kwk : Kept w W_k := kw.trans kxk
  have zwk : w.heap.size + 1 < W_k.heap.size := by have := Kept.below kxk; omega
  go_upto_region 4 with fail
  generalize hW : World.alloc W_k (.cells #[.int .u64 0, .int .u64 0, .int .u64 0, .int .u64 0, .int .u64 0, .int .u64 0] 99) = W2
  have O0 : Out6 W2 W_k.heap.size 0 0 0 0 0 0 := by subst hW; exact ⟨⟨by simp [go_sem], by simp [go_sem], by simp [go_sem], by simp [go_sem], by simp [go_sem], by simp [go_sem]⟩, by simp [go_sem], by simp [go_sem], by simp [go_sem], by simp [go_sem], by simp [go_sem], by simp [go_sem]⟩
  have k12 : Kept W_k W2 := by subst hW; exact (Kept.refl _).alloc _ _
  clear hW
  have hg : W_k.heap.size ≤ W_k.heap.size := Nat.le_refl _
  generalize hgg : W_k.heap.size = g at O0 hg ⊢
  have hg2 : W_k.heap.size ≤ g := by omega
  have hg3 : w.heap.size + 1 < g := by omega
  clear hgg hg
  go_wp2_with fail
  go_loopw [9] (fun i wx => ∃ k : Int, i = .int .i64 k ∧ ((k = 0 ∧ Out6 wx g 0 0 0 0 0 0) ∨ (k = 1 ∧ Out6 wx g s0 s1 s2 s3 c4 0) ∨ (k = 2 ∧ Out6 wx g s0 t0 t1 t2 t3 e4)) ∧ Kept W_k wx) (fun i _ => (2 - intOf i).toNat)
  case atStart => exact ⟨0, rfl, Or.inl ⟨rfl, O0⟩, k12⟩
  case round =>
    obtain ⟨k, rfl, hk, kr⟩ := hrel
    rcases hk with ⟨rfl, ho⟩ | ⟨rfl, ho⟩ | ⟨rfl, ho⟩
    · go_wp2_with fail
      go_loopw [10, 11] (fun c i wx => ∃ k : Int, i = .int .i64 k ∧ ((k = 0 ∧ c = .int .u64 0 ∧ Out6 wx g 0 0 0 0 0 0) ∨ (k = 1 ∧ c = .int .u64 c1 ∧ Out6 wx g s0 0 0 0 0 0) ∨ (k = 2 ∧ c = .int .u64 c2 ∧ Out6 wx g s0 s1 0 0 0 0) ∨ (k = 3 ∧ c = .int .u64 c3 ∧ Out6 wx g s0 s1 s2 0 0 0) ∨ (k = 4 ∧ c = .int .u64 c4 ∧ Out6 wx g s0 s1 s2 s3 0 0)) ∧ Kept W_k wx) (fun _ i _ => (4 - intOf i).toNat)
      case atStart => exact ⟨0, rfl, Or.inl ⟨rfl, rfl, ho⟩, kr⟩
      case round =>
        clear ho kr
        obtain ⟨k, rfl, hk, kr⟩ := hrel
        rcases hk with ⟨rfl, rfl, ho⟩ | ⟨rfl, rfl, ho⟩ | ⟨rfl, rfl, ho⟩ | ⟨rfl, rfl, ho⟩ | ⟨rfl, rfl, ho⟩
        · go_wp2_with fail
          have g0 : ∀ p : KW wr, p.w.cell? ⟨g_k, 0, none⟩ = some (.int .u64 j0) := fun p => p.k.read (kr.read H_k.out.1)
          have g1 : ∀ p : KW wr, p.w.cell? ⟨g_a, 0, none⟩ = some (.int .u64 a0) := fun p => p.k.read (kr.read F_a.out.1)
          have g2 : ∀ p : KW wr, p.w.cell? ⟨g, 0, none⟩ = some (.int .u64 0) := fun p => p.k.read ho.1.1
          refine wp_region_kept (by kernel_rfl) (by kernel_rfl) ?_
          repeat (go_big_quiet_step (fail))
          refine wpQuiet_nil ?_
          intro wq hw'
          have kq : Kept wr wq := by obtain ⟨p, rfl⟩ := hw'; exact p.k
          clear hw' g0 g1 g2
          obtain ⟨⟨f0, f1, f2, f3, f4, f5⟩, z0, z1, z2, z3, z4, z5⟩ := ho.kept kq
          go_wp2_with fail
          go_roundw
          case rel =>
            refine ⟨1, rfl, Or.inr (Or.inl ⟨rfl, by rw [E1'.out], ?_⟩), ?_⟩
            · rw [S0'.out]
              exact ⟨⟨by simp [go_sem, *], by simp [go_sem, *], by simp [go_sem, *], by simp [go_sem, *], by simp [go_sem, *], by simp [go_sem, *]⟩, by simp [go_sem, *], by simp [go_sem, *], by simp [go_sem, *], by simp [go_sem, *], by simp [go_sem, *], by simp [go_sem, *]⟩
            · exact Kept.set hg2 (kr.trans kq)
          case measure => simp [intOf]
        · go_wp2_with fail
          have g0 : ∀ p : KW wr, p.w.cell? ⟨g_k, 0, none⟩ = some (.int .u64 j0) := fun p => p.k.read (kr.read H_k.out.1)
          have g1 : ∀ p : KW wr, p.w.cell? ⟨g_a, 1, none⟩ = some (.int .u64 a1) := fun p => p.k.read (kr.read F_a.out.2.1)
          have g2 : ∀ p : KW wr, p.w.cell? ⟨g, 1, none⟩ = some (.int .u64 0) := fun p => p.k.read ho.1.2.1
          refine wp_region_kept (by kernel_rfl) (by kernel_rfl) ?_
          repeat (go_big_quiet_step (fail))
          refine wpQuiet_nil ?_
          intro wq hw'
          have kq : Kept wr wq := by obtain ⟨p, rfl⟩ := hw'; exact p.k
          clear hw' g0 g1 g2
          obtain ⟨⟨f0, f1, f2, f3, f4, f5⟩, z0, z1, z2, z3, z4, z5⟩ := ho.kept kq
          go_wp2_with fail
          go_roundw
          case rel =>
            refine ⟨2, rfl, Or.inr (Or.inr (Or.inl ⟨rfl, by rw [E2'.out], ?_⟩)), ?_⟩
            · rw [S1'.out]
              exact ⟨⟨by simp [go_sem, *], by simp [go_sem, *], by simp [go_sem, *], by simp [go_sem, *], by simp [go_sem, *], by simp [go_sem, *]⟩, by simp [go_sem, *], by simp [go_sem, *], by simp [go_sem, *], by simp [go_sem, *], by simp [go_sem, *], by simp [go_sem, *]⟩
            · exact Kept.set hg2 (kr.trans kq)
          case measure => simp [intOf]
        · go_wp2_with fail
          have g0 : ∀ p : KW wr, p.w.cell? ⟨g_k, 0, none⟩ = some (.int .u64 j0) := fun p => p.k.read (kr.read H_k.out.1)
          have g1 : ∀ p : KW wr, p.w.cell? ⟨g_a, 2, none⟩ = some (.int .u64 a2) := fun p => p.k.read (kr.read F_a.out.2.2.1)
          have g2 : ∀ p : KW wr, p.w.cell? ⟨g, 2, none⟩ = some (.int .u64 0) := fun p => p.k.read ho.1.2.2.1
          refine wp_region_kept (by kernel_rfl) (by kernel_rfl) ?_
          repeat (go_big_quiet_step (fail))
          refine wpQuiet_nil ?_
          intro wq hw'
          have kq : Kept wr wq := by obtain ⟨p, rfl⟩ := hw'; exact p.k
          clear hw' g0 g1 g2
          obtain ⟨⟨f0, f1, f2, f3, f4, f5⟩, z0, z1, z2, z3, z4, z5⟩ := ho.kept kq
          go_wp2_with fail
          go_roundw
          case rel =>
            refine ⟨3, rfl, Or.inr (Or.inr (Or.inr (Or.inl ⟨rfl, by rw [E3'.out], ?_⟩))), ?_⟩
            · rw [S2'.out]
              exact ⟨⟨by simp [go_sem, *], by simp [go_sem, *], by simp [go_sem, *], by simp [go_sem, *], by simp [go_sem, *], by simp [go_sem, *]⟩, by simp [go_sem, *], by simp [go_sem, *], by simp [go_sem, *], by simp [go_sem, *], by simp [go_sem, *], by simp [go_sem, *]⟩
            · exact Kept.set hg2 (kr.trans kq)
          case measure => simp [intOf]
        · go_wp2_with fail
          have g0 : ∀ p : KW wr, p.w.cell? ⟨g_k, 0, none⟩ = some (.int .u64 j0) := fun p => p.k.read (kr.read H_k.out.1)
          have g1 : ∀ p : KW wr, p.w.cell? ⟨g_a, 3, none⟩ = some (.int .u64 a3) := fun p => p.k.read (kr.read F_a.out.2.2.2)
          have g2 : ∀ p : KW wr, p.w.cell? ⟨g, 3, none⟩ = some (.int .u64 0) := fun p => p.k.read ho.1.2.2.2.1
          refine wp_region_kept (by kernel_rfl) (by kernel_rfl) ?_
          repeat (go_big_quiet_step (fail))
          refine wpQuiet_nil ?_
          intro wq hw'
          have kq : Kept wr wq := by obtain ⟨p, rfl⟩ := hw'; exact p.k
          clear hw' g0 g1 g2
          obtain ⟨⟨f0, f1, f2, f3, f4, f5⟩, z0, z1, z2, z3, z4, z5⟩ := ho.kept kq
          go_wp2_with fail
          go_roundw
          case rel =>
            refine ⟨4, rfl, Or.inr (Or.inr (Or.inr (Or.inr (⟨rfl, by rw [E4'.out], ?_⟩)))), ?_⟩
            · rw [S3'.out]
              exact ⟨⟨by simp [go_sem, *], by simp [go_sem, *], by simp [go_sem, *], by simp [go_sem, *], by simp [go_sem, *], by simp [go_sem, *]⟩, by simp [go_sem, *], by simp [go_sem, *], by simp [go_sem, *], by simp [go_sem, *], by simp [go_sem, *], by simp [go_sem, *]⟩
            · exact Kept.set hg2 (kr.trans kq)
          case measure => simp [intOf]
        · obtain ⟨⟨f0, f1, f2, f3, f4, f5⟩, z0, z1, z2, z3, z4, z5⟩ := ho
          go_wp2_with fail
          go_roundw
          case rel =>
            refine ⟨1, rfl, Or.inr (Or.inl ⟨rfl, ?_⟩), ?_⟩
            · exact ⟨⟨by simp [go_sem, *], by simp [go_sem, *], by simp [go_sem, *], by simp [go_sem, *], by simp [go_sem, *], by simp [go_sem, *]⟩, by simp [go_sem, *], by simp [go_sem, *], by simp [go_sem, *], by simp [go_sem, *], by simp [go_sem, *], by simp [go_sem, *]⟩
            · exact Kept.set hg2 kr
          case measure => simp [intOf]
    · go_wp2_with fail
      go_loopw [10, 11] (fun c i wx => ∃ k : Int, i = .int .i64 k ∧ ((k = 0 ∧ c = .int .u64 0 ∧ Out6 wx g s0 s1 s2 s3 c4 0) ∨ (k = 1 ∧ c = .int .u64 e1 ∧ Out6 wx g s0 t0 s2 s3 c4 0) ∨ (k = 2 ∧ c = .int .u64 e2 ∧ Out6 wx g s0 t0 t1 s3 c4 0) ∨ (k = 3 ∧ c = .int .u64 e3 ∧ Out6 wx g s0 t0 t1 t2 c4 0) ∨ (k = 4 ∧ c = .int .u64 e4 ∧ Out6 wx g s0 t0 t1 t2 t3 0)) ∧ Kept W_k wx) (fun _ i _ => (4 - intOf i).toNat)
      case atStart => exact ⟨0, rfl, Or.inl ⟨rfl, rfl, ho⟩, kr⟩
      case round =>
        clear ho kr
        obtain ⟨k, rfl, hk, kr⟩ := hrel
        rcases hk with ⟨rfl, rfl, ho⟩ | ⟨rfl, rfl, ho⟩ | ⟨rfl, rfl, ho⟩ | ⟨rfl, rfl, ho⟩ | ⟨rfl, rfl, ho⟩
        · go_wp2_with fail
          have g0 : ∀ p : KW wr, p.w.cell? ⟨g_k, 1, none⟩ = some (.int .u64 j1) := fun p => p.k.read (kr.read H_k.out.2)
          have g1 : ∀ p : KW wr, p.w.cell? ⟨g_a, 0, none⟩ = some (.int .u64 a0) := fun p => p.k.read (kr.read F_a.out.1)
          have g2 : ∀ p : KW wr, p.w.cell? ⟨g, 1, none⟩ = some (.int .u64 s1) := fun p => p.k.read ho.1.2.1
          refine wp_region_kept (by kernel_rfl) (by kernel_rfl) ?_
          repeat (go_big_quiet_step (fail))
          refine wpQuiet_nil ?_
          intro wq hw'
          have kq : Kept wr wq := by obtain ⟨p, rfl⟩ := hw'; exact p.k
          clear hw' g0 g1 g2
          obtain ⟨⟨f0, f1, f2, f3, f4, f5⟩, z0, z1, z2, z3, z4, z5⟩ := ho.kept kq
          go_wp2_with fail
          go_roundw
          case rel =>
            refine ⟨1, rfl, Or.inr (Or.inl ⟨rfl, by rw [G1'.out], ?_⟩), ?_⟩
            · rw [T0'.out]
              exact ⟨⟨by simp [go_sem, *], by simp [go_sem, *], by simp [go_sem, *], by simp [go_sem, *], by simp [go_sem, *], by simp [go_sem, *]⟩, by simp [go_sem, *], by simp [go_sem, *], by simp [go_sem, *], by simp [go_sem, *], by simp [go_sem, *], by simp [go_sem, *]⟩
            · exact Kept.set hg2 (kr.trans kq)
          case measure => simp [intOf]
        · go_wp2_with fail
          have g0 : ∀ p : KW wr, p.w.cell? ⟨g_k, 1, none⟩ = some (.int .u64 j1) := fun p => p.k.read (kr.read H_k.out.2)
          have g1 : ∀ p : KW wr, p.w.cell? ⟨g_a, 1, none⟩ = some (.int .u64 a1) := fun p => p.k.read (kr.read F_a.out.2.1)
          have g2 : ∀ p : KW wr, p.w.cell? ⟨g, 2, none⟩ = some (.int .u64 s2) := fun p => p.k.read ho.1.2.2.1
          refine wp_region_kept (by kernel_rfl) (by kernel_rfl) ?_
          repeat (go_big_quiet_step (fail))
          refine wpQuiet_nil ?_
          intro wq hw'
          have kq : Kept wr wq := by obtain ⟨p, rfl⟩ := hw'; exact p.k
          clear hw' g0 g1 g2
          obtain ⟨⟨f0, f1, f2, f3, f4, f5⟩, z0, z1, z2, z3, z4, z5⟩ := ho.kept kq
          go_wp2_with fail
          go_roundw
          case rel =>
            refine ⟨2, rfl, Or.inr (Or.inr (Or.inl ⟨rfl, by rw [G2'.out], ?_⟩)), ?_⟩
            · rw [T1'.out]
              exact ⟨⟨by simp [go_sem, *], by simp [go_sem, *], by simp [go_sem, *], by simp [go_sem, *], by simp [go_sem, *], by simp [go_sem, *]⟩, by simp [go_sem, *], by simp [go_sem, *], by simp [go_sem, *], by simp [go_sem, *], by simp [go_sem, *], by simp [go_sem, *]⟩
            · exact Kept.set hg2 (kr.trans kq)
          case measure => simp [intOf]
        · go_wp2_with fail
          have g0 : ∀ p : KW wr, p.w.cell? ⟨g_k, 1, none⟩ = some (.int .u64 j1) := fun p => p.k.read (kr.read H_k.out.2)
          have g1 : ∀ p : KW wr, p.w.cell? ⟨g_a, 2, none⟩ = some (.int .u64 a2) := fun p => p.k.read (kr.read F_a.out.2.2.1)
          have g2 : ∀ p : KW wr, p.w.cell? ⟨g, 3, none⟩ = some (.int .u64 s3) := fun p => p.k.read ho.1.2.2.2.1
          refine wp_region_kept (by kernel_rfl) (by kernel_rfl) ?_
          repeat (go_big_quiet_step (fail))
          refine wpQuiet_nil ?_
          intro wq hw'
          have kq : Kept wr wq := by obtain ⟨p, rfl⟩ := hw'; exact p.k
          clear hw' g0 g1 g2
          obtain ⟨⟨f0, f1, f2, f3, f4, f5⟩, z0, z1, z2, z3, z4, z5⟩ := ho.kept kq
          go_wp2_with fail
          go_roundw
          case rel =>
            refine ⟨3, rfl, Or.inr (Or.inr (Or.inr (Or.inl ⟨rfl, by rw [G3'.out], ?_⟩))), ?_⟩
            · rw [T2'.out]
              exact ⟨⟨by simp [go_sem, *], by simp [go_sem, *], by simp [go_sem, *], by simp [go_sem, *], by simp [go_sem, *], by simp [go_sem, *]⟩, by simp [go_sem, *], by simp [go_sem, *], by simp [go_sem, *], by simp [go_sem, *], by simp [go_sem, *], by simp [go_sem, *]⟩
            · exact Kept.set hg2 (kr.trans kq)
          case measure => simp [intOf]
        · go_wp2_with fail
          have g0 : ∀ p : KW wr, p.w.cell? ⟨g_k, 1, none⟩ = some (.int .u64 j1) := fun p => p.k.read (kr.read H_k.out.2)
          have g1 : ∀ p : KW wr, p.w.cell? ⟨g_a, 3, none⟩ = some (.int .u64 a3) := fun p => p.k.read (kr.read F_a.out.2.2.2)
          have g2 : ∀ p : KW wr, p.w.cell? ⟨g, 4, none⟩ = some (.int .u64 c4) := fun p => p.k.read ho.1.2.2.2.2.1
          refine wp_region_kept (by kernel_rfl) (by kernel_rfl) ?_
          repeat (go_big_quiet_step (fail))
          refine wpQuiet_nil ?_
          intro wq hw'
          have kq : Kept wr wq := by obtain ⟨p, rfl⟩ := hw'; exact p.k
          clear hw' g0 g1 g2
          obtain ⟨⟨f0, f1, f2, f3, f4, f5⟩, z0, z1, z2, z3, z4, z5⟩ := ho.kept kq
          go_wp2_with fail
          go_roundw
          case rel =>
            refine ⟨4, rfl, Or.inr (Or.inr (Or.inr (Or.inr (⟨rfl, by rw [G4'.out], ?_⟩)))), ?_⟩
            · rw [T3'.out]
              exact ⟨⟨by simp [go_sem, *], by simp [go_sem, *], by simp [go_sem, *], by simp [go_sem, *], by simp [go_sem, *], by simp [go_sem, *]⟩, by simp [go_sem, *], by simp [go_sem, *], by simp [go_sem, *], by simp [go_sem, *], by simp [go_sem, *], by simp [go_sem, *]⟩
            · exact Kept.set hg2 (kr.trans kq)
          case measure => simp [intOf]
        · obtain ⟨⟨f0, f1, f2, f3, f4, f5⟩, z0, z1, z2, z3, z4, z5⟩ := ho
          go_wp2_with fail
          go_roundw
          case rel =>
            refine ⟨2, rfl, Or.inr (Or.inr ⟨rfl, ?_⟩), ?_⟩
            · exact ⟨⟨by simp [go_sem, *], by simp [go_sem, *], by simp [go_sem, *], by simp [go_sem, *], by simp [go_sem, *], by simp [go_sem, *]⟩, by simp [go_sem, *], by simp [go_sem, *], by simp [go_sem, *], by simp [go_sem, *], by simp [go_sem, *], by simp [go_sem, *]⟩
            · exact Kept.set hg2 kr
          case measure => simp [intOf]
    · have kx : Kept W0 wr := kxk.trans kr
      have kwr : Kept w wr := kwk.trans kr
      rcases HV.out with hv | ⟨hv, hv'⟩
      · obtain ⟨⟨f0, f1, f2, f3, f4, f5⟩, z0, z1, z2, z3, z4, z5⟩ := ho
        obtain ⟨x, y, z, u1, u2, u3, w1', w2', w3'⟩ := room.kept kx
        go_wp2
        simp [bodyPost, results, Tryd.results56, go_sem, *]
        exact (by (repeat (first | with_reducible exact Kept.refl _ | with_reducible apply Kept.drew | with_reducible apply Kept.alloc | ((with_reducible apply Kept.set); focus (simp <;> omega)) | ((with_reducible apply Kept.via); focus with_reducible assumption))))
      · subst hv; obtain ⟨⟨f0, f1, f2, f3, f4, f5⟩, z0, z1, z2, z3, z4, z5⟩ := ho
        obtain ⟨x, y, z, u1, u2, u3, w1', w2', w3'⟩ := room.kept kx
        go_wp2
        simp [bodyPost, results, Tryd.results56, go_sem, *]
        exact (by (repeat (first | with_reducible exact Kept.refl _ | with_reducible apply Kept.drew | with_reducible apply Kept.alloc | ((with_reducible apply Kept.set); focus (simp <;> omega)) | ((with_reducible apply Kept.via); focus with_reducible assumption))))
end Go.Proofs.YtdbikeehoildlaaDoor
namespace Go.Proofs.YtdbikeehoildlaaDoor
open Go.RowKit Go.BigFrame

theorem half_le {k a : Int} (k0 : 0 ≤ k) (k1 : k < 4294967296) (a0 : 0 ≤ a) (a1 : a < 4294967296) : 0 ≤ k * a ∧ k * a ≤ 18446744065119617025 :=
  ⟨Int.mul_nonneg k0 a0, by have := Int.mul_le_mul (show k ≤ 4294967295 by omega) (show a ≤ 4294967295 by omega) a0 (by omega); omega⟩
theorem mul_digits (j0 j1 a0 a1 a2 a3 : Int) : (a3 * 79228162514264337593543950336 + a2 * 18446744073709551616 + a1 * 4294967296 + a0) * (j1 * 4294967296 + j0) = j0 * a0 + (j0 * a1 + j1 * a0) * 4294967296 + (j0 * a2 + j1 * a1) * 18446744073709551616 + (j0 * a3 + j1 * a2) * 79228162514264337593543950336 + j1 * a3 * 340282366920938463463374607431768211456 := by
  grind
theorem refScale_ex {xh xl n : Int} (h1 : Word xh) (h2 : Word xl) (h3 : Word n) : ∃ s0 t0 t1 t2 t3 e4 : Int, (0 ≤ s0 ∧ s0 < 4294967296) ∧ (0 ≤ t0 ∧ t0 < 4294967296) ∧ (0 ≤ t1 ∧ t1 < 4294967296) ∧ (0 ≤ t2 ∧ t2 < 4294967296) ∧ 0 ≤ t3 ∧ 0 ≤ e4 ∧ sz xh xl * n = e4 * 1461501637330902918203684832716283019655932542976 + t3 * 340282366920938463463374607431768211456 + sz (t2 * 4294967296 + t1) (t0 * 4294967296 + s0) ∧
    (∀ (xb : Bool) (h l : Int) (w : World), h = t2 * 4294967296 + t1 → l = t0 * 4294967296 + s0 → t3 = 0 → e4 = 0 → Calls Tryd.prog 56 #[.agg #[.bool xb, .int .u64 xh, .int .u64 xl], .int .u64 n] w fun e w' => e = .returned (.tuple #[.agg #[.bool (xb && nz h l), .int .u64 h, .int .u64 l], .int .i64 0]) ∧ Kept w w') ∧
    (∀ (xb : Bool) (w : World), (0 < t3 ∨ (t3 = 0 ∧ 0 < e4)) → Calls Tryd.prog 56 #[.agg #[.bool xb, .int .u64 xh, .int .u64 xl], .int .u64 n] w fun e w' => e = .returned (.tuple #[.agg #[.bool false, .int .u64 0, .int .u64 0], .int .i64 10]) ∧ Kept w w') := by
  have a := dig_b h1; have b := dig_b h2; have c := dig_b h3
  obtain ⟨d0, d1⟩ := h3
  have md := mul_digits (n % 4294967296) (n / 4294967296) (xl % 4294967296) (xl / 4294967296) (xh % 4294967296) (xh / 4294967296)
  rw [show xh / 4294967296 * 79228162514264337593543950336 + xh % 4294967296 * 18446744073709551616 + xl / 4294967296 * 4294967296 + xl % 4294967296 = sz xh xl by unfold sz; omega, show n / 4294967296 * 4294967296 + n % 4294967296 = n by omega] at md
  have D := fun xb w => digits_any xb xh xl w h1 h2
  have W := fun (s0 t0 t1 t2 : Int) (i0 : 0 ≤ s0 ∧ s0 < 4294967296) (i1 : 0 ≤ t0 ∧ t0 < 4294967296) (i2 : 0 ≤ t1 ∧ t1 < 4294967296) (i3 : 0 ≤ t2 ∧ t2 < 4294967296) xb h l (eh : h = t2 * 4294967296 + t1) (el : l = t0 * 4294967296 + s0) w => whole_any s0 t0 t1 t2 h l xb w i0.1 i1.1 i2.1 i3.1 i0.2 i1.2 i2.2 i3.2 eh el
  have p00 := half_le c.1 c.2.1 b.1 b.2.1; have p01 := half_le c.1 c.2.1 b.2.2.1 b.2.2.2; have p02 := half_le c.1 c.2.1 a.1 a.2.1; have p03 := half_le c.1 c.2.1 a.2.2.1 a.2.2.2
  have p10 := half_le c.2.2.1 c.2.2.2 b.1 b.2.1; have p11 := half_le c.2.2.1 c.2.2.2 b.2.2.1 b.2.2.2; have p12 := half_le c.2.2.1 c.2.2.2 a.1 a.2.1; have p13 := half_le c.2.2.1 c.2.2.2 a.2.2.1 a.2.2.2
  have FIT := fun (xb : Bool) (c1 c2 c3 c4 s0 s1 s2 s3 e1 e2 e3 e4 t0 t1 t2 t3 h l : Int) (w : World) => refScale_fit xb xh xl n (n % 4294967296) (n / 4294967296) (xl % 4294967296) (xl / 4294967296) (xh % 4294967296) (xh / 4294967296) c1 c2 c3 c4 s0 s1 s2 s3 e1 e2 e3 e4 t0 t1 t2 t3 h l w d0 d1 rfl rfl
  have OVE := fun (xb : Bool) (c1 c2 c3 c4 s0 s1 s2 s3 e1 e2 e3 e4 t0 t1 t2 t3 : Int) (w : World) => refScale_over xb xh xl n (n % 4294967296) (n / 4294967296) (xl % 4294967296) (xl / 4294967296) (xh % 4294967296) (xh / 4294967296) c1 c2 c3 c4 s0 s1 s2 s3 e1 e2 e3 e4 t0 t1 t2 t3 w d0 d1 rfl rfl
  generalize n % 4294967296 * (xl % 4294967296) = m00 at *
  generalize n % 4294967296 * (xl / 4294967296) = m01 at *
  generalize n % 4294967296 * (xh % 4294967296) = m02 at *
  generalize n % 4294967296 * (xh / 4294967296) = m03 at *
  generalize n / 4294967296 * (xl % 4294967296) = m10 at *
  generalize n / 4294967296 * (xl / 4294967296) = m11 at *
  generalize n / 4294967296 * (xh % 4294967296) = m12 at *
  generalize n / 4294967296 * (xh / 4294967296) = m13 at *
  generalize sz xh xl * n = PP at *
  clear h1 h2 a b c
  obtain ⟨c1, hc1⟩ : ∃ x, m00 / 4294967296 = x := ⟨_, rfl⟩
  obtain ⟨s0, hs0⟩ : ∃ x, m00 % 4294967296 = x := ⟨_, rfl⟩
  obtain ⟨c2, hc2⟩ : ∃ x, (m01 + c1) / 4294967296 = x := ⟨_, rfl⟩
  obtain ⟨s1, hs1⟩ : ∃ x, (m01 + c1) % 4294967296 = x := ⟨_, rfl⟩
  obtain ⟨c3, hc3⟩ : ∃ x, (m02 + c2) / 4294967296 = x := ⟨_, rfl⟩
  obtain ⟨s2, hs2⟩ : ∃ x, (m02 + c2) % 4294967296 = x := ⟨_, rfl⟩
  obtain ⟨c4, hc4⟩ : ∃ x, (m03 + c3) / 4294967296 = x := ⟨_, rfl⟩
  obtain ⟨s3, hs3⟩ : ∃ x, (m03 + c3) % 4294967296 = x := ⟨_, rfl⟩
  obtain ⟨e1, he1⟩ : ∃ x, (m10 + s1) / 4294967296 = x := ⟨_, rfl⟩
  obtain ⟨t0, ht0⟩ : ∃ x, (m10 + s1) % 4294967296 = x := ⟨_, rfl⟩
  obtain ⟨e2, he2⟩ : ∃ x, (m11 + s2 + e1) / 4294967296 = x := ⟨_, rfl⟩
  obtain ⟨t1, ht1⟩ : ∃ x, (m11 + s2 + e1) % 4294967296 = x := ⟨_, rfl⟩
  obtain ⟨e3, he3⟩ : ∃ x, (m12 + s3 + e2) / 4294967296 = x := ⟨_, rfl⟩
  obtain ⟨t2, ht2⟩ : ∃ x, (m12 + s3 + e2) % 4294967296 = x := ⟨_, rfl⟩
  obtain ⟨e4, he4⟩ : ∃ x, (m13 + c4 + e3) / 4294967296 = x := ⟨_, rfl⟩
  obtain ⟨t3, ht3⟩ : ∃ x, (m13 + c4 + e3) % 4294967296 = x := ⟨_, rfl⟩
  have FIT' := fun xb h l w => FIT xb c1 c2 c3 c4 s0 s1 s2 s3 e1 e2 e3 e4 t0 t1 t2 t3 h l w
  have OVE' := fun xb w => OVE xb c1 c2 c3 c4 s0 s1 s2 s3 e1 e2 e3 e4 t0 t1 t2 t3 w
  have i0 : 0 ≤ s0 ∧ s0 < 4294967296 := by omega
  have i1 : 0 ≤ t0 ∧ t0 < 4294967296 := by omega
  have i2 : 0 ≤ t1 ∧ t1 < 4294967296 := by omega
  have i3 : 0 ≤ t2 ∧ t2 < 4294967296 := by omega
  refine ⟨s0, t0, t1, t2, t3, e4, i0, i1, i2, i3, by omega, by omega, by unfold sz; omega, fun xb h l w eh el z3 z4 => ?_, fun xb w hv => ?_⟩
  · exact FIT' xb h l w (by omega) (by omega) (by omega) (by omega) (by omega) (by omega) (by omega) (by omega) (by omega) (by omega) (by omega) (by omega) (by omega) (by omega) (by omega) (by omega) (by omega) (by omega) (by omega) (by omega) (by omega) (by omega) p00.1 p00.2 p01.1 p01.2 p02.1 p02.2 p03.1 p03.2 p10.1 p10.2 p11.1 p11.2 p12.1 p12.2 p13.1 p13.2 z3 z4 hc1 hs0 hc2 hs1 hc3 hs2 hc4 hs3 he1 ht0 he2 ht1 he3 ht2 he4 ht3 (D xb) (W s0 t0 t1 t2 i0 i1 i2 i3 xb h l eh el)
  · exact OVE' xb w (by omega) (by omega) (by omega) (by omega) (by omega) (by omega) (by omega) (by omega) (by omega) (by omega) (by omega) (by omega) (by omega) (by omega) (by omega) (by omega) (by omega) (by omega) (by omega) (by omega) (by omega) (by omega) p00.1 p00.2 p01.1 p01.2 p02.1 p02.2 p03.1 p03.2 p10.1 p10.2 p11.1 p11.2 p12.1 p12.2 p13.1 p13.2 hv hc1 hs0 hc2 hs1 hc3 hs2 hc4 hs3 he1 ht0 he2 ht1 he3 ht2 he4 ht3 (D xb)
section
variable {b1 b : Bool} {xh xl h l n : Int}
theorem refScale_yes (h1 : Word xh) (h2 : Word xl) (h3 : Word n) (r : Rep b h l (numOf b1 xh xl * n)) (w : World) : Calls Tryd.prog 56 #[.agg #[.bool b1, .int .u64 xh, .int .u64 xl], .int .u64 n] w fun e w' => e = .returned (.tuple #[.agg #[.bool b, .int .u64 h, .int .u64 l], .int .i64 0]) ∧ Kept w w' := by
  obtain ⟨h5, h6, _, _⟩ := id r
  have s := rep_size r
  have n1 := Int.mul_nonneg (sz_nonneg h1 h2) h3.1
  have s2 : sz h l = sz xh xl * n := by
    cases b1
    · rw [numOf_false] at s; split at s <;> omega
    · rw [numOf_true, Int.neg_mul] at s; split at s <;> omega
  obtain ⟨s0, t0, t1, t2, t3, e4, i0, i1, i2, i3, i4, i5, es, FI, _⟩ := refScale_ex h1 h2 h3
  have wh : Word (t2 * 4294967296 + t1) := by unfold Word; omega
  have wl : Word (t0 * 4294967296 + s0) := by unfold Word; omega
  have m1 := sz_nonneg wh wl; have m2 := sz_lt h5 h6
  obtain ⟨eh, el⟩ := sz_inj h5 h6 wh wl (by omega)
  rw [← rep_sign (s := b1) r (by cases b1 <;> simp [numOf, s2, Int.neg_mul])]
  exact FI b1 h l w eh el (by omega) (by omega)
theorem refScale_no (h1 : Word xh) (h2 : Word xl) (h3 : Word n) (r : ¬ InBig (numOf b1 xh xl * n)) (w : World) : Calls Tryd.prog 56 #[.agg #[.bool b1, .int .u64 xh, .int .u64 xl], .int .u64 n] w fun e w' => e = .returned (.tuple #[.agg #[.bool false, .int .u64 0, .int .u64 0], .int .i64 10]) ∧ Kept w w' := by
  have n1 := Int.mul_nonneg (sz_nonneg h1 h2) h3.1
  have o : 340282366920938463463374607431768211456 ≤ sz xh xl * n := by
    unfold InBig at r
    cases b1
    · rw [numOf_false] at r; omega
    · rw [numOf_true, Int.neg_mul] at r; omega
  obtain ⟨s0, t0, t1, t2, t3, e4, i0, i1, i2, i3, i4, i5, es, _, OV⟩ := refScale_ex h1 h2 h3
  have m1 : sz (t2 * 4294967296 + t1) (t0 * 4294967296 + s0) < 340282366920938463463374607431768211456 := sz_lt (by unfold Word; omega) (by unfold Word; omega)
  exact OV b1 w (by omega)
end
set_option maxHeartbeats 800000 in
theorem refMul_neg (a c m ah al ph pl : Int) (ab pb qb : Bool) (w : World) (hc : c < 0) (O1 : ∀ w, Calls Tryd.prog 57 #[.int .i64 a] w fun e w' => e = .returned (.agg #[.bool ab, .int .u64 ah, .int .u64 al]) ∧ Kept w w') (Z1 : ∀ w, Calls Tryd.prog 58 #[.int .i64 c] w fun e w' => e = .returned (.int .u64 m) ∧ w = w') (S1 : ∀ w, Calls Tryd.prog 56 #[.agg #[.bool ab, .int .u64 ah, .int .u64 al], .int .u64 m] w fun e w' => e = .returned (.tuple #[.agg #[.bool pb, .int .u64 ph, .int .u64 pl], .int .i64 0]) ∧ Kept w w') (N1 : ∀ w, Calls Tryd.prog 59 #[.agg #[.bool pb, .int .u64 ph, .int .u64 pl]] w fun e w' => e = .returned (.agg #[.bool qb, .int .u64 ph, .int .u64 pl]) ∧ Kept w w') :
    Calls Tryd.prog 36 #[.int .i64 a, .int .i64 c] w fun e w' => e = .returned (.agg #[.bool qb, .int .u64 ph, .int .u64 pl]) ∧ Kept w w' := by
  have O1' := Lib.hid O1
  have Z1' := Lib.hid Z1
  have S1' := Lib.hid S1
  have N1' := Lib.hid N1
  clear O1 Z1 S1 N1
  go_enter Tryd.func36, Tryd.ntmps36
  go_upto_region 1 with fail
  generalize hW : (World.alloc w (.cells #[.bool false, .int .u64 0, .int .u64 0] 61)) = W0
  have room : Room3 W0 w.heap.size := by subst hW; exact ⟨_, _, _, by first | (simp [go_sem]; done) | (simp [go_sem]; rfl), by first | (simp [go_sem]; done) | (simp [go_sem]; rfl), by first | (simp [go_sem]; done) | (simp [go_sem]; rfl), by simp [go_sem], by simp [go_sem], by simp [go_sem]⟩
  have kw : Kept w W0 := by subst hW; (repeat (first | with_reducible exact Kept.refl _ | with_reducible apply Kept.drew | with_reducible apply Kept.alloc | ((with_reducible apply Kept.set); focus (simp <;> omega)) | ((with_reducible apply Kept.via); focus with_reducible assumption)))
  clear hW
  go_wp2_with fail
  refine (O1'.out _).mono ?_
  rintro e w1 ⟨rfl, k1⟩
  go_wp2_with fail
  refine (Z1'.out _).mono ?_
  rintro e w2 ⟨rfl, rfl⟩
  go_wp2_with fail
  refine (S1'.out _).mono ?_
  rintro e w3 ⟨rfl, k3⟩
  go_upto_region 2 with fail
  generalize hW : World.alloc w3 (.cells #[.bool pb, .int .u64 ph, .int .u64 pl] 61) = W_p
  have K_p : Kept w3 W_p := by subst hW; exact (Kept.refl _).alloc _ _
  have H_p := Lib.hid (show W_p.cell? ⟨w3.heap.size, 0, none⟩ = some (.bool pb) ∧ W_p.cell? ⟨w3.heap.size, 1, none⟩ = some (.int .u64 ph) ∧ W_p.cell? ⟨w3.heap.size, 2, none⟩ = some (.int .u64 pl) from by subst hW; simp [go_sem])
  clear hW
  generalize w3.heap.size = g_p at *
  obtain ⟨c_p0, c_p1, c_p2⟩ := Kept.all3 (show Kept W_p W_p from (by (repeat (first | with_reducible exact Kept.refl _ | with_reducible apply Kept.drew | with_reducible apply Kept.alloc | ((with_reducible apply Kept.set); focus (simp <;> omega)) | ((with_reducible apply Kept.via); focus with_reducible assumption))))) H_p
  go_wp2_with fail
  refine (N1'.out _).mono ?_
  rintro e w4 ⟨rfl, k4⟩
  obtain ⟨x, y, z, u1, u2, u3, t1, t2, t3⟩ : Room3 w4 w.heap.size := room.kept (by (repeat (first | with_reducible exact Kept.refl _ | with_reducible apply Kept.drew | with_reducible apply Kept.alloc | ((with_reducible apply Kept.set); focus (simp <;> omega)) | ((with_reducible apply Kept.via); focus with_reducible assumption))))
  go_wp2
  simp [bodyPost, results, Tryd.results36, go_sem, *]
  exact (by (repeat (first | with_reducible exact Kept.refl _ | with_reducible apply Kept.drew | with_reducible apply Kept.alloc | ((with_reducible apply Kept.set); focus (simp <;> omega)) | ((with_reducible apply Kept.via); focus with_reducible assumption))))
set_option maxHeartbeats 800000 in
theorem refMul_pos (a c m ah al ph pl : Int) (ab pb : Bool) (w : World) (hc : ¬ c < 0) (O1 : ∀ w, Calls Tryd.prog 57 #[.int .i64 a] w fun e w' => e = .returned (.agg #[.bool ab, .int .u64 ah, .int .u64 al]) ∧ Kept w w') (Z1 : ∀ w, Calls Tryd.prog 58 #[.int .i64 c] w fun e w' => e = .returned (.int .u64 m) ∧ w = w') (S1 : ∀ w, Calls Tryd.prog 56 #[.agg #[.bool ab, .int .u64 ah, .int .u64 al], .int .u64 m] w fun e w' => e = .returned (.tuple #[.agg #[.bool pb, .int .u64 ph, .int .u64 pl], .int .i64 0]) ∧ Kept w w') :
    Calls Tryd.prog 36 #[.int .i64 a, .int .i64 c] w fun e w' => e = .returned (.agg #[.bool pb, .int .u64 ph, .int .u64 pl]) ∧ Kept w w' := by
  have O1' := Lib.hid O1
  have Z1' := Lib.hid Z1
  have S1' := Lib.hid S1
  clear O1 Z1 S1
  go_enter Tryd.func36, Tryd.ntmps36
  go_upto_region 1 with fail
  generalize hW : (World.alloc w (.cells #[.bool false, .int .u64 0, .int .u64 0] 61)) = W0
  have room : Room3 W0 w.heap.size := by subst hW; exact ⟨_, _, _, by first | (simp [go_sem]; done) | (simp [go_sem]; rfl), by first | (simp [go_sem]; done) | (simp [go_sem]; rfl), by first | (simp [go_sem]; done) | (simp [go_sem]; rfl), by simp [go_sem], by simp [go_sem], by simp [go_sem]⟩
  have kw : Kept w W0 := by subst hW; (repeat (first | with_reducible exact Kept.refl _ | with_reducible apply Kept.drew | with_reducible apply Kept.alloc | ((with_reducible apply Kept.set); focus (simp <;> omega)) | ((with_reducible apply Kept.via); focus with_reducible assumption)))
  clear hW
  go_wp2_with fail
  refine (O1'.out _).mono ?_
  rintro e w1 ⟨rfl, k1⟩
  go_wp2_with fail
  refine (Z1'.out _).mono ?_
  rintro e w2 ⟨rfl, rfl⟩
  go_wp2_with fail
  refine (S1'.out _).mono ?_
  rintro e w3 ⟨rfl, k3⟩
  go_upto_region 2 with fail
  generalize hW : World.alloc w3 (.cells #[.bool pb, .int .u64 ph, .int .u64 pl] 61) = W_p
  have K_p : Kept w3 W_p := by subst hW; exact (Kept.refl _).alloc _ _
  have H_p := Lib.hid (show W_p.cell? ⟨w3.heap.size, 0, none⟩ = some (.bool pb) ∧ W_p.cell? ⟨w3.heap.size, 1, none⟩ = some (.int .u64 ph) ∧ W_p.cell? ⟨w3.heap.size, 2, none⟩ = some (.int .u64 pl) from by subst hW; simp [go_sem])
  clear hW
  generalize w3.heap.size = g_p at *
  obtain ⟨c_p0, c_p1, c_p2⟩ := Kept.all3 (show Kept W_p W_p from (by (repeat (first | with_reducible exact Kept.refl _ | with_reducible apply Kept.drew | with_reducible apply Kept.alloc | ((with_reducible apply Kept.set); focus (simp <;> omega)) | ((with_reducible apply Kept.via); focus with_reducible assumption))))) H_p
  obtain ⟨x, y, z, u1, u2, u3, t1, t2, t3⟩ : Room3 W_p w.heap.size := room.kept (by (repeat (first | with_reducible exact Kept.refl _ | with_reducible apply Kept.drew | with_reducible apply Kept.alloc | ((with_reducible apply Kept.set); focus (simp <;> omega)) | ((with_reducible apply Kept.via); focus with_reducible assumption))))
  go_wp2
  simp [bodyPost, results, Tryd.results36, go_sem, *]
  exact (by (repeat (first | with_reducible exact Kept.refl _ | with_reducible apply Kept.drew | with_reducible apply Kept.alloc | ((with_reducible apply Kept.set); focus (simp <;> omega)) | ((with_reducible apply Kept.via); focus with_reducible assumption))))
end Go.Proofs.YtdbikeehoildlaaDoor
