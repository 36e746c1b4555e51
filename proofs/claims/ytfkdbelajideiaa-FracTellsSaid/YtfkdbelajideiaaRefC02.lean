/-
  Contracts of plus and minus of the document's answer, package sawtoothref02.
-/
import Derived.Test.YtfkdbelajideiaaRefA02
namespace Go.Proofs.Ytfkdbelajideiaa
open Go.RowKit Go.BigFrame

/-- Four digits that may be written. -/
def Out4 (w : World) (g : Nat) (o0 o1 o2 o3 : Int) : Prop := (w.cell? ⟨g, 0, none⟩ = some (.int .u64 o0) ∧ w.cell? ⟨g, 1, none⟩ = some (.int .u64 o1) ∧ w.cell? ⟨g, 2, none⟩ = some (.int .u64 o2) ∧ w.cell? ⟨g, 3, none⟩ = some (.int .u64 o3)) ∧ w.frozen? ⟨g, 0, none⟩ = false ∧ w.frozen? ⟨g, 1, none⟩ = false ∧ w.frozen? ⟨g, 2, none⟩ = false ∧ w.frozen? ⟨g, 3, none⟩ = false
theorem Out4.kept {w1 w2 : World} {g : Nat} {o0 o1 o2 o3 : Int} (h : Out4 w1 g o0 o1 o2 o3) (k : Kept w1 w2) : Out4 w2 g o0 o1 o2 o3 := by
  obtain ⟨⟨a, b, c, d⟩, e, f, i, j⟩ := h
  exact ⟨⟨k.read a, k.read b, k.read c, k.read d⟩, k.thaw e, k.thaw f, k.thaw i, k.thaw j⟩

theorem Kept.all4 {w1 w2 : World} {p0 p1 p2 p3 : Addr} {v0 v1 v2 v3 : Value} (k : Kept w1 w2) (h : Hid (w1.cell? p0 = some v0 ∧ w1.cell? p1 = some v1 ∧ w1.cell? p2 = some v2 ∧ w1.cell? p3 = some v3)) : w2.cell? p0 = some v0 ∧ w2.cell? p1 = some v1 ∧ w2.cell? p2 = some v2 ∧ w2.cell? p3 = some v3 := by
  obtain ⟨h0, h1, h2, h3⟩ := h.out
  exact ⟨k.read h0, k.read h1, k.read h2, k.read h3⟩

set_option maxHeartbeats 1600000 in
theorem plus_raw (a0 a1 a2 a3 b0 b1 b2 b3 c1 c2 c3 c4 r0 r1 r2 r3 : Int) (w : World) (p0 : 0 ≤ a0) (q0 : a0 < 4294967296) (p1 : 0 ≤ a1) (q1 : a1 < 4294967296) (p2 : 0 ≤ a2) (q2 : a2 < 4294967296) (p3 : 0 ≤ a3) (q3 : a3 < 4294967296) (p4 : 0 ≤ b0) (q4 : b0 < 4294967296) (p5 : 0 ≤ b1) (q5 : b1 < 4294967296) (p6 : 0 ≤ b2) (q6 : b2 < 4294967296) (p7 : 0 ≤ b3) (q7 : b3 < 4294967296) (u1 : 0 ≤ c1) (v1 : c1 ≤ 1) (u2 : 0 ≤ c2) (v2 : c2 ≤ 1) (u3 : 0 ≤ c3) (v3 : c3 ≤ 1) (E1 : (a0 + b0) / 4294967296 = c1) (R0 : (a0 + b0) % 4294967296 = r0) (E2 : (a1 + b1 + c1) / 4294967296 = c2) (R1 : (a1 + b1 + c1) % 4294967296 = r1) (E3 : (a2 + b2 + c2) / 4294967296 = c3) (R2 : (a2 + b2 + c2) % 4294967296 = r2) (E4 : (a3 + b3 + c3) / 4294967296 = c4) (R3 : (a3 + b3 + c3) % 4294967296 = r3) :
    Calls Try.prog 56 #[.agg #[.int .u64 a0, .int .u64 a1, .int .u64 a2, .int .u64 a3], .agg #[.int .u64 b0, .int .u64 b1, .int .u64 b2, .int .u64 b3]] w fun e w' => e = .returned (.tuple #[.agg #[.int .u64 r0, .int .u64 r1, .int .u64 r2, .int .u64 r3], .int .u64 c4]) ∧ Kept w w' := by
  have E1' := Lib.hid E1
  have R0' := Lib.hid R0
  have E2' := Lib.hid E2
  have R1' := Lib.hid R1
  have E3' := Lib.hid E3
  have R2' := Lib.hid R2
  have E4' := Lib.hid E4
  have R3' := Lib.hid R3
  clear E1 R0 E2 R1 E3 R2 E4 R3
  go_enter Try.func56, Try.ntmps56
  go_upto_region 1 with fail
  generalize hW : (World.alloc (World.alloc (World.alloc w (.cells #[.int .u64 a0, .int .u64 a1, .int .u64 a2, .int .u64 a3] 49)) (.cells #[.int .u64 b0, .int .u64 b1, .int .u64 b2, .int .u64 b3] 49)) (.cells #[.int .u64 0, .int .u64 0, .int .u64 0, .int .u64 0] 49)) = W1
  have F0 := Lib.hid (show W1.cell? ⟨w.heap.size, 0, none⟩ = some (.int .u64 a0) from by subst hW; simp [go_sem])
  have F1 := Lib.hid (show W1.cell? ⟨w.heap.size, 1, none⟩ = some (.int .u64 a1) from by subst hW; simp [go_sem])
  have F2 := Lib.hid (show W1.cell? ⟨w.heap.size, 2, none⟩ = some (.int .u64 a2) from by subst hW; simp [go_sem])
  have F3 := Lib.hid (show W1.cell? ⟨w.heap.size, 3, none⟩ = some (.int .u64 a3) from by subst hW; simp [go_sem])
  have F4 := Lib.hid (show W1.cell? ⟨w.heap.size + 1, 0, none⟩ = some (.int .u64 b0) from by subst hW; simp [go_sem])
  have F5 := Lib.hid (show W1.cell? ⟨w.heap.size + 1, 1, none⟩ = some (.int .u64 b1) from by subst hW; simp [go_sem])
  have F6 := Lib.hid (show W1.cell? ⟨w.heap.size + 1, 2, none⟩ = some (.int .u64 b2) from by subst hW; simp [go_sem])
  have F7 := Lib.hid (show W1.cell? ⟨w.heap.size + 1, 3, none⟩ = some (.int .u64 b3) from by subst hW; simp [go_sem])
  have Z := Lib.hid (show Out4 W1 (w.heap.size + 1 + 1) 0 0 0 0 from by subst hW; exact ⟨⟨by simp [go_sem], by simp [go_sem], by simp [go_sem], by simp [go_sem]⟩, by simp [go_sem], by simp [go_sem], by simp [go_sem], by simp [go_sem]⟩)
  have kw : Kept w W1 := by subst hW; (repeat (first | with_reducible exact Kept.refl _ | with_reducible apply Kept.drew | with_reducible apply Kept.alloc | ((with_reducible apply Kept.set); focus (simp <;> omega)) | ((with_reducible apply Kept.via); focus with_reducible assumption)))
  have zw : w.heap.size + 1 + 1 < W1.heap.size := by subst hW; simp
  clear hW
  go_upto_region 2 with fail
  generalize hW : (World.alloc W1 (.cells #[.int .u64 0, .int .u64 0, .int .u64 0, .int .u64 0] 49)) = W2
  have O0 : Out4 W2 W1.heap.size 0 0 0 0 := by subst hW; exact ⟨⟨by simp [go_sem], by simp [go_sem], by simp [go_sem], by simp [go_sem]⟩, by simp [go_sem], by simp [go_sem], by simp [go_sem], by simp [go_sem]⟩
  have k12 : Kept W1 W2 := by subst hW; exact (Kept.refl _).alloc _ _
  clear hW
  have hg : W1.heap.size ≤ W1.heap.size := Nat.le_refl _
  generalize hgg : W1.heap.size = g at O0 hg ⊢
  have hg2 : W1.heap.size ≤ g := by omega
  have hg3 : w.heap.size + 1 + 1 < g := by omega
  clear hgg hg
  go_wp2_with fail
  go_loopw [7, 8] (fun c i wx => ∃ k : Int, i = .int .i64 k ∧ ((k = 0 ∧ c = .int .u64 0 ∧ Out4 wx g 0 0 0 0) ∨ (k = 1 ∧ c = .int .u64 c1 ∧ Out4 wx g r0 0 0 0) ∨ (k = 2 ∧ c = .int .u64 c2 ∧ Out4 wx g r0 r1 0 0) ∨ (k = 3 ∧ c = .int .u64 c3 ∧ Out4 wx g r0 r1 r2 0) ∨ (k = 4 ∧ c = .int .u64 c4 ∧ Out4 wx g r0 r1 r2 r3)) ∧ Kept W1 wx) (fun _ i _ => (4 - intOf i).toNat)
  case atStart => exact ⟨0, rfl, Or.inl ⟨rfl, rfl, O0⟩, k12⟩
  case round =>
    obtain ⟨k, rfl, hk, kr⟩ := hrel
    rcases hk with ⟨rfl, rfl, ho⟩ | ⟨rfl, rfl, ho⟩ | ⟨rfl, rfl, ho⟩ | ⟨rfl, rfl, ho⟩ | ⟨rfl, rfl, ho⟩
    · go_wp2_with fail
      have g0 : ∀ p : KW wr, p.w.cell? ⟨w.heap.size, 0, none⟩ = some (.int .u64 a0) := fun p => p.k.read (kr.read F0.out)
      have g1 : ∀ p : KW wr, p.w.cell? ⟨w.heap.size + 1, 0, none⟩ = some (.int .u64 b0) := fun p => p.k.read (kr.read F4.out)
      refine wp_region_kept (by kernel_rfl) (by kernel_rfl) ?_
      repeat (go_big_quiet_step (fail))
      refine wpQuiet_nil ?_
      intro wq hw'
      have kq : Kept wr wq := by obtain ⟨p, rfl⟩ := hw'; exact p.k
      clear hw' g0 g1
      obtain ⟨⟨m0, m1, m2, m3⟩, n0, n1, n2, n3⟩ := ho.kept kq
      go_wp2_with fail
      go_roundw
      case rel =>
        refine ⟨1, rfl, Or.inr (Or.inl ⟨rfl, by rw [E1'.out], ?_⟩), ?_⟩
        · rw [R0'.out]
          exact ⟨⟨by simp [go_sem, *], by simp [go_sem, *], by simp [go_sem, *], by simp [go_sem, *]⟩, by simp [go_sem, *], by simp [go_sem, *], by simp [go_sem, *], by simp [go_sem, *]⟩
        · exact Kept.set hg2 (kr.trans kq)
      case measure => simp [intOf]
    · go_wp2_with fail
      have g0 : ∀ p : KW wr, p.w.cell? ⟨w.heap.size, 1, none⟩ = some (.int .u64 a1) := fun p => p.k.read (kr.read F1.out)
      have g1 : ∀ p : KW wr, p.w.cell? ⟨w.heap.size + 1, 1, none⟩ = some (.int .u64 b1) := fun p => p.k.read (kr.read F5.out)
      refine wp_region_kept (by kernel_rfl) (by kernel_rfl) ?_
      repeat (go_big_quiet_step (fail))
      refine wpQuiet_nil ?_
      intro wq hw'
      have kq : Kept wr wq := by obtain ⟨p, rfl⟩ := hw'; exact p.k
      clear hw' g0 g1
      obtain ⟨⟨m0, m1, m2, m3⟩, n0, n1, n2, n3⟩ := ho.kept kq
      go_wp2_with fail
      go_roundw
      case rel =>
        refine ⟨2, rfl, Or.inr (Or.inr (Or.inl ⟨rfl, by rw [E2'.out], ?_⟩)), ?_⟩
        · rw [R1'.out]
          exact ⟨⟨by simp [go_sem, *], by simp [go_sem, *], by simp [go_sem, *], by simp [go_sem, *]⟩, by simp [go_sem, *], by simp [go_sem, *], by simp [go_sem, *], by simp [go_sem, *]⟩
        · exact Kept.set hg2 (kr.trans kq)
      case measure => simp [intOf]
    · go_wp2_with fail
      have g0 : ∀ p : KW wr, p.w.cell? ⟨w.heap.size, 2, none⟩ = some (.int .u64 a2) := fun p => p.k.read (kr.read F2.out)
      have g1 : ∀ p : KW wr, p.w.cell? ⟨w.heap.size + 1, 2, none⟩ = some (.int .u64 b2) := fun p => p.k.read (kr.read F6.out)
      refine wp_region_kept (by kernel_rfl) (by kernel_rfl) ?_
      repeat (go_big_quiet_step (fail))
      refine wpQuiet_nil ?_
      intro wq hw'
      have kq : Kept wr wq := by obtain ⟨p, rfl⟩ := hw'; exact p.k
      clear hw' g0 g1
      obtain ⟨⟨m0, m1, m2, m3⟩, n0, n1, n2, n3⟩ := ho.kept kq
      go_wp2_with fail
      go_roundw
      case rel =>
        refine ⟨3, rfl, Or.inr (Or.inr (Or.inr (Or.inl ⟨rfl, by rw [E3'.out], ?_⟩))), ?_⟩
        · rw [R2'.out]
          exact ⟨⟨by simp [go_sem, *], by simp [go_sem, *], by simp [go_sem, *], by simp [go_sem, *]⟩, by simp [go_sem, *], by simp [go_sem, *], by simp [go_sem, *], by simp [go_sem, *]⟩
        · exact Kept.set hg2 (kr.trans kq)
      case measure => simp [intOf]
    · go_wp2_with fail
      have g0 : ∀ p : KW wr, p.w.cell? ⟨w.heap.size, 3, none⟩ = some (.int .u64 a3) := fun p => p.k.read (kr.read F3.out)
      have g1 : ∀ p : KW wr, p.w.cell? ⟨w.heap.size + 1, 3, none⟩ = some (.int .u64 b3) := fun p => p.k.read (kr.read F7.out)
      refine wp_region_kept (by kernel_rfl) (by kernel_rfl) ?_
      repeat (go_big_quiet_step (fail))
      refine wpQuiet_nil ?_
      intro wq hw'
      have kq : Kept wr wq := by obtain ⟨p, rfl⟩ := hw'; exact p.k
      clear hw' g0 g1
      obtain ⟨⟨m0, m1, m2, m3⟩, n0, n1, n2, n3⟩ := ho.kept kq
      go_wp2_with fail
      go_roundw
      case rel =>
        refine ⟨4, rfl, Or.inr (Or.inr (Or.inr (Or.inr (⟨rfl, by rw [E4'.out], ?_⟩)))), ?_⟩
        · rw [R3'.out]
          exact ⟨⟨by simp [go_sem, *], by simp [go_sem, *], by simp [go_sem, *], by simp [go_sem, *]⟩, by simp [go_sem, *], by simp [go_sem, *], by simp [go_sem, *], by simp [go_sem, *]⟩
        · exact Kept.set hg2 (kr.trans kq)
      case measure => simp [intOf]
    · obtain ⟨⟨m0, m1, m2, m3⟩, n0, n1, n2, n3⟩ := ho
      obtain ⟨⟨x0, x1, x2, x3⟩, y0, y1, y2, y3⟩ := Z.out.kept kr
      go_wp2
      simp [bodyPost, results, Try.results56, go_sem, *]
      exact (by (repeat (first | with_reducible exact Kept.refl _ | with_reducible apply Kept.drew | with_reducible apply Kept.alloc | ((with_reducible apply Kept.set); focus (simp <;> omega)) | ((with_reducible apply Kept.via); focus with_reducible assumption))))
set_option maxHeartbeats 1600000 in
theorem minus_raw (a0 a1 a2 a3 b0 b1 b2 b3 c1 c2 c3 c4 r0 r1 r2 r3 : Int) (w : World) (p0 : 0 ≤ a0) (q0 : a0 < 4294967296) (p1 : 0 ≤ a1) (q1 : a1 < 4294967296) (p2 : 0 ≤ a2) (q2 : a2 < 4294967296) (p3 : 0 ≤ a3) (q3 : a3 < 4294967296) (p4 : 0 ≤ b0) (q4 : b0 < 4294967296) (p5 : 0 ≤ b1) (q5 : b1 < 4294967296) (p6 : 0 ≤ b2) (q6 : b2 < 4294967296) (p7 : 0 ≤ b3) (q7 : b3 < 4294967296) (u1 : 0 ≤ c1) (v1 : c1 ≤ 1) (u2 : 0 ≤ c2) (v2 : c2 ≤ 1) (u3 : 0 ≤ c3) (v3 : c3 ≤ 1) (E1 : 1 - (4294967296 + a0 - b0) / 4294967296 = c1) (R0 : (4294967296 + a0 - b0) % 4294967296 = r0) (E2 : 1 - (4294967296 + a1 - b1 - c1) / 4294967296 = c2) (R1 : (4294967296 + a1 - b1 - c1) % 4294967296 = r1) (E3 : 1 - (4294967296 + a2 - b2 - c2) / 4294967296 = c3) (R2 : (4294967296 + a2 - b2 - c2) % 4294967296 = r2) (E4 : 1 - (4294967296 + a3 - b3 - c3) / 4294967296 = c4) (R3 : (4294967296 + a3 - b3 - c3) % 4294967296 = r3) :
    Calls Try.prog 57 #[.agg #[.int .u64 a0, .int .u64 a1, .int .u64 a2, .int .u64 a3], .agg #[.int .u64 b0, .int .u64 b1, .int .u64 b2, .int .u64 b3]] w fun e w' => e = .returned (.agg #[.int .u64 r0, .int .u64 r1, .int .u64 r2, .int .u64 r3]) ∧ Kept w w' := by
  have E1' := Lib.hid E1
  have R0' := Lib.hid R0
  have E2' := Lib.hid E2
  have R1' := Lib.hid R1
  have E3' := Lib.hid E3
  have R2' := Lib.hid R2
  have E4' := Lib.hid E4
  have R3' := Lib.hid R3
  clear E1 R0 E2 R1 E3 R2 E4 R3
  go_enter Try.func57, Try.ntmps57
  go_upto_region 1 with fail
  generalize hW : (World.alloc (World.alloc (World.alloc w (.cells #[.int .u64 a0, .int .u64 a1, .int .u64 a2, .int .u64 a3] 49)) (.cells #[.int .u64 b0, .int .u64 b1, .int .u64 b2, .int .u64 b3] 49)) (.cells #[.int .u64 0, .int .u64 0, .int .u64 0, .int .u64 0] 49)) = W1
  have F0 := Lib.hid (show W1.cell? ⟨w.heap.size, 0, none⟩ = some (.int .u64 a0) from by subst hW; simp [go_sem])
  have F1 := Lib.hid (show W1.cell? ⟨w.heap.size, 1, none⟩ = some (.int .u64 a1) from by subst hW; simp [go_sem])
  have F2 := Lib.hid (show W1.cell? ⟨w.heap.size, 2, none⟩ = some (.int .u64 a2) from by subst hW; simp [go_sem])
  have F3 := Lib.hid (show W1.cell? ⟨w.heap.size, 3, none⟩ = some (.int .u64 a3) from by subst hW; simp [go_sem])
  have F4 := Lib.hid (show W1.cell? ⟨w.heap.size + 1, 0, none⟩ = some (.int .u64 b0) from by subst hW; simp [go_sem])
  have F5 := Lib.hid (show W1.cell? ⟨w.heap.size + 1, 1, none⟩ = some (.int .u64 b1) from by subst hW; simp [go_sem])
  have F6 := Lib.hid (show W1.cell? ⟨w.heap.size + 1, 2, none⟩ = some (.int .u64 b2) from by subst hW; simp [go_sem])
  have F7 := Lib.hid (show W1.cell? ⟨w.heap.size + 1, 3, none⟩ = some (.int .u64 b3) from by subst hW; simp [go_sem])
  have Z := Lib.hid (show Out4 W1 (w.heap.size + 1 + 1) 0 0 0 0 from by subst hW; exact ⟨⟨by simp [go_sem], by simp [go_sem], by simp [go_sem], by simp [go_sem]⟩, by simp [go_sem], by simp [go_sem], by simp [go_sem], by simp [go_sem]⟩)
  have kw : Kept w W1 := by subst hW; (repeat (first | with_reducible exact Kept.refl _ | with_reducible apply Kept.drew | with_reducible apply Kept.alloc | ((with_reducible apply Kept.set); focus (simp <;> omega)) | ((with_reducible apply Kept.via); focus with_reducible assumption)))
  have zw : w.heap.size + 1 + 1 < W1.heap.size := by subst hW; simp
  clear hW
  go_upto_region 2 with fail
  generalize hW : (World.alloc W1 (.cells #[.int .u64 0, .int .u64 0, .int .u64 0, .int .u64 0] 49)) = W2
  have O0 : Out4 W2 W1.heap.size 0 0 0 0 := by subst hW; exact ⟨⟨by simp [go_sem], by simp [go_sem], by simp [go_sem], by simp [go_sem]⟩, by simp [go_sem], by simp [go_sem], by simp [go_sem], by simp [go_sem]⟩
  have k12 : Kept W1 W2 := by subst hW; exact (Kept.refl _).alloc _ _
  clear hW
  have hg : W1.heap.size ≤ W1.heap.size := Nat.le_refl _
  generalize hgg : W1.heap.size = g at O0 hg ⊢
  have hg2 : W1.heap.size ≤ g := by omega
  have hg3 : w.heap.size + 1 + 1 < g := by omega
  clear hgg hg
  go_wp2_with fail
  go_loopw [6, 7] (fun c i wx => ∃ k : Int, i = .int .i64 k ∧ ((k = 0 ∧ c = .int .u64 0 ∧ Out4 wx g 0 0 0 0) ∨ (k = 1 ∧ c = .int .u64 c1 ∧ Out4 wx g r0 0 0 0) ∨ (k = 2 ∧ c = .int .u64 c2 ∧ Out4 wx g r0 r1 0 0) ∨ (k = 3 ∧ c = .int .u64 c3 ∧ Out4 wx g r0 r1 r2 0) ∨ (k = 4 ∧ c = .int .u64 c4 ∧ Out4 wx g r0 r1 r2 r3)) ∧ Kept W1 wx) (fun _ i _ => (4 - intOf i).toNat)
  case atStart => exact ⟨0, rfl, Or.inl ⟨rfl, rfl, O0⟩, k12⟩
  case round =>
    obtain ⟨k, rfl, hk, kr⟩ := hrel
    rcases hk with ⟨rfl, rfl, ho⟩ | ⟨rfl, rfl, ho⟩ | ⟨rfl, rfl, ho⟩ | ⟨rfl, rfl, ho⟩ | ⟨rfl, rfl, ho⟩
    · go_wp2_with fail
      have g0 : ∀ p : KW wr, p.w.cell? ⟨w.heap.size, 0, none⟩ = some (.int .u64 a0) := fun p => p.k.read (kr.read F0.out)
      have g1 : ∀ p : KW wr, p.w.cell? ⟨w.heap.size + 1, 0, none⟩ = some (.int .u64 b0) := fun p => p.k.read (kr.read F4.out)
      refine wp_region_kept (by kernel_rfl) (by kernel_rfl) ?_
      repeat (go_big_quiet_step (fail))
      refine wpQuiet_nil ?_
      intro wq hw'
      have kq : Kept wr wq := by obtain ⟨p, rfl⟩ := hw'; exact p.k
      clear hw' g0 g1
      obtain ⟨⟨m0, m1, m2, m3⟩, n0, n1, n2, n3⟩ := ho.kept kq
      go_wp2_with fail
      go_roundw
      case rel =>
        refine ⟨1, rfl, Or.inr (Or.inl ⟨rfl, by rw [E1'.out], ?_⟩), ?_⟩
        · rw [R0'.out]
          exact ⟨⟨by simp [go_sem, *], by simp [go_sem, *], by simp [go_sem, *], by simp [go_sem, *]⟩, by simp [go_sem, *], by simp [go_sem, *], by simp [go_sem, *], by simp [go_sem, *]⟩
        · exact Kept.set hg2 (kr.trans kq)
      case measure => simp [intOf]
    · go_wp2_with fail
      have g0 : ∀ p : KW wr, p.w.cell? ⟨w.heap.size, 1, none⟩ = some (.int .u64 a1) := fun p => p.k.read (kr.read F1.out)
      have g1 : ∀ p : KW wr, p.w.cell? ⟨w.heap.size + 1, 1, none⟩ = some (.int .u64 b1) := fun p => p.k.read (kr.read F5.out)
      refine wp_region_kept (by kernel_rfl) (by kernel_rfl) ?_
      repeat (go_big_quiet_step (fail))
      refine wpQuiet_nil ?_
      intro wq hw'
      have kq : Kept wr wq := by obtain ⟨p, rfl⟩ := hw'; exact p.k
      clear hw' g0 g1
      obtain ⟨⟨m0, m1, m2, m3⟩, n0, n1, n2, n3⟩ := ho.kept kq
      go_wp2_with fail
      go_roundw
      case rel =>
        refine ⟨2, rfl, Or.inr (Or.inr (Or.inl ⟨rfl, by rw [E2'.out], ?_⟩)), ?_⟩
        · rw [R1'.out]
          exact ⟨⟨by simp [go_sem, *], by simp [go_sem, *], by simp [go_sem, *], by simp [go_sem, *]⟩, by simp [go_sem, *], by simp [go_sem, *], by simp [go_sem, *], by simp [go_sem, *]⟩
        · exact Kept.set hg2 (kr.trans kq)
      case measure => simp [intOf]
    · go_wp2_with fail
      have g0 : ∀ p : KW wr, p.w.cell? ⟨w.heap.size, 2, none⟩ = some (.int .u64 a2) := fun p => p.k.read (kr.read F2.out)
      have g1 : ∀ p : KW wr, p.w.cell? ⟨w.heap.size + 1, 2, none⟩ = some (.int .u64 b2) := fun p => p.k.read (kr.read F6.out)
      refine wp_region_kept (by kernel_rfl) (by kernel_rfl) ?_
      repeat (go_big_quiet_step (fail))
      refine wpQuiet_nil ?_
      intro wq hw'
      have kq : Kept wr wq := by obtain ⟨p, rfl⟩ := hw'; exact p.k
      clear hw' g0 g1
      obtain ⟨⟨m0, m1, m2, m3⟩, n0, n1, n2, n3⟩ := ho.kept kq
      go_wp2_with fail
      go_roundw
      case rel =>
        refine ⟨3, rfl, Or.inr (Or.inr (Or.inr (Or.inl ⟨rfl, by rw [E3'.out], ?_⟩))), ?_⟩
        · rw [R2'.out]
          exact ⟨⟨by simp [go_sem, *], by simp [go_sem, *], by simp [go_sem, *], by simp [go_sem, *]⟩, by simp [go_sem, *], by simp [go_sem, *], by simp [go_sem, *], by simp [go_sem, *]⟩
        · exact Kept.set hg2 (kr.trans kq)
      case measure => simp [intOf]
    · go_wp2_with fail
      have g0 : ∀ p : KW wr, p.w.cell? ⟨w.heap.size, 3, none⟩ = some (.int .u64 a3) := fun p => p.k.read (kr.read F3.out)
      have g1 : ∀ p : KW wr, p.w.cell? ⟨w.heap.size + 1, 3, none⟩ = some (.int .u64 b3) := fun p => p.k.read (kr.read F7.out)
      refine wp_region_kept (by kernel_rfl) (by kernel_rfl) ?_
      repeat (go_big_quiet_step (fail))
      refine wpQuiet_nil ?_
      intro wq hw'
      have kq : Kept wr wq := by obtain ⟨p, rfl⟩ := hw'; exact p.k
      clear hw' g0 g1
      obtain ⟨⟨m0, m1, m2, m3⟩, n0, n1, n2, n3⟩ := ho.kept kq
      go_wp2_with fail
      go_roundw
      case rel =>
        refine ⟨4, rfl, Or.inr (Or.inr (Or.inr (Or.inr (⟨rfl, by rw [E4'.out], ?_⟩)))), ?_⟩
        · rw [R3'.out]
          exact ⟨⟨by simp [go_sem, *], by simp [go_sem, *], by simp [go_sem, *], by simp [go_sem, *]⟩, by simp [go_sem, *], by simp [go_sem, *], by simp [go_sem, *], by simp [go_sem, *]⟩
        · exact Kept.set hg2 (kr.trans kq)
      case measure => simp [intOf]
    · obtain ⟨⟨m0, m1, m2, m3⟩, n0, n1, n2, n3⟩ := ho
      obtain ⟨⟨x0, x1, x2, x3⟩, y0, y1, y2, y3⟩ := Z.out.kept kr
      go_wp2
      simp [bodyPost, results, Try.results57, go_sem, *]
      exact (by (repeat (first | with_reducible exact Kept.refl _ | with_reducible apply Kept.drew | with_reducible apply Kept.alloc | ((with_reducible apply Kept.set); focus (simp <;> omega)) | ((with_reducible apply Kept.via); focus with_reducible assumption))))
end Go.Proofs.Ytfkdbelajideiaa
