/-
  Contracts of less, plus and minus of the document's answer, package sawtoothref02.
-/
import Derived.Test.YtfkdbelajideiaaRefA02
namespace Go.Proofs.Ytfkdbelajideiaa
open Go.RowKit Go.BigFrame

set_option maxHeartbeats 800000 in
theorem less_3 (a0 a1 a2 a3 b0 b1 b2 b3 : Int) (w : World) (hn : (a3 != b3) = true) :
    Calls Try.prog 35 #[.agg #[.int .u64 a0, .int .u64 a1, .int .u64 a2, .int .u64 a3], .agg #[.int .u64 b0, .int .u64 b1, .int .u64 b2, .int .u64 b3]] w fun e w' => e = .returned (.bool (decide (a3 < b3))) ∧ Kept w w' := by
  go_enter Try.func35, Try.ntmps35
  go_upto_region 1 with fail
  generalize hW : (World.alloc (World.alloc w (.cells #[.int .u64 a0, .int .u64 a1, .int .u64 a2, .int .u64 a3] 49)) (.cells #[.int .u64 b0, .int .u64 b1, .int .u64 b2, .int .u64 b3] 49)) = W0
  have f0 : W0.cell? ⟨w.heap.size, 0, none⟩ = some (.int .u64 a0) := by subst hW; simp [go_sem]
  have f1 : W0.cell? ⟨w.heap.size, 1, none⟩ = some (.int .u64 a1) := by subst hW; simp [go_sem]
  have f2 : W0.cell? ⟨w.heap.size, 2, none⟩ = some (.int .u64 a2) := by subst hW; simp [go_sem]
  have f3 : W0.cell? ⟨w.heap.size, 3, none⟩ = some (.int .u64 a3) := by subst hW; simp [go_sem]
  have f4 : W0.cell? ⟨w.heap.size + 1, 0, none⟩ = some (.int .u64 b0) := by subst hW; simp [go_sem]
  have f5 : W0.cell? ⟨w.heap.size + 1, 1, none⟩ = some (.int .u64 b1) := by subst hW; simp [go_sem]
  have f6 : W0.cell? ⟨w.heap.size + 1, 2, none⟩ = some (.int .u64 b2) := by subst hW; simp [go_sem]
  have f7 : W0.cell? ⟨w.heap.size + 1, 3, none⟩ = some (.int .u64 b3) := by subst hW; simp [go_sem]
  have kw : Kept w W0 := by subst hW; (repeat (first | with_reducible exact Kept.refl _ | with_reducible apply Kept.drew | with_reducible apply Kept.alloc | ((with_reducible apply Kept.set); focus (simp <;> omega)) | ((with_reducible apply Kept.via); focus with_reducible assumption)))
  clear hW
  have F0 := Lib.hid f0
  have F1 := Lib.hid f1
  have F2 := Lib.hid f2
  have F3 := Lib.hid f3
  have F4 := Lib.hid f4
  have F5 := Lib.hid f5
  have F6 := Lib.hid f6
  have F7 := Lib.hid f7
  clear f0 f1 f2 f3 f4 f5 f6 f7
  go_wp2_with fail
  go_loopw [5] (fun i wx => ∃ k : Int, i = .int .i64 k ∧ (k = 3) ∧ Kept W0 wx) (fun i _ => (intOf i + 1).toNat)
  case atStart => exact ⟨3, rfl, by omega, Kept.refl _⟩
  case round =>
    obtain ⟨k, rfl, hk, kr⟩ := hrel
    rcases hk with rfl
    · go_wp2_with fail
      have g0 : ∀ p : KW wr, p.w.cell? ⟨w.heap.size, 3, none⟩ = some (.int .u64 a3) := fun p => p.k.read (kr.read F3.out)
      have g1 : ∀ p : KW wr, p.w.cell? ⟨w.heap.size + 1, 3, none⟩ = some (.int .u64 b3) := fun p => p.k.read (kr.read F7.out)
      refine wp_region_kept (by kernel_rfl) (by kernel_rfl) ?_
      repeat (go_big_quiet_step (fail))
      refine wpQuiet_nil ?_
      intro wq hw'
      have kq : Kept wr wq := by obtain ⟨p, rfl⟩ := hw'; exact p.k
      clear hw'
      go_wp2_with fail
      have g2 : ∀ p : KW wq, p.w.cell? ⟨w.heap.size, 3, none⟩ = some (.int .u64 a3) := fun p => p.k.read (kq.read (kr.read F3.out))
      have g3 : ∀ p : KW wq, p.w.cell? ⟨w.heap.size + 1, 3, none⟩ = some (.int .u64 b3) := fun p => p.k.read (kq.read (kr.read F7.out))
      clear g0 g1
      refine wp_region_kept (by kernel_rfl) (by kernel_rfl) ?_
      repeat (go_big_quiet_step (fail))
      refine wpQuiet_nil ?_
      intro wq2 hw'
      have kq2 : Kept wq wq2 := by obtain ⟨p, rfl⟩ := hw'; exact p.k
      clear hw'
      go_wp2
      go_ret
      exact ⟨rfl, kw.trans (kr.trans (kq.trans kq2))⟩
set_option maxHeartbeats 800000 in
theorem less_2 (a0 a1 a2 a3 b0 b1 b2 : Int) (w : World) (hn : (a2 != b2) = true) :
    Calls Try.prog 35 #[.agg #[.int .u64 a0, .int .u64 a1, .int .u64 a2, .int .u64 a3], .agg #[.int .u64 b0, .int .u64 b1, .int .u64 b2, .int .u64 a3]] w fun e w' => e = .returned (.bool (decide (a2 < b2))) ∧ Kept w w' := by
  go_enter Try.func35, Try.ntmps35
  go_upto_region 1 with fail
  generalize hW : (World.alloc (World.alloc w (.cells #[.int .u64 a0, .int .u64 a1, .int .u64 a2, .int .u64 a3] 49)) (.cells #[.int .u64 b0, .int .u64 b1, .int .u64 b2, .int .u64 a3] 49)) = W0
  have f0 : W0.cell? ⟨w.heap.size, 0, none⟩ = some (.int .u64 a0) := by subst hW; simp [go_sem]
  have f1 : W0.cell? ⟨w.heap.size, 1, none⟩ = some (.int .u64 a1) := by subst hW; simp [go_sem]
  have f2 : W0.cell? ⟨w.heap.size, 2, none⟩ = some (.int .u64 a2) := by subst hW; simp [go_sem]
  have f3 : W0.cell? ⟨w.heap.size, 3, none⟩ = some (.int .u64 a3) := by subst hW; simp [go_sem]
  have f4 : W0.cell? ⟨w.heap.size + 1, 0, none⟩ = some (.int .u64 b0) := by subst hW; simp [go_sem]
  have f5 : W0.cell? ⟨w.heap.size + 1, 1, none⟩ = some (.int .u64 b1) := by subst hW; simp [go_sem]
  have f6 : W0.cell? ⟨w.heap.size + 1, 2, none⟩ = some (.int .u64 b2) := by subst hW; simp [go_sem]
  have f7 : W0.cell? ⟨w.heap.size + 1, 3, none⟩ = some (.int .u64 a3) := by subst hW; simp [go_sem]
  have kw : Kept w W0 := by subst hW; (repeat (first | with_reducible exact Kept.refl _ | with_reducible apply Kept.drew | with_reducible apply Kept.alloc | ((with_reducible apply Kept.set); focus (simp <;> omega)) | ((with_reducible apply Kept.via); focus with_reducible assumption)))
  clear hW
  have F0 := Lib.hid f0
  have F1 := Lib.hid f1
  have F2 := Lib.hid f2
  have F3 := Lib.hid f3
  have F4 := Lib.hid f4
  have F5 := Lib.hid f5
  have F6 := Lib.hid f6
  have F7 := Lib.hid f7
  clear f0 f1 f2 f3 f4 f5 f6 f7
  go_wp2_with fail
  go_loopw [5] (fun i wx => ∃ k : Int, i = .int .i64 k ∧ (k = 3 ∨ k = 2) ∧ Kept W0 wx) (fun i _ => (intOf i + 1).toNat)
  case atStart => exact ⟨3, rfl, by omega, Kept.refl _⟩
  case round =>
    obtain ⟨k, rfl, hk, kr⟩ := hrel
    rcases hk with rfl | rfl
    · go_wp2_with fail
      have g0 : ∀ p : KW wr, p.w.cell? ⟨w.heap.size, 3, none⟩ = some (.int .u64 a3) := fun p => p.k.read (kr.read F3.out)
      have g1 : ∀ p : KW wr, p.w.cell? ⟨w.heap.size + 1, 3, none⟩ = some (.int .u64 a3) := fun p => p.k.read (kr.read F7.out)
      refine wp_region_kept (by kernel_rfl) (by kernel_rfl) ?_
      repeat (go_big_quiet_step (fail))
      refine wpQuiet_nil ?_
      intro wq hw'
      have kq : Kept wr wq := by obtain ⟨p, rfl⟩ := hw'; exact p.k
      clear hw'
      go_wp2
      go_roundw
      case rel => exact ⟨2, rfl, by omega, kr.trans kq⟩
      case measure => simp [intOf]
    · go_wp2_with fail
      have g0 : ∀ p : KW wr, p.w.cell? ⟨w.heap.size, 2, none⟩ = some (.int .u64 a2) := fun p => p.k.read (kr.read F2.out)
      have g1 : ∀ p : KW wr, p.w.cell? ⟨w.heap.size + 1, 2, none⟩ = some (.int .u64 b2) := fun p => p.k.read (kr.read F6.out)
      refine wp_region_kept (by kernel_rfl) (by kernel_rfl) ?_
      repeat (go_big_quiet_step (fail))
      refine wpQuiet_nil ?_
      intro wq hw'
      have kq : Kept wr wq := by obtain ⟨p, rfl⟩ := hw'; exact p.k
      clear hw'
      go_wp2_with fail
      have g2 : ∀ p : KW wq, p.w.cell? ⟨w.heap.size, 2, none⟩ = some (.int .u64 a2) := fun p => p.k.read (kq.read (kr.read F2.out))
      have g3 : ∀ p : KW wq, p.w.cell? ⟨w.heap.size + 1, 2, none⟩ = some (.int .u64 b2) := fun p => p.k.read (kq.read (kr.read F6.out))
      clear g0 g1
      refine wp_region_kept (by kernel_rfl) (by kernel_rfl) ?_
      repeat (go_big_quiet_step (fail))
      refine wpQuiet_nil ?_
      intro wq2 hw'
      have kq2 : Kept wq wq2 := by obtain ⟨p, rfl⟩ := hw'; exact p.k
      clear hw'
      go_wp2
      go_ret
      exact ⟨rfl, kw.trans (kr.trans (kq.trans kq2))⟩
set_option maxHeartbeats 800000 in
theorem less_1 (a0 a1 a2 a3 b0 b1 : Int) (w : World) (hn : (a1 != b1) = true) :
    Calls Try.prog 35 #[.agg #[.int .u64 a0, .int .u64 a1, .int .u64 a2, .int .u64 a3], .agg #[.int .u64 b0, .int .u64 b1, .int .u64 a2, .int .u64 a3]] w fun e w' => e = .returned (.bool (decide (a1 < b1))) ∧ Kept w w' := by
  go_enter Try.func35, Try.ntmps35
  go_upto_region 1 with fail
  generalize hW : (World.alloc (World.alloc w (.cells #[.int .u64 a0, .int .u64 a1, .int .u64 a2, .int .u64 a3] 49)) (.cells #[.int .u64 b0, .int .u64 b1, .int .u64 a2, .int .u64 a3] 49)) = W0
  have f0 : W0.cell? ⟨w.heap.size, 0, none⟩ = some (.int .u64 a0) := by subst hW; simp [go_sem]
  have f1 : W0.cell? ⟨w.heap.size, 1, none⟩ = some (.int .u64 a1) := by subst hW; simp [go_sem]
  have f2 : W0.cell? ⟨w.heap.size, 2, none⟩ = some (.int .u64 a2) := by subst hW; simp [go_sem]
  have f3 : W0.cell? ⟨w.heap.size, 3, none⟩ = some (.int .u64 a3) := by subst hW; simp [go_sem]
  have f4 : W0.cell? ⟨w.heap.size + 1, 0, none⟩ = some (.int .u64 b0) := by subst hW; simp [go_sem]
  have f5 : W0.cell? ⟨w.heap.size + 1, 1, none⟩ = some (.int .u64 b1) := by subst hW; simp [go_sem]
  have f6 : W0.cell? ⟨w.heap.size + 1, 2, none⟩ = some (.int .u64 a2) := by subst hW; simp [go_sem]
  have f7 : W0.cell? ⟨w.heap.size + 1, 3, none⟩ = some (.int .u64 a3) := by subst hW; simp [go_sem]
  have kw : Kept w W0 := by subst hW; (repeat (first | with_reducible exact Kept.refl _ | with_reducible apply Kept.drew | with_reducible apply Kept.alloc | ((with_reducible apply Kept.set); focus (simp <;> omega)) | ((with_reducible apply Kept.via); focus with_reducible assumption)))
  clear hW
  have F0 := Lib.hid f0
  have F1 := Lib.hid f1
  have F2 := Lib.hid f2
  have F3 := Lib.hid f3
  have F4 := Lib.hid f4
  have F5 := Lib.hid f5
  have F6 := Lib.hid f6
  have F7 := Lib.hid f7
  clear f0 f1 f2 f3 f4 f5 f6 f7
  go_wp2_with fail
  go_loopw [5] (fun i wx => ∃ k : Int, i = .int .i64 k ∧ (k = 3 ∨ k = 2 ∨ k = 1) ∧ Kept W0 wx) (fun i _ => (intOf i + 1).toNat)
  case atStart => exact ⟨3, rfl, by omega, Kept.refl _⟩
  case round =>
    obtain ⟨k, rfl, hk, kr⟩ := hrel
    rcases hk with rfl | rfl | rfl
    · go_wp2_with fail
      have g0 : ∀ p : KW wr, p.w.cell? ⟨w.heap.size, 3, none⟩ = some (.int .u64 a3) := fun p => p.k.read (kr.read F3.out)
      have g1 : ∀ p : KW wr, p.w.cell? ⟨w.heap.size + 1, 3, none⟩ = some (.int .u64 a3) := fun p => p.k.read (kr.read F7.out)
      refine wp_region_kept (by kernel_rfl) (by kernel_rfl) ?_
      repeat (go_big_quiet_step (fail))
      refine wpQuiet_nil ?_
      intro wq hw'
      have kq : Kept wr wq := by obtain ⟨p, rfl⟩ := hw'; exact p.k
      clear hw'
      go_wp2
      go_roundw
      case rel => exact ⟨2, rfl, by omega, kr.trans kq⟩
      case measure => simp [intOf]
    · go_wp2_with fail
      have g0 : ∀ p : KW wr, p.w.cell? ⟨w.heap.size, 2, none⟩ = some (.int .u64 a2) := fun p => p.k.read (kr.read F2.out)
      have g1 : ∀ p : KW wr, p.w.cell? ⟨w.heap.size + 1, 2, none⟩ = some (.int .u64 a2) := fun p => p.k.read (kr.read F6.out)
      refine wp_region_kept (by kernel_rfl) (by kernel_rfl) ?_
      repeat (go_big_quiet_step (fail))
      refine wpQuiet_nil ?_
      intro wq hw'
      have kq : Kept wr wq := by obtain ⟨p, rfl⟩ := hw'; exact p.k
      clear hw'
      go_wp2
      go_roundw
      case rel => exact ⟨1, rfl, by omega, kr.trans kq⟩
      case measure => simp [intOf]
    · go_wp2_with fail
      have g0 : ∀ p : KW wr, p.w.cell? ⟨w.heap.size, 1, none⟩ = some (.int .u64 a1) := fun p => p.k.read (kr.read F1.out)
      have g1 : ∀ p : KW wr, p.w.cell? ⟨w.heap.size + 1, 1, none⟩ = some (.int .u64 b1) := fun p => p.k.read (kr.read F5.out)
      refine wp_region_kept (by kernel_rfl) (by kernel_rfl) ?_
      repeat (go_big_quiet_step (fail))
      refine wpQuiet_nil ?_
      intro wq hw'
      have kq : Kept wr wq := by obtain ⟨p, rfl⟩ := hw'; exact p.k
      clear hw'
      go_wp2_with fail
      have g2 : ∀ p : KW wq, p.w.cell? ⟨w.heap.size, 1, none⟩ = some (.int .u64 a1) := fun p => p.k.read (kq.read (kr.read F1.out))
      have g3 : ∀ p : KW wq, p.w.cell? ⟨w.heap.size + 1, 1, none⟩ = some (.int .u64 b1) := fun p => p.k.read (kq.read (kr.read F5.out))
      clear g0 g1
      refine wp_region_kept (by kernel_rfl) (by kernel_rfl) ?_
      repeat (go_big_quiet_step (fail))
      refine wpQuiet_nil ?_
      intro wq2 hw'
      have kq2 : Kept wq wq2 := by obtain ⟨p, rfl⟩ := hw'; exact p.k
      clear hw'
      go_wp2
      go_ret
      exact ⟨rfl, kw.trans (kr.trans (kq.trans kq2))⟩
set_option maxHeartbeats 800000 in
theorem less_0 (a0 a1 a2 a3 b0 : Int) (w : World) (hn : (a0 != b0) = true) :
    Calls Try.prog 35 #[.agg #[.int .u64 a0, .int .u64 a1, .int .u64 a2, .int .u64 a3], .agg #[.int .u64 b0, .int .u64 a1, .int .u64 a2, .int .u64 a3]] w fun e w' => e = .returned (.bool (decide (a0 < b0))) ∧ Kept w w' := by
  go_enter Try.func35, Try.ntmps35
  go_upto_region 1 with fail
  generalize hW : (World.alloc (World.alloc w (.cells #[.int .u64 a0, .int .u64 a1, .int .u64 a2, .int .u64 a3] 49)) (.cells #[.int .u64 b0, .int .u64 a1, .int .u64 a2, .int .u64 a3] 49)) = W0
  have f0 : W0.cell? ⟨w.heap.size, 0, none⟩ = some (.int .u64 a0) := by subst hW; simp [go_sem]
  have f1 : W0.cell? ⟨w.heap.size, 1, none⟩ = some (.int .u64 a1) := by subst hW; simp [go_sem]
  have f2 : W0.cell? ⟨w.heap.size, 2, none⟩ = some (.int .u64 a2) := by subst hW; simp [go_sem]
  have f3 : W0.cell? ⟨w.heap.size, 3, none⟩ = some (.int .u64 a3) := by subst hW; simp [go_sem]
  have f4 : W0.cell? ⟨w.heap.size + 1, 0, none⟩ = some (.int .u64 b0) := by subst hW; simp [go_sem]
  have f5 : W0.cell? ⟨w.heap.size + 1, 1, none⟩ = some (.int .u64 a1) := by subst hW; simp [go_sem]
  have f6 : W0.cell? ⟨w.heap.size + 1, 2, none⟩ = some (.int .u64 a2) := by subst hW; simp [go_sem]
  have f7 : W0.cell? ⟨w.heap.size + 1, 3, none⟩ = some (.int .u64 a3) := by subst hW; simp [go_sem]
  have kw : Kept w W0 := by subst hW; (repeat (first | with_reducible exact Kept.refl _ | with_reducible apply Kept.drew | with_reducible apply Kept.alloc | ((with_reducible apply Kept.set); focus (simp <;> omega)) | ((with_reducible apply Kept.via); focus with_reducible assumption)))
  clear hW
  have F0 := Lib.hid f0
  have F1 := Lib.hid f1
  have F2 := Lib.hid f2
  have F3 := Lib.hid f3
  have F4 := Lib.hid f4
  have F5 := Lib.hid f5
  have F6 := Lib.hid f6
  have F7 := Lib.hid f7
  clear f0 f1 f2 f3 f4 f5 f6 f7
  go_wp2_with fail
  go_loopw [5] (fun i wx => ∃ k : Int, i = .int .i64 k ∧ (k = 3 ∨ k = 2 ∨ k = 1 ∨ k = 0) ∧ Kept W0 wx) (fun i _ => (intOf i + 1).toNat)
  case atStart => exact ⟨3, rfl, by omega, Kept.refl _⟩
  case round =>
    obtain ⟨k, rfl, hk, kr⟩ := hrel
    rcases hk with rfl | rfl | rfl | rfl
    · go_wp2_with fail
      have g0 : ∀ p : KW wr, p.w.cell? ⟨w.heap.size, 3, none⟩ = some (.int .u64 a3) := fun p => p.k.read (kr.read F3.out)
      have g1 : ∀ p : KW wr, p.w.cell? ⟨w.heap.size + 1, 3, none⟩ = some (.int .u64 a3) := fun p => p.k.read (kr.read F7.out)
      refine wp_region_kept (by kernel_rfl) (by kernel_rfl) ?_
      repeat (go_big_quiet_step (fail))
      refine wpQuiet_nil ?_
      intro wq hw'
      have kq : Kept wr wq := by obtain ⟨p, rfl⟩ := hw'; exact p.k
      clear hw'
      go_wp2
      go_roundw
      case rel => exact ⟨2, rfl, by omega, kr.trans kq⟩
      case measure => simp [intOf]
    · go_wp2_with fail
      have g0 : ∀ p : KW wr, p.w.cell? ⟨w.heap.size, 2, none⟩ = some (.int .u64 a2) := fun p => p.k.read (kr.read F2.out)
      have g1 : ∀ p : KW wr, p.w.cell? ⟨w.heap.size + 1, 2, none⟩ = some (.int .u64 a2) := fun p => p.k.read (kr.read F6.out)
      refine wp_region_kept (by kernel_rfl) (by kernel_rfl) ?_
      repeat (go_big_quiet_step (fail))
      refine wpQuiet_nil ?_
      intro wq hw'
      have kq : Kept wr wq := by obtain ⟨p, rfl⟩ := hw'; exact p.k
      clear hw'
      go_wp2
      go_roundw
      case rel => exact ⟨1, rfl, by omega, kr.trans kq⟩
      case measure => simp [intOf]
    · go_wp2_with fail
      have g0 : ∀ p : KW wr, p.w.cell? ⟨w.heap.size, 1, none⟩ = some (.int .u64 a1) := fun p => p.k.read (kr.read F1.out)
      have g1 : ∀ p : KW wr, p.w.cell? ⟨w.heap.size + 1, 1, none⟩ = some (.int .u64 a1) := fun p => p.k.read (kr.read F5.out)
      refine wp_region_kept (by kernel_rfl) (by kernel_rfl) ?_
      repeat (go_big_quiet_step (fail))
      refine wpQuiet_nil ?_
      intro wq hw'
      have kq : Kept wr wq := by obtain ⟨p, rfl⟩ := hw'; exact p.k
      clear hw'
      go_wp2
      go_roundw
      case rel => exact ⟨0, rfl, by omega, kr.trans kq⟩
      case measure => simp [intOf]
    · go_wp2_with fail
      have g0 : ∀ p : KW wr, p.w.cell? ⟨w.heap.size, 0, none⟩ = some (.int .u64 a0) := fun p => p.k.read (kr.read F0.out)
      have g1 : ∀ p : KW wr, p.w.cell? ⟨w.heap.size + 1, 0, none⟩ = some (.int .u64 b0) := fun p => p.k.read (kr.read F4.out)
      refine wp_region_kept (by kernel_rfl) (by kernel_rfl) ?_
      repeat (go_big_quiet_step (fail))
      refine wpQuiet_nil ?_
      intro wq hw'
      have kq : Kept wr wq := by obtain ⟨p, rfl⟩ := hw'; exact p.k
      clear hw'
      go_wp2_with fail
      have g2 : ∀ p : KW wq, p.w.cell? ⟨w.heap.size, 0, none⟩ = some (.int .u64 a0) := fun p => p.k.read (kq.read (kr.read F0.out))
      have g3 : ∀ p : KW wq, p.w.cell? ⟨w.heap.size + 1, 0, none⟩ = some (.int .u64 b0) := fun p => p.k.read (kq.read (kr.read F4.out))
      clear g0 g1
      refine wp_region_kept (by kernel_rfl) (by kernel_rfl) ?_
      repeat (go_big_quiet_step (fail))
      refine wpQuiet_nil ?_
      intro wq2 hw'
      have kq2 : Kept wq wq2 := by obtain ⟨p, rfl⟩ := hw'; exact p.k
      clear hw'
      go_wp2
      go_ret
      exact ⟨rfl, kw.trans (kr.trans (kq.trans kq2))⟩
set_option maxHeartbeats 800000 in
theorem less_n (a0 a1 a2 a3 : Int) (w : World) :
    Calls Try.prog 35 #[.agg #[.int .u64 a0, .int .u64 a1, .int .u64 a2, .int .u64 a3], .agg #[.int .u64 a0, .int .u64 a1, .int .u64 a2, .int .u64 a3]] w fun e w' => e = .returned (.bool false) ∧ Kept w w' := by
  go_enter Try.func35, Try.ntmps35
  go_upto_region 1 with fail
  generalize hW : (World.alloc (World.alloc w (.cells #[.int .u64 a0, .int .u64 a1, .int .u64 a2, .int .u64 a3] 49)) (.cells #[.int .u64 a0, .int .u64 a1, .int .u64 a2, .int .u64 a3] 49)) = W0
  have f0 : W0.cell? ⟨w.heap.size, 0, none⟩ = some (.int .u64 a0) := by subst hW; simp [go_sem]
  have f1 : W0.cell? ⟨w.heap.size, 1, none⟩ = some (.int .u64 a1) := by subst hW; simp [go_sem]
  have f2 : W0.cell? ⟨w.heap.size, 2, none⟩ = some (.int .u64 a2) := by subst hW; simp [go_sem]
  have f3 : W0.cell? ⟨w.heap.size, 3, none⟩ = some (.int .u64 a3) := by subst hW; simp [go_sem]
  have f4 : W0.cell? ⟨w.heap.size + 1, 0, none⟩ = some (.int .u64 a0) := by subst hW; simp [go_sem]
  have f5 : W0.cell? ⟨w.heap.size + 1, 1, none⟩ = some (.int .u64 a1) := by subst hW; simp [go_sem]
  have f6 : W0.cell? ⟨w.heap.size + 1, 2, none⟩ = some (.int .u64 a2) := by subst hW; simp [go_sem]
  have f7 : W0.cell? ⟨w.heap.size + 1, 3, none⟩ = some (.int .u64 a3) := by subst hW; simp [go_sem]
  have kw : Kept w W0 := by subst hW; (repeat (first | with_reducible exact Kept.refl _ | with_reducible apply Kept.drew | with_reducible apply Kept.alloc | ((with_reducible apply Kept.set); focus (simp <;> omega)) | ((with_reducible apply Kept.via); focus with_reducible assumption)))
  clear hW
  have F0 := Lib.hid f0
  have F1 := Lib.hid f1
  have F2 := Lib.hid f2
  have F3 := Lib.hid f3
  have F4 := Lib.hid f4
  have F5 := Lib.hid f5
  have F6 := Lib.hid f6
  have F7 := Lib.hid f7
  clear f0 f1 f2 f3 f4 f5 f6 f7
  go_wp2_with fail
  go_loopw [5] (fun i wx => ∃ k : Int, i = .int .i64 k ∧ (k = 3 ∨ k = 2 ∨ k = 1 ∨ k = 0 ∨ k = (-1)) ∧ Kept W0 wx) (fun i _ => (intOf i + 1).toNat)
  case atStart => exact ⟨3, rfl, by omega, Kept.refl _⟩
  case round =>
    obtain ⟨k, rfl, hk, kr⟩ := hrel
    rcases hk with rfl | rfl | rfl | rfl | rfl
    · go_wp2_with fail
      have g0 : ∀ p : KW wr, p.w.cell? ⟨w.heap.size, 3, none⟩ = some (.int .u64 a3) := fun p => p.k.read (kr.read F3.out)
      have g1 : ∀ p : KW wr, p.w.cell? ⟨w.heap.size + 1, 3, none⟩ = some (.int .u64 a3) := fun p => p.k.read (kr.read F7.out)
      refine wp_region_kept (by kernel_rfl) (by kernel_rfl) ?_
      repeat (go_big_quiet_step (fail))
      refine wpQuiet_nil ?_
      intro wq hw'
      have kq : Kept wr wq := by obtain ⟨p, rfl⟩ := hw'; exact p.k
      clear hw'
      go_wp2
      go_roundw
      case rel => exact ⟨2, rfl, by omega, kr.trans kq⟩
      case measure => simp [intOf]
    · go_wp2_with fail
      have g0 : ∀ p : KW wr, p.w.cell? ⟨w.heap.size, 2, none⟩ = some (.int .u64 a2) := fun p => p.k.read (kr.read F2.out)
      have g1 : ∀ p : KW wr, p.w.cell? ⟨w.heap.size + 1, 2, none⟩ = some (.int .u64 a2) := fun p => p.k.read (kr.read F6.out)
      refine wp_region_kept (by kernel_rfl) (by kernel_rfl) ?_
      repeat (go_big_quiet_step (fail))
      refine wpQuiet_nil ?_
      intro wq hw'
      have kq : Kept wr wq := by obtain ⟨p, rfl⟩ := hw'; exact p.k
      clear hw'
      go_wp2
      go_roundw
      case rel => exact ⟨1, rfl, by omega, kr.trans kq⟩
      case measure => simp [intOf]
    · go_wp2_with fail
      have g0 : ∀ p : KW wr, p.w.cell? ⟨w.heap.size, 1, none⟩ = some (.int .u64 a1) := fun p => p.k.read (kr.read F1.out)
      have g1 : ∀ p : KW wr, p.w.cell? ⟨w.heap.size + 1, 1, none⟩ = some (.int .u64 a1) := fun p => p.k.read (kr.read F5.out)
      refine wp_region_kept (by kernel_rfl) (by kernel_rfl) ?_
      repeat (go_big_quiet_step (fail))
      refine wpQuiet_nil ?_
      intro wq hw'
      have kq : Kept wr wq := by obtain ⟨p, rfl⟩ := hw'; exact p.k
      clear hw'
      go_wp2
      go_roundw
      case rel => exact ⟨0, rfl, by omega, kr.trans kq⟩
      case measure => simp [intOf]
    · go_wp2_with fail
      have g0 : ∀ p : KW wr, p.w.cell? ⟨w.heap.size, 0, none⟩ = some (.int .u64 a0) := fun p => p.k.read (kr.read F0.out)
      have g1 : ∀ p : KW wr, p.w.cell? ⟨w.heap.size + 1, 0, none⟩ = some (.int .u64 a0) := fun p => p.k.read (kr.read F4.out)
      refine wp_region_kept (by kernel_rfl) (by kernel_rfl) ?_
      repeat (go_big_quiet_step (fail))
      refine wpQuiet_nil ?_
      intro wq hw'
      have kq : Kept wr wq := by obtain ⟨p, rfl⟩ := hw'; exact p.k
      clear hw'
      go_wp2
      go_roundw
      case rel => exact ⟨-1, rfl, by omega, kr.trans kq⟩
      case measure => simp [intOf]
    · go_wp2
      go_ret
      exact ⟨rfl, kw.trans kr⟩
theorem refLess (a0 a1 a2 a3 b0 b1 b2 b3 : Int) (w : World) (p0 : 0 ≤ a0) (p1 : 0 ≤ a1) (p2 : 0 ≤ a2) (q0 : a0 < 4294967296) (q1 : a1 < 4294967296) (q2 : a2 < 4294967296) (r0 : 0 ≤ b0) (r1 : 0 ≤ b1) (r2 : 0 ≤ b2) (s0 : b0 < 4294967296) (s1 : b1 < 4294967296) (s2 : b2 < 4294967296) :
    Calls Try.prog 35 #[.agg #[.int .u64 a0, .int .u64 a1, .int .u64 a2, .int .u64 a3], .agg #[.int .u64 b0, .int .u64 b1, .int .u64 b2, .int .u64 b3]] w fun e w' => e = .returned (.bool (decide ((a3 * 79228162514264337593543950336 + a2 * 18446744073709551616 + a1 * 4294967296 + a0) < (b3 * 79228162514264337593543950336 + b2 * 18446744073709551616 + b1 * 4294967296 + b0)))) ∧ Kept w w' := by
  by_cases e3 : a3 = b3
  · subst e3
    by_cases e2 : a2 = b2
    · subst e2
      by_cases e1 : a1 = b1
      · subst e1
        by_cases e0 : a0 = b0
        · subst e0
          simp only [Int.lt_irrefl, decide_false]
          exact less_n a0 a1 a2 a3 w
        · rw [show decide ((a3 * 79228162514264337593543950336 + a2 * 18446744073709551616 + a1 * 4294967296 + a0) < (a3 * 79228162514264337593543950336 + a2 * 18446744073709551616 + a1 * 4294967296 + b0)) = decide (a0 < b0) by rw [decide_eq_decide]; omega]
          exact less_0 a0 a1 a2 a3 b0 w (by simp [e0])
      · rw [show decide ((a3 * 79228162514264337593543950336 + a2 * 18446744073709551616 + a1 * 4294967296 + a0) < (a3 * 79228162514264337593543950336 + a2 * 18446744073709551616 + b1 * 4294967296 + b0)) = decide (a1 < b1) by rw [decide_eq_decide]; omega]
        exact less_1 a0 a1 a2 a3 b0 b1 w (by simp [e1])
    · rw [show decide ((a3 * 79228162514264337593543950336 + a2 * 18446744073709551616 + a1 * 4294967296 + a0) < (a3 * 79228162514264337593543950336 + b2 * 18446744073709551616 + b1 * 4294967296 + b0)) = decide (a2 < b2) by rw [decide_eq_decide]; omega]
      exact less_2 a0 a1 a2 a3 b0 b1 b2 w (by simp [e2])
  · rw [show decide ((a3 * 79228162514264337593543950336 + a2 * 18446744073709551616 + a1 * 4294967296 + a0) < (b3 * 79228162514264337593543950336 + b2 * 18446744073709551616 + b1 * 4294967296 + b0)) = decide (a3 < b3) by rw [decide_eq_decide]; omega]
    exact less_3 a0 a1 a2 a3 b0 b1 b2 b3 w (by simp [e3])
end Go.Proofs.Ytfkdbelajideiaa
