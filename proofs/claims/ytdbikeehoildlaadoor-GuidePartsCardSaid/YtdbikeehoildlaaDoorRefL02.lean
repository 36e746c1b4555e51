/-
  In one text: RefA02, RefB02, RefC02, RefD02, RefE02.
-/
import Derived.Test.YtdbikeehoildlaaDoorSemA02
import Derived.Test.YtdbikeehoildlaaDoorRoom
namespace Go.Proofs.YtdbikeehoildlaaDoor
open Go.RowKit Go.BigFrame

set_option maxHeartbeats 400000 in
theorem digits_any (b : Bool) (h l : Int) (w : World) (h1 : Word h) (h2 : Word l) :
    Calls Tryd.prog 53 #[.agg #[.bool b, .int .u64 h, .int .u64 l]] w fun e w' => e = .returned (.agg #[.int .u64 (l % 4294967296), .int .u64 (l / 4294967296), .int .u64 (h % 4294967296), .int .u64 (h / 4294967296)]) ∧ Kept w w' := by
  obtain ⟨a1, a2⟩ := h1; obtain ⟨b1, b2⟩ := h2
  go_enter Tryd.func53, Tryd.ntmps53
  go_wp2
  simp [bodyPost, results, Tryd.results53, go_sem]
  exact (by (repeat (first | with_reducible exact Kept.refl _ | with_reducible apply Kept.drew | with_reducible apply Kept.alloc | ((with_reducible apply Kept.set); focus (simp <;> omega)) | ((with_reducible apply Kept.via); focus with_reducible assumption))))
set_option maxHeartbeats 800000 in
theorem whole_raw (d0 d1 d2 d3 : Int) (s r : Bool) (w : World) (a0 : 0 ≤ d0) (a1 : 0 ≤ d1) (a2 : 0 ≤ d2) (a3 : 0 ≤ d3) (b0 : d0 < 4294967296) (b1 : d1 < 4294967296) (b2 : d2 < 4294967296) (b3 : d3 < 4294967296)
    (hr : (s = false ∧ r = false) ∨ (s = true ∧ r = true ∧ 0 < d3 * 4294967296 + d2) ∨ (s = true ∧ r = true ∧ d3 * 4294967296 + d2 = 0 ∧ 0 < d1 * 4294967296 + d0) ∨ (s = true ∧ r = false ∧ d3 * 4294967296 + d2 = 0 ∧ d1 * 4294967296 + d0 = 0)) :
    Calls Tryd.prog 70 #[.agg #[.int .u64 d0, .int .u64 d1, .int .u64 d2, .int .u64 d3], .bool s] w fun e w' => e = .returned (.agg #[.bool r, .int .u64 (d3 * 4294967296 + d2), .int .u64 (d1 * 4294967296 + d0)]) ∧ Kept w w' := by
  rcases hr with ⟨rfl, rfl⟩ | ⟨rfl, rfl, c⟩ | ⟨rfl, rfl, c, c'⟩ | ⟨rfl, rfl, c, c'⟩
  · go_enter Tryd.func70, Tryd.ntmps70
    go_wp2
    simp [bodyPost, results, Tryd.results70, go_sem]
    exact (by (repeat (first | with_reducible exact Kept.refl _ | with_reducible apply Kept.drew | with_reducible apply Kept.alloc | ((with_reducible apply Kept.set); focus (simp <;> omega)) | ((with_reducible apply Kept.via); focus with_reducible assumption))))
  · go_enter Tryd.func70, Tryd.ntmps70
    go_wp2
    simp [bodyPost, results, Tryd.results70, go_sem]
    exact (by (repeat (first | with_reducible exact Kept.refl _ | with_reducible apply Kept.drew | with_reducible apply Kept.alloc | ((with_reducible apply Kept.set); focus (simp <;> omega)) | ((with_reducible apply Kept.via); focus with_reducible assumption))))
  · obtain rfl : d2 = 0 := by omega
    obtain rfl : d3 = 0 := by omega
    clear c
    simp only [Int.zero_mul, Int.zero_add]
    go_enter Tryd.func70, Tryd.ntmps70
    go_wp2
    simp [bodyPost, results, Tryd.results70, go_sem]
    exact (by (repeat (first | with_reducible exact Kept.refl _ | with_reducible apply Kept.drew | with_reducible apply Kept.alloc | ((with_reducible apply Kept.set); focus (simp <;> omega)) | ((with_reducible apply Kept.via); focus with_reducible assumption))))
  · obtain rfl : d2 = 0 := by omega
    obtain rfl : d3 = 0 := by omega
    obtain rfl : d0 = 0 := by omega
    obtain rfl : d1 = 0 := by omega
    clear c c'
    simp only [Int.zero_mul, Int.zero_add]
    go_enter Tryd.func70, Tryd.ntmps70
    go_wp2
    simp [bodyPost, results, Tryd.results70, go_sem]
    exact (by (repeat (first | with_reducible exact Kept.refl _ | with_reducible apply Kept.drew | with_reducible apply Kept.alloc | ((with_reducible apply Kept.set); focus (simp <;> omega)) | ((with_reducible apply Kept.via); focus with_reducible assumption))))

theorem whole_any (d0 d1 d2 d3 h l : Int) (s : Bool) (w : World) (a0 : 0 ≤ d0) (a1 : 0 ≤ d1) (a2 : 0 ≤ d2) (a3 : 0 ≤ d3) (b0 : d0 < 4294967296) (b1 : d1 < 4294967296) (b2 : d2 < 4294967296) (b3 : d3 < 4294967296) (eh : h = d3 * 4294967296 + d2) (el : l = d1 * 4294967296 + d0) :
    Calls Tryd.prog 70 #[.agg #[.int .u64 d0, .int .u64 d1, .int .u64 d2, .int .u64 d3], .bool s] w fun e w' => e = .returned (.agg #[.bool (s && nz h l), .int .u64 h, .int .u64 l]) ∧ Kept w w' := by
  subst eh el
  refine whole_raw d0 d1 d2 d3 s _ w a0 a1 a2 a3 b0 b1 b2 b3 ?_
  unfold nz
  cases s
  · exact Or.inl ⟨rfl, rfl⟩
  · by_cases c : d3 * 4294967296 + d2 = 0
    · by_cases c' : d1 * 4294967296 + d0 = 0
      · exact Or.inr (Or.inr (Or.inr ⟨rfl, by simp [c, c'], c, c'⟩))
      · exact Or.inr (Or.inr (Or.inl ⟨rfl, by simp [c, c'], c, by omega⟩))
    · exact Or.inr (Or.inl ⟨rfl, by simp [c], by omega⟩)
set_option maxHeartbeats 400000 in
theorem size_neg (n : Int) (w : World) (h : n < 0) (h' : -9223372036854775808 ≤ n) :
    Calls Tryd.prog 58 #[.int .i64 n] w fun e w' => e = .returned (.int .u64 (-n)) ∧ w = w' := by
  go_enter Tryd.func58, Tryd.ntmps58
  go_wp2
  go_ret
  refine ⟨?_, rfl⟩
  exact congrArg (fun k => Ending.returned (.int .u64 k)) (by first | omega | (simp only [IntKind.wrap_u64, IntKind.wrap_i64]; omega))
set_option maxHeartbeats 400000 in
theorem size_pos (n : Int) (w : World) (h : ¬ n < 0) (h' : n ≤ 9223372036854775807) :
    Calls Tryd.prog 58 #[.int .i64 n] w fun e w' => e = .returned (.int .u64 n) ∧ w = w' := by
  go_enter Tryd.func58, Tryd.ntmps58
  go_wp2
  go_ret
  exact ⟨rfl, rfl⟩
theorem size_ok (n : Int) (h : In64 n) (w : World) : Calls Tryd.prog 58 #[.int .i64 n] w fun e w' => e = .returned (.int .u64 (mag n)) ∧ w = w' := by
  unfold In64 at h
  by_cases c : n < 0
  · rw [show mag n = -n by unfold mag; rw [if_pos c]]; exact size_neg n w c h.1
  · rw [show mag n = n by unfold mag; rw [if_neg c]]; exact size_pos n w c h.2
set_option maxHeartbeats 400000 in
theorem refOf_any (n m : Int) (s : Bool) (w : World) (hs : decide (n < 0) = s) (C : ∀ w, Calls Tryd.prog 58 #[.int .i64 n] w fun e w' => e = .returned (.int .u64 m) ∧ w = w') :
    Calls Tryd.prog 57 #[.int .i64 n] w fun e w' => e = .returned (.agg #[.bool s, .int .u64 0, .int .u64 m]) ∧ Kept w w' := by
  have C' := Lib.hid C
  clear C
  go_enter Tryd.func57, Tryd.ntmps57
  go_wp2_with fail
  refine (C'.out _).mono ?_
  rintro e w1 ⟨rfl, rfl⟩
  go_wp2
  simp [bodyPost, results, Tryd.results57, go_sem, *]
  exact (by (repeat (first | with_reducible exact Kept.refl _ | with_reducible apply Kept.drew | with_reducible apply Kept.alloc | ((with_reducible apply Kept.set); focus (simp <;> omega)) | ((with_reducible apply Kept.via); focus with_reducible assumption))))
theorem refOf_ok (n : Int) (h : In64 n) (w : World) : Calls Tryd.prog 57 #[.int .i64 n] w fun e w' => e = .returned (.agg #[.bool (decide (n < 0)), .int .u64 0, .int .u64 (mag n)]) ∧ Kept w w' := refOf_any n (mag n) _ w rfl (size_ok n h)
set_option maxHeartbeats 400000 in
theorem refBelow_raw (s r : Bool) (h l : Int) (w : World) (a0 : 0 ≤ h) (a1 : 0 ≤ l) (hr : (s = false ∧ r = false) ∨ (s = true ∧ r = true ∧ 0 < h) ∨ (s = true ∧ r = true ∧ h = 0 ∧ 0 < l) ∨ (s = true ∧ r = false ∧ h = 0 ∧ l = 0)) :
    Calls Tryd.prog 54 #[.agg #[.bool s, .int .u64 h, .int .u64 l]] w fun e w' => e = .returned (.bool r) ∧ Kept w w' := by
  rcases hr with ⟨rfl, rfl⟩ | ⟨rfl, rfl, c⟩ | ⟨rfl, rfl, rfl, c⟩ | ⟨rfl, rfl, rfl, rfl⟩
  all_goals
    go_enter Tryd.func54, Tryd.ntmps54
    go_wp2
    go_ret
    exact ⟨rfl, (by (repeat (first | with_reducible exact Kept.refl _ | with_reducible apply Kept.drew | with_reducible apply Kept.alloc | ((with_reducible apply Kept.set); focus (simp <;> omega)) | ((with_reducible apply Kept.via); focus with_reducible assumption))))⟩
theorem refBelow (s : Bool) (h l : Int) (w : World) (h1 : Word h) (h2 : Word l) : Calls Tryd.prog 54 #[.agg #[.bool s, .int .u64 h, .int .u64 l]] w fun e w' => e = .returned (.bool (s && nz h l)) ∧ Kept w w' := by
  refine refBelow_raw s _ h l w h1.1 h2.1 ?_
  have := h1.1; have := h2.1
  unfold nz
  cases s
  · exact Or.inl ⟨rfl, rfl⟩
  · by_cases c : h = 0
    · by_cases c' : l = 0
      · exact Or.inr (Or.inr (Or.inr ⟨rfl, by simp [c, c'], c, c'⟩))
      · exact Or.inr (Or.inr (Or.inl ⟨rfl, by simp [c'], c, by omega⟩))
    · exact Or.inr (Or.inl ⟨rfl, by simp [c], by omega⟩)
set_option maxHeartbeats 800000 in
theorem refNeg_any (b : Bool) (h l : Int) (w : World) (h1 : Word h) (h2 : Word l) :
    Calls Tryd.prog 59 #[.agg #[.bool b, .int .u64 h, .int .u64 l]] w fun e w' => e = .returned (.agg #[.bool (!b && nz h l), .int .u64 h, .int .u64 l]) ∧ Kept w w' := by
  have D := Lib.hid (fun w => digits_any b h l w h1 h2)
  have E := Lib.hid (fun w => whole_any (l % 4294967296) (l / 4294967296) (h % 4294967296) (h / 4294967296) h l (!b) w (by omega) (by unfold Word at h2; omega) (by omega) (by unfold Word at h1; omega) (by omega) (by unfold Word at h2; omega) (by omega) (by unfold Word at h1; omega) (by omega) (by omega))
  clear h1 h2
  generalize l % 4294967296 = d0 at *
  generalize l / 4294967296 = d1 at *
  generalize h % 4294967296 = d2 at *
  generalize h / 4294967296 = d3 at *
  go_enter Tryd.func59, Tryd.ntmps59
  go_upto_region 1 with fail
  generalize hW : (World.alloc (World.alloc w (.cells #[.bool b, .int .u64 h, .int .u64 l] 61)) (.cells #[.bool false, .int .u64 0, .int .u64 0] 61)) = W0
  have base := Lib.hid (show W0.cell? ⟨w.heap.size, 0, none⟩ = some (.bool b) ∧ W0.cell? ⟨w.heap.size, 1, none⟩ = some (.int .u64 h) ∧ W0.cell? ⟨w.heap.size, 2, none⟩ = some (.int .u64 l) from by subst hW; simp [go_sem])
  have room : Room3 W0 (w.heap.size + 1) := by subst hW; exact ⟨_, _, _, by first | (simp [go_sem]; done) | (simp [go_sem]; rfl), by first | (simp [go_sem]; done) | (simp [go_sem]; rfl), by first | (simp [go_sem]; done) | (simp [go_sem]; rfl), by simp [go_sem], by simp [go_sem], by simp [go_sem]⟩
  have kw : Kept w W0 := by subst hW; exact (by (repeat (first | with_reducible exact Kept.refl _ | with_reducible apply Kept.drew | with_reducible apply Kept.alloc | ((with_reducible apply Kept.set); focus (simp <;> omega)) | ((with_reducible apply Kept.via); focus with_reducible assumption))))
  have zw : w.heap.size + 2 ≤ W0.heap.size := by subst hW; simp
  clear hW
  go_region_held3 (fun w' => w'.cell? ⟨w.heap.size, 0, none⟩ = some (.bool b) ∧ w'.cell? ⟨w.heap.size, 1, none⟩ = some (.int .u64 h) ∧ w'.cell? ⟨w.heap.size, 2, none⟩ = some (.int .u64 l))
    ((first | (refine Kept.all3 ?_ base; focus ((repeat (first | with_reducible exact Kept.refl _ | with_reducible apply Kept.drew | with_reducible apply Kept.alloc | ((with_reducible apply Kept.set); focus (simp <;> omega)) | ((with_reducible apply Kept.via); focus with_reducible assumption))); done)) | (refine far3 (Kept.all3 (by (repeat (first | with_reducible exact Kept.refl _ | with_reducible apply Kept.drew | with_reducible apply Kept.alloc | ((with_reducible apply Kept.set); focus (simp <;> omega)) | ((with_reducible apply Kept.via); focus with_reducible assumption)))) base) ?_; focus ((repeat' apply And.intro) <;> (simp <;> omega)))))
    (first
      | (go_at_call 53; refine (D.out _).mono ?_; rintro e w1 ⟨rfl, k1⟩)
      | (go_at_call 70; refine (E.out _).mono ?_; rintro e w2 ⟨rfl, k2⟩; obtain ⟨x, y, z, a1, a2, a3, c1, c2, c3⟩ : Room3 w2 (w.heap.size + 1) := room.kept (by (repeat (first | with_reducible exact Kept.refl _ | with_reducible apply Kept.drew | with_reducible apply Kept.alloc | ((with_reducible apply Kept.set); focus (simp <;> omega)) | ((with_reducible apply Kept.via); focus with_reducible assumption))))))
  go_wp2
  simp [bodyPost, results, Tryd.results59, go_sem, *]
  exact (by (repeat (first | with_reducible exact Kept.refl _ | with_reducible apply Kept.drew | with_reducible apply Kept.alloc | ((with_reducible apply Kept.set); focus (simp <;> omega)) | ((with_reducible apply Kept.via); focus with_reducible assumption))))
theorem refNeg_ok {b1 b : Bool} {xh xl : Int} (h1 : Word xh) (h2 : Word xl) (r : Rep b xh xl (-(numOf b1 xh xl))) (w : World) : Calls Tryd.prog 59 #[.agg #[.bool b1, .int .u64 xh, .int .u64 xl]] w fun e w' => e = .returned (.agg #[.bool b, .int .u64 xh, .int .u64 xl]) ∧ Kept w w' := by
  rw [← rep_sign (s := !b1) r (by cases b1 <;> simp [numOf])]
  exact refNeg_any b1 xh xl w h1 h2
end Go.Proofs.YtdbikeehoildlaaDoor
namespace Go.Proofs.YtdbikeehoildlaaDoor
open Go.RowKit Go.BigFrame

set_option maxHeartbeats 800000 in
theorem less_3 (a0 a1 a2 a3 b0 b1 b2 b3 : Int) (w : World) (hn : (a3 != b3) = true) :
    Calls Tryd.prog 55 #[.agg #[.int .u64 a0, .int .u64 a1, .int .u64 a2, .int .u64 a3], .agg #[.int .u64 b0, .int .u64 b1, .int .u64 b2, .int .u64 b3]] w fun e w' => e = .returned (.bool (decide (a3 < b3))) ∧ Kept w w' := by
  go_enter Tryd.func55, Tryd.ntmps55
  go_upto_region 1 with fail
  generalize hW : (World.alloc (World.alloc w (.cells #[.int .u64 a0, .int .u64 a1, .int .u64 a2, .int .u64 a3] 84)) (.cells #[.int .u64 b0, .int .u64 b1, .int .u64 b2, .int .u64 b3] 84)) = W0
  have f0 : W0.cell? ⟨w.heap.size, 0, none⟩ = some (.int .u64 a0) := by subst hW; simp [go_sem]
  have f1 : W0.cell? ⟨w.heap.size, 1, none⟩ = some (.int .u64 a1) := by subst hW; simp [go_sem]
  have f2 : W0.cell? ⟨w.heap.size, 2, none⟩ = some (.int .u64 a2) := by subst hW; simp [go_sem]
  have f3 : W0.cell? ⟨w.heap.size, 3, none⟩ = some (.int .u64 a3) := by subst hW; simp [go_sem]
  have f4 : W0.cell? ⟨w.heap.size + 1, 0, none⟩ = some (.int .u64 b0) := by subst hW; simp [go_sem]
  have f5 : W0.cell? ⟨w.heap.size + 1, 1, none⟩ = some (.int .u64 b1) := by subst hW; simp [go_sem]
  have f6 : W0.cell? ⟨w.heap.size + 1, 2, none⟩ = some (.int .u64 b2) := by subst hW; simp [go_sem]
  have f7 : W0.cell? ⟨w.heap.size + 1, 3, none⟩ = some (.int .u64 b3) := by subst hW; simp [go_sem]
  have kw : Kept w W0 := by subst hW; (repeat (first | with_reducible exact Kept.refl _ | with_reducible apply Kept.drew | with_reducible apply Kept.alloc | ((with_reducible apply Kept.set); focus (simp <;> omega)) | ((with_reducible apply Kept.via); focus with_reducible assumption)))
  clear hW
  have F0 := Lib.hid f0
  have F1 := Lib.hid f1
  have F2 := Lib.hid f2
  have F3 := Lib.hid f3
  have F4 := Lib.hid f4
  have F5 := Lib.hid f5
  have F6 := Lib.hid f6
  have F7 := Lib.hid f7
  clear f0 f1 f2 f3 f4 f5 f6 f7
  go_wp2_with fail
  go_loopw [5] (fun i wx => ∃ k : Int, i = .int .i64 k ∧ (k = 3) ∧ Kept W0 wx) (fun i _ => (intOf i + 1).toNat)
  case atStart => exact ⟨3, rfl, by omega, Kept.refl _⟩
  case round =>
    obtain ⟨k, rfl, hk, kr⟩ := hrel
    rcases hk with rfl
    · go_wp2_with fail
      have g0 : ∀ p : KW wr, p.w.cell? ⟨w.heap.size, 3, none⟩ = some (.int .u64 a3) := fun p => p.k.read (kr.read F3.out)
      have g1 : ∀ p : KW wr, p.w.cell? ⟨w.heap.size + 1, 3, none⟩ = some (.int .u64 b3) := fun p => p.k.read (kr.read F7.out)
      refine wp_region_kept (by kernel_rfl) (by kernel_rfl) ?_
      repeat (go_big_quiet_step (fail))
      refine wpQuiet_nil ?_
      intro wq hw'
      have kq : Kept wr wq := by obtain ⟨p, rfl⟩ := hw'; exact p.k
      clear hw'
      go_wp2_with fail
      have g2 : ∀ p : KW wq, p.w.cell? ⟨w.heap.size, 3, none⟩ = some (.int .u64 a3) := fun p => p.k.read (kq.read (kr.read F3.out))
      have g3 : ∀ p : KW wq, p.w.cell? ⟨w.heap.size + 1, 3, none⟩ = some (.int .u64 b3) := fun p => p.k.read (kq.read (kr.read F7.out))
      clear g0 g1
      refine wp_region_kept (by kernel_rfl) (by kernel_rfl) ?_
      repeat (go_big_quiet_step (fail))
      refine wpQuiet_nil ?_
      intro wq2 hw'
      have kq2 : Kept wq wq2 := by obtain ⟨p, rfl⟩ := hw'; exact p.k
      clear hw'
      go_wp2
      go_ret
      exact ⟨rfl, kw.trans (kr.trans (kq.trans kq2))⟩
set_option maxHeartbeats 800000 in
theorem less_2 (a0 a1 a2 a3 b0 b1 b2 : Int) (w : World) (hn : (a2 != b2) = true) :
    Calls Tryd.prog 55 #[.agg #[.int .u64 a0, .int .u64 a1, .int .u64 a2, .int .u64 a3], .agg #[.int .u64 b0, .int .u64 b1, .int .u64 b2, .int .u64 a3]] w fun e w' => e = .returned (.bool (decide (a2 < b2))) ∧ Kept w w' := by
  go_enter Tryd.func55, Tryd.ntmps55
  go_upto_region 1 with fail
  generalize hW : (World.alloc (World.alloc w (.cells #[.int .u64 a0, .int .u64 a1, .int .u64 a2, .int .u64 a3] 84)) (.cells #[.int .u64 b0, .int .u64 b1, .int .u64 b2, .int .u64 a3] 84)) = W0
  have f0 : W0.cell? ⟨w.heap.size, 0, none⟩ = some (.int .u64 a0) := by subst hW; simp [go_sem]
  have f1 : W0.cell? ⟨w.heap.size, 1, none⟩ = some (.int .u64 a1) := by subst hW; simp [go_sem]
  have f2 : W0.cell? ⟨w.heap.size, 2, none⟩ = some (.int .u64 a2) := by subst hW; simp [go_sem]
  have f3 : W0.cell? ⟨w.heap.size, 3, none⟩ = some (.int .u64 a3) := by subst hW; simp [go_sem]
  have f4 : W0.cell? ⟨w.heap.size + 1, 0, none⟩ = some (.int .u64 b0) := by subst hW; simp [go_sem]
  have f5 : W0.cell? ⟨w.heap.size + 1, 1, none⟩ = some (.int .u64 b1) := by subst hW; simp [go_sem]
  have f6 : W0.cell? ⟨w.heap.size + 1, 2, none⟩ = some (.int .u64 b2) := by subst hW; simp [go_sem]
  have f7 : W0.cell? ⟨w.heap.size + 1, 3, none⟩ = some (.int .u64 a3) := by subst hW; simp [go_sem]
  have kw : Kept w W0 := by subst hW; (repeat (first | with_reducible exact Kept.refl _ | with_reducible apply Kept.drew | with_reducible apply Kept.alloc | ((with_reducible apply Kept.set); focus (simp <;> omega)) | ((with_reducible apply Kept.via); focus with_reducible assumption)))
  clear hW
  have F0 := Lib.hid f0
  have F1 := Lib.hid f1
  have F2 := Lib.hid f2
  have F3 := Lib.hid f3
  have F4 := Lib.hid f4
  have F5 := Lib.hid f5
  have F6 := Lib.hid f6
  have F7 := Lib.hid f7
  clear f0 f1 f2 f3 f4 f5 f6 f7
  go_wp2_with fail
  go_loopw [5] (fun i wx => ∃ k : Int, i = .int .i64 k ∧ (k = 3 ∨ k = 2) ∧ Kept W0 wx) (fun i _ => (intOf i + 1).toNat)
  case atStart => exact ⟨3, rfl, by omega, Kept.refl _⟩
  case round =>
    obtain ⟨k, rfl, hk, kr⟩ := hrel
    rcases hk with rfl | rfl
    · go_wp2_with fail
      have g0 : ∀ p : KW wr, p.w.cell? ⟨w.heap.size, 3, none⟩ = some (.int .u64 a3) := fun p => p.k.read (kr.read F3.out)
      have g1 : ∀ p : KW wr, p.w.cell? ⟨w.heap.size + 1, 3, none⟩ = some (.int .u64 a3) := fun p => p.k.read (kr.read F7.out)
      refine wp_region_kept (by kernel_rfl) (by kernel_rfl) ?_
      repeat (go_big_quiet_step (fail))
      refine wpQuiet_nil ?_
      intro wq hw'
      have kq : Kept wr wq := by obtain ⟨p, rfl⟩ := hw'; exact p.k
      clear hw'
      go_wp2
      go_roundw
      case rel => exact ⟨2, rfl, by omega, kr.trans kq⟩
      case measure => simp [intOf]
    · go_wp2_with fail
      have g0 : ∀ p : KW wr, p.w.cell? ⟨w.heap.size, 2, none⟩ = some (.int .u64 a2) := fun p => p.k.read (kr.read F2.out)
      have g1 : ∀ p : KW wr, p.w.cell? ⟨w.heap.size + 1, 2, none⟩ = some (.int .u64 b2) := fun p => p.k.read (kr.read F6.out)
      refine wp_region_kept (by kernel_rfl) (by kernel_rfl) ?_
      repeat (go_big_quiet_step (fail))
      refine wpQuiet_nil ?_
      intro wq hw'
      have kq : Kept wr wq := by obtain ⟨p, rfl⟩ := hw'; exact p.k
      clear hw'
      go_wp2_with fail
      have g2 : ∀ p : KW wq, p.w.cell? ⟨w.heap.size, 2, none⟩ = some (.int .u64 a2) := fun p => p.k.read (kq.read (kr.read F2.out))
      have g3 : ∀ p : KW wq, p.w.cell? ⟨w.heap.size + 1, 2, none⟩ = some (.int .u64 b2) := fun p => p.k.read (kq.read (kr.read F6.out))
      clear g0 g1
      refine wp_region_kept (by kernel_rfl) (by kernel_rfl) ?_
      repeat (go_big_quiet_step (fail))
      refine wpQuiet_nil ?_
      intro wq2 hw'
      have kq2 : Kept wq wq2 := by obtain ⟨p, rfl⟩ := hw'; exact p.k
      clear hw'
      go_wp2
      go_ret
      exact ⟨rfl, kw.trans (kr.trans (kq.trans kq2))⟩
set_option maxHeartbeats 800000 in
theorem less_1 (a0 a1 a2 a3 b0 b1 : Int) (w : World) (hn : (a1 != b1) = true) :
    Calls Tryd.prog 55 #[.agg #[.int .u64 a0, .int .u64 a1, .int .u64 a2, .int .u64 a3], .agg #[.int .u64 b0, .int .u64 b1, .int .u64 a2, .int .u64 a3]] w fun e w' => e = .returned (.bool (decide (a1 < b1))) ∧ Kept w w' := by
  go_enter Tryd.func55, Tryd.ntmps55
  go_upto_region 1 with fail
  generalize hW : (World.alloc (World.alloc w (.cells #[.int .u64 a0, .int .u64 a1, .int .u64 a2, .int .u64 a3] 84)) (.cells #[.int .u64 b0, .int .u64 b1, .int .u64 a2, .int .u64 a3] 84)) = W0
  have f0 : W0.cell? ⟨w.heap.size, 0, none⟩ = some (.int .u64 a0) := by subst hW; simp [go_sem]
  have f1 : W0.cell? ⟨w.heap.size, 1, none⟩ = some (.int .u64 a1) := by subst hW; simp [go_sem]
  have f2 : W0.cell? ⟨w.heap.size, 2, none⟩ = some (.int .u64 a2) := by subst hW; simp [go_sem]
  have f3 : W0.cell? ⟨w.heap.size, 3, none⟩ = some (.int .u64 a3) := by subst hW; simp [go_sem]
  have f4 : W0.cell? ⟨w.heap.size + 1, 0, none⟩ = some (.int .u64 b0) := by subst hW; simp [go_sem]
  have f5 : W0.cell? ⟨w.heap.size + 1, 1, none⟩ = some (.int .u64 b1) := by subst hW; simp [go_sem]
  have f6 : W0.cell? ⟨w.heap.size + 1, 2, none⟩ = some (.int .u64 a2) := by subst hW; simp [go_sem]
  have f7 : W0.cell? ⟨w.heap.size + 1, 3, none⟩ = some (.int .u64 a3) := by subst hW; simp [go_sem]
  have kw : Kept w W0 := by subst hW; (repeat (first | with_reducible exact Kept.refl _ | with_reducible apply Kept.drew | with_reducible apply Kept.alloc | ((with_reducible apply Kept.set); focus (simp <;> omega)) | ((with_reducible apply Kept.via); focus with_reducible assumption)))
  clear hW
  have F0 := Lib.hid f0
  have F1 := Lib.hid f1
  have F2 := Lib.hid f2
  have F3 := Lib.hid f3
  have F4 := Lib.hid f4
  have F5 := Lib.hid f5
  have F6 := Lib.hid f6
  have F7 := Lib.hid f7
  clear f0 f1 f2 f3 f4 f5 f6 f7
  go_wp2_with fail
  go_loopw [5] (fun i wx => ∃ k : Int, i = .int .i64 k ∧ (k = 3 ∨ k = 2 ∨ k = 1) ∧ Kept W0 wx) (fun i _ => (intOf i + 1).toNat)
  case atStart => exact ⟨3, rfl, by omega, Kept.refl _⟩
  case round =>
    obtain ⟨k, rfl, hk, kr⟩ := hrel
    rcases hk with rfl | rfl | rfl
    · go_wp2_with fail
      have g0 : ∀ p : KW wr, p.w.cell? ⟨w.heap.size, 3, none⟩ = some (.int .u64 a3) := fun p => p.k.read (kr.read F3.out)
      have g1 : ∀ p : KW wr, p.w.cell? ⟨w.heap.size + 1, 3, none⟩ = some (.int .u64 a3) := fun p => p.k.read (kr.read F7.out)
      refine wp_region_kept (by kernel_rfl) (by kernel_rfl) ?_
      repeat (go_big_quiet_step (fail))
      refine wpQuiet_nil ?_
      intro wq hw'
      have kq : Kept wr wq := by obtain ⟨p, rfl⟩ := hw'; exact p.k
      clear hw'
      go_wp2
      go_roundw
      case rel => exact ⟨2, rfl, by omega, kr.trans kq⟩
      case measure => simp [intOf]
    · go_wp2_with fail
      have g0 : ∀ p : KW wr, p.w.cell? ⟨w.heap.size, 2, none⟩ = some (.int .u64 a2) := fun p => p.k.read (kr.read F2.out)
      have g1 : ∀ p : KW wr, p.w.cell? ⟨w.heap.size + 1, 2, none⟩ = some (.int .u64 a2) := fun p => p.k.read (kr.read F6.out)
      refine wp_region_kept (by kernel_rfl) (by kernel_rfl) ?_
      repeat (go_big_quiet_step (fail))
      refine wpQuiet_nil ?_
      intro wq hw'
      have kq : Kept wr wq := by obtain ⟨p, rfl⟩ := hw'; exact p.k
      clear hw'
      go_wp2
      go_roundw
      case rel => exact ⟨1, rfl, by omega, kr.trans kq⟩
      case measure => simp [intOf]
    · go_wp2_with fail
      have g0 : ∀ p : KW wr, p.w.cell? ⟨w.heap.size, 1, none⟩ = some (.int .u64 a1) := fun p => p.k.read (kr.read F1.out)
      have g1 : ∀ p : KW wr, p.w.cell? ⟨w.heap.size + 1, 1, none⟩ = some (.int .u64 b1) := fun p => p.k.read (kr.read F5.out)
      refine wp_region_kept (by kernel_rfl) (by kernel_rfl) ?_
      repeat (go_big_quiet_step (fail))
      refine wpQuiet_nil ?_
      intro wq hw'
      have kq : Kept wr wq := by obtain ⟨p, rfl⟩ := hw'; exact p.k
      clear hw'
      go_wp2_with fail
      have g2 : ∀ p : KW wq, p.w.cell? ⟨w.heap.size, 1, none⟩ = some (.int .u64 a1) := fun p => p.k.read (kq.read (kr.read F1.out))
      have g3 : ∀ p : KW wq, p.w.cell? ⟨w.heap.size + 1, 1, none⟩ = some (.int .u64 b1) := fun p => p.k.read (kq.read (kr.read F5.out))
      clear g0 g1
      refine wp_region_kept (by kernel_rfl) (by kernel_rfl) ?_
      repeat (go_big_quiet_step (fail))
      refine wpQuiet_nil ?_
      intro wq2 hw'
      have kq2 : Kept wq wq2 := by obtain ⟨p, rfl⟩ := hw'; exact p.k
      clear hw'
      go_wp2
      go_ret
      exact ⟨rfl, kw.trans (kr.trans (kq.trans kq2))⟩
set_option maxHeartbeats 800000 in
theorem less_0 (a0 a1 a2 a3 b0 : Int) (w : World) (hn : (a0 != b0) = true) :
    Calls Tryd.prog 55 #[.agg #[.int .u64 a0, .int .u64 a1, .int .u64 a2, .int .u64 a3], .agg #[.int .u64 b0, .int .u64 a1, .int .u64 a2, .int .u64 a3]] w fun e w' => e = .returned (.bool (decide (a0 < b0))) ∧ Kept w w' := by
  go_enter Tryd.func55, Tryd.ntmps55
  go_upto_region 1 with fail
  generalize hW : (World.alloc (World.alloc w (.cells #[.int .u64 a0, .int .u64 a1, .int .u64 a2, .int .u64 a3] 84)) (.cells #[.int .u64 b0, .int .u64 a1, .int .u64 a2, .int .u64 a3] 84)) = W0
  have f0 : W0.cell? ⟨w.heap.size, 0, none⟩ = some (.int .u64 a0) := by subst hW; simp [go_sem]
  have f1 : W0.cell? ⟨w.heap.size, 1, none⟩ = some (.int .u64 a1) := by subst hW; simp [go_sem]
  have f2 : W0.cell? ⟨w.heap.size, 2, none⟩ = some (.int .u64 a2) := by subst hW; simp [go_sem]
  have f3 : W0.cell? ⟨w.heap.size, 3, none⟩ = some (.int .u64 a3) := by subst hW; simp [go_sem]
  have f4 : W0.cell? ⟨w.heap.size + 1, 0, none⟩ = some (.int .u64 b0) := by subst hW; simp [go_sem]
  have f5 : W0.cell? ⟨w.heap.size + 1, 1, none⟩ = some (.int .u64 a1) := by subst hW; simp [go_sem]
  have f6 : W0.cell? ⟨w.heap.size + 1, 2, none⟩ = some (.int .u64 a2) := by subst hW; simp [go_sem]
  have f7 : W0.cell? ⟨w.heap.size + 1, 3, none⟩ = some (.int .u64 a3) := by subst hW; simp [go_sem]
  have kw : Kept w W0 := by subst hW; (repeat (first | with_reducible exact Kept.refl _ | with_reducible apply Kept.drew | with_reducible apply Kept.alloc | ((with_reducible apply Kept.set); focus (simp <;> omega)) | ((with_reducible apply Kept.via); focus with_reducible assumption)))
  clear hW
  have F0 := Lib.hid f0
  have F1 := Lib.hid f1
  have F2 := Lib.hid f2
  have F3 := Lib.hid f3
  have F4 := Lib.hid f4
  have F5 := Lib.hid f5
  have F6 := Lib.hid f6
  have F7 := Lib.hid f7
  clear f0 f1 f2 f3 f4 f5 f6 f7
  go_wp2_with fail
  go_loopw [5] (fun i wx => ∃ k : Int, i = .int .i64 k ∧ (k = 3 ∨ k = 2 ∨ k = 1 ∨ k = 0) ∧ Kept W0 wx) (fun i _ => (intOf i + 1).toNat)
  case atStart => exact ⟨3, rfl, by omega, Kept.refl _⟩
  case round =>
    obtain ⟨k, rfl, hk, kr⟩ := hrel
    rcases hk with rfl | rfl | rfl | rfl
    · go_wp2_with fail
      have g0 : ∀ p : KW wr, p.w.cell? ⟨w.heap.size, 3, none⟩ = some (.int .u64 a3) := fun p => p.k.read (kr.read F3.out)
      have g1 : ∀ p : KW wr, p.w.cell? ⟨w.heap.size + 1, 3, none⟩ = some (.int .u64 a3) := fun p => p.k.read (kr.read F7.out)
      refine wp_region_kept (by kernel_rfl) (by kernel_rfl) ?_
      repeat (go_big_quiet_step (fail))
      refine wpQuiet_nil ?_
      intro wq hw'
      have kq : Kept wr wq := by obtain ⟨p, rfl⟩ := hw'; exact p.k
      clear hw'
      go_wp2
      go_roundw
      case rel => exact ⟨2, rfl, by omega, kr.trans kq⟩
      case measure => simp [intOf]
    · go_wp2_with fail
      have g0 : ∀ p : KW wr, p.w.cell? ⟨w.heap.size, 2, none⟩ = some (.int .u64 a2) := fun p => p.k.read (kr.read F2.out)
      have g1 : ∀ p : KW wr, p.w.cell? ⟨w.heap.size + 1, 2, none⟩ = some (.int .u64 a2) := fun p => p.k.read (kr.read F6.out)
      refine wp_region_kept (by kernel_rfl) (by kernel_rfl) ?_
      repeat (go_big_quiet_step (fail))
      refine wpQuiet_nil ?_
      intro wq hw'
      have kq : Kept wr wq := by obtain ⟨p, rfl⟩ := hw'; exact p.k
      clear hw'
      go_wp2
      go_roundw
      case rel => exact ⟨1, rfl, by omega, kr.trans kq⟩
      case measure => simp [intOf]
    · go_wp2_with fail
      have g0 : ∀ p : KW wr, p.w.cell? ⟨w.heap.size, 1, none⟩ = some (.int .u64 a1) := fun p => p.k.read (kr.read F1.out)
      have g1 : ∀ p : KW wr, p.w.cell? ⟨w.heap.size + 1, 1, none⟩ = some (.int .u64 a1) := fun p => p.k.read (kr.read F5.out)
      refine wp_region_kept (by kernel_rfl) (by kernel_rfl) ?_
      repeat (go_big_quiet_step (fail))
      refine wpQuiet_nil ?_
      intro wq hw'
      have kq : Kept wr wq := by obtain ⟨p, rfl⟩ := hw'; exact p.k
      clear hw'
      go_wp2
      go_roundw
      case rel => exact ⟨0, rfl, by omega, kr.trans kq⟩
      case measure => simp [intOf]
    · go_wp2_with fail
      have g0 : ∀ p : KW wr, p.w.cell? ⟨w.heap.size, 0, none⟩ = some (.int .u64 a0) := fun p => p.k.read (kr.read F0.out)
      have g1 : ∀ p : KW wr, p.w.cell? ⟨w.heap.size + 1, 0, none⟩ = some (.int .u64 b0) := fun p => p.k.read (kr.read F4.out)
      refine wp_region_kept (by kernel_rfl) (by kernel_rfl) ?_
      repeat (go_big_quiet_step (fail))
      refine wpQuiet_nil ?_
      intro wq hw'
      have kq : Kept wr wq := by obtain ⟨p, rfl⟩ := hw'; exact p.k
      clear hw'
      go_wp2_with fail
      have g2 : ∀ p : KW wq, p.w.cell? ⟨w.heap.size, 0, none⟩ = some (.int .u64 a0) := fun p => p.k.read (kq.read (kr.read F0.out))
      have g3 : ∀ p : KW wq, p.w.cell? ⟨w.heap.size + 1, 0, none⟩ = some (.int .u64 b0) := fun p => p.k.read (kq.read (kr.read F4.out))
      clear g0 g1
      refine wp_region_kept (by kernel_rfl) (by kernel_rfl) ?_
      repeat (go_big_quiet_step (fail))
      refine wpQuiet_nil ?_
      intro wq2 hw'
      have kq2 : Kept wq wq2 := by obtain ⟨p, rfl⟩ := hw'; exact p.k
      clear hw'
      go_wp2
      go_ret
      exact ⟨rfl, kw.trans (kr.trans (kq.trans kq2))⟩
set_option maxHeartbeats 800000 in
theorem less_n (a0 a1 a2 a3 : Int) (w : World) :
    Calls Tryd.prog 55 #[.agg #[.int .u64 a0, .int .u64 a1, .int .u64 a2, .int .u64 a3], .agg #[.int .u64 a0, .int .u64 a1, .int .u64 a2, .int .u64 a3]] w fun e w' => e = .returned (.bool false) ∧ Kept w w' := by
  go_enter Tryd.func55, Tryd.ntmps55
  go_upto_region 1 with fail
  generalize hW : (World.alloc (World.alloc w (.cells #[.int .u64 a0, .int .u64 a1, .int .u64 a2, .int .u64 a3] 84)) (.cells #[.int .u64 a0, .int .u64 a1, .int .u64 a2, .int .u64 a3] 84)) = W0
  have f0 : W0.cell? ⟨w.heap.size, 0, none⟩ = some (.int .u64 a0) := by subst hW; simp [go_sem]
  have f1 : W0.cell? ⟨w.heap.size, 1, none⟩ = some (.int .u64 a1) := by subst hW; simp [go_sem]
  have f2 : W0.cell? ⟨w.heap.size, 2, none⟩ = some (.int .u64 a2) := by subst hW; simp [go_sem]
  have f3 : W0.cell? ⟨w.heap.size, 3, none⟩ = some (.int .u64 a3) := by subst hW; simp [go_sem]
  have f4 : W0.cell? ⟨w.heap.size + 1, 0, none⟩ = some (.int .u64 a0) := by subst hW; simp [go_sem]
  have f5 : W0.cell? ⟨w.heap.size + 1, 1, none⟩ = some (.int .u64 a1) := by subst hW; simp [go_sem]
  have f6 : W0.cell? ⟨w.heap.size + 1, 2, none⟩ = some (.int .u64 a2) := by subst hW; simp [go_sem]
  have f7 : W0.cell? ⟨w.heap.size + 1, 3, none⟩ = some (.int .u64 a3) := by subst hW; simp [go_sem]
  have kw : Kept w W0 := by subst hW; (repeat (first | with_reducible exact Kept.refl _ | with_reducible apply Kept.drew | with_reducible apply Kept.alloc | ((with_reducible apply Kept.set); focus (simp <;> omega)) | ((with_reducible apply Kept.via); focus with_reducible assumption)))
  clear hW
  have F0 := Lib.hid f0
  have F1 := Lib.hid f1
  have F2 := Lib.hid f2
  have F3 := Lib.hid f3
  have F4 := Lib.hid f4
  have F5 := Lib.hid f5
  have F6 := Lib.hid f6
  have F7 := Lib.hid f7
  clear f0 f1 f2 f3 f4 f5 f6 f7
  go_wp2_with fail
  go_loopw [5] (fun i wx => ∃ k : Int, i = .int .i64 k ∧ (k = 3 ∨ k = 2 ∨ k = 1 ∨ k = 0 ∨ k = (-1)) ∧ Kept W0 wx) (fun i _ => (intOf i + 1).toNat)
  case atStart => exact ⟨3, rfl, by omega, Kept.refl _⟩
  case round =>
    obtain ⟨k, rfl, hk, kr⟩ := hrel
    rcases hk with rfl | rfl | rfl | rfl | rfl
    · go_wp2_with fail
      have g0 : ∀ p : KW wr, p.w.cell? ⟨w.heap.size, 3, none⟩ = some (.int .u64 a3) := fun p => p.k.read (kr.read F3.out)
      have g1 : ∀ p : KW wr, p.w.cell? ⟨w.heap.size + 1, 3, none⟩ = some (.int .u64 a3) := fun p => p.k.read (kr.read F7.out)
      refine wp_region_kept (by kernel_rfl) (by kernel_rfl) ?_
      repeat (go_big_quiet_step (fail))
      refine wpQuiet_nil ?_
      intro wq hw'
      have kq : Kept wr wq := by obtain ⟨p, rfl⟩ := hw'; exact p.k
      clear hw'
      go_wp2
      go_roundw
      case rel => exact ⟨2, rfl, by omega, kr.trans kq⟩
      case measure => simp [intOf]
    · go_wp2_with fail
      have g0 : ∀ p : KW wr, p.w.cell? ⟨w.heap.size, 2, none⟩ = some (.int .u64 a2) := fun p => p.k.read (kr.read F2.out)
      have g1 : ∀ p : KW wr, p.w.cell? ⟨w.heap.size + 1, 2, none⟩ = some (.int .u64 a2) := fun p => p.k.read (kr.read F6.out)
      refine wp_region_kept (by kernel_rfl) (by kernel_rfl) ?_
      repeat (go_big_quiet_step (fail))
      refine wpQuiet_nil ?_
      intro wq hw'
      have kq : Kept wr wq := by obtain ⟨p, rfl⟩ := hw'; exact p.k
      clear hw'
      go_wp2
      go_roundw
      case rel => exact ⟨1, rfl, by omega, kr.trans kq⟩
      case measure => simp [intOf]
    · go_wp2_with fail
      have g0 : ∀ p : KW wr, p.w.cell? ⟨w.heap.size, 1, none⟩ = some (.int .u64 a1) := fun p => p.k.read (kr.read F1.out)
      have g1 : ∀ p : KW wr, p.w.cell? ⟨w.heap.size + 1, 1, none⟩ = some (.int .u64 a1) := fun p => p.k.read (kr.read F5.out)
      refine wp_region_kept (by kernel_rfl) (by kernel_rfl) ?_
      repeat (go_big_quiet_step (fail))
      refine wpQuiet_nil ?_
      intro wq hw'
      have kq : Kept wr wq := by obtain ⟨p, rfl⟩ := hw'; exact p.k
      clear hw'
      go_wp2
      go_roundw
      case rel => exact ⟨0, rfl, by omega, kr.trans kq⟩
      case measure => simp [intOf]
    · go_wp2_with fail
      have g0 : ∀ p : KW wr, p.w.cell? ⟨w.heap.size, 0, none⟩ = some (.int .u64 a0) := fun p => p.k.read (kr.read F0.out)
      have g1 : ∀ p : KW wr, p.w.cell? ⟨w.heap.size + 1, 0, none⟩ = some (.int .u64 a0) := fun p => p.k.read (kr.read F4.out)
      refine wp_region_kept (by kernel_rfl) (by kernel_rfl) ?_
      repeat (go_big_quiet_step (fail))
      refine wpQuiet_nil ?_
      intro wq hw'
      have kq : Kept wr wq := by obtain ⟨p, rfl⟩ := hw'; exact p.k
      clear hw'
      go_wp2
      go_roundw
      case rel => exact ⟨-1, rfl, by omega, kr.trans kq⟩
      case measure => simp [intOf]
    · go_wp2
      go_ret
      exact ⟨rfl, kw.trans kr⟩
theorem refLess (a0 a1 a2 a3 b0 b1 b2 b3 : Int) (w : World) (p0 : 0 ≤ a0) (p1 : 0 ≤ a1) (p2 : 0 ≤ a2) (q0 : a0 < 4294967296) (q1 : a1 < 4294967296) (q2 : a2 < 4294967296) (r0 : 0 ≤ b0) (r1 : 0 ≤ b1) (r2 : 0 ≤ b2) (s0 : b0 < 4294967296) (s1 : b1 < 4294967296) (s2 : b2 < 4294967296) :
    Calls Tryd.prog 55 #[.agg #[.int .u64 a0, .int .u64 a1, .int .u64 a2, .int .u64 a3], .agg #[.int .u64 b0, .int .u64 b1, .int .u64 b2, .int .u64 b3]] w fun e w' => e = .returned (.bool (decide ((a3 * 79228162514264337593543950336 + a2 * 18446744073709551616 + a1 * 4294967296 + a0) < (b3 * 79228162514264337593543950336 + b2 * 18446744073709551616 + b1 * 4294967296 + b0)))) ∧ Kept w w' := by
  by_cases e3 : a3 = b3
  · subst e3
    by_cases e2 : a2 = b2
    · subst e2
      by_cases e1 : a1 = b1
      · subst e1
        by_cases e0 : a0 = b0
        · subst e0
          simp only [Int.lt_irrefl, decide_false]
          exact less_n a0 a1 a2 a3 w
        · rw [show decide ((a3 * 79228162514264337593543950336 + a2 * 18446744073709551616 + a1 * 4294967296 + a0) < (a3 * 79228162514264337593543950336 + a2 * 18446744073709551616 + a1 * 4294967296 + b0)) = decide (a0 < b0) by rw [decide_eq_decide]; omega]
          exact less_0 a0 a1 a2 a3 b0 w (by simp [e0])
      · rw [show decide ((a3 * 79228162514264337593543950336 + a2 * 18446744073709551616 + a1 * 4294967296 + a0) < (a3 * 79228162514264337593543950336 + a2 * 18446744073709551616 + b1 * 4294967296 + b0)) = decide (a1 < b1) by rw [decide_eq_decide]; omega]
        exact less_1 a0 a1 a2 a3 b0 b1 w (by simp [e1])
    · rw [show decide ((a3 * 79228162514264337593543950336 + a2 * 18446744073709551616 + a1 * 4294967296 + a0) < (a3 * 79228162514264337593543950336 + b2 * 18446744073709551616 + b1 * 4294967296 + b0)) = decide (a2 < b2) by rw [decide_eq_decide]; omega]
      exact less_2 a0 a1 a2 a3 b0 b1 b2 w (by simp [e2])
  · rw [show decide ((a3 * 79228162514264337593543950336 + a2 * 18446744073709551616 + a1 * 4294967296 + a0) < (b3 * 79228162514264337593543950336 + b2 * 18446744073709551616 + b1 * 4294967296 + b0)) = decide (a3 < b3) by rw [decide_eq_decide]; omega]
    exact less_3 a0 a1 a2 a3 b0 b1 b2 b3 w (by simp [e3])
end Go.Proofs.YtdbikeehoildlaaDoor
namespace Go.Proofs.YtdbikeehoildlaaDoor
open Go.RowKit Go.BigFrame

/-- Four digits that may be written. -/
def Out4 (w : World) (g : Nat) (o0 o1 o2 o3 : Int) : Prop := (w.cell? ⟨g, 0, none⟩ = some (.int .u64 o0) ∧ w.cell? ⟨g, 1, none⟩ = some (.int .u64 o1) ∧ w.cell? ⟨g, 2, none⟩ = some (.int .u64 o2) ∧ w.cell? ⟨g, 3, none⟩ = some (.int .u64 o3)) ∧ w.frozen? ⟨g, 0, none⟩ = false ∧ w.frozen? ⟨g, 1, none⟩ = false ∧ w.frozen? ⟨g, 2, none⟩ = false ∧ w.frozen? ⟨g, 3, none⟩ = false
theorem Out4.kept {w1 w2 : World} {g : Nat} {o0 o1 o2 o3 : Int} (h : Out4 w1 g o0 o1 o2 o3) (k : Kept w1 w2) : Out4 w2 g o0 o1 o2 o3 := by
  obtain ⟨⟨a, b, c, d⟩, e, f, i, j⟩ := h
  exact ⟨⟨k.read a, k.read b, k.read c, k.read d⟩, k.thaw e, k.thaw f, k.thaw i, k.thaw j⟩

theorem Kept.all4 {w1 w2 : World} {p0 p1 p2 p3 : Addr} {v0 v1 v2 v3 : Value} (k : Kept w1 w2) (h : Hid (w1.cell? p0 = some v0 ∧ w1.cell? p1 = some v1 ∧ w1.cell? p2 = some v2 ∧ w1.cell? p3 = some v3)) : w2.cell? p0 = some v0 ∧ w2.cell? p1 = some v1 ∧ w2.cell? p2 = some v2 ∧ w2.cell? p3 = some v3 := by
  obtain ⟨h0, h1, h2, h3⟩ := h.out
  exact ⟨k.read h0, k.read h1, k.read h2, k.read h3⟩

end Go.Proofs.YtdbikeehoildlaaDoor
namespace Go.Proofs.YtdbikeehoildlaaDoor
open Go.RowKit Go.BigFrame

section
variable {b1 b2 b : Bool} {xh xl yh yl h l : Int}
theorem dig_b {x : Int} (hx : Word x) : 0 ≤ x % 4294967296 ∧ x % 4294967296 < 4294967296 ∧ 0 ≤ x / 4294967296 ∧ x / 4294967296 < 4294967296 := by unfold Word at hx; omega
theorem refLess_sz (h1 : Word xh) (h2 : Word xl) (h3 : Word yh) (h4 : Word yl) (w : World) :
    Calls Tryd.prog 55 #[.agg #[.int .u64 (xl % 4294967296), .int .u64 (xl / 4294967296), .int .u64 (xh % 4294967296), .int .u64 (xh / 4294967296)], .agg #[.int .u64 (yl % 4294967296), .int .u64 (yl / 4294967296), .int .u64 (yh % 4294967296), .int .u64 (yh / 4294967296)]] w fun e w' => e = .returned (.bool (decide (sz xh xl < sz yh yl))) ∧ Kept w w' := by
  have a := dig_b h1; have b := dig_b h2; have c := dig_b h3; have d := dig_b h4
  have := refLess (xl % 4294967296) (xl / 4294967296) (xh % 4294967296) (xh / 4294967296) (yl % 4294967296) (yl / 4294967296) (yh % 4294967296) (yh / 4294967296) w (by omega) (by omega) (by omega) (by omega) (by omega) (by omega) (by omega) (by omega) (by omega) (by omega) (by omega) (by omega)
  rw [show decide (sz xh xl < sz yh yl) = decide ((xh / 4294967296 * 79228162514264337593543950336 + xh % 4294967296 * 18446744073709551616 + xl / 4294967296 * 4294967296 + xl % 4294967296) < (yh / 4294967296 * 79228162514264337593543950336 + yh % 4294967296 * 18446744073709551616 + yl / 4294967296 * 4294967296 + yl % 4294967296)) by rw [decide_eq_decide]; unfold sz; omega]
  exact this
end
end Go.Proofs.YtdbikeehoildlaaDoor
namespace Go.Proofs.YtdbikeehoildlaaDoor
open Go.RowKit Go.BigFrame

section
variable {b1 b2 b : Bool} {xh xl yh yl h l : Int}
end

theorem kw4 {W : World} {p0 p1 p2 p3 : Addr} {v0 v1 v2 v3 : Value} (h : Hid (W.cell? p0 = some v0 ∧ W.cell? p1 = some v1 ∧ W.cell? p2 = some v2 ∧ W.cell? p3 = some v3)) :
    (∀ p : KW W, p.w.cell? p0 = some v0) ∧ (∀ p : KW W, p.w.cell? p1 = some v1) ∧ (∀ p : KW W, p.w.cell? p2 = some v2) ∧ (∀ p : KW W, p.w.cell? p3 = some v3) :=
  ⟨fun p => p.k.read h.out.1, fun p => p.k.read h.out.2.1, fun p => p.k.read h.out.2.2.1, fun p => p.k.read h.out.2.2.2⟩
set_option maxHeartbeats 1600000 in
theorem refCmp_t_f (xb yb : Bool) (xh xl yh yl a0 a1 a2 a3 b0 b1 b2 b3 : Int) (w : World) (D1 : ∀ w, Calls Tryd.prog 53 #[.agg #[.bool xb, .int .u64 xh, .int .u64 xl]] w fun e w' => e = .returned (.agg #[.int .u64 a0, .int .u64 a1, .int .u64 a2, .int .u64 a3]) ∧ Kept w w') (D2 : ∀ w, Calls Tryd.prog 53 #[.agg #[.bool yb, .int .u64 yh, .int .u64 yl]] w fun e w' => e = .returned (.agg #[.int .u64 b0, .int .u64 b1, .int .u64 b2, .int .u64 b3]) ∧ Kept w w') (B1 : ∀ w, Calls Tryd.prog 54 #[.agg #[.bool xb, .int .u64 xh, .int .u64 xl]] w fun e w' => e = .returned (.bool true) ∧ Kept w w') (B2 : ∀ w, Calls Tryd.prog 54 #[.agg #[.bool yb, .int .u64 yh, .int .u64 yl]] w fun e w' => e = .returned (.bool false) ∧ Kept w w') :
    Calls Tryd.prog 35 #[.agg #[.bool xb, .int .u64 xh, .int .u64 xl], .agg #[.bool yb, .int .u64 yh, .int .u64 yl]] w fun e w' => e = .returned (.int .i64 (-1)) ∧ Kept w w' := by
  have D1' := Lib.hid D1
  have D2' := Lib.hid D2
  have B1' := Lib.hid B1
  have B2' := Lib.hid B2
  clear D1 D2 B1 B2
  go_enter Tryd.func35, Tryd.ntmps35
  go_upto_region 1 with fail
  generalize hW : (World.alloc (World.alloc w (.cells #[.bool xb, .int .u64 xh, .int .u64 xl] 61)) (.cells #[.bool yb, .int .u64 yh, .int .u64 yl] 61)) = W0
  have base := Lib.hid (show W0.cell? ⟨w.heap.size, 0, none⟩ = some (.bool xb) ∧ W0.cell? ⟨w.heap.size, 1, none⟩ = some (.int .u64 xh) ∧ W0.cell? ⟨w.heap.size, 2, none⟩ = some (.int .u64 xl) ∧ W0.cell? ⟨w.heap.size + 1, 0, none⟩ = some (.bool yb) ∧ W0.cell? ⟨w.heap.size + 1, 1, none⟩ = some (.int .u64 yh) ∧ W0.cell? ⟨w.heap.size + 1, 2, none⟩ = some (.int .u64 yl) from by subst hW; simp [go_sem])
  have kw : Kept w W0 := by subst hW; exact (by (repeat (first | with_reducible exact Kept.refl _ | with_reducible apply Kept.drew | with_reducible apply Kept.alloc | ((with_reducible apply Kept.set); focus (simp <;> omega)) | ((with_reducible apply Kept.via); focus with_reducible assumption))))
  have zw : w.heap.size + 2 ≤ W0.heap.size := by subst hW; simp
  clear hW
  obtain ⟨x0, x1, x2, y0, y1, y2⟩ := Kept.all6 (Kept.refl _) base
  have H_x := Lib.hid (And.intro x0 (And.intro x1 x2))
  have H_y := Lib.hid (And.intro y0 (And.intro y1 y2))
  clear base x0 x1 x2 y0 y1 y2
  obtain ⟨c_x0, c_x1, c_x2⟩ := Kept.all3 (show Kept W0 W0 from (by (repeat (first | with_reducible exact Kept.refl _ | with_reducible apply Kept.drew | with_reducible apply Kept.alloc | ((with_reducible apply Kept.set); focus (simp <;> omega)) | ((with_reducible apply Kept.via); focus with_reducible assumption))))) H_x
  go_wp2_with fail
  refine (D1'.out _).mono ?_
  rintro e w1 ⟨rfl, k1⟩
  clear c_x0 c_x1 c_x2
  go_upto_region 2 with fail
  generalize hW : World.alloc w1 (.cells #[.int .u64 a0, .int .u64 a1, .int .u64 a2, .int .u64 a3] 84) = W_a
  have K_a : Kept w1 W_a := by subst hW; exact (Kept.refl _).alloc _ _
  have H_a := Lib.hid (show W_a.cell? ⟨w1.heap.size, 0, none⟩ = some (.int .u64 a0) ∧ W_a.cell? ⟨w1.heap.size, 1, none⟩ = some (.int .u64 a1) ∧ W_a.cell? ⟨w1.heap.size, 2, none⟩ = some (.int .u64 a2) ∧ W_a.cell? ⟨w1.heap.size, 3, none⟩ = some (.int .u64 a3) from by subst hW; simp [go_sem])
  clear hW
  generalize w1.heap.size = g_a at *
  obtain ⟨c_y0, c_y1, c_y2⟩ := Kept.all3 (show Kept W0 W_a from (by (repeat (first | with_reducible exact Kept.refl _ | with_reducible apply Kept.drew | with_reducible apply Kept.alloc | ((with_reducible apply Kept.set); focus (simp <;> omega)) | ((with_reducible apply Kept.via); focus with_reducible assumption))))) H_y
  go_wp2_with fail
  refine (D2'.out _).mono ?_
  rintro e w2 ⟨rfl, k2⟩
  clear c_y0 c_y1 c_y2
  go_upto_region 3 with fail
  generalize hW : World.alloc w2 (.cells #[.int .u64 b0, .int .u64 b1, .int .u64 b2, .int .u64 b3] 84) = W_b
  have K_b : Kept w2 W_b := by subst hW; exact (Kept.refl _).alloc _ _
  have H_b := Lib.hid (show W_b.cell? ⟨w2.heap.size, 0, none⟩ = some (.int .u64 b0) ∧ W_b.cell? ⟨w2.heap.size, 1, none⟩ = some (.int .u64 b1) ∧ W_b.cell? ⟨w2.heap.size, 2, none⟩ = some (.int .u64 b2) ∧ W_b.cell? ⟨w2.heap.size, 3, none⟩ = some (.int .u64 b3) from by subst hW; simp [go_sem])
  clear hW
  generalize w2.heap.size = g_b at *
  have B1_x := Lib.hid (Kept.all3 (show Kept W0 W_b from (by (repeat (first | with_reducible exact Kept.refl _ | with_reducible apply Kept.drew | with_reducible apply Kept.alloc | ((with_reducible apply Kept.set); focus (simp <;> omega)) | ((with_reducible apply Kept.via); focus with_reducible assumption))))) H_x)
  have B1_y := Lib.hid (Kept.all3 (show Kept W0 W_b from (by (repeat (first | with_reducible exact Kept.refl _ | with_reducible apply Kept.drew | with_reducible apply Kept.alloc | ((with_reducible apply Kept.set); focus (simp <;> omega)) | ((with_reducible apply Kept.via); focus with_reducible assumption))))) H_y)
  obtain ⟨q1_x0, q1_x1, q1_x2⟩ := kw3 B1_x
  obtain ⟨q1_y0, q1_y1, q1_y2⟩ := kw3 B1_y
  clear B1_x B1_y
  refine wp_region_kept (by kernel_rfl) (by as_aux_lemma => kernel_rfl) ?_
  repeat (go_big_quiet_step (first | (with_reducible exact kept_of (B1'.out _)) | (with_reducible exact kept_of (B2'.out _))))
  refine wpQuiet_nil ?_
  intro wq1 hw'
  have kq1 : Kept W_b wq1 := by obtain ⟨p, rfl⟩ := hw'; exact p.k
  clear hw'
  clear q1_x0 q1_x1 q1_x2 q1_y0 q1_y1 q1_y2
  obtain ⟨c_x0, c_x1, c_x2⟩ := Kept.all3 (show Kept W0 wq1 from (by (repeat (first | with_reducible exact Kept.refl _ | with_reducible apply Kept.drew | with_reducible apply Kept.alloc | ((with_reducible apply Kept.set); focus (simp <;> omega)) | ((with_reducible apply Kept.via); focus with_reducible assumption))))) H_x
  go_wp2_with fail
  refine (B1'.out _).mono ?_
  rintro e w3 ⟨rfl, k3⟩
  clear c_x0 c_x1 c_x2
  go_wp2
  go_ret
  exact ⟨rfl, (by (repeat (first | with_reducible exact Kept.refl _ | with_reducible apply Kept.drew | with_reducible apply Kept.alloc | ((with_reducible apply Kept.set); focus (simp <;> omega)) | ((with_reducible apply Kept.via); focus with_reducible assumption))))⟩
set_option maxHeartbeats 1600000 in
theorem refCmp_ttf (xb yb : Bool) (xh xl yh yl a0 a1 a2 a3 b0 b1 b2 b3 : Int) (w : World) (D1 : ∀ w, Calls Tryd.prog 53 #[.agg #[.bool xb, .int .u64 xh, .int .u64 xl]] w fun e w' => e = .returned (.agg #[.int .u64 a0, .int .u64 a1, .int .u64 a2, .int .u64 a3]) ∧ Kept w w') (D2 : ∀ w, Calls Tryd.prog 53 #[.agg #[.bool yb, .int .u64 yh, .int .u64 yl]] w fun e w' => e = .returned (.agg #[.int .u64 b0, .int .u64 b1, .int .u64 b2, .int .u64 b3]) ∧ Kept w w') (B1 : ∀ w, Calls Tryd.prog 54 #[.agg #[.bool xb, .int .u64 xh, .int .u64 xl]] w fun e w' => e = .returned (.bool true) ∧ Kept w w') (B2 : ∀ w, Calls Tryd.prog 54 #[.agg #[.bool yb, .int .u64 yh, .int .u64 yl]] w fun e w' => e = .returned (.bool true) ∧ Kept w w') (C1 : ∀ w, Calls Tryd.prog 55 #[.agg #[.int .u64 a0, .int .u64 a1, .int .u64 a2, .int .u64 a3], .agg #[.int .u64 b0, .int .u64 b1, .int .u64 b2, .int .u64 b3]] w fun e w' => e = .returned (.bool true) ∧ Kept w w') (C2 : ∀ w, Calls Tryd.prog 55 #[.agg #[.int .u64 b0, .int .u64 b1, .int .u64 b2, .int .u64 b3], .agg #[.int .u64 a0, .int .u64 a1, .int .u64 a2, .int .u64 a3]] w fun e w' => e = .returned (.bool false) ∧ Kept w w') :
    Calls Tryd.prog 35 #[.agg #[.bool xb, .int .u64 xh, .int .u64 xl], .agg #[.bool yb, .int .u64 yh, .int .u64 yl]] w fun e w' => e = .returned (.int .i64 1) ∧ Kept w w' := by
  have D1' := Lib.hid D1
  have D2' := Lib.hid D2
  have B1' := Lib.hid B1
  have B2' := Lib.hid B2
  have C1' := Lib.hid C1
  have C2' := Lib.hid C2
  clear D1 D2 B1 B2 C1 C2
  go_enter Tryd.func35, Tryd.ntmps35
  go_upto_region 1 with fail
  generalize hW : (World.alloc (World.alloc w (.cells #[.bool xb, .int .u64 xh, .int .u64 xl] 61)) (.cells #[.bool yb, .int .u64 yh, .int .u64 yl] 61)) = W0
  have base := Lib.hid (show W0.cell? ⟨w.heap.size, 0, none⟩ = some (.bool xb) ∧ W0.cell? ⟨w.heap.size, 1, none⟩ = some (.int .u64 xh) ∧ W0.cell? ⟨w.heap.size, 2, none⟩ = some (.int .u64 xl) ∧ W0.cell? ⟨w.heap.size + 1, 0, none⟩ = some (.bool yb) ∧ W0.cell? ⟨w.heap.size + 1, 1, none⟩ = some (.int .u64 yh) ∧ W0.cell? ⟨w.heap.size + 1, 2, none⟩ = some (.int .u64 yl) from by subst hW; simp [go_sem])
  have kw : Kept w W0 := by subst hW; exact (by (repeat (first | with_reducible exact Kept.refl _ | with_reducible apply Kept.drew | with_reducible apply Kept.alloc | ((with_reducible apply Kept.set); focus (simp <;> omega)) | ((with_reducible apply Kept.via); focus with_reducible assumption))))
  have zw : w.heap.size + 2 ≤ W0.heap.size := by subst hW; simp
  clear hW
  obtain ⟨x0, x1, x2, y0, y1, y2⟩ := Kept.all6 (Kept.refl _) base
  have H_x := Lib.hid (And.intro x0 (And.intro x1 x2))
  have H_y := Lib.hid (And.intro y0 (And.intro y1 y2))
  clear base x0 x1 x2 y0 y1 y2
  obtain ⟨c_x0, c_x1, c_x2⟩ := Kept.all3 (show Kept W0 W0 from (by (repeat (first | with_reducible exact Kept.refl _ | with_reducible apply Kept.drew | with_reducible apply Kept.alloc | ((with_reducible apply Kept.set); focus (simp <;> omega)) | ((with_reducible apply Kept.via); focus with_reducible assumption))))) H_x
  go_wp2_with fail
  refine (D1'.out _).mono ?_
  rintro e w1 ⟨rfl, k1⟩
  clear c_x0 c_x1 c_x2
  go_upto_region 2 with fail
  generalize hW : World.alloc w1 (.cells #[.int .u64 a0, .int .u64 a1, .int .u64 a2, .int .u64 a3] 84) = W_a
  have K_a : Kept w1 W_a := by subst hW; exact (Kept.refl _).alloc _ _
  have H_a := Lib.hid (show W_a.cell? ⟨w1.heap.size, 0, none⟩ = some (.int .u64 a0) ∧ W_a.cell? ⟨w1.heap.size, 1, none⟩ = some (.int .u64 a1) ∧ W_a.cell? ⟨w1.heap.size, 2, none⟩ = some (.int .u64 a2) ∧ W_a.cell? ⟨w1.heap.size, 3, none⟩ = some (.int .u64 a3) from by subst hW; simp [go_sem])
  clear hW
  generalize w1.heap.size = g_a at *
  obtain ⟨c_y0, c_y1, c_y2⟩ := Kept.all3 (show Kept W0 W_a from (by (repeat (first | with_reducible exact Kept.refl _ | with_reducible apply Kept.drew | with_reducible apply Kept.alloc | ((with_reducible apply Kept.set); focus (simp <;> omega)) | ((with_reducible apply Kept.via); focus with_reducible assumption))))) H_y
  go_wp2_with fail
  refine (D2'.out _).mono ?_
  rintro e w2 ⟨rfl, k2⟩
  clear c_y0 c_y1 c_y2
  go_upto_region 3 with fail
  generalize hW : World.alloc w2 (.cells #[.int .u64 b0, .int .u64 b1, .int .u64 b2, .int .u64 b3] 84) = W_b
  have K_b : Kept w2 W_b := by subst hW; exact (Kept.refl _).alloc _ _
  have H_b := Lib.hid (show W_b.cell? ⟨w2.heap.size, 0, none⟩ = some (.int .u64 b0) ∧ W_b.cell? ⟨w2.heap.size, 1, none⟩ = some (.int .u64 b1) ∧ W_b.cell? ⟨w2.heap.size, 2, none⟩ = some (.int .u64 b2) ∧ W_b.cell? ⟨w2.heap.size, 3, none⟩ = some (.int .u64 b3) from by subst hW; simp [go_sem])
  clear hW
  generalize w2.heap.size = g_b at *
  have B1_x := Lib.hid (Kept.all3 (show Kept W0 W_b from (by (repeat (first | with_reducible exact Kept.refl _ | with_reducible apply Kept.drew | with_reducible apply Kept.alloc | ((with_reducible apply Kept.set); focus (simp <;> omega)) | ((with_reducible apply Kept.via); focus with_reducible assumption))))) H_x)
  have B1_y := Lib.hid (Kept.all3 (show Kept W0 W_b from (by (repeat (first | with_reducible exact Kept.refl _ | with_reducible apply Kept.drew | with_reducible apply Kept.alloc | ((with_reducible apply Kept.set); focus (simp <;> omega)) | ((with_reducible apply Kept.via); focus with_reducible assumption))))) H_y)
  obtain ⟨q1_x0, q1_x1, q1_x2⟩ := kw3 B1_x
  obtain ⟨q1_y0, q1_y1, q1_y2⟩ := kw3 B1_y
  clear B1_x B1_y
  refine wp_region_kept (by kernel_rfl) (by as_aux_lemma => kernel_rfl) ?_
  repeat (go_big_quiet_step (first | (with_reducible exact kept_of (B1'.out _)) | (with_reducible exact kept_of (B2'.out _))))
  refine wpQuiet_nil ?_
  intro wq1 hw'
  have kq1 : Kept W_b wq1 := by obtain ⟨p, rfl⟩ := hw'; exact p.k
  clear hw'
  clear q1_x0 q1_x1 q1_x2 q1_y0 q1_y1 q1_y2
  go_upto_region 7 with fail
  have B2_x := Lib.hid (Kept.all3 (show Kept W0 wq1 from (by (repeat (first | with_reducible exact Kept.refl _ | with_reducible apply Kept.drew | with_reducible apply Kept.alloc | ((with_reducible apply Kept.set); focus (simp <;> omega)) | ((with_reducible apply Kept.via); focus with_reducible assumption))))) H_x)
  have B2_a := Lib.hid (Kept.all4 (show Kept W_a wq1 from (by (repeat (first | with_reducible exact Kept.refl _ | with_reducible apply Kept.drew | with_reducible apply Kept.alloc | ((with_reducible apply Kept.set); focus (simp <;> omega)) | ((with_reducible apply Kept.via); focus with_reducible assumption))))) H_a)
  have B2_b := Lib.hid (Kept.all4 (show Kept W_b wq1 from (by (repeat (first | with_reducible exact Kept.refl _ | with_reducible apply Kept.drew | with_reducible apply Kept.alloc | ((with_reducible apply Kept.set); focus (simp <;> omega)) | ((with_reducible apply Kept.via); focus with_reducible assumption))))) H_b)
  have kall2 : Kept w wq1 := (by (repeat (first | with_reducible exact Kept.refl _ | with_reducible apply Kept.drew | with_reducible apply Kept.alloc | ((with_reducible apply Kept.set); focus (simp <;> omega)) | ((with_reducible apply Kept.via); focus with_reducible assumption))))
  obtain ⟨q2_x0, q2_x1, q2_x2⟩ := kw3 B2_x
  obtain ⟨q2_a0, q2_a1, q2_a2, q2_a3⟩ := kw4 B2_a
  obtain ⟨q2_b0, q2_b1, q2_b2, q2_b3⟩ := kw4 B2_b
  clear B2_x B2_a B2_b
  refine wp_region_kept (by kernel_rfl) (by as_aux_lemma => kernel_rfl) ?_
  repeat (go_big_quiet_step (first | (with_reducible exact kept_of (C1'.out _)) | (with_reducible exact kept_of (C2'.out _)) | (with_reducible exact kept_of (B1'.out _))))
  refine wpQuiet_nil ?_
  intro wq2 hw'
  have kq2 : Kept wq1 wq2 := by obtain ⟨p, rfl⟩ := hw'; exact p.k
  clear hw'
  go_wp2
  go_ret
  exact ⟨rfl, (by (repeat (first | with_reducible exact Kept.refl _ | with_reducible apply Kept.drew | with_reducible apply Kept.alloc | ((with_reducible apply Kept.set); focus (simp <;> omega)) | ((with_reducible apply Kept.via); focus with_reducible assumption))))⟩
set_option maxHeartbeats 1600000 in
theorem refCmp_tft (xb yb : Bool) (xh xl yh yl a0 a1 a2 a3 b0 b1 b2 b3 : Int) (w : World) (D1 : ∀ w, Calls Tryd.prog 53 #[.agg #[.bool xb, .int .u64 xh, .int .u64 xl]] w fun e w' => e = .returned (.agg #[.int .u64 a0, .int .u64 a1, .int .u64 a2, .int .u64 a3]) ∧ Kept w w') (D2 : ∀ w, Calls Tryd.prog 53 #[.agg #[.bool yb, .int .u64 yh, .int .u64 yl]] w fun e w' => e = .returned (.agg #[.int .u64 b0, .int .u64 b1, .int .u64 b2, .int .u64 b3]) ∧ Kept w w') (B1 : ∀ w, Calls Tryd.prog 54 #[.agg #[.bool xb, .int .u64 xh, .int .u64 xl]] w fun e w' => e = .returned (.bool true) ∧ Kept w w') (B2 : ∀ w, Calls Tryd.prog 54 #[.agg #[.bool yb, .int .u64 yh, .int .u64 yl]] w fun e w' => e = .returned (.bool true) ∧ Kept w w') (C1 : ∀ w, Calls Tryd.prog 55 #[.agg #[.int .u64 a0, .int .u64 a1, .int .u64 a2, .int .u64 a3], .agg #[.int .u64 b0, .int .u64 b1, .int .u64 b2, .int .u64 b3]] w fun e w' => e = .returned (.bool false) ∧ Kept w w') (C2 : ∀ w, Calls Tryd.prog 55 #[.agg #[.int .u64 b0, .int .u64 b1, .int .u64 b2, .int .u64 b3], .agg #[.int .u64 a0, .int .u64 a1, .int .u64 a2, .int .u64 a3]] w fun e w' => e = .returned (.bool true) ∧ Kept w w') :
    Calls Tryd.prog 35 #[.agg #[.bool xb, .int .u64 xh, .int .u64 xl], .agg #[.bool yb, .int .u64 yh, .int .u64 yl]] w fun e w' => e = .returned (.int .i64 (-1)) ∧ Kept w w' := by
  have D1' := Lib.hid D1
  have D2' := Lib.hid D2
  have B1' := Lib.hid B1
  have B2' := Lib.hid B2
  have C1' := Lib.hid C1
  have C2' := Lib.hid C2
  clear D1 D2 B1 B2 C1 C2
  go_enter Tryd.func35, Tryd.ntmps35
  go_upto_region 1 with fail
  generalize hW : (World.alloc (World.alloc w (.cells #[.bool xb, .int .u64 xh, .int .u64 xl] 61)) (.cells #[.bool yb, .int .u64 yh, .int .u64 yl] 61)) = W0
  have base := Lib.hid (show W0.cell? ⟨w.heap.size, 0, none⟩ = some (.bool xb) ∧ W0.cell? ⟨w.heap.size, 1, none⟩ = some (.int .u64 xh) ∧ W0.cell? ⟨w.heap.size, 2, none⟩ = some (.int .u64 xl) ∧ W0.cell? ⟨w.heap.size + 1, 0, none⟩ = some (.bool yb) ∧ W0.cell? ⟨w.heap.size + 1, 1, none⟩ = some (.int .u64 yh) ∧ W0.cell? ⟨w.heap.size + 1, 2, none⟩ = some (.int .u64 yl) from by subst hW; simp [go_sem])
  have kw : Kept w W0 := by subst hW; exact (by (repeat (first | with_reducible exact Kept.refl _ | with_reducible apply Kept.drew | with_reducible apply Kept.alloc | ((with_reducible apply Kept.set); focus (simp <;> omega)) | ((with_reducible apply Kept.via); focus with_reducible assumption))))
  have zw : w.heap.size + 2 ≤ W0.heap.size := by subst hW; simp
  clear hW
  obtain ⟨x0, x1, x2, y0, y1, y2⟩ := Kept.all6 (Kept.refl _) base
  have H_x := Lib.hid (And.intro x0 (And.intro x1 x2))
  have H_y := Lib.hid (And.intro y0 (And.intro y1 y2))
  clear base x0 x1 x2 y0 y1 y2
  obtain ⟨c_x0, c_x1, c_x2⟩ := Kept.all3 (show Kept W0 W0 from (by (repeat (first | with_reducible exact Kept.refl _ | with_reducible apply Kept.drew | with_reducible apply Kept.alloc | ((with_reducible apply Kept.set); focus (simp <;> omega)) | ((with_reducible apply Kept.via); focus with_reducible assumption))))) H_x
  go_wp2_with fail
  refine (D1'.out _).mono ?_
  rintro e w1 ⟨rfl, k1⟩
  clear c_x0 c_x1 c_x2
  go_upto_region 2 with fail
  generalize hW : World.alloc w1 (.cells #[.int .u64 a0, .int .u64 a1, .int .u64 a2, .int .u64 a3] 84) = W_a
  have K_a : Kept w1 W_a := by subst hW; exact (Kept.refl _).alloc _ _
  have H_a := Lib.hid (show W_a.cell? ⟨w1.heap.size, 0, none⟩ = some (.int .u64 a0) ∧ W_a.cell? ⟨w1.heap.size, 1, none⟩ = some (.int .u64 a1) ∧ W_a.cell? ⟨w1.heap.size, 2, none⟩ = some (.int .u64 a2) ∧ W_a.cell? ⟨w1.heap.size, 3, none⟩ = some (.int .u64 a3) from by subst hW; simp [go_sem])
  clear hW
  generalize w1.heap.size = g_a at *
  obtain ⟨c_y0, c_y1, c_y2⟩ := Kept.all3 (show Kept W0 W_a from (by (repeat (first | with_reducible exact Kept.refl _ | with_reducible apply Kept.drew | with_reducible apply Kept.alloc | ((with_reducible apply Kept.set); focus (simp <;> omega)) | ((with_reducible apply Kept.via); focus with_reducible assumption))))) H_y
  go_wp2_with fail
  refine (D2'.out _).mono ?_
  rintro e w2 ⟨rfl, k2⟩
  clear c_y0 c_y1 c_y2
  go_upto_region 3 with fail
  generalize hW : World.alloc w2 (.cells #[.int .u64 b0, .int .u64 b1, .int .u64 b2, .int .u64 b3] 84) = W_b
  have K_b : Kept w2 W_b := by subst hW; exact (Kept.refl _).alloc _ _
  have H_b := Lib.hid (show W_b.cell? ⟨w2.heap.size, 0, none⟩ = some (.int .u64 b0) ∧ W_b.cell? ⟨w2.heap.size, 1, none⟩ = some (.int .u64 b1) ∧ W_b.cell? ⟨w2.heap.size, 2, none⟩ = some (.int .u64 b2) ∧ W_b.cell? ⟨w2.heap.size, 3, none⟩ = some (.int .u64 b3) from by subst hW; simp [go_sem])
  clear hW
  generalize w2.heap.size = g_b at *
  have B1_x := Lib.hid (Kept.all3 (show Kept W0 W_b from (by (repeat (first | with_reducible exact Kept.refl _ | with_reducible apply Kept.drew | with_reducible apply Kept.alloc | ((with_reducible apply Kept.set); focus (simp <;> omega)) | ((with_reducible apply Kept.via); focus with_reducible assumption))))) H_x)
  have B1_y := Lib.hid (Kept.all3 (show Kept W0 W_b from (by (repeat (first | with_reducible exact Kept.refl _ | with_reducible apply Kept.drew | with_reducible apply Kept.alloc | ((with_reducible apply Kept.set); focus (simp <;> omega)) | ((with_reducible apply Kept.via); focus with_reducible assumption))))) H_y)
  obtain ⟨q1_x0, q1_x1, q1_x2⟩ := kw3 B1_x
  obtain ⟨q1_y0, q1_y1, q1_y2⟩ := kw3 B1_y
  clear B1_x B1_y
  refine wp_region_kept (by kernel_rfl) (by as_aux_lemma => kernel_rfl) ?_
  repeat (go_big_quiet_step (first | (with_reducible exact kept_of (B1'.out _)) | (with_reducible exact kept_of (B2'.out _))))
  refine wpQuiet_nil ?_
  intro wq1 hw'
  have kq1 : Kept W_b wq1 := by obtain ⟨p, rfl⟩ := hw'; exact p.k
  clear hw'
  clear q1_x0 q1_x1 q1_x2 q1_y0 q1_y1 q1_y2
  go_upto_region 7 with fail
  have B2_x := Lib.hid (Kept.all3 (show Kept W0 wq1 from (by (repeat (first | with_reducible exact Kept.refl _ | with_reducible apply Kept.drew | with_reducible apply Kept.alloc | ((with_reducible apply Kept.set); focus (simp <;> omega)) | ((with_reducible apply Kept.via); focus with_reducible assumption))))) H_x)
  have B2_a := Lib.hid (Kept.all4 (show Kept W_a wq1 from (by (repeat (first | with_reducible exact Kept.refl _ | with_reducible apply Kept.drew | with_reducible apply Kept.alloc | ((with_reducible apply Kept.set); focus (simp <;> omega)) | ((with_reducible apply Kept.via); focus with_reducible assumption))))) H_a)
  have B2_b := Lib.hid (Kept.all4 (show Kept W_b wq1 from (by (repeat (first | with_reducible exact Kept.refl _ | with_reducible apply Kept.drew | with_reducible apply Kept.alloc | ((with_reducible apply Kept.set); focus (simp <;> omega)) | ((with_reducible apply Kept.via); focus with_reducible assumption))))) H_b)
  obtain ⟨q2_x0, q2_x1, q2_x2⟩ := kw3 B2_x
  obtain ⟨q2_a0, q2_a1, q2_a2, q2_a3⟩ := kw4 B2_a
  obtain ⟨q2_b0, q2_b1, q2_b2, q2_b3⟩ := kw4 B2_b
  clear B2_x B2_a B2_b
  refine wp_region_kept (by kernel_rfl) (by as_aux_lemma => kernel_rfl) ?_
  repeat (go_big_quiet_step (first | (with_reducible exact kept_of (C1'.out _)) | (with_reducible exact kept_of (C2'.out _)) | (with_reducible exact kept_of (B1'.out _))))
  refine wpQuiet_nil ?_
  intro wq2 hw'
  have kq2 : Kept wq1 wq2 := by obtain ⟨p, rfl⟩ := hw'; exact p.k
  clear hw'
  clear q2_x0 q2_x1 q2_x2 q2_a0 q2_a1 q2_a2 q2_a3 q2_b0 q2_b1 q2_b2 q2_b3
  go_upto_region 9 with fail
  have B3_a := Lib.hid (Kept.all4 (show Kept W_a wq2 from (by (repeat (first | with_reducible exact Kept.refl _ | with_reducible apply Kept.drew | with_reducible apply Kept.alloc | ((with_reducible apply Kept.set); focus (simp <;> omega)) | ((with_reducible apply Kept.via); focus with_reducible assumption))))) H_a)
  have B3_b := Lib.hid (Kept.all4 (show Kept W_b wq2 from (by (repeat (first | with_reducible exact Kept.refl _ | with_reducible apply Kept.drew | with_reducible apply Kept.alloc | ((with_reducible apply Kept.set); focus (simp <;> omega)) | ((with_reducible apply Kept.via); focus with_reducible assumption))))) H_b)
  have kall3 : Kept w wq2 := (by (repeat (first | with_reducible exact Kept.refl _ | with_reducible apply Kept.drew | with_reducible apply Kept.alloc | ((with_reducible apply Kept.set); focus (simp <;> omega)) | ((with_reducible apply Kept.via); focus with_reducible assumption))))
  obtain ⟨q3_a0, q3_a1, q3_a2, q3_a3⟩ := kw4 B3_a
  obtain ⟨q3_b0, q3_b1, q3_b2, q3_b3⟩ := kw4 B3_b
  clear B3_a B3_b
  refine wp_region_kept (by kernel_rfl) (by as_aux_lemma => kernel_rfl) ?_
  repeat (go_big_quiet_step (first | (with_reducible exact kept_of (C1'.out _)) | (with_reducible exact kept_of (C2'.out _))))
  refine wpQuiet_nil ?_
  intro wq3 hw'
  have kq3 : Kept wq2 wq3 := by obtain ⟨p, rfl⟩ := hw'; exact p.k
  clear hw'
  go_wp2
  go_ret
  exact ⟨rfl, (by (repeat (first | with_reducible exact Kept.refl _ | with_reducible apply Kept.drew | with_reducible apply Kept.alloc | ((with_reducible apply Kept.set); focus (simp <;> omega)) | ((with_reducible apply Kept.via); focus with_reducible assumption))))⟩
set_option maxHeartbeats 1600000 in
theorem refCmp_tff (xb yb : Bool) (xh xl yh yl a0 a1 a2 a3 b0 b1 b2 b3 : Int) (w : World) (D1 : ∀ w, Calls Tryd.prog 53 #[.agg #[.bool xb, .int .u64 xh, .int .u64 xl]] w fun e w' => e = .returned (.agg #[.int .u64 a0, .int .u64 a1, .int .u64 a2, .int .u64 a3]) ∧ Kept w w') (D2 : ∀ w, Calls Tryd.prog 53 #[.agg #[.bool yb, .int .u64 yh, .int .u64 yl]] w fun e w' => e = .returned (.agg #[.int .u64 b0, .int .u64 b1, .int .u64 b2, .int .u64 b3]) ∧ Kept w w') (B1 : ∀ w, Calls Tryd.prog 54 #[.agg #[.bool xb, .int .u64 xh, .int .u64 xl]] w fun e w' => e = .returned (.bool true) ∧ Kept w w') (B2 : ∀ w, Calls Tryd.prog 54 #[.agg #[.bool yb, .int .u64 yh, .int .u64 yl]] w fun e w' => e = .returned (.bool true) ∧ Kept w w') (C1 : ∀ w, Calls Tryd.prog 55 #[.agg #[.int .u64 a0, .int .u64 a1, .int .u64 a2, .int .u64 a3], .agg #[.int .u64 b0, .int .u64 b1, .int .u64 b2, .int .u64 b3]] w fun e w' => e = .returned (.bool false) ∧ Kept w w') (C2 : ∀ w, Calls Tryd.prog 55 #[.agg #[.int .u64 b0, .int .u64 b1, .int .u64 b2, .int .u64 b3], .agg #[.int .u64 a0, .int .u64 a1, .int .u64 a2, .int .u64 a3]] w fun e w' => e = .returned (.bool false) ∧ Kept w w') :
    Calls Tryd.prog 35 #[.agg #[.bool xb, .int .u64 xh, .int .u64 xl], .agg #[.bool yb, .int .u64 yh, .int .u64 yl]] w fun e w' => e = .returned (.int .i64 0) ∧ Kept w w' := by
  have D1' := Lib.hid D1
  have D2' := Lib.hid D2
  have B1' := Lib.hid B1
  have B2' := Lib.hid B2
  have C1' := Lib.hid C1
  have C2' := Lib.hid C2
  clear D1 D2 B1 B2 C1 C2
  go_enter Tryd.func35, Tryd.ntmps35
  go_upto_region 1 with fail
  generalize hW : (World.alloc (World.alloc w (.cells #[.bool xb, .int .u64 xh, .int .u64 xl] 61)) (.cells #[.bool yb, .int .u64 yh, .int .u64 yl] 61)) = W0
  have base := Lib.hid (show W0.cell? ⟨w.heap.size, 0, none⟩ = some (.bool xb) ∧ W0.cell? ⟨w.heap.size, 1, none⟩ = some (.int .u64 xh) ∧ W0.cell? ⟨w.heap.size, 2, none⟩ = some (.int .u64 xl) ∧ W0.cell? ⟨w.heap.size + 1, 0, none⟩ = some (.bool yb) ∧ W0.cell? ⟨w.heap.size + 1, 1, none⟩ = some (.int .u64 yh) ∧ W0.cell? ⟨w.heap.size + 1, 2, none⟩ = some (.int .u64 yl) from by subst hW; simp [go_sem])
  have kw : Kept w W0 := by subst hW; exact (by (repeat (first | with_reducible exact Kept.refl _ | with_reducible apply Kept.drew | with_reducible apply Kept.alloc | ((with_reducible apply Kept.set); focus (simp <;> omega)) | ((with_reducible apply Kept.via); focus with_reducible assumption))))
  have zw : w.heap.size + 2 ≤ W0.heap.size := by subst hW; simp
  clear hW
  obtain ⟨x0, x1, x2, y0, y1, y2⟩ := Kept.all6 (Kept.refl _) base
  have H_x := Lib.hid (And.intro x0 (And.intro x1 x2))
  have H_y := Lib.hid (And.intro y0 (And.intro y1 y2))
  clear base x0 x1 x2 y0 y1 y2
  obtain ⟨c_x0, c_x1, c_x2⟩ := Kept.all3 (show Kept W0 W0 from (by (repeat (first | with_reducible exact Kept.refl _ | with_reducible apply Kept.drew | with_reducible apply Kept.alloc | ((with_reducible apply Kept.set); focus (simp <;> omega)) | ((with_reducible apply Kept.via); focus with_reducible assumption))))) H_x
  go_wp2_with fail
  refine (D1'.out _).mono ?_
  rintro e w1 ⟨rfl, k1⟩
  clear c_x0 c_x1 c_x2
  go_upto_region 2 with fail
  generalize hW : World.alloc w1 (.cells #[.int .u64 a0, .int .u64 a1, .int .u64 a2, .int .u64 a3] 84) = W_a
  have K_a : Kept w1 W_a := by subst hW; exact (Kept.refl _).alloc _ _
  have H_a := Lib.hid (show W_a.cell? ⟨w1.heap.size, 0, none⟩ = some (.int .u64 a0) ∧ W_a.cell? ⟨w1.heap.size, 1, none⟩ = some (.int .u64 a1) ∧ W_a.cell? ⟨w1.heap.size, 2, none⟩ = some (.int .u64 a2) ∧ W_a.cell? ⟨w1.heap.size, 3, none⟩ = some (.int .u64 a3) from by subst hW; simp [go_sem])
  clear hW
  generalize w1.heap.size = g_a at *
  obtain ⟨c_y0, c_y1, c_y2⟩ := Kept.all3 (show Kept W0 W_a from (by (repeat (first | with_reducible exact Kept.refl _ | with_reducible apply Kept.drew | with_reducible apply Kept.alloc | ((with_reducible apply Kept.set); focus (simp <;> omega)) | ((with_reducible apply Kept.via); focus with_reducible assumption))))) H_y
  go_wp2_with fail
  refine (D2'.out _).mono ?_
  rintro e w2 ⟨rfl, k2⟩
  clear c_y0 c_y1 c_y2
  go_upto_region 3 with fail
  generalize hW : World.alloc w2 (.cells #[.int .u64 b0, .int .u64 b1, .int .u64 b2, .int .u64 b3] 84) = W_b
  have K_b : Kept w2 W_b := by subst hW; exact (Kept.refl _).alloc _ _
  have H_b := Lib.hid (show W_b.cell? ⟨w2.heap.size, 0, none⟩ = some (.int .u64 b0) ∧ W_b.cell? ⟨w2.heap.size, 1, none⟩ = some (.int .u64 b1) ∧ W_b.cell? ⟨w2.heap.size, 2, none⟩ = some (.int .u64 b2) ∧ W_b.cell? ⟨w2.heap.size, 3, none⟩ = some (.int .u64 b3) from by subst hW; simp [go_sem])
  clear hW
  generalize w2.heap.size = g_b at *
  have B1_x := Lib.hid (Kept.all3 (show Kept W0 W_b from (by (repeat (first | with_reducible exact Kept.refl _ | with_reducible apply Kept.drew | with_reducible apply Kept.alloc | ((with_reducible apply Kept.set); focus (simp <;> omega)) | ((with_reducible apply Kept.via); focus with_reducible assumption))))) H_x)
  have B1_y := Lib.hid (Kept.all3 (show Kept W0 W_b from (by (repeat (first | with_reducible exact Kept.refl _ | with_reducible apply Kept.drew | with_reducible apply Kept.alloc | ((with_reducible apply Kept.set); focus (simp <;> omega)) | ((with_reducible apply Kept.via); focus with_reducible assumption))))) H_y)
  obtain ⟨q1_x0, q1_x1, q1_x2⟩ := kw3 B1_x
  obtain ⟨q1_y0, q1_y1, q1_y2⟩ := kw3 B1_y
  clear B1_x B1_y
  refine wp_region_kept (by kernel_rfl) (by as_aux_lemma => kernel_rfl) ?_
  repeat (go_big_quiet_step (first | (with_reducible exact kept_of (B1'.out _)) | (with_reducible exact kept_of (B2'.out _))))
  refine wpQuiet_nil ?_
  intro wq1 hw'
  have kq1 : Kept W_b wq1 := by obtain ⟨p, rfl⟩ := hw'; exact p.k
  clear hw'
  clear q1_x0 q1_x1 q1_x2 q1_y0 q1_y1 q1_y2
  go_upto_region 7 with fail
  have B2_x := Lib.hid (Kept.all3 (show Kept W0 wq1 from (by (repeat (first | with_reducible exact Kept.refl _ | with_reducible apply Kept.drew | with_reducible apply Kept.alloc | ((with_reducible apply Kept.set); focus (simp <;> omega)) | ((with_reducible apply Kept.via); focus with_reducible assumption))))) H_x)
  have B2_a := Lib.hid (Kept.all4 (show Kept W_a wq1 from (by (repeat (first | with_reducible exact Kept.refl _ | with_reducible apply Kept.drew | with_reducible apply Kept.alloc | ((with_reducible apply Kept.set); focus (simp <;> omega)) | ((with_reducible apply Kept.via); focus with_reducible assumption))))) H_a)
  have B2_b := Lib.hid (Kept.all4 (show Kept W_b wq1 from (by (repeat (first | with_reducible exact Kept.refl _ | with_reducible apply Kept.drew | with_reducible apply Kept.alloc | ((with_reducible apply Kept.set); focus (simp <;> omega)) | ((with_reducible apply Kept.via); focus with_reducible assumption))))) H_b)
  obtain ⟨q2_x0, q2_x1, q2_x2⟩ := kw3 B2_x
  obtain ⟨q2_a0, q2_a1, q2_a2, q2_a3⟩ := kw4 B2_a
  obtain ⟨q2_b0, q2_b1, q2_b2, q2_b3⟩ := kw4 B2_b
  clear B2_x B2_a B2_b
  refine wp_region_kept (by kernel_rfl) (by as_aux_lemma => kernel_rfl) ?_
  repeat (go_big_quiet_step (first | (with_reducible exact kept_of (C1'.out _)) | (with_reducible exact kept_of (C2'.out _)) | (with_reducible exact kept_of (B1'.out _))))
  refine wpQuiet_nil ?_
  intro wq2 hw'
  have kq2 : Kept wq1 wq2 := by obtain ⟨p, rfl⟩ := hw'; exact p.k
  clear hw'
  clear q2_x0 q2_x1 q2_x2 q2_a0 q2_a1 q2_a2 q2_a3 q2_b0 q2_b1 q2_b2 q2_b3
  go_upto_region 9 with fail
  have B3_a := Lib.hid (Kept.all4 (show Kept W_a wq2 from (by (repeat (first | with_reducible exact Kept.refl _ | with_reducible apply Kept.drew | with_reducible apply Kept.alloc | ((with_reducible apply Kept.set); focus (simp <;> omega)) | ((with_reducible apply Kept.via); focus with_reducible assumption))))) H_a)
  have B3_b := Lib.hid (Kept.all4 (show Kept W_b wq2 from (by (repeat (first | with_reducible exact Kept.refl _ | with_reducible apply Kept.drew | with_reducible apply Kept.alloc | ((with_reducible apply Kept.set); focus (simp <;> omega)) | ((with_reducible apply Kept.via); focus with_reducible assumption))))) H_b)
  have kall3 : Kept w wq2 := (by (repeat (first | with_reducible exact Kept.refl _ | with_reducible apply Kept.drew | with_reducible apply Kept.alloc | ((with_reducible apply Kept.set); focus (simp <;> omega)) | ((with_reducible apply Kept.via); focus with_reducible assumption))))
  obtain ⟨q3_a0, q3_a1, q3_a2, q3_a3⟩ := kw4 B3_a
  obtain ⟨q3_b0, q3_b1, q3_b2, q3_b3⟩ := kw4 B3_b
  clear B3_a B3_b
  refine wp_region_kept (by kernel_rfl) (by as_aux_lemma => kernel_rfl) ?_
  repeat (go_big_quiet_step (first | (with_reducible exact kept_of (C1'.out _)) | (with_reducible exact kept_of (C2'.out _))))
  refine wpQuiet_nil ?_
  intro wq3 hw'
  have kq3 : Kept wq2 wq3 := by obtain ⟨p, rfl⟩ := hw'; exact p.k
  clear hw'
  go_wp2
  go_ret
  exact ⟨rfl, (by (repeat (first | with_reducible exact Kept.refl _ | with_reducible apply Kept.drew | with_reducible apply Kept.alloc | ((with_reducible apply Kept.set); focus (simp <;> omega)) | ((with_reducible apply Kept.via); focus with_reducible assumption))))⟩
set_option maxHeartbeats 1600000 in
theorem refCmp_f_t (xb yb : Bool) (xh xl yh yl a0 a1 a2 a3 b0 b1 b2 b3 : Int) (w : World) (D1 : ∀ w, Calls Tryd.prog 53 #[.agg #[.bool xb, .int .u64 xh, .int .u64 xl]] w fun e w' => e = .returned (.agg #[.int .u64 a0, .int .u64 a1, .int .u64 a2, .int .u64 a3]) ∧ Kept w w') (D2 : ∀ w, Calls Tryd.prog 53 #[.agg #[.bool yb, .int .u64 yh, .int .u64 yl]] w fun e w' => e = .returned (.agg #[.int .u64 b0, .int .u64 b1, .int .u64 b2, .int .u64 b3]) ∧ Kept w w') (B1 : ∀ w, Calls Tryd.prog 54 #[.agg #[.bool xb, .int .u64 xh, .int .u64 xl]] w fun e w' => e = .returned (.bool false) ∧ Kept w w') (B2 : ∀ w, Calls Tryd.prog 54 #[.agg #[.bool yb, .int .u64 yh, .int .u64 yl]] w fun e w' => e = .returned (.bool true) ∧ Kept w w') :
    Calls Tryd.prog 35 #[.agg #[.bool xb, .int .u64 xh, .int .u64 xl], .agg #[.bool yb, .int .u64 yh, .int .u64 yl]] w fun e w' => e = .returned (.int .i64 1) ∧ Kept w w' := by
  have D1' := Lib.hid D1
  have D2' := Lib.hid D2
  have B1' := Lib.hid B1
  have B2' := Lib.hid B2
  clear D1 D2 B1 B2
  go_enter Tryd.func35, Tryd.ntmps35
  go_upto_region 1 with fail
  generalize hW : (World.alloc (World.alloc w (.cells #[.bool xb, .int .u64 xh, .int .u64 xl] 61)) (.cells #[.bool yb, .int .u64 yh, .int .u64 yl] 61)) = W0
  have base := Lib.hid (show W0.cell? ⟨w.heap.size, 0, none⟩ = some (.bool xb) ∧ W0.cell? ⟨w.heap.size, 1, none⟩ = some (.int .u64 xh) ∧ W0.cell? ⟨w.heap.size, 2, none⟩ = some (.int .u64 xl) ∧ W0.cell? ⟨w.heap.size + 1, 0, none⟩ = some (.bool yb) ∧ W0.cell? ⟨w.heap.size + 1, 1, none⟩ = some (.int .u64 yh) ∧ W0.cell? ⟨w.heap.size + 1, 2, none⟩ = some (.int .u64 yl) from by subst hW; simp [go_sem])
  have kw : Kept w W0 := by subst hW; exact (by (repeat (first | with_reducible exact Kept.refl _ | with_reducible apply Kept.drew | with_reducible apply Kept.alloc | ((with_reducible apply Kept.set); focus (simp <;> omega)) | ((with_reducible apply Kept.via); focus with_reducible assumption))))
  have zw : w.heap.size + 2 ≤ W0.heap.size := by subst hW; simp
  clear hW
  obtain ⟨x0, x1, x2, y0, y1, y2⟩ := Kept.all6 (Kept.refl _) base
  have H_x := Lib.hid (And.intro x0 (And.intro x1 x2))
  have H_y := Lib.hid (And.intro y0 (And.intro y1 y2))
  clear base x0 x1 x2 y0 y1 y2
  obtain ⟨c_x0, c_x1, c_x2⟩ := Kept.all3 (show Kept W0 W0 from (by (repeat (first | with_reducible exact Kept.refl _ | with_reducible apply Kept.drew | with_reducible apply Kept.alloc | ((with_reducible apply Kept.set); focus (simp <;> omega)) | ((with_reducible apply Kept.via); focus with_reducible assumption))))) H_x
  go_wp2_with fail
  refine (D1'.out _).mono ?_
  rintro e w1 ⟨rfl, k1⟩
  clear c_x0 c_x1 c_x2
  go_upto_region 2 with fail
  generalize hW : World.alloc w1 (.cells #[.int .u64 a0, .int .u64 a1, .int .u64 a2, .int .u64 a3] 84) = W_a
  have K_a : Kept w1 W_a := by subst hW; exact (Kept.refl _).alloc _ _
  have H_a := Lib.hid (show W_a.cell? ⟨w1.heap.size, 0, none⟩ = some (.int .u64 a0) ∧ W_a.cell? ⟨w1.heap.size, 1, none⟩ = some (.int .u64 a1) ∧ W_a.cell? ⟨w1.heap.size, 2, none⟩ = some (.int .u64 a2) ∧ W_a.cell? ⟨w1.heap.size, 3, none⟩ = some (.int .u64 a3) from by subst hW; simp [go_sem])
  clear hW
  generalize w1.heap.size = g_a at *
  obtain ⟨c_y0, c_y1, c_y2⟩ := Kept.all3 (show Kept W0 W_a from (by (repeat (first | with_reducible exact Kept.refl _ | with_reducible apply Kept.drew | with_reducible apply Kept.alloc | ((with_reducible apply Kept.set); focus (simp <;> omega)) | ((with_reducible apply Kept.via); focus with_reducible assumption))))) H_y
  go_wp2_with fail
  refine (D2'.out _).mono ?_
  rintro e w2 ⟨rfl, k2⟩
  clear c_y0 c_y1 c_y2
  go_upto_region 3 with fail
  generalize hW : World.alloc w2 (.cells #[.int .u64 b0, .int .u64 b1, .int .u64 b2, .int .u64 b3] 84) = W_b
  have K_b : Kept w2 W_b := by subst hW; exact (Kept.refl _).alloc _ _
  have H_b := Lib.hid (show W_b.cell? ⟨w2.heap.size, 0, none⟩ = some (.int .u64 b0) ∧ W_b.cell? ⟨w2.heap.size, 1, none⟩ = some (.int .u64 b1) ∧ W_b.cell? ⟨w2.heap.size, 2, none⟩ = some (.int .u64 b2) ∧ W_b.cell? ⟨w2.heap.size, 3, none⟩ = some (.int .u64 b3) from by subst hW; simp [go_sem])
  clear hW
  generalize w2.heap.size = g_b at *
  have B1_x := Lib.hid (Kept.all3 (show Kept W0 W_b from (by (repeat (first | with_reducible exact Kept.refl _ | with_reducible apply Kept.drew | with_reducible apply Kept.alloc | ((with_reducible apply Kept.set); focus (simp <;> omega)) | ((with_reducible apply Kept.via); focus with_reducible assumption))))) H_x)
  have B1_y := Lib.hid (Kept.all3 (show Kept W0 W_b from (by (repeat (first | with_reducible exact Kept.refl _ | with_reducible apply Kept.drew | with_reducible apply Kept.alloc | ((with_reducible apply Kept.set); focus (simp <;> omega)) | ((with_reducible apply Kept.via); focus with_reducible assumption))))) H_y)
  obtain ⟨q1_x0, q1_x1, q1_x2⟩ := kw3 B1_x
  obtain ⟨q1_y0, q1_y1, q1_y2⟩ := kw3 B1_y
  clear B1_x B1_y
  refine wp_region_kept (by kernel_rfl) (by as_aux_lemma => kernel_rfl) ?_
  repeat (go_big_quiet_step (first | (with_reducible exact kept_of (B1'.out _)) | (with_reducible exact kept_of (B2'.out _))))
  refine wpQuiet_nil ?_
  intro wq1 hw'
  have kq1 : Kept W_b wq1 := by obtain ⟨p, rfl⟩ := hw'; exact p.k
  clear hw'
  clear q1_x0 q1_x1 q1_x2 q1_y0 q1_y1 q1_y2
  obtain ⟨c_x0, c_x1, c_x2⟩ := Kept.all3 (show Kept W0 wq1 from (by (repeat (first | with_reducible exact Kept.refl _ | with_reducible apply Kept.drew | with_reducible apply Kept.alloc | ((with_reducible apply Kept.set); focus (simp <;> omega)) | ((with_reducible apply Kept.via); focus with_reducible assumption))))) H_x
  go_wp2_with fail
  refine (B1'.out _).mono ?_
  rintro e w3 ⟨rfl, k3⟩
  clear c_x0 c_x1 c_x2
  go_wp2
  go_ret
  exact ⟨rfl, (by (repeat (first | with_reducible exact Kept.refl _ | with_reducible apply Kept.drew | with_reducible apply Kept.alloc | ((with_reducible apply Kept.set); focus (simp <;> omega)) | ((with_reducible apply Kept.via); focus with_reducible assumption))))⟩
set_option maxHeartbeats 1600000 in
theorem refCmp_ftf (xb yb : Bool) (xh xl yh yl a0 a1 a2 a3 b0 b1 b2 b3 : Int) (w : World) (D1 : ∀ w, Calls Tryd.prog 53 #[.agg #[.bool xb, .int .u64 xh, .int .u64 xl]] w fun e w' => e = .returned (.agg #[.int .u64 a0, .int .u64 a1, .int .u64 a2, .int .u64 a3]) ∧ Kept w w') (D2 : ∀ w, Calls Tryd.prog 53 #[.agg #[.bool yb, .int .u64 yh, .int .u64 yl]] w fun e w' => e = .returned (.agg #[.int .u64 b0, .int .u64 b1, .int .u64 b2, .int .u64 b3]) ∧ Kept w w') (B1 : ∀ w, Calls Tryd.prog 54 #[.agg #[.bool xb, .int .u64 xh, .int .u64 xl]] w fun e w' => e = .returned (.bool false) ∧ Kept w w') (B2 : ∀ w, Calls Tryd.prog 54 #[.agg #[.bool yb, .int .u64 yh, .int .u64 yl]] w fun e w' => e = .returned (.bool false) ∧ Kept w w') (C1 : ∀ w, Calls Tryd.prog 55 #[.agg #[.int .u64 a0, .int .u64 a1, .int .u64 a2, .int .u64 a3], .agg #[.int .u64 b0, .int .u64 b1, .int .u64 b2, .int .u64 b3]] w fun e w' => e = .returned (.bool true) ∧ Kept w w') (C2 : ∀ w, Calls Tryd.prog 55 #[.agg #[.int .u64 b0, .int .u64 b1, .int .u64 b2, .int .u64 b3], .agg #[.int .u64 a0, .int .u64 a1, .int .u64 a2, .int .u64 a3]] w fun e w' => e = .returned (.bool false) ∧ Kept w w') :
    Calls Tryd.prog 35 #[.agg #[.bool xb, .int .u64 xh, .int .u64 xl], .agg #[.bool yb, .int .u64 yh, .int .u64 yl]] w fun e w' => e = .returned (.int .i64 (-1)) ∧ Kept w w' := by
  have D1' := Lib.hid D1
  have D2' := Lib.hid D2
  have B1' := Lib.hid B1
  have B2' := Lib.hid B2
  have C1' := Lib.hid C1
  have C2' := Lib.hid C2
  clear D1 D2 B1 B2 C1 C2
  go_enter Tryd.func35, Tryd.ntmps35
  go_upto_region 1 with fail
  generalize hW : (World.alloc (World.alloc w (.cells #[.bool xb, .int .u64 xh, .int .u64 xl] 61)) (.cells #[.bool yb, .int .u64 yh, .int .u64 yl] 61)) = W0
  have base := Lib.hid (show W0.cell? ⟨w.heap.size, 0, none⟩ = some (.bool xb) ∧ W0.cell? ⟨w.heap.size, 1, none⟩ = some (.int .u64 xh) ∧ W0.cell? ⟨w.heap.size, 2, none⟩ = some (.int .u64 xl) ∧ W0.cell? ⟨w.heap.size + 1, 0, none⟩ = some (.bool yb) ∧ W0.cell? ⟨w.heap.size + 1, 1, none⟩ = some (.int .u64 yh) ∧ W0.cell? ⟨w.heap.size + 1, 2, none⟩ = some (.int .u64 yl) from by subst hW; simp [go_sem])
  have kw : Kept w W0 := by subst hW; exact (by (repeat (first | with_reducible exact Kept.refl _ | with_reducible apply Kept.drew | with_reducible apply Kept.alloc | ((with_reducible apply Kept.set); focus (simp <;> omega)) | ((with_reducible apply Kept.via); focus with_reducible assumption))))
  have zw : w.heap.size + 2 ≤ W0.heap.size := by subst hW; simp
  clear hW
  obtain ⟨x0, x1, x2, y0, y1, y2⟩ := Kept.all6 (Kept.refl _) base
  have H_x := Lib.hid (And.intro x0 (And.intro x1 x2))
  have H_y := Lib.hid (And.intro y0 (And.intro y1 y2))
  clear base x0 x1 x2 y0 y1 y2
  obtain ⟨c_x0, c_x1, c_x2⟩ := Kept.all3 (show Kept W0 W0 from (by (repeat (first | with_reducible exact Kept.refl _ | with_reducible apply Kept.drew | with_reducible apply Kept.alloc | ((with_reducible apply Kept.set); focus (simp <;> omega)) | ((with_reducible apply Kept.via); focus with_reducible assumption))))) H_x
  go_wp2_with fail
  refine (D1'.out _).mono ?_
  rintro e w1 ⟨rfl, k1⟩
  clear c_x0 c_x1 c_x2
  go_upto_region 2 with fail
  generalize hW : World.alloc w1 (.cells #[.int .u64 a0, .int .u64 a1, .int .u64 a2, .int .u64 a3] 84) = W_a
  have K_a : Kept w1 W_a := by subst hW; exact (Kept.refl _).alloc _ _
  have H_a := Lib.hid (show W_a.cell? ⟨w1.heap.size, 0, none⟩ = some (.int .u64 a0) ∧ W_a.cell? ⟨w1.heap.size, 1, none⟩ = some (.int .u64 a1) ∧ W_a.cell? ⟨w1.heap.size, 2, none⟩ = some (.int .u64 a2) ∧ W_a.cell? ⟨w1.heap.size, 3, none⟩ = some (.int .u64 a3) from by subst hW; simp [go_sem])
  clear hW
  generalize w1.heap.size = g_a at *
  obtain ⟨c_y0, c_y1, c_y2⟩ := Kept.all3 (show Kept W0 W_a from (by (repeat (first | with_reducible exact Kept.refl _ | with_reducible apply Kept.drew | with_reducible apply Kept.alloc | ((with_reducible apply Kept.set); focus (simp <;> omega)) | ((with_reducible apply Kept.via); focus with_reducible assumption))))) H_y
  go_wp2_with fail
  refine (D2'.out _).mono ?_
  rintro e w2 ⟨rfl, k2⟩
  clear c_y0 c_y1 c_y2
  go_upto_region 3 with fail
  generalize hW : World.alloc w2 (.cells #[.int .u64 b0, .int .u64 b1, .int .u64 b2, .int .u64 b3] 84) = W_b
  have K_b : Kept w2 W_b := by subst hW; exact (Kept.refl _).alloc _ _
  have H_b := Lib.hid (show W_b.cell? ⟨w2.heap.size, 0, none⟩ = some (.int .u64 b0) ∧ W_b.cell? ⟨w2.heap.size, 1, none⟩ = some (.int .u64 b1) ∧ W_b.cell? ⟨w2.heap.size, 2, none⟩ = some (.int .u64 b2) ∧ W_b.cell? ⟨w2.heap.size, 3, none⟩ = some (.int .u64 b3) from by subst hW; simp [go_sem])
  clear hW
  generalize w2.heap.size = g_b at *
  have B1_x := Lib.hid (Kept.all3 (show Kept W0 W_b from (by (repeat (first | with_reducible exact Kept.refl _ | with_reducible apply Kept.drew | with_reducible apply Kept.alloc | ((with_reducible apply Kept.set); focus (simp <;> omega)) | ((with_reducible apply Kept.via); focus with_reducible assumption))))) H_x)
  have B1_y := Lib.hid (Kept.all3 (show Kept W0 W_b from (by (repeat (first | with_reducible exact Kept.refl _ | with_reducible apply Kept.drew | with_reducible apply Kept.alloc | ((with_reducible apply Kept.set); focus (simp <;> omega)) | ((with_reducible apply Kept.via); focus with_reducible assumption))))) H_y)
  obtain ⟨q1_x0, q1_x1, q1_x2⟩ := kw3 B1_x
  obtain ⟨q1_y0, q1_y1, q1_y2⟩ := kw3 B1_y
  clear B1_x B1_y
  refine wp_region_kept (by kernel_rfl) (by as_aux_lemma => kernel_rfl) ?_
  repeat (go_big_quiet_step (first | (with_reducible exact kept_of (B1'.out _)) | (with_reducible exact kept_of (B2'.out _))))
  refine wpQuiet_nil ?_
  intro wq1 hw'
  have kq1 : Kept W_b wq1 := by obtain ⟨p, rfl⟩ := hw'; exact p.k
  clear hw'
  clear q1_x0 q1_x1 q1_x2 q1_y0 q1_y1 q1_y2
  go_upto_region 7 with fail
  have B2_x := Lib.hid (Kept.all3 (show Kept W0 wq1 from (by (repeat (first | with_reducible exact Kept.refl _ | with_reducible apply Kept.drew | with_reducible apply Kept.alloc | ((with_reducible apply Kept.set); focus (simp <;> omega)) | ((with_reducible apply Kept.via); focus with_reducible assumption))))) H_x)
  have B2_a := Lib.hid (Kept.all4 (show Kept W_a wq1 from (by (repeat (first | with_reducible exact Kept.refl _ | with_reducible apply Kept.drew | with_reducible apply Kept.alloc | ((with_reducible apply Kept.set); focus (simp <;> omega)) | ((with_reducible apply Kept.via); focus with_reducible assumption))))) H_a)
  have B2_b := Lib.hid (Kept.all4 (show Kept W_b wq1 from (by (repeat (first | with_reducible exact Kept.refl _ | with_reducible apply Kept.drew | with_reducible apply Kept.alloc | ((with_reducible apply Kept.set); focus (simp <;> omega)) | ((with_reducible apply Kept.via); focus with_reducible assumption))))) H_b)
  obtain ⟨q2_x0, q2_x1, q2_x2⟩ := kw3 B2_x
  obtain ⟨q2_a0, q2_a1, q2_a2, q2_a3⟩ := kw4 B2_a
  obtain ⟨q2_b0, q2_b1, q2_b2, q2_b3⟩ := kw4 B2_b
  clear B2_x B2_a B2_b
  refine wp_region_kept (by kernel_rfl) (by as_aux_lemma => kernel_rfl) ?_
  repeat (go_big_quiet_step (first | (with_reducible exact kept_of (C1'.out _)) | (with_reducible exact kept_of (C2'.out _)) | (with_reducible exact kept_of (B1'.out _))))
  refine wpQuiet_nil ?_
  intro wq2 hw'
  have kq2 : Kept wq1 wq2 := by obtain ⟨p, rfl⟩ := hw'; exact p.k
  clear hw'
  clear q2_x0 q2_x1 q2_x2 q2_a0 q2_a1 q2_a2 q2_a3 q2_b0 q2_b1 q2_b2 q2_b3
  go_upto_region 9 with fail
  have B3_a := Lib.hid (Kept.all4 (show Kept W_a wq2 from (by (repeat (first | with_reducible exact Kept.refl _ | with_reducible apply Kept.drew | with_reducible apply Kept.alloc | ((with_reducible apply Kept.set); focus (simp <;> omega)) | ((with_reducible apply Kept.via); focus with_reducible assumption))))) H_a)
  have B3_b := Lib.hid (Kept.all4 (show Kept W_b wq2 from (by (repeat (first | with_reducible exact Kept.refl _ | with_reducible apply Kept.drew | with_reducible apply Kept.alloc | ((with_reducible apply Kept.set); focus (simp <;> omega)) | ((with_reducible apply Kept.via); focus with_reducible assumption))))) H_b)
  have kall3 : Kept w wq2 := (by (repeat (first | with_reducible exact Kept.refl _ | with_reducible apply Kept.drew | with_reducible apply Kept.alloc | ((with_reducible apply Kept.set); focus (simp <;> omega)) | ((with_reducible apply Kept.via); focus with_reducible assumption))))
  obtain ⟨q3_a0, q3_a1, q3_a2, q3_a3⟩ := kw4 B3_a
  obtain ⟨q3_b0, q3_b1, q3_b2, q3_b3⟩ := kw4 B3_b
  clear B3_a B3_b
  refine wp_region_kept (by kernel_rfl) (by as_aux_lemma => kernel_rfl) ?_
  repeat (go_big_quiet_step (first | (with_reducible exact kept_of (C1'.out _)) | (with_reducible exact kept_of (C2'.out _))))
  refine wpQuiet_nil ?_
  intro wq3 hw'
  have kq3 : Kept wq2 wq3 := by obtain ⟨p, rfl⟩ := hw'; exact p.k
  clear hw'
  go_wp2
  go_ret
  exact ⟨rfl, (by (repeat (first | with_reducible exact Kept.refl _ | with_reducible apply Kept.drew | with_reducible apply Kept.alloc | ((with_reducible apply Kept.set); focus (simp <;> omega)) | ((with_reducible apply Kept.via); focus with_reducible assumption))))⟩
set_option maxHeartbeats 1600000 in
theorem refCmp_fft (xb yb : Bool) (xh xl yh yl a0 a1 a2 a3 b0 b1 b2 b3 : Int) (w : World) (D1 : ∀ w, Calls Tryd.prog 53 #[.agg #[.bool xb, .int .u64 xh, .int .u64 xl]] w fun e w' => e = .returned (.agg #[.int .u64 a0, .int .u64 a1, .int .u64 a2, .int .u64 a3]) ∧ Kept w w') (D2 : ∀ w, Calls Tryd.prog 53 #[.agg #[.bool yb, .int .u64 yh, .int .u64 yl]] w fun e w' => e = .returned (.agg #[.int .u64 b0, .int .u64 b1, .int .u64 b2, .int .u64 b3]) ∧ Kept w w') (B1 : ∀ w, Calls Tryd.prog 54 #[.agg #[.bool xb, .int .u64 xh, .int .u64 xl]] w fun e w' => e = .returned (.bool false) ∧ Kept w w') (B2 : ∀ w, Calls Tryd.prog 54 #[.agg #[.bool yb, .int .u64 yh, .int .u64 yl]] w fun e w' => e = .returned (.bool false) ∧ Kept w w') (C1 : ∀ w, Calls Tryd.prog 55 #[.agg #[.int .u64 a0, .int .u64 a1, .int .u64 a2, .int .u64 a3], .agg #[.int .u64 b0, .int .u64 b1, .int .u64 b2, .int .u64 b3]] w fun e w' => e = .returned (.bool false) ∧ Kept w w') (C2 : ∀ w, Calls Tryd.prog 55 #[.agg #[.int .u64 b0, .int .u64 b1, .int .u64 b2, .int .u64 b3], .agg #[.int .u64 a0, .int .u64 a1, .int .u64 a2, .int .u64 a3]] w fun e w' => e = .returned (.bool true) ∧ Kept w w') :
    Calls Tryd.prog 35 #[.agg #[.bool xb, .int .u64 xh, .int .u64 xl], .agg #[.bool yb, .int .u64 yh, .int .u64 yl]] w fun e w' => e = .returned (.int .i64 1) ∧ Kept w w' := by
  have D1' := Lib.hid D1
  have D2' := Lib.hid D2
  have B1' := Lib.hid B1
  have B2' := Lib.hid B2
  have C1' := Lib.hid C1
  have C2' := Lib.hid C2
  clear D1 D2 B1 B2 C1 C2
  go_enter Tryd.func35, Tryd.ntmps35
  go_upto_region 1 with fail
  generalize hW : (World.alloc (World.alloc w (.cells #[.bool xb, .int .u64 xh, .int .u64 xl] 61)) (.cells #[.bool yb, .int .u64 yh, .int .u64 yl] 61)) = W0
  have base := Lib.hid (show W0.cell? ⟨w.heap.size, 0, none⟩ = some (.bool xb) ∧ W0.cell? ⟨w.heap.size, 1, none⟩ = some (.int .u64 xh) ∧ W0.cell? ⟨w.heap.size, 2, none⟩ = some (.int .u64 xl) ∧ W0.cell? ⟨w.heap.size + 1, 0, none⟩ = some (.bool yb) ∧ W0.cell? ⟨w.heap.size + 1, 1, none⟩ = some (.int .u64 yh) ∧ W0.cell? ⟨w.heap.size + 1, 2, none⟩ = some (.int .u64 yl) from by subst hW; simp [go_sem])
  have kw : Kept w W0 := by subst hW; exact (by (repeat (first | with_reducible exact Kept.refl _ | with_reducible apply Kept.drew | with_reducible apply Kept.alloc | ((with_reducible apply Kept.set); focus (simp <;> omega)) | ((with_reducible apply Kept.via); focus with_reducible assumption))))
  have zw : w.heap.size + 2 ≤ W0.heap.size := by subst hW; simp
  clear hW
  obtain ⟨x0, x1, x2, y0, y1, y2⟩ := Kept.all6 (Kept.refl _) base
  have H_x := Lib.hid (And.intro x0 (And.intro x1 x2))
  have H_y := Lib.hid (And.intro y0 (And.intro y1 y2))
  clear base x0 x1 x2 y0 y1 y2
  obtain ⟨c_x0, c_x1, c_x2⟩ := Kept.all3 (show Kept W0 W0 from (by (repeat (first | with_reducible exact Kept.refl _ | with_reducible apply Kept.drew | with_reducible apply Kept.alloc | ((with_reducible apply Kept.set); focus (simp <;> omega)) | ((with_reducible apply Kept.via); focus with_reducible assumption))))) H_x
  go_wp2_with fail
  refine (D1'.out _).mono ?_
  rintro e w1 ⟨rfl, k1⟩
  clear c_x0 c_x1 c_x2
  go_upto_region 2 with fail
  generalize hW : World.alloc w1 (.cells #[.int .u64 a0, .int .u64 a1, .int .u64 a2, .int .u64 a3] 84) = W_a
  have K_a : Kept w1 W_a := by subst hW; exact (Kept.refl _).alloc _ _
  have H_a := Lib.hid (show W_a.cell? ⟨w1.heap.size, 0, none⟩ = some (.int .u64 a0) ∧ W_a.cell? ⟨w1.heap.size, 1, none⟩ = some (.int .u64 a1) ∧ W_a.cell? ⟨w1.heap.size, 2, none⟩ = some (.int .u64 a2) ∧ W_a.cell? ⟨w1.heap.size, 3, none⟩ = some (.int .u64 a3) from by subst hW; simp [go_sem])
  clear hW
  generalize w1.heap.size = g_a at *
  obtain ⟨c_y0, c_y1, c_y2⟩ := Kept.all3 (show Kept W0 W_a from (by (repeat (first | with_reducible exact Kept.refl _ | with_reducible apply Kept.drew | with_reducible apply Kept.alloc | ((with_reducible apply Kept.set); focus (simp <;> omega)) | ((with_reducible apply Kept.via); focus with_reducible assumption))))) H_y
  go_wp2_with fail
  refine (D2'.out _).mono ?_
  rintro e w2 ⟨rfl, k2⟩
  clear c_y0 c_y1 c_y2
  go_upto_region 3 with fail
  generalize hW : World.alloc w2 (.cells #[.int .u64 b0, .int .u64 b1, .int .u64 b2, .int .u64 b3] 84) = W_b
  have K_b : Kept w2 W_b := by subst hW; exact (Kept.refl _).alloc _ _
  have H_b := Lib.hid (show W_b.cell? ⟨w2.heap.size, 0, none⟩ = some (.int .u64 b0) ∧ W_b.cell? ⟨w2.heap.size, 1, none⟩ = some (.int .u64 b1) ∧ W_b.cell? ⟨w2.heap.size, 2, none⟩ = some (.int .u64 b2) ∧ W_b.cell? ⟨w2.heap.size, 3, none⟩ = some (.int .u64 b3) from by subst hW; simp [go_sem])
  clear hW
  generalize w2.heap.size = g_b at *
  have B1_x := Lib.hid (Kept.all3 (show Kept W0 W_b from (by (repeat (first | with_reducible exact Kept.refl _ | with_reducible apply Kept.drew | with_reducible apply Kept.alloc | ((with_reducible apply Kept.set); focus (simp <;> omega)) | ((with_reducible apply Kept.via); focus with_reducible assumption))))) H_x)
  have B1_y := Lib.hid (Kept.all3 (show Kept W0 W_b from (by (repeat (first | with_reducible exact Kept.refl _ | with_reducible apply Kept.drew | with_reducible apply Kept.alloc | ((with_reducible apply Kept.set); focus (simp <;> omega)) | ((with_reducible apply Kept.via); focus with_reducible assumption))))) H_y)
  obtain ⟨q1_x0, q1_x1, q1_x2⟩ := kw3 B1_x
  obtain ⟨q1_y0, q1_y1, q1_y2⟩ := kw3 B1_y
  clear B1_x B1_y
  refine wp_region_kept (by kernel_rfl) (by as_aux_lemma => kernel_rfl) ?_
  repeat (go_big_quiet_step (first | (with_reducible exact kept_of (B1'.out _)) | (with_reducible exact kept_of (B2'.out _))))
  refine wpQuiet_nil ?_
  intro wq1 hw'
  have kq1 : Kept W_b wq1 := by obtain ⟨p, rfl⟩ := hw'; exact p.k
  clear hw'
  clear q1_x0 q1_x1 q1_x2 q1_y0 q1_y1 q1_y2
  go_upto_region 7 with fail
  have B2_x := Lib.hid (Kept.all3 (show Kept W0 wq1 from (by (repeat (first | with_reducible exact Kept.refl _ | with_reducible apply Kept.drew | with_reducible apply Kept.alloc | ((with_reducible apply Kept.set); focus (simp <;> omega)) | ((with_reducible apply Kept.via); focus with_reducible assumption))))) H_x)
  have B2_a := Lib.hid (Kept.all4 (show Kept W_a wq1 from (by (repeat (first | with_reducible exact Kept.refl _ | with_reducible apply Kept.drew | with_reducible apply Kept.alloc | ((with_reducible apply Kept.set); focus (simp <;> omega)) | ((with_reducible apply Kept.via); focus with_reducible assumption))))) H_a)
  have B2_b := Lib.hid (Kept.all4 (show Kept W_b wq1 from (by (repeat (first | with_reducible exact Kept.refl _ | with_reducible apply Kept.drew | with_reducible apply Kept.alloc | ((with_reducible apply Kept.set); focus (simp <;> omega)) | ((with_reducible apply Kept.via); focus with_reducible assumption))))) H_b)
  have kall2 : Kept w wq1 := (by (repeat (first | with_reducible exact Kept.refl _ | with_reducible apply Kept.drew | with_reducible apply Kept.alloc | ((with_reducible apply Kept.set); focus (simp <;> omega)) | ((with_reducible apply Kept.via); focus with_reducible assumption))))
  obtain ⟨q2_x0, q2_x1, q2_x2⟩ := kw3 B2_x
  obtain ⟨q2_a0, q2_a1, q2_a2, q2_a3⟩ := kw4 B2_a
  obtain ⟨q2_b0, q2_b1, q2_b2, q2_b3⟩ := kw4 B2_b
  clear B2_x B2_a B2_b
  refine wp_region_kept (by kernel_rfl) (by as_aux_lemma => kernel_rfl) ?_
  repeat (go_big_quiet_step (first | (with_reducible exact kept_of (C1'.out _)) | (with_reducible exact kept_of (C2'.out _)) | (with_reducible exact kept_of (B1'.out _))))
  refine wpQuiet_nil ?_
  intro wq2 hw'
  have kq2 : Kept wq1 wq2 := by obtain ⟨p, rfl⟩ := hw'; exact p.k
  clear hw'
  go_wp2
  go_ret
  exact ⟨rfl, (by (repeat (first | with_reducible exact Kept.refl _ | with_reducible apply Kept.drew | with_reducible apply Kept.alloc | ((with_reducible apply Kept.set); focus (simp <;> omega)) | ((with_reducible apply Kept.via); focus with_reducible assumption))))⟩
set_option maxHeartbeats 1600000 in
theorem refCmp_fff (xb yb : Bool) (xh xl yh yl a0 a1 a2 a3 b0 b1 b2 b3 : Int) (w : World) (D1 : ∀ w, Calls Tryd.prog 53 #[.agg #[.bool xb, .int .u64 xh, .int .u64 xl]] w fun e w' => e = .returned (.agg #[.int .u64 a0, .int .u64 a1, .int .u64 a2, .int .u64 a3]) ∧ Kept w w') (D2 : ∀ w, Calls Tryd.prog 53 #[.agg #[.bool yb, .int .u64 yh, .int .u64 yl]] w fun e w' => e = .returned (.agg #[.int .u64 b0, .int .u64 b1, .int .u64 b2, .int .u64 b3]) ∧ Kept w w') (B1 : ∀ w, Calls Tryd.prog 54 #[.agg #[.bool xb, .int .u64 xh, .int .u64 xl]] w fun e w' => e = .returned (.bool false) ∧ Kept w w') (B2 : ∀ w, Calls Tryd.prog 54 #[.agg #[.bool yb, .int .u64 yh, .int .u64 yl]] w fun e w' => e = .returned (.bool false) ∧ Kept w w') (C1 : ∀ w, Calls Tryd.prog 55 #[.agg #[.int .u64 a0, .int .u64 a1, .int .u64 a2, .int .u64 a3], .agg #[.int .u64 b0, .int .u64 b1, .int .u64 b2, .int .u64 b3]] w fun e w' => e = .returned (.bool false) ∧ Kept w w') (C2 : ∀ w, Calls Tryd.prog 55 #[.agg #[.int .u64 b0, .int .u64 b1, .int .u64 b2, .int .u64 b3], .agg #[.int .u64 a0, .int .u64 a1, .int .u64 a2, .int .u64 a3]] w fun e w' => e = .returned (.bool false) ∧ Kept w w') :
    Calls Tryd.prog 35 #[.agg #[.bool xb, .int .u64 xh, .int .u64 xl], .agg #[.bool yb, .int .u64 yh, .int .u64 yl]] w fun e w' => e = .returned (.int .i64 0) ∧ Kept w w' := by
  have D1' := Lib.hid D1
  have D2' := Lib.hid D2
  have B1' := Lib.hid B1
  have B2' := Lib.hid B2
  have C1' := Lib.hid C1
  have C2' := Lib.hid C2
  clear D1 D2 B1 B2 C1 C2
  go_enter Tryd.func35, Tryd.ntmps35
  go_upto_region 1 with fail
  generalize hW : (World.alloc (World.alloc w (.cells #[.bool xb, .int .u64 xh, .int .u64 xl] 61)) (.cells #[.bool yb, .int .u64 yh, .int .u64 yl] 61)) = W0
  have base := Lib.hid (show W0.cell? ⟨w.heap.size, 0, none⟩ = some (.bool xb) ∧ W0.cell? ⟨w.heap.size, 1, none⟩ = some (.int .u64 xh) ∧ W0.cell? ⟨w.heap.size, 2, none⟩ = some (.int .u64 xl) ∧ W0.cell? ⟨w.heap.size + 1, 0, none⟩ = some (.bool yb) ∧ W0.cell? ⟨w.heap.size + 1, 1, none⟩ = some (.int .u64 yh) ∧ W0.cell? ⟨w.heap.size + 1, 2, none⟩ = some (.int .u64 yl) from by subst hW; simp [go_sem])
  have kw : Kept w W0 := by subst hW; exact (by (repeat (first | with_reducible exact Kept.refl _ | with_reducible apply Kept.drew | with_reducible apply Kept.alloc | ((with_reducible apply Kept.set); focus (simp <;> omega)) | ((with_reducible apply Kept.via); focus with_reducible assumption))))
  have zw : w.heap.size + 2 ≤ W0.heap.size := by subst hW; simp
  clear hW
  obtain ⟨x0, x1, x2, y0, y1, y2⟩ := Kept.all6 (Kept.refl _) base
  have H_x := Lib.hid (And.intro x0 (And.intro x1 x2))
  have H_y := Lib.hid (And.intro y0 (And.intro y1 y2))
  clear base x0 x1 x2 y0 y1 y2
  obtain ⟨c_x0, c_x1, c_x2⟩ := Kept.all3 (show Kept W0 W0 from (by (repeat (first | with_reducible exact Kept.refl _ | with_reducible apply Kept.drew | with_reducible apply Kept.alloc | ((with_reducible apply Kept.set); focus (simp <;> omega)) | ((with_reducible apply Kept.via); focus with_reducible assumption))))) H_x
  go_wp2_with fail
  refine (D1'.out _).mono ?_
  rintro e w1 ⟨rfl, k1⟩
  clear c_x0 c_x1 c_x2
  go_upto_region 2 with fail
  generalize hW : World.alloc w1 (.cells #[.int .u64 a0, .int .u64 a1, .int .u64 a2, .int .u64 a3] 84) = W_a
  have K_a : Kept w1 W_a := by subst hW; exact (Kept.refl _).alloc _ _
  have H_a := Lib.hid (show W_a.cell? ⟨w1.heap.size, 0, none⟩ = some (.int .u64 a0) ∧ W_a.cell? ⟨w1.heap.size, 1, none⟩ = some (.int .u64 a1) ∧ W_a.cell? ⟨w1.heap.size, 2, none⟩ = some (.int .u64 a2) ∧ W_a.cell? ⟨w1.heap.size, 3, none⟩ = some (.int .u64 a3) from by subst hW; simp [go_sem])
  clear hW
  generalize w1.heap.size = g_a at *
  obtain ⟨c_y0, c_y1, c_y2⟩ := Kept.all3 (show Kept W0 W_a from (by (repeat (first | with_reducible exact Kept.refl _ | with_reducible apply Kept.drew | with_reducible apply Kept.alloc | ((with_reducible apply Kept.set); focus (simp <;> omega)) | ((with_reducible apply Kept.via); focus with_reducible assumption))))) H_y
  go_wp2_with fail
  refine (D2'.out _).mono ?_
  rintro e w2 ⟨rfl, k2⟩
  clear c_y0 c_y1 c_y2
  go_upto_region 3 with fail
  generalize hW : World.alloc w2 (.cells #[.int .u64 b0, .int .u64 b1, .int .u64 b2, .int .u64 b3] 84) = W_b
  have K_b : Kept w2 W_b := by subst hW; exact (Kept.refl _).alloc _ _
  have H_b := Lib.hid (show W_b.cell? ⟨w2.heap.size, 0, none⟩ = some (.int .u64 b0) ∧ W_b.cell? ⟨w2.heap.size, 1, none⟩ = some (.int .u64 b1) ∧ W_b.cell? ⟨w2.heap.size, 2, none⟩ = some (.int .u64 b2) ∧ W_b.cell? ⟨w2.heap.size, 3, none⟩ = some (.int .u64 b3) from by subst hW; simp [go_sem])
  clear hW
  generalize w2.heap.size = g_b at *
  have B1_x := Lib.hid (Kept.all3 (show Kept W0 W_b from (by (repeat (first | with_reducible exact Kept.refl _ | with_reducible apply Kept.drew | with_reducible apply Kept.alloc | ((with_reducible apply Kept.set); focus (simp <;> omega)) | ((with_reducible apply Kept.via); focus with_reducible assumption))))) H_x)
  have B1_y := Lib.hid (Kept.all3 (show Kept W0 W_b from (by (repeat (first | with_reducible exact Kept.refl _ | with_reducible apply Kept.drew | with_reducible apply Kept.alloc | ((with_reducible apply Kept.set); focus (simp <;> omega)) | ((with_reducible apply Kept.via); focus with_reducible assumption))))) H_y)
  obtain ⟨q1_x0, q1_x1, q1_x2⟩ := kw3 B1_x
  obtain ⟨q1_y0, q1_y1, q1_y2⟩ := kw3 B1_y
  clear B1_x B1_y
  refine wp_region_kept (by kernel_rfl) (by as_aux_lemma => kernel_rfl) ?_
  repeat (go_big_quiet_step (first | (with_reducible exact kept_of (B1'.out _)) | (with_reducible exact kept_of (B2'.out _))))
  refine wpQuiet_nil ?_
  intro wq1 hw'
  have kq1 : Kept W_b wq1 := by obtain ⟨p, rfl⟩ := hw'; exact p.k
  clear hw'
  clear q1_x0 q1_x1 q1_x2 q1_y0 q1_y1 q1_y2
  go_upto_region 7 with fail
  have B2_x := Lib.hid (Kept.all3 (show Kept W0 wq1 from (by (repeat (first | with_reducible exact Kept.refl _ | with_reducible apply Kept.drew | with_reducible apply Kept.alloc | ((with_reducible apply Kept.set); focus (simp <;> omega)) | ((with_reducible apply Kept.via); focus with_reducible assumption))))) H_x)
  have B2_a := Lib.hid (Kept.all4 (show Kept W_a wq1 from (by (repeat (first | with_reducible exact Kept.refl _ | with_reducible apply Kept.drew | with_reducible apply Kept.alloc | ((with_reducible apply Kept.set); focus (simp <;> omega)) | ((with_reducible apply Kept.via); focus with_reducible assumption))))) H_a)
  have B2_b := Lib.hid (Kept.all4 (show Kept W_b wq1 from (by (repeat (first | with_reducible exact Kept.refl _ | with_reducible apply Kept.drew | with_reducible apply Kept.alloc | ((with_reducible apply Kept.set); focus (simp <;> omega)) | ((with_reducible apply Kept.via); focus with_reducible assumption))))) H_b)
  obtain ⟨q2_x0, q2_x1, q2_x2⟩ := kw3 B2_x
  obtain ⟨q2_a0, q2_a1, q2_a2, q2_a3⟩ := kw4 B2_a
  obtain ⟨q2_b0, q2_b1, q2_b2, q2_b3⟩ := kw4 B2_b
  clear B2_x B2_a B2_b
  refine wp_region_kept (by kernel_rfl) (by as_aux_lemma => kernel_rfl) ?_
  repeat (go_big_quiet_step (first | (with_reducible exact kept_of (C1'.out _)) | (with_reducible exact kept_of (C2'.out _)) | (with_reducible exact kept_of (B1'.out _))))
  refine wpQuiet_nil ?_
  intro wq2 hw'
  have kq2 : Kept wq1 wq2 := by obtain ⟨p, rfl⟩ := hw'; exact p.k
  clear hw'
  clear q2_x0 q2_x1 q2_x2 q2_a0 q2_a1 q2_a2 q2_a3 q2_b0 q2_b1 q2_b2 q2_b3
  go_upto_region 9 with fail
  have B3_a := Lib.hid (Kept.all4 (show Kept W_a wq2 from (by (repeat (first | with_reducible exact Kept.refl _ | with_reducible apply Kept.drew | with_reducible apply Kept.alloc | ((with_reducible apply Kept.set); focus (simp <;> omega)) | ((with_reducible apply Kept.via); focus with_reducible assumption))))) H_a)
  have B3_b := Lib.hid (Kept.all4 (show Kept W_b wq2 from (by (repeat (first | with_reducible exact Kept.refl _ | with_reducible apply Kept.drew | with_reducible apply Kept.alloc | ((with_reducible apply Kept.set); focus (simp <;> omega)) | ((with_reducible apply Kept.via); focus with_reducible assumption))))) H_b)
  have kall3 : Kept w wq2 := (by (repeat (first | with_reducible exact Kept.refl _ | with_reducible apply Kept.drew | with_reducible apply Kept.alloc | ((with_reducible apply Kept.set); focus (simp <;> omega)) | ((with_reducible apply Kept.via); focus with_reducible assumption))))
  obtain ⟨q3_a0, q3_a1, q3_a2, q3_a3⟩ := kw4 B3_a
  obtain ⟨q3_b0, q3_b1, q3_b2, q3_b3⟩ := kw4 B3_b
  clear B3_a B3_b
  refine wp_region_kept (by kernel_rfl) (by as_aux_lemma => kernel_rfl) ?_
  repeat (go_big_quiet_step (first | (with_reducible exact kept_of (C1'.out _)) | (with_reducible exact kept_of (C2'.out _))))
  refine wpQuiet_nil ?_
  intro wq3 hw'
  have kq3 : Kept wq2 wq3 := by obtain ⟨p, rfl⟩ := hw'; exact p.k
  clear hw'
  go_wp2
  go_ret
  exact ⟨rfl, (by (repeat (first | with_reducible exact Kept.refl _ | with_reducible apply Kept.drew | with_reducible apply Kept.alloc | ((with_reducible apply Kept.set); focus (simp <;> omega)) | ((with_reducible apply Kept.via); focus with_reducible assumption))))⟩
theorem refCmp_ok {b1 b2 : Bool} {xh xl yh yl : Int} (h1 : Word xh) (h2 : Word xl) (h3 : Word yh) (h4 : Word yl) (w : World) :
    Calls Tryd.prog 35 #[.agg #[.bool b1, .int .u64 xh, .int .u64 xl], .agg #[.bool b2, .int .u64 yh, .int .u64 yl]] w fun e w' => e = .returned (.int .i64 (cmpI (numOf b1 xh xl) (numOf b2 yh yl))) ∧ Kept w w' := by
  have n1 := sz_nonneg h1 h2; have n2 := sz_nonneg h3 h4
  have D1 := fun w => digits_any b1 xh xl w h1 h2
  have D2 := fun w => digits_any b2 yh yl w h3 h4
  have B1 := fun w => refBelow b1 xh xl w h1 h2
  have B2 := fun w => refBelow b2 yh yl w h3 h4
  rw [nz_iff h1 h2] at B1
  rw [nz_iff h3 h4] at B2
  have C1 := fun w => refLess_sz h1 h2 h3 h4 w
  have C2 := fun w => refLess_sz h3 h4 h1 h2 w
  have p1 : (b1 && decide (0 < sz xh xl)) = decide (numOf b1 xh xl < 0) := by cases b1 <;> simp [numOf] <;> omega
  have p2 : (b2 && decide (0 < sz yh yl)) = decide (numOf b2 yh yl < 0) := by cases b2 <;> simp [numOf] <;> omega
  have m1 : sz xh xl = if numOf b1 xh xl < 0 then -(numOf b1 xh xl) else numOf b1 xh xl := by
    cases b1
    · rw [numOf_false, if_neg (by omega)]
    · rw [numOf_true]; by_cases z : -sz xh xl < 0
      · rw [if_pos z]; omega
      · rw [if_neg z]; omega
  have m2 : sz yh yl = if numOf b2 yh yl < 0 then -(numOf b2 yh yl) else numOf b2 yh yl := by
    cases b2
    · rw [numOf_false, if_neg (by omega)]
    · rw [numOf_true]; by_cases z : -sz yh yl < 0
      · rw [if_pos z]; omega
      · rw [if_neg z]; omega
  rw [p1] at B1
  rw [p2] at B2
  rw [m1, m2] at C1 C2
  generalize numOf b1 xh xl = x at *
  generalize numOf b2 yh yl = y at *
  unfold cmpI
  by_cases px : x < 0 <;> by_cases py : y < 0 <;> simp only [px, py, decide_true, decide_false, if_true, if_false] at B1 B2 C1 C2
  · rcases Int.lt_trichotomy x y with h | h | h
    · rw [if_neg (by omega), if_pos h]; simp only [show ¬ -x < -y by omega, show -y < -x by omega, decide_true, decide_false] at C1 C2; exact refCmp_tft b1 b2 _ _ _ _ _ _ _ _ _ _ _ _ w D1 D2 B1 B2 C1 C2
    · rw [if_pos h]; simp only [show ¬ -x < -y by omega, show ¬ -y < -x by omega, decide_false] at C1 C2; exact refCmp_tff b1 b2 _ _ _ _ _ _ _ _ _ _ _ _ w D1 D2 B1 B2 C1 C2
    · rw [if_neg (by omega), if_neg (by omega)]; simp only [show -x < -y by omega, show ¬ -y < -x by omega, decide_true, decide_false] at C1 C2; exact refCmp_ttf b1 b2 _ _ _ _ _ _ _ _ _ _ _ _ w D1 D2 B1 B2 C1 C2
  · rw [if_neg (by omega), if_pos (by omega)]; exact refCmp_t_f b1 b2 _ _ _ _ _ _ _ _ _ _ _ _ w D1 D2 B1 B2
  · rw [if_neg (by omega), if_neg (by omega)]; exact refCmp_f_t b1 b2 _ _ _ _ _ _ _ _ _ _ _ _ w D1 D2 B1 B2
  · rcases Int.lt_trichotomy x y with h | h | h
    · rw [if_neg (by omega), if_pos h]; simp only [show x < y by omega, show ¬ y < x by omega, decide_true, decide_false] at C1 C2; exact refCmp_ftf b1 b2 _ _ _ _ _ _ _ _ _ _ _ _ w D1 D2 B1 B2 C1 C2
    · rw [if_pos h]; simp only [show ¬ x < y by omega, show ¬ y < x by omega, decide_false] at C1 C2; exact refCmp_fff b1 b2 _ _ _ _ _ _ _ _ _ _ _ _ w D1 D2 B1 B2 C1 C2
    · rw [if_neg (by omega), if_neg (by omega)]; simp only [show ¬ x < y by omega, show y < x by omega, decide_true, decide_false] at C1 C2; exact refCmp_fft b1 b2 _ _ _ _ _ _ _ _ _ _ _ _ w D1 D2 B1 B2 C1 C2
end Go.Proofs.YtdbikeehoildlaaDoor
