/-
  Contracts of the small functions of the document's answer, package sawtoothref02.
-/
import Derived.Test.YtfkdbelajideiaaSemB02
import Derived.Test.YtfkdbelajideiaaQuiet
namespace Go.Proofs.Ytfkdbelajideiaa
open Go.RowKit Go.BigFrame

set_option maxHeartbeats 400000 in
theorem digits_any (b : Bool) (h l : Int) (w : World) (h1 : Word h) (h2 : Word l) :
    Calls Try.prog 33 #[.agg #[.bool b, .int .u64 h, .int .u64 l]] w fun e w' => e = .returned (.agg #[.int .u64 (l % 4294967296), .int .u64 (l / 4294967296), .int .u64 (h % 4294967296), .int .u64 (h / 4294967296)]) ∧ Kept w w' := by
  obtain ⟨a1, a2⟩ := h1; obtain ⟨b1, b2⟩ := h2
  go_enter Try.func33, Try.ntmps33
  go_wp2
  simp [bodyPost, results, Try.results33, go_sem]
  exact (by (repeat (first | with_reducible exact Kept.refl _ | with_reducible apply Kept.drew | with_reducible apply Kept.alloc | ((with_reducible apply Kept.set); focus (simp <;> omega)) | ((with_reducible apply Kept.via); focus with_reducible assumption))))
set_option maxHeartbeats 800000 in
theorem whole_raw (d0 d1 d2 d3 : Int) (s r : Bool) (w : World) (a0 : 0 ≤ d0) (a1 : 0 ≤ d1) (a2 : 0 ≤ d2) (a3 : 0 ≤ d3) (b0 : d0 < 4294967296) (b1 : d1 < 4294967296) (b2 : d2 < 4294967296) (b3 : d3 < 4294967296)
    (hr : (s = false ∧ r = false) ∨ (s = true ∧ r = true ∧ 0 < d3 * 4294967296 + d2) ∨ (s = true ∧ r = true ∧ d3 * 4294967296 + d2 = 0 ∧ 0 < d1 * 4294967296 + d0) ∨ (s = true ∧ r = false ∧ d3 * 4294967296 + d2 = 0 ∧ d1 * 4294967296 + d0 = 0)) :
    Calls Try.prog 44 #[.agg #[.int .u64 d0, .int .u64 d1, .int .u64 d2, .int .u64 d3], .bool s] w fun e w' => e = .returned (.agg #[.bool r, .int .u64 (d3 * 4294967296 + d2), .int .u64 (d1 * 4294967296 + d0)]) ∧ Kept w w' := by
  rcases hr with ⟨rfl, rfl⟩ | ⟨rfl, rfl, c⟩ | ⟨rfl, rfl, c, c'⟩ | ⟨rfl, rfl, c, c'⟩
  · go_enter Try.func44, Try.ntmps44
    go_wp2
    simp [bodyPost, results, Try.results44, go_sem]
    exact (by (repeat (first | with_reducible exact Kept.refl _ | with_reducible apply Kept.drew | with_reducible apply Kept.alloc | ((with_reducible apply Kept.set); focus (simp <;> omega)) | ((with_reducible apply Kept.via); focus with_reducible assumption))))
  · go_enter Try.func44, Try.ntmps44
    go_wp2
    simp [bodyPost, results, Try.results44, go_sem]
    exact (by (repeat (first | with_reducible exact Kept.refl _ | with_reducible apply Kept.drew | with_reducible apply Kept.alloc | ((with_reducible apply Kept.set); focus (simp <;> omega)) | ((with_reducible apply Kept.via); focus with_reducible assumption))))
  · obtain rfl : d2 = 0 := by omega
    obtain rfl : d3 = 0 := by omega
    clear c
    simp only [Int.zero_mul, Int.zero_add]
    go_enter Try.func44, Try.ntmps44
    go_wp2
    simp [bodyPost, results, Try.results44, go_sem]
    exact (by (repeat (first | with_reducible exact Kept.refl _ | with_reducible apply Kept.drew | with_reducible apply Kept.alloc | ((with_reducible apply Kept.set); focus (simp <;> omega)) | ((with_reducible apply Kept.via); focus with_reducible assumption))))
  · obtain rfl : d2 = 0 := by omega
    obtain rfl : d3 = 0 := by omega
    obtain rfl : d0 = 0 := by omega
    obtain rfl : d1 = 0 := by omega
    clear c c'
    simp only [Int.zero_mul, Int.zero_add]
    go_enter Try.func44, Try.ntmps44
    go_wp2
    simp [bodyPost, results, Try.results44, go_sem]
    exact (by (repeat (first | with_reducible exact Kept.refl _ | with_reducible apply Kept.drew | with_reducible apply Kept.alloc | ((with_reducible apply Kept.set); focus (simp <;> omega)) | ((with_reducible apply Kept.via); focus with_reducible assumption))))

theorem whole_any (d0 d1 d2 d3 h l : Int) (s : Bool) (w : World) (a0 : 0 ≤ d0) (a1 : 0 ≤ d1) (a2 : 0 ≤ d2) (a3 : 0 ≤ d3) (b0 : d0 < 4294967296) (b1 : d1 < 4294967296) (b2 : d2 < 4294967296) (b3 : d3 < 4294967296) (eh : h = d3 * 4294967296 + d2) (el : l = d1 * 4294967296 + d0) :
    Calls Try.prog 44 #[.agg #[.int .u64 d0, .int .u64 d1, .int .u64 d2, .int .u64 d3], .bool s] w fun e w' => e = .returned (.agg #[.bool (s && nz h l), .int .u64 h, .int .u64 l]) ∧ Kept w w' := by
  subst eh el
  refine whole_raw d0 d1 d2 d3 s _ w a0 a1 a2 a3 b0 b1 b2 b3 ?_
  unfold nz
  cases s
  · exact Or.inl ⟨rfl, rfl⟩
  · by_cases c : d3 * 4294967296 + d2 = 0
    · by_cases c' : d1 * 4294967296 + d0 = 0
      · exact Or.inr (Or.inr (Or.inr ⟨rfl, by simp [c, c'], c, c'⟩))
      · exact Or.inr (Or.inr (Or.inl ⟨rfl, by simp [c, c'], c, by omega⟩))
    · exact Or.inr (Or.inl ⟨rfl, by simp [c], by omega⟩)
set_option maxHeartbeats 400000 in
theorem size_neg (n : Int) (w : World) (h : n < 0) (h' : -9223372036854775808 ≤ n) :
    Calls Try.prog 31 #[.int .i64 n] w fun e w' => e = .returned (.int .u64 (-n)) ∧ w = w' := by
  go_enter Try.func31, Try.ntmps31
  go_wp2
  go_ret
  refine ⟨?_, rfl⟩
  exact congrArg (fun k => Ending.returned (.int .u64 k)) (by first | omega | (simp only [IntKind.wrap_u64, IntKind.wrap_i64]; omega))
set_option maxHeartbeats 400000 in
theorem size_pos (n : Int) (w : World) (h : ¬ n < 0) (h' : n ≤ 9223372036854775807) :
    Calls Try.prog 31 #[.int .i64 n] w fun e w' => e = .returned (.int .u64 n) ∧ w = w' := by
  go_enter Try.func31, Try.ntmps31
  go_wp2
  go_ret
  exact ⟨rfl, rfl⟩
theorem size_ok (n : Int) (h : In64 n) (w : World) : Calls Try.prog 31 #[.int .i64 n] w fun e w' => e = .returned (.int .u64 (mag n)) ∧ w = w' := by
  unfold In64 at h
  by_cases c : n < 0
  · rw [show mag n = -n by unfold mag; rw [if_pos c]]; exact size_neg n w c h.1
  · rw [show mag n = n by unfold mag; rw [if_neg c]]; exact size_pos n w c h.2
set_option maxHeartbeats 400000 in
theorem refOf_any (n m : Int) (s : Bool) (w : World) (hs : decide (n < 0) = s) (C : ∀ w, Calls Try.prog 31 #[.int .i64 n] w fun e w' => e = .returned (.int .u64 m) ∧ w = w') :
    Calls Try.prog 30 #[.int .i64 n] w fun e w' => e = .returned (.agg #[.bool s, .int .u64 0, .int .u64 m]) ∧ Kept w w' := by
  have C' := Lib.hid C
  clear C
  go_enter Try.func30, Try.ntmps30
  go_wp2_with fail
  refine (C'.out _).mono ?_
  rintro e w1 ⟨rfl, rfl⟩
  go_wp2
  simp [bodyPost, results, Try.results30, go_sem, *]
  exact (by (repeat (first | with_reducible exact Kept.refl _ | with_reducible apply Kept.drew | with_reducible apply Kept.alloc | ((with_reducible apply Kept.set); focus (simp <;> omega)) | ((with_reducible apply Kept.via); focus with_reducible assumption))))
theorem refOf_ok (n : Int) (h : In64 n) (w : World) : Calls Try.prog 30 #[.int .i64 n] w fun e w' => e = .returned (.agg #[.bool (decide (n < 0)), .int .u64 0, .int .u64 (mag n)]) ∧ Kept w w' := refOf_any n (mag n) _ w rfl (size_ok n h)
set_option maxHeartbeats 400000 in
theorem refBelow_raw (s r : Bool) (h l : Int) (w : World) (a0 : 0 ≤ h) (a1 : 0 ≤ l) (hr : (s = false ∧ r = false) ∨ (s = true ∧ r = true ∧ 0 < h) ∨ (s = true ∧ r = true ∧ h = 0 ∧ 0 < l) ∨ (s = true ∧ r = false ∧ h = 0 ∧ l = 0)) :
    Calls Try.prog 34 #[.agg #[.bool s, .int .u64 h, .int .u64 l]] w fun e w' => e = .returned (.bool r) ∧ Kept w w' := by
  rcases hr with ⟨rfl, rfl⟩ | ⟨rfl, rfl, c⟩ | ⟨rfl, rfl, rfl, c⟩ | ⟨rfl, rfl, rfl, rfl⟩
  all_goals
    go_enter Try.func34, Try.ntmps34
    go_wp2
    go_ret
    exact ⟨rfl, (by (repeat (first | with_reducible exact Kept.refl _ | with_reducible apply Kept.drew | with_reducible apply Kept.alloc | ((with_reducible apply Kept.set); focus (simp <;> omega)) | ((with_reducible apply Kept.via); focus with_reducible assumption))))⟩
theorem refBelow (s : Bool) (h l : Int) (w : World) (h1 : Word h) (h2 : Word l) : Calls Try.prog 34 #[.agg #[.bool s, .int .u64 h, .int .u64 l]] w fun e w' => e = .returned (.bool (s && nz h l)) ∧ Kept w w' := by
  refine refBelow_raw s _ h l w h1.1 h2.1 ?_
  have := h1.1; have := h2.1
  unfold nz
  cases s
  · exact Or.inl ⟨rfl, rfl⟩
  · by_cases c : h = 0
    · by_cases c' : l = 0
      · exact Or.inr (Or.inr (Or.inr ⟨rfl, by simp [c, c'], c, c'⟩))
      · exact Or.inr (Or.inr (Or.inl ⟨rfl, by simp [c'], c, by omega⟩))
    · exact Or.inr (Or.inl ⟨rfl, by simp [c], by omega⟩)
set_option maxHeartbeats 800000 in
theorem refNeg_any (b : Bool) (h l : Int) (w : World) (h1 : Word h) (h2 : Word l) :
    Calls Try.prog 32 #[.agg #[.bool b, .int .u64 h, .int .u64 l]] w fun e w' => e = .returned (.agg #[.bool (!b && nz h l), .int .u64 h, .int .u64 l]) ∧ Kept w w' := by
  have D := Lib.hid (fun w => digits_any b h l w h1 h2)
  have E := Lib.hid (fun w => whole_any (l % 4294967296) (l / 4294967296) (h % 4294967296) (h / 4294967296) h l (!b) w (by omega) (by unfold Word at h2; omega) (by omega) (by unfold Word at h1; omega) (by omega) (by unfold Word at h2; omega) (by omega) (by unfold Word at h1; omega) (by omega) (by omega))
  clear h1 h2
  generalize l % 4294967296 = d0 at *
  generalize l / 4294967296 = d1 at *
  generalize h % 4294967296 = d2 at *
  generalize h / 4294967296 = d3 at *
  go_enter Try.func32, Try.ntmps32
  go_upto_region 1 with fail
  generalize hW : (World.alloc (World.alloc w (.cells #[.bool b, .int .u64 h, .int .u64 l] 31)) (.cells #[.bool false, .int .u64 0, .int .u64 0] 31)) = W0
  have base := Lib.hid (show W0.cell? ⟨w.heap.size, 0, none⟩ = some (.bool b) ∧ W0.cell? ⟨w.heap.size, 1, none⟩ = some (.int .u64 h) ∧ W0.cell? ⟨w.heap.size, 2, none⟩ = some (.int .u64 l) from by subst hW; simp [go_sem])
  have room : Room3 W0 (w.heap.size + 1) := by subst hW; exact ⟨_, _, _, by first | (simp [go_sem]; done) | (simp [go_sem]; rfl), by first | (simp [go_sem]; done) | (simp [go_sem]; rfl), by first | (simp [go_sem]; done) | (simp [go_sem]; rfl), by simp [go_sem], by simp [go_sem], by simp [go_sem]⟩
  have kw : Kept w W0 := by subst hW; exact (by (repeat (first | with_reducible exact Kept.refl _ | with_reducible apply Kept.drew | with_reducible apply Kept.alloc | ((with_reducible apply Kept.set); focus (simp <;> omega)) | ((with_reducible apply Kept.via); focus with_reducible assumption))))
  have zw : w.heap.size + 2 ≤ W0.heap.size := by subst hW; simp
  clear hW
  go_region_held3 (fun w' => w'.cell? ⟨w.heap.size, 0, none⟩ = some (.bool b) ∧ w'.cell? ⟨w.heap.size, 1, none⟩ = some (.int .u64 h) ∧ w'.cell? ⟨w.heap.size, 2, none⟩ = some (.int .u64 l))
    ((first | (refine Kept.all3 ?_ base; focus ((repeat (first | with_reducible exact Kept.refl _ | with_reducible apply Kept.drew | with_reducible apply Kept.alloc | ((with_reducible apply Kept.set); focus (simp <;> omega)) | ((with_reducible apply Kept.via); focus with_reducible assumption))); done)) | (refine far3 (Kept.all3 (by (repeat (first | with_reducible exact Kept.refl _ | with_reducible apply Kept.drew | with_reducible apply Kept.alloc | ((with_reducible apply Kept.set); focus (simp <;> omega)) | ((with_reducible apply Kept.via); focus with_reducible assumption)))) base) ?_; focus ((repeat' apply And.intro) <;> (simp <;> omega)))))
    (first
      | (go_at_call 33; refine (D.out _).mono ?_; rintro e w1 ⟨rfl, k1⟩)
      | (go_at_call 44; refine (E.out _).mono ?_; rintro e w2 ⟨rfl, k2⟩; obtain ⟨x, y, z, a1, a2, a3, c1, c2, c3⟩ : Room3 w2 (w.heap.size + 1) := room.kept (by (repeat (first | with_reducible exact Kept.refl _ | with_reducible apply Kept.drew | with_reducible apply Kept.alloc | ((with_reducible apply Kept.set); focus (simp <;> omega)) | ((with_reducible apply Kept.via); focus with_reducible assumption))))))
  go_wp2
  simp [bodyPost, results, Try.results32, go_sem, *]
  exact (by (repeat (first | with_reducible exact Kept.refl _ | with_reducible apply Kept.drew | with_reducible apply Kept.alloc | ((with_reducible apply Kept.set); focus (simp <;> omega)) | ((with_reducible apply Kept.via); focus with_reducible assumption))))
theorem refNeg_ok {b1 b : Bool} {xh xl : Int} (h1 : Word xh) (h2 : Word xl) (r : Rep b xh xl (-(numOf b1 xh xl))) (w : World) : Calls Try.prog 32 #[.agg #[.bool b1, .int .u64 xh, .int .u64 xl]] w fun e w' => e = .returned (.agg #[.bool b, .int .u64 xh, .int .u64 xl]) ∧ Kept w w' := by
  rw [← rep_sign (s := !b1) r (by cases b1 <;> simp [numOf])]
  exact refNeg_any b1 xh xl w h1 h2
set_option maxHeartbeats 800000 in
theorem refInt_a (b : Bool) (h l : Int) (w : World) (c : 0 < h) (B1 : ∀ w, Calls Try.prog 34 #[.agg #[.bool b, .int .u64 h, .int .u64 l]] w fun e w' => e = .returned (.bool true) ∧ Kept w w') :
    Calls Try.prog 43 #[.agg #[.bool b, .int .u64 h, .int .u64 l]] w fun e w' => e = .returned (.int .i64 (-9223372036854775808)) ∧ Kept w w' := by
  have B' := Lib.hid B1
  clear B1
  go_enter Try.func43, Try.ntmps43
  go_wp2_with fail
  refine (B'.out _).mono ?_
  rintro e w1 ⟨rfl, k1⟩
  have q0 := k1.read (p := ⟨w.heap.size, 2, none⟩) (v := .int .u64 l) (by simp [go_sem])
  go_wp2
  go_ret
  exact ⟨rfl, (by (repeat (first | with_reducible exact Kept.refl _ | with_reducible apply Kept.drew | with_reducible apply Kept.alloc | ((with_reducible apply Kept.set); focus (simp <;> omega)) | ((with_reducible apply Kept.via); focus with_reducible assumption))))⟩
set_option maxHeartbeats 800000 in
theorem refInt_b (b : Bool) (h l : Int) (w : World) (c : 0 < h) (B1 : ∀ w, Calls Try.prog 34 #[.agg #[.bool b, .int .u64 h, .int .u64 l]] w fun e w' => e = .returned (.bool false) ∧ Kept w w') :
    Calls Try.prog 43 #[.agg #[.bool b, .int .u64 h, .int .u64 l]] w fun e w' => e = .returned (.int .i64 9223372036854775807) ∧ Kept w w' := by
  have B' := Lib.hid B1
  clear B1
  go_enter Try.func43, Try.ntmps43
  go_wp2_with fail
  refine (B'.out _).mono ?_
  rintro e w1 ⟨rfl, k1⟩
  have q0 := k1.read (p := ⟨w.heap.size, 2, none⟩) (v := .int .u64 l) (by simp [go_sem])
  go_wp2
  go_ret
  exact ⟨rfl, (by (repeat (first | with_reducible exact Kept.refl _ | with_reducible apply Kept.drew | with_reducible apply Kept.alloc | ((with_reducible apply Kept.set); focus (simp <;> omega)) | ((with_reducible apply Kept.via); focus with_reducible assumption))))⟩
set_option maxHeartbeats 800000 in
theorem refInt_c (b : Bool) (h l : Int) (w : World) (c : h = 0) (c' : 9223372036854775808 ≤ l) (B1 : ∀ w, Calls Try.prog 34 #[.agg #[.bool b, .int .u64 h, .int .u64 l]] w fun e w' => e = .returned (.bool true) ∧ Kept w w') :
    Calls Try.prog 43 #[.agg #[.bool b, .int .u64 h, .int .u64 l]] w fun e w' => e = .returned (.int .i64 (-9223372036854775808)) ∧ Kept w w' := by
  have B' := Lib.hid B1
  clear B1
  subst c
  go_enter Try.func43, Try.ntmps43
  go_wp2_with fail
  refine (B'.out _).mono ?_
  rintro e w1 ⟨rfl, k1⟩
  have q0 := k1.read (p := ⟨w.heap.size, 2, none⟩) (v := .int .u64 l) (by simp [go_sem])
  go_wp2
  go_ret
  exact ⟨rfl, (by (repeat (first | with_reducible exact Kept.refl _ | with_reducible apply Kept.drew | with_reducible apply Kept.alloc | ((with_reducible apply Kept.set); focus (simp <;> omega)) | ((with_reducible apply Kept.via); focus with_reducible assumption))))⟩
set_option maxHeartbeats 800000 in
theorem refInt_d (b : Bool) (h l : Int) (w : World) (c : h = 0) (c' : 9223372036854775808 ≤ l) (B1 : ∀ w, Calls Try.prog 34 #[.agg #[.bool b, .int .u64 h, .int .u64 l]] w fun e w' => e = .returned (.bool false) ∧ Kept w w') :
    Calls Try.prog 43 #[.agg #[.bool b, .int .u64 h, .int .u64 l]] w fun e w' => e = .returned (.int .i64 9223372036854775807) ∧ Kept w w' := by
  have B' := Lib.hid B1
  clear B1
  subst c
  go_enter Try.func43, Try.ntmps43
  go_wp2_with fail
  refine (B'.out _).mono ?_
  rintro e w1 ⟨rfl, k1⟩
  have q0 := k1.read (p := ⟨w.heap.size, 2, none⟩) (v := .int .u64 l) (by simp [go_sem])
  go_wp2
  go_ret
  exact ⟨rfl, (by (repeat (first | with_reducible exact Kept.refl _ | with_reducible apply Kept.drew | with_reducible apply Kept.alloc | ((with_reducible apply Kept.set); focus (simp <;> omega)) | ((with_reducible apply Kept.via); focus with_reducible assumption))))⟩
set_option maxHeartbeats 800000 in
theorem refInt_e (b : Bool) (h l : Int) (w : World) (c : h = 0) (c0 : 0 ≤ l) (c' : l < 9223372036854775808) (B1 : ∀ w, Calls Try.prog 34 #[.agg #[.bool b, .int .u64 h, .int .u64 l]] w fun e w' => e = .returned (.bool true) ∧ Kept w w') :
    Calls Try.prog 43 #[.agg #[.bool b, .int .u64 h, .int .u64 l]] w fun e w' => e = .returned (.int .i64 (-l)) ∧ Kept w w' := by
  have B' := Lib.hid B1
  clear B1
  subst c
  go_enter Try.func43, Try.ntmps43
  go_wp2_with fail
  refine (B'.out _).mono ?_
  rintro e w1 ⟨rfl, k1⟩
  have q0 := k1.read (p := ⟨w.heap.size, 2, none⟩) (v := .int .u64 l) (by simp [go_sem])
  go_wp2
  go_ret
  exact ⟨rfl, (by (repeat (first | with_reducible exact Kept.refl _ | with_reducible apply Kept.drew | with_reducible apply Kept.alloc | ((with_reducible apply Kept.set); focus (simp <;> omega)) | ((with_reducible apply Kept.via); focus with_reducible assumption))))⟩
set_option maxHeartbeats 800000 in
theorem refInt_f (b : Bool) (h l : Int) (w : World) (c : h = 0) (c0 : 0 ≤ l) (c' : l < 9223372036854775808) (B1 : ∀ w, Calls Try.prog 34 #[.agg #[.bool b, .int .u64 h, .int .u64 l]] w fun e w' => e = .returned (.bool false) ∧ Kept w w') :
    Calls Try.prog 43 #[.agg #[.bool b, .int .u64 h, .int .u64 l]] w fun e w' => e = .returned (.int .i64 l) ∧ Kept w w' := by
  have B' := Lib.hid B1
  clear B1
  subst c
  go_enter Try.func43, Try.ntmps43
  go_wp2_with fail
  refine (B'.out _).mono ?_
  rintro e w1 ⟨rfl, k1⟩
  have q0 := k1.read (p := ⟨w.heap.size, 2, none⟩) (v := .int .u64 l) (by simp [go_sem])
  go_wp2
  go_ret
  exact ⟨rfl, (by (repeat (first | with_reducible exact Kept.refl _ | with_reducible apply Kept.drew | with_reducible apply Kept.alloc | ((with_reducible apply Kept.set); focus (simp <;> omega)) | ((with_reducible apply Kept.via); focus with_reducible assumption))))⟩
theorem refInt_ok {b : Bool} {xh xl : Int} (h1 : Word xh) (h2 : Word xl) (w : World) : Calls Try.prog 43 #[.agg #[.bool b, .int .u64 xh, .int .u64 xl]] w fun e w' => e = .returned (.int .i64 (heldAt (numOf b xh xl))) ∧ Kept w w' := by
  have B := fun w => refBelow b xh xl w h1 h2
  rw [nz_iff h1 h2] at B
  have n0 := sz_nonneg h1 h2
  have hh := h1.1; have hl := h2.1; have hl' := h2.2
  have es : sz xh xl = xh * 18446744073709551616 + xl := rfl
  by_cases c : 0 < xh
  · have p : 0 < sz xh xl := by omega
    cases b
    · rw [numOf_false, show heldAt (sz xh xl) = 9223372036854775807 by exact heldAt_up (by omega)]
      exact refInt_b false xh xl w c B
    · rw [numOf_true, show heldAt (-sz xh xl) = -9223372036854775808 by exact heldAt_down (by omega)]
      simp only [p, decide_true, Bool.and_self] at B
      exact refInt_a true xh xl w c B
  · have c0 : xh = 0 := by omega
    by_cases d : 9223372036854775808 ≤ xl
    · have p : 0 < sz xh xl := by omega
      cases b
      · rw [numOf_false, show heldAt (sz xh xl) = 9223372036854775807 by exact heldAt_up (by omega)]
        exact refInt_d false xh xl w c0 d B
      · rw [numOf_true, show heldAt (-sz xh xl) = -9223372036854775808 by unfold heldAt; rw [if_neg (by omega)]; split <;> omega]
        simp only [p, decide_true, Bool.and_self] at B
        exact refInt_c true xh xl w c0 d B
    · cases b
      · rw [numOf_false, show heldAt (sz xh xl) = xl by rw [heldAt_of (by unfold In64; omega)]; omega]
        exact refInt_f false xh xl w c0 hl (by omega) B
      · by_cases z : 0 < sz xh xl
        · rw [numOf_true, show heldAt (-sz xh xl) = -xl by rw [heldAt_of (by unfold In64; omega)]; omega]
          simp only [z, decide_true, Bool.and_self] at B
          exact refInt_e true xh xl w c0 hl (by omega) B
        · rw [numOf_true, show heldAt (-sz xh xl) = xl by rw [heldAt_of (by unfold In64; omega)]; omega]
          simp only [z, decide_false, Bool.and_false] at B
          exact refInt_f true xh xl w c0 hl (by omega) B
end Go.Proofs.Ytfkdbelajideiaa
