/-
  Contracts of the document's answers of layer 6.
-/
import Derived.Test.YthjchmjpiijfnaaSample06
import Derived.Deep.DeepCutAuto
namespace Go.Proofs.Ythjchmjpiijfnaa
open Go.RowKit Go.BigFrame
set_option linter.unusedVariables false

theorem refMay_new  (w : World) : Calls Try.prog 13 #[.agg #[.bool false, .int .i64 0, .int .i64 0]] w fun e w' => e = .returned (.bool true) ∧ Kept w w' := by
  go_enter Try.func13, Try.ntmps13
  go_wp2
  go_ret
  exact ⟨rfl, (by (repeat (first | with_reducible exact Kept.refl _ | with_reducible apply Kept.drew | with_reducible apply Kept.alloc | ((with_reducible apply Kept.set); focus (simp <;> omega)) | ((with_reducible apply Kept.via); focus with_reducible assumption))))⟩
theorem refMay_new_m {m f : Int} (h : ¬ m = 0) (w : World) : Calls Try.prog 13 #[.agg #[.bool false, .int .i64 m, .int .i64 f]] w fun e w' => e = .returned (.bool false) ∧ Kept w w' := by
  have g : (m == 0) = false := by simp; omega
  go_enter Try.func13, Try.ntmps13
  go_wp2
  go_ret
  exact ⟨rfl, (by (repeat (first | with_reducible exact Kept.refl _ | with_reducible apply Kept.drew | with_reducible apply Kept.alloc | ((with_reducible apply Kept.set); focus (simp <;> omega)) | ((with_reducible apply Kept.via); focus with_reducible assumption))))⟩
theorem refMay_new_f {f : Int} (h : ¬ f = 0) (w : World) : Calls Try.prog 13 #[.agg #[.bool false, .int .i64 0, .int .i64 f]] w fun e w' => e = .returned (.bool false) ∧ Kept w w' := by
  have g : (f == 0) = false := by simp; omega
  go_enter Try.func13, Try.ntmps13
  go_wp2
  go_ret
  exact ⟨rfl, (by (repeat (first | with_reducible exact Kept.refl _ | with_reducible apply Kept.drew | with_reducible apply Kept.alloc | ((with_reducible apply Kept.set); focus (simp <;> omega)) | ((with_reducible apply Kept.via); focus with_reducible assumption))))⟩
theorem refMay_has {m f : Int} (m0 : 8 ≤ m) (m1 : m ≤ 8589934592) (f0 : 0 ≤ f) (f1 : f ≤ 4294967296) (w : World) : Calls Try.prog 13 #[.agg #[.bool true, .int .i64 m, .int .i64 f]] w fun e w' => e = .returned (.bool true) ∧ Kept w w' := by
  go_enter Try.func13, Try.ntmps13
  go_wp2
  go_ret
  exact ⟨rfl, (by (repeat (first | with_reducible exact Kept.refl _ | with_reducible apply Kept.drew | with_reducible apply Kept.alloc | ((with_reducible apply Kept.set); focus (simp <;> omega)) | ((with_reducible apply Kept.via); focus with_reducible assumption))))⟩
theorem refMay_m0 {m f : Int} (m0 : m < 8) (w : World) : Calls Try.prog 13 #[.agg #[.bool true, .int .i64 m, .int .i64 f]] w fun e w' => e = .returned (.bool false) ∧ Kept w w' := by
  go_enter Try.func13, Try.ntmps13
  go_wp2
  go_ret
  exact ⟨rfl, (by (repeat (first | with_reducible exact Kept.refl _ | with_reducible apply Kept.drew | with_reducible apply Kept.alloc | ((with_reducible apply Kept.set); focus (simp <;> omega)) | ((with_reducible apply Kept.via); focus with_reducible assumption))))⟩
theorem refMay_m1 {m f : Int} (m0 : 8 ≤ m) (m1 : 8589934592 < m) (w : World) : Calls Try.prog 13 #[.agg #[.bool true, .int .i64 m, .int .i64 f]] w fun e w' => e = .returned (.bool false) ∧ Kept w w' := by
  have g : decide (m ≤ 8589934592) = false := by simp; omega
  go_enter Try.func13, Try.ntmps13
  go_wp2
  go_ret
  exact ⟨rfl, (by (repeat (first | with_reducible exact Kept.refl _ | with_reducible apply Kept.drew | with_reducible apply Kept.alloc | ((with_reducible apply Kept.set); focus (simp <;> omega)) | ((with_reducible apply Kept.via); focus with_reducible assumption))))⟩
theorem refMay_f0 {m f : Int} (m0 : 8 ≤ m) (m1 : m ≤ 8589934592) (f0 : f < 0) (w : World) : Calls Try.prog 13 #[.agg #[.bool true, .int .i64 m, .int .i64 f]] w fun e w' => e = .returned (.bool false) ∧ Kept w w' := by
  have g : decide (0 ≤ f) = false := by simp; omega
  go_enter Try.func13, Try.ntmps13
  go_wp2
  go_ret
  exact ⟨rfl, (by (repeat (first | with_reducible exact Kept.refl _ | with_reducible apply Kept.drew | with_reducible apply Kept.alloc | ((with_reducible apply Kept.set); focus (simp <;> omega)) | ((with_reducible apply Kept.via); focus with_reducible assumption))))⟩
theorem refMay_f1 {m f : Int} (m0 : 8 ≤ m) (m1 : m ≤ 8589934592) (f0 : 0 ≤ f) (f1 : 4294967296 < f) (w : World) : Calls Try.prog 13 #[.agg #[.bool true, .int .i64 m, .int .i64 f]] w fun e w' => e = .returned (.bool false) ∧ Kept w w' := by
  have g : decide (f ≤ 4294967296) = false := by simp; omega
  go_enter Try.func13, Try.ntmps13
  go_wp2
  go_ret
  exact ⟨rfl, (by (repeat (first | with_reducible exact Kept.refl _ | with_reducible apply Kept.drew | with_reducible apply Kept.alloc | ((with_reducible apply Kept.set); focus (simp <;> omega)) | ((with_reducible apply Kept.via); focus with_reducible assumption))))⟩
theorem refCheck_yes_r {b : Bool} {m f : Int} (h : MayRtt b m f) (w : World) : Calls Try.prog 13 #[.agg #[.bool b, .int .i64 m, .int .i64 f]] w fun e w' => e = .returned (.bool true) ∧ Kept w w' := by
  rcases h with ⟨rfl, rfl, rfl⟩ | ⟨rfl, a, b, c, d⟩
  · exact refMay_new w
  · exact refMay_has a b c d w
theorem refCheck_no_r {b : Bool} {m f : Int} (h : ¬ MayRtt b m f) (w : World) : Calls Try.prog 13 #[.agg #[.bool b, .int .i64 m, .int .i64 f]] w fun e w' => e = .returned (.bool false) ∧ Kept w w' := by
  unfold MayRtt at h
  cases b
  · by_cases hm : m = 0
    · subst hm; exact refMay_new_f (by simpa using h) w
    · exact refMay_new_m hm w
  · by_cases h0 : m < 8
    · exact refMay_m0 h0 w
    · by_cases h1 : 8589934592 < m
      · exact refMay_m1 (by omega) h1 w
      · by_cases h2 : f < 0
        · exact refMay_f0 (by omega) (by omega) h2 w
        · exact refMay_f1 (by omega) (by omega) (by omega) (by simp at h; omega) w
theorem refMean_ok {b : Bool} {m f n : Int} (h : In64 m) (hn : m.tdiv 8 = n) (w : World) : Calls Try.prog 15 #[.agg #[.bool b, .int .i64 m, .int .i64 f]] w fun e w' => e = .returned (.int .i64 n) ∧ Kept w w' := by
  have H := Lib.hid hn
  clear hn
  unfold In64 at h
  go_enter Try.func15, Try.ntmps15
  go_wp2
  go_ret
  exact ⟨ret_same_r (by have := H.out; omega), (by (repeat (first | with_reducible exact Kept.refl _ | with_reducible apply Kept.drew | with_reducible apply Kept.alloc | ((with_reducible apply Kept.set); focus (simp <;> omega)) | ((with_reducible apply Kept.via); focus with_reducible assumption))))⟩
theorem refFar_ok {b : Bool} {m f n : Int} (h : In64 f) (hn : f.tdiv 4 = n) (w : World) : Calls Try.prog 17 #[.agg #[.bool b, .int .i64 m, .int .i64 f]] w fun e w' => e = .returned (.int .i64 n) ∧ Kept w w' := by
  have H := Lib.hid hn
  clear hn
  unfold In64 at h
  go_enter Try.func17, Try.ntmps17
  go_wp2
  go_ret
  exact ⟨ret_same_r (by have := H.out; omega), (by (repeat (first | with_reducible exact Kept.refl _ | with_reducible apply Kept.drew | with_reducible apply Kept.alloc | ((with_reducible apply Kept.set); focus (simp <;> omega)) | ((with_reducible apply Kept.via); focus with_reducible assumption))))⟩
set_option maxRecDepth 100000 in
set_option maxHeartbeats 1600000 in
theorem refSample_bad {b : Bool} {m f t : Int} (MY : ∀ w, Calls Try.prog 13 #[.agg #[.bool b, .int .i64 m, .int .i64 f]] w fun e w' => e = .returned (.bool false) ∧ Kept w w') (w : World) : Calls Try.prog 11 #[.agg #[.bool b, .int .i64 m, .int .i64 f], .int .i64 t] w fun e w' => e = .returned (.tuple #[.agg #[.bool b, .int .i64 m, .int .i64 f], .int .i64 201]) ∧ Kept w w' := by
  have MY' := Lib.hid MY
  clear MY
  go_enter Try.func11, Try.ntmps11
  go_upto_region 1 with fail
  generalize hW : (World.alloc (World.alloc w (.cells #[.bool b, .int .i64 m, .int .i64 f] 23)) (.cells #[.bool false, .int .i64 0, .int .i64 0] 23)) = W0
  have base := Lib.hid (show W0.cell? ⟨w.heap.size, 0, none⟩ = some (.bool b) ∧ W0.cell? ⟨w.heap.size, 1, none⟩ = some (.int .i64 m) ∧ W0.cell? ⟨w.heap.size, 2, none⟩ = some (.int .i64 f) from by subst hW; simp [go_sem])
  have room : Room3 W0 (w.heap.size + 1) := by subst hW; exact ⟨_, _, _, by first | (simp [go_sem]; done) | (simp [go_sem]; rfl), by first | (simp [go_sem]; done) | (simp [go_sem]; rfl), by first | (simp [go_sem]; done) | (simp [go_sem]; rfl), by simp [go_sem], by simp [go_sem], by simp [go_sem]⟩
  have kw : Kept w W0 := by subst hW; exact (by (repeat (first | with_reducible exact Kept.refl _ | with_reducible apply Kept.drew | with_reducible apply Kept.alloc | ((with_reducible apply Kept.set); focus (simp <;> omega)) | ((with_reducible apply Kept.via); focus with_reducible assumption))))
  clear hW
  obtain ⟨c0, c1, c2⟩ := base.out
  go_wp2_with fail
  refine (MY'.out _).mono ?_
  rintro e w1 ⟨rfl, k1⟩
  clear c0 c1 c2
  obtain ⟨c0, c1, c2⟩ := Kept.all3 k1 base
  obtain ⟨nx, ny, nz, na1, na2, na3, nb1, nb2, nb3⟩ := Room3.kept room k1
  go_wp2
  simp [bodyPost, results, Try.results11, go_sem, *]
  exact (by (repeat (first | with_reducible exact Kept.refl _ | with_reducible apply Kept.drew | with_reducible apply Kept.alloc | ((with_reducible apply Kept.set); focus (simp <;> omega)) | ((with_reducible apply Kept.via); focus with_reducible assumption))))
set_option maxRecDepth 100000 in
set_option maxHeartbeats 1600000 in
theorem refSample_low {b : Bool} {m f t : Int} (h : t < 1) (MY : ∀ w, Calls Try.prog 13 #[.agg #[.bool b, .int .i64 m, .int .i64 f]] w fun e w' => e = .returned (.bool true) ∧ Kept w w') (w : World) : Calls Try.prog 11 #[.agg #[.bool b, .int .i64 m, .int .i64 f], .int .i64 t] w fun e w' => e = .returned (.tuple #[.agg #[.bool b, .int .i64 m, .int .i64 f], .int .i64 201]) ∧ Kept w w' := by
  have MY' := Lib.hid MY
  clear MY
  go_enter Try.func11, Try.ntmps11
  go_upto_region 1 with fail
  generalize hW : (World.alloc (World.alloc w (.cells #[.bool b, .int .i64 m, .int .i64 f] 23)) (.cells #[.bool false, .int .i64 0, .int .i64 0] 23)) = W0
  have base := Lib.hid (show W0.cell? ⟨w.heap.size, 0, none⟩ = some (.bool b) ∧ W0.cell? ⟨w.heap.size, 1, none⟩ = some (.int .i64 m) ∧ W0.cell? ⟨w.heap.size, 2, none⟩ = some (.int .i64 f) from by subst hW; simp [go_sem])
  have room : Room3 W0 (w.heap.size + 1) := by subst hW; exact ⟨_, _, _, by first | (simp [go_sem]; done) | (simp [go_sem]; rfl), by first | (simp [go_sem]; done) | (simp [go_sem]; rfl), by first | (simp [go_sem]; done) | (simp [go_sem]; rfl), by simp [go_sem], by simp [go_sem], by simp [go_sem]⟩
  have kw : Kept w W0 := by subst hW; exact (by (repeat (first | with_reducible exact Kept.refl _ | with_reducible apply Kept.drew | with_reducible apply Kept.alloc | ((with_reducible apply Kept.set); focus (simp <;> omega)) | ((with_reducible apply Kept.via); focus with_reducible assumption))))
  clear hW
  obtain ⟨c0, c1, c2⟩ := base.out
  go_wp2_with fail
  refine (MY'.out _).mono ?_
  rintro e w1 ⟨rfl, k1⟩
  clear c0 c1 c2
  obtain ⟨c0, c1, c2⟩ := Kept.all3 k1 base
  obtain ⟨nx, ny, nz, na1, na2, na3, nb1, nb2, nb3⟩ := Room3.kept room k1
  go_wp2
  simp [bodyPost, results, Try.results11, go_sem, *]
  exact (by (repeat (first | with_reducible exact Kept.refl _ | with_reducible apply Kept.drew | with_reducible apply Kept.alloc | ((with_reducible apply Kept.set); focus (simp <;> omega)) | ((with_reducible apply Kept.via); focus with_reducible assumption))))
set_option maxRecDepth 100000 in
set_option maxHeartbeats 1600000 in
theorem refSample_high {b : Bool} {m f t : Int} (h : 1 ≤ t) (h1 : 1073741824 < t) (MY : ∀ w, Calls Try.prog 13 #[.agg #[.bool b, .int .i64 m, .int .i64 f]] w fun e w' => e = .returned (.bool true) ∧ Kept w w') (w : World) : Calls Try.prog 11 #[.agg #[.bool b, .int .i64 m, .int .i64 f], .int .i64 t] w fun e w' => e = .returned (.tuple #[.agg #[.bool b, .int .i64 m, .int .i64 f], .int .i64 201]) ∧ Kept w w' := by
  have MY' := Lib.hid MY
  clear MY
  go_enter Try.func11, Try.ntmps11
  go_upto_region 1 with fail
  generalize hW : (World.alloc (World.alloc w (.cells #[.bool b, .int .i64 m, .int .i64 f] 23)) (.cells #[.bool false, .int .i64 0, .int .i64 0] 23)) = W0
  have base := Lib.hid (show W0.cell? ⟨w.heap.size, 0, none⟩ = some (.bool b) ∧ W0.cell? ⟨w.heap.size, 1, none⟩ = some (.int .i64 m) ∧ W0.cell? ⟨w.heap.size, 2, none⟩ = some (.int .i64 f) from by subst hW; simp [go_sem])
  have room : Room3 W0 (w.heap.size + 1) := by subst hW; exact ⟨_, _, _, by first | (simp [go_sem]; done) | (simp [go_sem]; rfl), by first | (simp [go_sem]; done) | (simp [go_sem]; rfl), by first | (simp [go_sem]; done) | (simp [go_sem]; rfl), by simp [go_sem], by simp [go_sem], by simp [go_sem]⟩
  have kw : Kept w W0 := by subst hW; exact (by (repeat (first | with_reducible exact Kept.refl _ | with_reducible apply Kept.drew | with_reducible apply Kept.alloc | ((with_reducible apply Kept.set); focus (simp <;> omega)) | ((with_reducible apply Kept.via); focus with_reducible assumption))))
  clear hW
  obtain ⟨c0, c1, c2⟩ := base.out
  go_wp2_with fail
  refine (MY'.out _).mono ?_
  rintro e w1 ⟨rfl, k1⟩
  clear c0 c1 c2
  obtain ⟨c0, c1, c2⟩ := Kept.all3 k1 base
  obtain ⟨nx, ny, nz, na1, na2, na3, nb1, nb2, nb3⟩ := Room3.kept room k1
  go_wp2
  simp [bodyPost, results, Try.results11, go_sem, *]
  exact (by (repeat (first | with_reducible exact Kept.refl _ | with_reducible apply Kept.drew | with_reducible apply Kept.alloc | ((with_reducible apply Kept.set); focus (simp <;> omega)) | ((with_reducible apply Kept.via); focus with_reducible assumption))))
set_option maxRecDepth 100000 in
set_option maxHeartbeats 1600000 in
theorem refSample_first {m f t : Int} (h : 1 ≤ t) (h1 : t ≤ 1073741824) (MY : ∀ w, Calls Try.prog 13 #[.agg #[.bool false, .int .i64 m, .int .i64 f]] w fun e w' => e = .returned (.bool true) ∧ Kept w w') (w : World) : Calls Try.prog 11 #[.agg #[.bool false, .int .i64 m, .int .i64 f], .int .i64 t] w fun e w' => e = .returned (.tuple #[.agg #[.bool true, .int .i64 (8 * t), .int .i64 (2 * t)], .int .i64 0]) ∧ Kept w w' := by
  have MY' := Lib.hid MY
  clear MY
  go_enter Try.func11, Try.ntmps11
  go_upto_region 1 with fail
  generalize hW : (World.alloc (World.alloc w (.cells #[.bool false, .int .i64 m, .int .i64 f] 23)) (.cells #[.bool false, .int .i64 0, .int .i64 0] 23)) = W0
  have base := Lib.hid (show W0.cell? ⟨w.heap.size, 0, none⟩ = some (.bool false) ∧ W0.cell? ⟨w.heap.size, 1, none⟩ = some (.int .i64 m) ∧ W0.cell? ⟨w.heap.size, 2, none⟩ = some (.int .i64 f) from by subst hW; simp [go_sem])
  have room : Room3 W0 (w.heap.size + 1) := by subst hW; exact ⟨_, _, _, by first | (simp [go_sem]; done) | (simp [go_sem]; rfl), by first | (simp [go_sem]; done) | (simp [go_sem]; rfl), by first | (simp [go_sem]; done) | (simp [go_sem]; rfl), by simp [go_sem], by simp [go_sem], by simp [go_sem]⟩
  have kw : Kept w W0 := by subst hW; exact (by (repeat (first | with_reducible exact Kept.refl _ | with_reducible apply Kept.drew | with_reducible apply Kept.alloc | ((with_reducible apply Kept.set); focus (simp <;> omega)) | ((with_reducible apply Kept.via); focus with_reducible assumption))))
  clear hW
  obtain ⟨c0, c1, c2⟩ := base.out
  go_wp2_with fail
  refine (MY'.out _).mono ?_
  rintro e w1 ⟨rfl, k1⟩
  clear c0 c1 c2
  obtain ⟨c0, c1, c2⟩ := Kept.all3 k1 base
  obtain ⟨nx, ny, nz, na1, na2, na3, nb1, nb2, nb3⟩ := Room3.kept room k1
  go_wp2
  simp [bodyPost, results, Try.results11, go_sem, *]
  exact (by (repeat (first | with_reducible exact Kept.refl _ | with_reducible apply Kept.drew | with_reducible apply Kept.alloc | ((with_reducible apply Kept.set); focus (simp <;> omega)) | ((with_reducible apply Kept.via); focus with_reducible assumption))))
set_option maxRecDepth 100000 in
set_option maxHeartbeats 1600000 in
theorem refSample_up {m f t p q : Int} (h : 1 ≤ t) (h1 : t ≤ 1073741824) (p0 : 0 ≤ p) (p1 : p ≤ 1073741824) (r0 : 0 ≤ q) (r1 : q ≤ 1073741824) (m0 : 8 ≤ m) (m1 : m ≤ 8589934592) (f0 : 0 ≤ f) (f1 : f ≤ 4294967296) (hg : p ≤ t) (MY : ∀ w, Calls Try.prog 13 #[.agg #[.bool true, .int .i64 m, .int .i64 f]] w fun e w' => e = .returned (.bool true) ∧ Kept w w') (ME : ∀ w, Calls Try.prog 15 #[.agg #[.bool true, .int .i64 m, .int .i64 f]] w fun e w' => e = .returned (.int .i64 p) ∧ Kept w w') (FA : ∀ w, Calls Try.prog 17 #[.agg #[.bool true, .int .i64 m, .int .i64 f]] w fun e w' => e = .returned (.int .i64 q) ∧ Kept w w') (w : World) : Calls Try.prog 11 #[.agg #[.bool true, .int .i64 m, .int .i64 f], .int .i64 t] w fun e w' => e = .returned (.tuple #[.agg #[.bool true, .int .i64 (m + t - p), .int .i64 (f + (t - p) - q)], .int .i64 0]) ∧ Kept w w' := by
  have MY' := Lib.hid MY
  have ME' := Lib.hid ME
  have FA' := Lib.hid FA
  clear MY ME FA
  go_enter Try.func11, Try.ntmps11
  go_upto_region 1 with fail
  generalize hW : (World.alloc (World.alloc w (.cells #[.bool true, .int .i64 m, .int .i64 f] 23)) (.cells #[.bool false, .int .i64 0, .int .i64 0] 23)) = W0
  have base := Lib.hid (show W0.cell? ⟨w.heap.size, 0, none⟩ = some (.bool true) ∧ W0.cell? ⟨w.heap.size, 1, none⟩ = some (.int .i64 m) ∧ W0.cell? ⟨w.heap.size, 2, none⟩ = some (.int .i64 f) from by subst hW; simp [go_sem])
  have room : Room3 W0 (w.heap.size + 1) := by subst hW; exact ⟨_, _, _, by first | (simp [go_sem]; done) | (simp [go_sem]; rfl), by first | (simp [go_sem]; done) | (simp [go_sem]; rfl), by first | (simp [go_sem]; done) | (simp [go_sem]; rfl), by simp [go_sem], by simp [go_sem], by simp [go_sem]⟩
  have kw : Kept w W0 := by subst hW; exact (by (repeat (first | with_reducible exact Kept.refl _ | with_reducible apply Kept.drew | with_reducible apply Kept.alloc | ((with_reducible apply Kept.set); focus (simp <;> omega)) | ((with_reducible apply Kept.via); focus with_reducible assumption))))
  clear hW
  obtain ⟨c0, c1, c2⟩ := base.out
  go_wp2_with fail
  refine (MY'.out _).mono ?_
  rintro e w1 ⟨rfl, k1⟩
  clear c0 c1 c2
  obtain ⟨c0, c1, c2⟩ := Kept.all3 k1 base
  go_wp2_with fail
  refine (ME'.out _).mono ?_
  rintro e w2 ⟨rfl, k2⟩
  clear c0 c1 c2
  obtain ⟨c0, c1, c2⟩ := Kept.all3 (Kept.trans k1 k2) base
  go_upto_region 9 with fail
  clear c0 c1 c2
  have B := Lib.hid (Kept.all3 (Kept.trans k1 k2) base)
  obtain ⟨q0, q1, q2⟩ := kw3 B
  refine wp_region_kept_tail 15 (by kernel_rfl) (by kernel_rfl) ?_
  simp only [List.take_succ_cons, List.take_zero, List.drop_succ_cons, List.drop_zero]
  repeat (go_big_quiet_step (first | (with_reducible exact kept_of (ME'.out _)) | (with_reducible exact kept_of (FA'.out _))))
  refine wpQuiet_nil ?_
  intro wq hw'
  have kq : Kept w2 wq := by obtain ⟨p, rfl⟩ := hw'; exact p.k
  clear hw' q0 q1 q2
  obtain ⟨nx, ny, nz, na1, na2, na3, nb1, nb2, nb3⟩ := Room3.kept room (Kept.trans (Kept.trans k1 k2) kq)
  go_wp2
  simp [bodyPost, results, Try.results11, go_sem, *]
  exact (by (repeat (first | with_reducible exact Kept.refl _ | with_reducible apply Kept.drew | with_reducible apply Kept.alloc | ((with_reducible apply Kept.set); focus (simp <;> omega)) | ((with_reducible apply Kept.via); focus with_reducible assumption))))
set_option maxRecDepth 100000 in
set_option maxHeartbeats 1600000 in
theorem refSample_down {m f t p q : Int} (h : 1 ≤ t) (h1 : t ≤ 1073741824) (p0 : 0 ≤ p) (p1 : p ≤ 1073741824) (r0 : 0 ≤ q) (r1 : q ≤ 1073741824) (m0 : 8 ≤ m) (m1 : m ≤ 8589934592) (f0 : 0 ≤ f) (f1 : f ≤ 4294967296) (hg : t < p) (MY : ∀ w, Calls Try.prog 13 #[.agg #[.bool true, .int .i64 m, .int .i64 f]] w fun e w' => e = .returned (.bool true) ∧ Kept w w') (ME : ∀ w, Calls Try.prog 15 #[.agg #[.bool true, .int .i64 m, .int .i64 f]] w fun e w' => e = .returned (.int .i64 p) ∧ Kept w w') (FA : ∀ w, Calls Try.prog 17 #[.agg #[.bool true, .int .i64 m, .int .i64 f]] w fun e w' => e = .returned (.int .i64 q) ∧ Kept w w') (w : World) : Calls Try.prog 11 #[.agg #[.bool true, .int .i64 m, .int .i64 f], .int .i64 t] w fun e w' => e = .returned (.tuple #[.agg #[.bool true, .int .i64 (m + t - p), .int .i64 (f + (-(t - p)) - q)], .int .i64 0]) ∧ Kept w w' := by
  have MY' := Lib.hid MY
  have ME' := Lib.hid ME
  have FA' := Lib.hid FA
  clear MY ME FA
  go_enter Try.func11, Try.ntmps11
  go_upto_region 1 with fail
  generalize hW : (World.alloc (World.alloc w (.cells #[.bool true, .int .i64 m, .int .i64 f] 23)) (.cells #[.bool false, .int .i64 0, .int .i64 0] 23)) = W0
  have base := Lib.hid (show W0.cell? ⟨w.heap.size, 0, none⟩ = some (.bool true) ∧ W0.cell? ⟨w.heap.size, 1, none⟩ = some (.int .i64 m) ∧ W0.cell? ⟨w.heap.size, 2, none⟩ = some (.int .i64 f) from by subst hW; simp [go_sem])
  have room : Room3 W0 (w.heap.size + 1) := by subst hW; exact ⟨_, _, _, by first | (simp [go_sem]; done) | (simp [go_sem]; rfl), by first | (simp [go_sem]; done) | (simp [go_sem]; rfl), by first | (simp [go_sem]; done) | (simp [go_sem]; rfl), by simp [go_sem], by simp [go_sem], by simp [go_sem]⟩
  have kw : Kept w W0 := by subst hW; exact (by (repeat (first | with_reducible exact Kept.refl _ | with_reducible apply Kept.drew | with_reducible apply Kept.alloc | ((with_reducible apply Kept.set); focus (simp <;> omega)) | ((with_reducible apply Kept.via); focus with_reducible assumption))))
  clear hW
  obtain ⟨c0, c1, c2⟩ := base.out
  go_wp2_with fail
  refine (MY'.out _).mono ?_
  rintro e w1 ⟨rfl, k1⟩
  clear c0 c1 c2
  obtain ⟨c0, c1, c2⟩ := Kept.all3 k1 base
  go_wp2_with fail
  refine (ME'.out _).mono ?_
  rintro e w2 ⟨rfl, k2⟩
  clear c0 c1 c2
  obtain ⟨c0, c1, c2⟩ := Kept.all3 (Kept.trans k1 k2) base
  go_upto_region 9 with fail
  clear c0 c1 c2
  have B := Lib.hid (Kept.all3 (Kept.trans k1 k2) base)
  obtain ⟨q0, q1, q2⟩ := kw3 B
  refine wp_region_kept_tail 15 (by kernel_rfl) (by kernel_rfl) ?_
  simp only [List.take_succ_cons, List.take_zero, List.drop_succ_cons, List.drop_zero]
  repeat (go_big_quiet_step (first | (with_reducible exact kept_of (ME'.out _)) | (with_reducible exact kept_of (FA'.out _))))
  refine wpQuiet_nil ?_
  intro wq hw'
  have kq : Kept w2 wq := by obtain ⟨p, rfl⟩ := hw'; exact p.k
  clear hw' q0 q1 q2
  obtain ⟨nx, ny, nz, na1, na2, na3, nb1, nb2, nb3⟩ := Room3.kept room (Kept.trans (Kept.trans k1 k2) kq)
  go_wp2
  simp [bodyPost, results, Try.results11, go_sem, *]
  exact (by (repeat (first | with_reducible exact Kept.refl _ | with_reducible apply Kept.drew | with_reducible apply Kept.alloc | ((with_reducible apply Kept.set); focus (simp <;> omega)) | ((with_reducible apply Kept.via); focus with_reducible assumption))))
theorem refSample_more {m f t : Int} (hr : MayRtt true m f) (ht : IsTrip t) (w : World) : Calls Try.prog 11 #[.agg #[.bool true, .int .i64 m, .int .i64 f], .int .i64 t] w fun e w' => e = .returned (.tuple #[.agg #[.bool true, .int .i64 (m + t - m / 8), .int .i64 (f + gapOf t (m / 8) - f / 4)], .int .i64 0]) ∧ Kept w w' := by
  have h : 8 ≤ m ∧ m ≤ 8589934592 ∧ 0 ≤ f ∧ f ≤ 4294967296 := by unfold MayRtt at hr; simpa using hr
  obtain ⟨h1, h2, h3, h4⟩ := h
  obtain ⟨t0, t1⟩ := ht
  have HM : ∀ w, Calls Try.prog 15 #[.agg #[.bool true, .int .i64 m, .int .i64 f]] w fun e w' => e = .returned (.int .i64 (m / 8)) ∧ Kept w w' := fun w => refMean_ok (by unfold In64; omega) (Int.tdiv_eq_ediv_of_nonneg (by omega)) w
  have HF : ∀ w, Calls Try.prog 17 #[.agg #[.bool true, .int .i64 m, .int .i64 f]] w fun e w' => e = .returned (.int .i64 (f / 4)) ∧ Kept w w' := fun w => refFar_ok (by unfold In64; omega) (Int.tdiv_eq_ediv_of_nonneg (by omega)) w
  by_cases hg : t < m / 8
  · have e : gapOf t (m / 8) = -(t - m / 8) := by unfold gapOf; rw [if_pos hg]; omega
    rw [e]
    exact refSample_down t0 t1 (by omega) (by omega) (by omega) (by omega) h1 h2 h3 h4 hg (fun w => refCheck_yes_r hr w) HM HF w
  · have e : gapOf t (m / 8) = t - m / 8 := by unfold gapOf; rw [if_neg hg]
    rw [e]
    exact refSample_up t0 t1 (by omega) (by omega) (by omega) (by omega) h1 h2 h3 h4 (by omega) (fun w => refCheck_yes_r hr w) HM HF w
theorem refSample_ok {b b' : Bool} {m f t m' f' er : Int} (h : SampleIs b m f t b' m' f' er) (w : World) : Calls Try.prog 11 #[.agg #[.bool b, .int .i64 m, .int .i64 f], .int .i64 t] w fun e w' => e = .returned (.tuple #[.agg #[.bool b', .int .i64 m', .int .i64 f'], .int .i64 er]) ∧ Kept w w' := by
  rcases h with ⟨h, rfl, rfl, rfl, rfl⟩ | ⟨h, ht, rfl, rfl, rfl, rfl, rfl⟩ | ⟨h, ht, rfl, rfl, rfl, rfl, rfl⟩
  · by_cases hr : MayRtt b' m' f'
    · by_cases h0 : t < 1
      · exact refSample_low h0 (fun w => refCheck_yes_r hr w) w
      · exact refSample_high (by omega) (by have : ¬ IsTrip t := fun hh => h ⟨hr, hh⟩; unfold IsTrip at this; omega) (fun w => refCheck_yes_r hr w) w
    · exact refSample_bad (fun w => refCheck_no_r hr w) w
  · exact refSample_first ht.1 ht.2 (fun w => refCheck_yes_r h w) w
  · exact refSample_more h ht w
end Go.Proofs.Ythjchmjpiijfnaa
