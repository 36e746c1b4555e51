/-
  Contracts of the document's answers of layer 6.
-/
import Derived.Test.YtjfeobkkkgalaaaSample06
import Derived.Deep.DeepCutAuto
namespace Go.Proofs.Ytjfeobkkkgalaaa
open Go.RowKit Go.BigFrame
set_option linter.unusedVariables false

theorem refMay_new  (w : World) : Calls Try.prog 23 #[.agg #[.bool false, .int .i64 0, .int .i64 0]] w fun e w' => e = .returned (.bool true) ∧ Kept w w' := by
  go_enter Try.func23, Try.ntmps23
  go_wp2
  go_ret
  exact ⟨rfl, (by (repeat (first | with_reducible exact Kept.refl _ | with_reducible apply Kept.drew | with_reducible apply Kept.alloc | ((with_reducible apply Kept.set); focus (simp <;> omega)) | ((with_reducible apply Kept.via); focus with_reducible assumption))))⟩
theorem refMay_new_m {m f : Int} (h : ¬ m = 0) (w : World) : Calls Try.prog 23 #[.agg #[.bool false, .int .i64 m, .int .i64 f]] w fun e w' => e = .returned (.bool false) ∧ Kept w w' := by
  have g : (m == 0) = false := by simp; omega
  go_enter Try.func23, Try.ntmps23
  go_wp2
  go_ret
  exact ⟨rfl, (by (repeat (first | with_reducible exact Kept.refl _ | with_reducible apply Kept.drew | with_reducible apply Kept.alloc | ((with_reducible apply Kept.set); focus (simp <;> omega)) | ((with_reducible apply Kept.via); focus with_reducible assumption))))⟩
theorem refMay_new_f {f : Int} (h : ¬ f = 0) (w : World) : Calls Try.prog 23 #[.agg #[.bool false, .int .i64 0, .int .i64 f]] w fun e w' => e = .returned (.bool false) ∧ Kept w w' := by
  have g : (f == 0) = false := by simp; omega
  go_enter Try.func23, Try.ntmps23
  go_wp2
  go_ret
  exact ⟨rfl, (by (repeat (first | with_reducible exact Kept.refl _ | with_reducible apply Kept.drew | with_reducible apply Kept.alloc | ((with_reducible apply Kept.set); focus (simp <;> omega)) | ((with_reducible apply Kept.via); focus with_reducible assumption))))⟩
theorem refMay_has {m f : Int} (m0 : 8 ≤ m) (m1 : m ≤ 8589934592) (f0 : 0 ≤ f) (f1 : f ≤ 4294967296) (w : World) : Calls Try.prog 23 #[.agg #[.bool true, .int .i64 m, .int .i64 f]] w fun e w' => e = .returned (.bool true) ∧ Kept w w' := by
  go_enter Try.func23, Try.ntmps23
  go_wp2
  go_ret
  exact ⟨rfl, (by (repeat (first | with_reducible exact Kept.refl _ | with_reducible apply Kept.drew | with_reducible apply Kept.alloc | ((with_reducible apply Kept.set); focus (simp <;> omega)) | ((with_reducible apply Kept.via); focus with_reducible assumption))))⟩
theorem refMay_m0 {m f : Int} (m0 : m < 8) (w : World) : Calls Try.prog 23 #[.agg #[.bool true, .int .i64 m, .int .i64 f]] w fun e w' => e = .returned (.bool false) ∧ Kept w w' := by
  go_enter Try.func23, Try.ntmps23
  go_wp2
  go_ret
  exact ⟨rfl, (by (repeat (first | with_reducible exact Kept.refl _ | with_reducible apply Kept.drew | with_reducible apply Kept.alloc | ((with_reducible apply Kept.set); focus (simp <;> omega)) | ((with_reducible apply Kept.via); focus with_reducible assumption))))⟩
theorem refMay_m1 {m f : Int} (m0 : 8 ≤ m) (m1 : 8589934592 < m) (w : World) : Calls Try.prog 23 #[.agg #[.bool true, .int .i64 m, .int .i64 f]] w fun e w' => e = .returned (.bool false) ∧ Kept w w' := by
  have g : decide (m ≤ 8589934592) = false := by simp; omega
  go_enter Try.func23, Try.ntmps23
  go_wp2
  go_ret
  exact ⟨rfl, (by (repeat (first | with_reducible exact Kept.refl _ | with_reducible apply Kept.drew | with_reducible apply Kept.alloc | ((with_reducible apply Kept.set); focus (simp <;> omega)) | ((with_reducible apply Kept.via); focus with_reducible assumption))))⟩
theorem refMay_f0 {m f : Int} (m0 : 8 ≤ m) (m1 : m ≤ 8589934592) (f0 : f < 0) (w : World) : Calls Try.prog 23 #[.agg #[.bool true, .int .i64 m, .int .i64 f]] w fun e w' => e = .returned (.bool false) ∧ Kept w w' := by
  have g : decide (0 ≤ f) = false := by simp; omega
  go_enter Try.func23, Try.ntmps23
  go_wp2
  go_ret
  exact ⟨rfl, (by (repeat (first | with_reducible exact Kept.refl _ | with_reducible apply Kept.drew | with_reducible apply Kept.alloc | ((with_reducible apply Kept.set); focus (simp <;> omega)) | ((with_reducible apply Kept.via); focus with_reducible assumption))))⟩
theorem refMay_f1 {m f : Int} (m0 : 8 ≤ m) (m1 : m ≤ 8589934592) (f0 : 0 ≤ f) (f1 : 4294967296 < f) (w : World) : Calls Try.prog 23 #[.agg #[.bool true, .int .i64 m, .int .i64 f]] w fun e w' => e = .returned (.bool false) ∧ Kept w w' := by
  have g : decide (f ≤ 4294967296) = false := by simp; omega
  go_enter Try.func23, Try.ntmps23
  go_wp2
  go_ret
  exact ⟨rfl, (by (repeat (first | with_reducible exact Kept.refl _ | with_reducible apply Kept.drew | with_reducible apply Kept.alloc | ((with_reducible apply Kept.set); focus (simp <;> omega)) | ((with_reducible apply Kept.via); focus with_reducible assumption))))⟩
theorem refCheck_yes_r {b : Bool} {m f : Int} (h : MayRtt b m f) (w : World) : Calls Try.prog 23 #[.agg #[.bool b, .int .i64 m, .int .i64 f]] w fun e w' => e = .returned (.bool true) ∧ Kept w w' := by
  rcases h with ⟨rfl, rfl, rfl⟩ | ⟨rfl, a, b, c, d⟩
  · exact refMay_new w
  · exact refMay_has a b c d w
theorem refCheck_no_r {b : Bool} {m f : Int} (h : ¬ MayRtt b m f) (w : World) : Calls Try.prog 23 #[.agg #[.bool b, .int .i64 m, .int .i64 f]] w fun e w' => e = .returned (.bool false) ∧ Kept w w' := by
  unfold MayRtt at h
  cases b
  · by_cases hm : m = 0
    · subst hm; exact refMay_new_f (by simpa using h) w
    · exact refMay_new_m hm w
  · by_cases h0 : m < 8
    · exact refMay_m0 h0 w
    · by_cases h1 : 8589934592 < m
      · exact refMay_m1 (by omega) h1 w
      · by_cases h2 : f < 0
        · exact refMay_f0 (by omega) (by omega) h2 w
        · exact refMay_f1 (by omega) (by omega) (by omega) (by simp at h; omega) w
theorem refMean_ok {b : Bool} {m f n : Int} (h : In64 m) (hn : m.tdiv 8 = n) (w : World) : Calls Try.prog 24 #[.agg #[.bool b, .int .i64 m, .int .i64 f]] w fun e w' => e = .returned (.int .i64 n) ∧ Kept w w' := by
  have H := Lib.hid hn
  clear hn
  unfold In64 at h
  go_enter Try.func24, Try.ntmps24
  go_wp2
  go_ret
  exact ⟨ret_same_r (by have := H.out; omega), (by (repeat (first | with_reducible exact Kept.refl _ | with_reducible apply Kept.drew | with_reducible apply Kept.alloc | ((with_reducible apply Kept.set); focus (simp <;> omega)) | ((with_reducible apply Kept.via); focus with_reducible assumption))))⟩
end Go.Proofs.Ytjfeobkkkgalaaa
