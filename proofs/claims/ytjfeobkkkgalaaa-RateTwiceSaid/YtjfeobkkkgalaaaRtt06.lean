/-
  Contracts of package rtt.
-/
import Derived.Test.YtjfeobkkkgalaaaRoom
import Derived.Deep.DeepCutAuto
namespace Go.Proofs.Ytjfeobkkkgalaaa
open Go.RowKit Go.BigFrame
set_option linter.unusedVariables false

theorem ret_same_r {k : IntKind} {a b : Int} (h : a = b) : Ending.returned (.int k a) = Ending.returned (.int k b) := by rw [h]
/-- What is known may be. -/
def MayRtt (b : Bool) (m f : Int) : Prop := (b = false ∧ m = 0 ∧ f = 0) ∨ (b = true ∧ 8 ≤ m ∧ m ≤ 8589934592 ∧ 0 ≤ f ∧ f ≤ 4294967296)
/-- How far two numbers are from each other. -/
def gapOf (a b : Int) : Int := if a < b then b - a else a - b
/-- A time there and back. -/
def IsTrip (t : Int) : Prop := 1 ≤ t ∧ t ≤ 1073741824
/-- What is known behind one time more. -/
def SampleIs (b : Bool) (m f t : Int) (b' : Bool) (m' f' er : Int) : Prop :=
  (¬ (MayRtt b m f ∧ IsTrip t) ∧ b' = b ∧ m' = m ∧ f' = f ∧ er = 201) ∨
  (MayRtt b m f ∧ IsTrip t ∧ b = false ∧ b' = true ∧ m' = 8 * t ∧ f' = 2 * t ∧ er = 0) ∨
  (MayRtt b m f ∧ IsTrip t ∧ b = true ∧ b' = true ∧ m' = m + t - m / 8 ∧ f' = f + gapOf t (m / 8) - f / 4 ∧ er = 0)

theorem within_yes {n l h : Int} (h0 : l ≤ n) (h1 : n ≤ h) (w : World) : Calls Try.prog 67 #[.int .i64 n, .int .i64 l, .int .i64 h] w fun e w' => e = .returned (.bool true) ∧ Kept w w' := by
  go_enter Try.func67, Try.ntmps67
  go_wp2
  go_ret
  exact ⟨rfl, (by (repeat (first | with_reducible exact Kept.refl _ | with_reducible apply Kept.drew | with_reducible apply Kept.alloc | ((with_reducible apply Kept.set); focus (simp <;> omega)) | ((with_reducible apply Kept.via); focus with_reducible assumption))))⟩
theorem within_low {n l h : Int} (h0 : n < l) (w : World) : Calls Try.prog 67 #[.int .i64 n, .int .i64 l, .int .i64 h] w fun e w' => e = .returned (.bool false) ∧ Kept w w' := by
  go_enter Try.func67, Try.ntmps67
  go_wp2
  go_ret
  exact ⟨rfl, (by (repeat (first | with_reducible exact Kept.refl _ | with_reducible apply Kept.drew | with_reducible apply Kept.alloc | ((with_reducible apply Kept.set); focus (simp <;> omega)) | ((with_reducible apply Kept.via); focus with_reducible assumption))))⟩
theorem within_high {n l h : Int} (h0 : l ≤ n) (h1 : h < n) (w : World) : Calls Try.prog 67 #[.int .i64 n, .int .i64 l, .int .i64 h] w fun e w' => e = .returned (.bool false) ∧ Kept w w' := by
  have g : decide (n ≤ h) = false := by simp; omega
  go_enter Try.func67, Try.ntmps67
  go_wp2
  go_ret
  exact ⟨rfl, (by (repeat (first | with_reducible exact Kept.refl _ | with_reducible apply Kept.drew | with_reducible apply Kept.alloc | ((with_reducible apply Kept.set); focus (simp <;> omega)) | ((with_reducible apply Kept.via); focus with_reducible assumption))))⟩
theorem within_no {n l h : Int} (h0 : ¬ (l ≤ n ∧ n ≤ h)) (w : World) : Calls Try.prog 67 #[.int .i64 n, .int .i64 l, .int .i64 h] w fun e w' => e = .returned (.bool false) ∧ Kept w w' := by
  by_cases g : n < l
  · exact within_low g w
  · exact within_high (by omega) (by omega) w
theorem mean_ok {b : Bool} {m f n : Int} (h : In64 m) (hn : m.tdiv 8 = n) (w : World) : Calls Try.prog 53 #[.agg #[.bool b, .int .i64 m, .int .i64 f]] w fun e w' => e = .returned (.int .i64 n) ∧ Kept w w' := by
  have H := Lib.hid hn
  clear hn
  unfold In64 at h
  go_enter Try.func53, Try.ntmps53
  go_wp2
  go_ret
  exact ⟨ret_same_r (by have := H.out; omega), (by (repeat (first | with_reducible exact Kept.refl _ | with_reducible apply Kept.drew | with_reducible apply Kept.alloc | ((with_reducible apply Kept.set); focus (simp <;> omega)) | ((with_reducible apply Kept.via); focus with_reducible assumption))))⟩
theorem may_new  (w : World) : Calls Try.prog 52 #[.agg #[.bool false, .int .i64 0, .int .i64 0]] w fun e w' => e = .returned (.bool true) ∧ Kept w w' := by
  go_enter Try.func52, Try.ntmps52
  go_wp2
  go_ret
  exact ⟨rfl, (by (repeat (first | with_reducible exact Kept.refl _ | with_reducible apply Kept.drew | with_reducible apply Kept.alloc | ((with_reducible apply Kept.set); focus (simp <;> omega)) | ((with_reducible apply Kept.via); focus with_reducible assumption))))⟩
theorem may_new_m {m f : Int} (h : ¬ m = 0) (w : World) : Calls Try.prog 52 #[.agg #[.bool false, .int .i64 m, .int .i64 f]] w fun e w' => e = .returned (.bool false) ∧ Kept w w' := by
  have g : (m == 0) = false := by simp; omega
  go_enter Try.func52, Try.ntmps52
  go_wp2
  go_ret
  exact ⟨rfl, (by (repeat (first | with_reducible exact Kept.refl _ | with_reducible apply Kept.drew | with_reducible apply Kept.alloc | ((with_reducible apply Kept.set); focus (simp <;> omega)) | ((with_reducible apply Kept.via); focus with_reducible assumption))))⟩
theorem may_new_f {f : Int} (h : ¬ f = 0) (w : World) : Calls Try.prog 52 #[.agg #[.bool false, .int .i64 0, .int .i64 f]] w fun e w' => e = .returned (.bool false) ∧ Kept w w' := by
  have g : (f == 0) = false := by simp; omega
  go_enter Try.func52, Try.ntmps52
  go_wp2
  go_ret
  exact ⟨rfl, (by (repeat (first | with_reducible exact Kept.refl _ | with_reducible apply Kept.drew | with_reducible apply Kept.alloc | ((with_reducible apply Kept.set); focus (simp <;> omega)) | ((with_reducible apply Kept.via); focus with_reducible assumption))))⟩
theorem may_has {m f : Int} (hm : 8 ≤ m ∧ m ≤ 8589934592) (hf : 0 ≤ f ∧ f ≤ 4294967296) (w : World) : Calls Try.prog 52 #[.agg #[.bool true, .int .i64 m, .int .i64 f]] w fun e w' => e = .returned (.bool true) ∧ Kept w w' := by
  have M := Lib.hid hm
  have G := Lib.hid hf
  clear hm hf
  go_enter Try.func52, Try.ntmps52
  go_wp2_with fail
  refine (within_yes M.out.1 M.out.2 _).mono ?_
  rintro e w1 ⟨rfl, k1⟩
  have c := k1.read (show (w.alloc (.cells #[.bool true, .int .i64 m, .int .i64 f] 76)).cell? ⟨w.heap.size, 2, none⟩ = some (.int .i64 f) by simp [go_sem])
  go_wp2_with fail
  refine (within_yes G.out.1 G.out.2 _).mono ?_
  rintro e w2 ⟨rfl, k2⟩
  go_wp2
  go_ret
  exact ⟨rfl, (by (repeat (first | with_reducible exact Kept.refl _ | with_reducible apply Kept.drew | with_reducible apply Kept.alloc | ((with_reducible apply Kept.set); focus (simp <;> omega)) | ((with_reducible apply Kept.via); focus with_reducible assumption))))⟩
theorem may_has_m {m f : Int} (hm : ¬ (8 ≤ m ∧ m ≤ 8589934592)) (w : World) : Calls Try.prog 52 #[.agg #[.bool true, .int .i64 m, .int .i64 f]] w fun e w' => e = .returned (.bool false) ∧ Kept w w' := by
  have M := Lib.hid hm
  clear hm
  go_enter Try.func52, Try.ntmps52
  go_wp2_with fail
  refine (within_no M.out _).mono ?_
  rintro e w1 ⟨rfl, k1⟩
  go_wp2
  go_ret
  exact ⟨rfl, (by (repeat (first | with_reducible exact Kept.refl _ | with_reducible apply Kept.drew | with_reducible apply Kept.alloc | ((with_reducible apply Kept.set); focus (simp <;> omega)) | ((with_reducible apply Kept.via); focus with_reducible assumption))))⟩
theorem may_has_f {m f : Int} (hm : 8 ≤ m ∧ m ≤ 8589934592) (hf : ¬ (0 ≤ f ∧ f ≤ 4294967296)) (w : World) : Calls Try.prog 52 #[.agg #[.bool true, .int .i64 m, .int .i64 f]] w fun e w' => e = .returned (.bool false) ∧ Kept w w' := by
  have M := Lib.hid hm
  have G := Lib.hid hf
  clear hm hf
  go_enter Try.func52, Try.ntmps52
  go_wp2_with fail
  refine (within_yes M.out.1 M.out.2 _).mono ?_
  rintro e w1 ⟨rfl, k1⟩
  have c := k1.read (show (w.alloc (.cells #[.bool true, .int .i64 m, .int .i64 f] 76)).cell? ⟨w.heap.size, 2, none⟩ = some (.int .i64 f) by simp [go_sem])
  go_wp2_with fail
  refine (within_no G.out _).mono ?_
  rintro e w2 ⟨rfl, k2⟩
  go_wp2
  go_ret
  exact ⟨rfl, (by (repeat (first | with_reducible exact Kept.refl _ | with_reducible apply Kept.drew | with_reducible apply Kept.alloc | ((with_reducible apply Kept.set); focus (simp <;> omega)) | ((with_reducible apply Kept.via); focus with_reducible assumption))))⟩
theorem may_yes {b : Bool} {m f : Int} (h : MayRtt b m f) (w : World) : Calls Try.prog 52 #[.agg #[.bool b, .int .i64 m, .int .i64 f]] w fun e w' => e = .returned (.bool true) ∧ Kept w w' := by
  rcases h with ⟨rfl, rfl, rfl⟩ | ⟨rfl, a, b, c, d⟩
  · exact may_new w
  · exact may_has ⟨a, b⟩ ⟨c, d⟩ w
theorem may_no {b : Bool} {m f : Int} (h : ¬ MayRtt b m f) (w : World) : Calls Try.prog 52 #[.agg #[.bool b, .int .i64 m, .int .i64 f]] w fun e w' => e = .returned (.bool false) ∧ Kept w w' := by
  unfold MayRtt at h
  cases b
  · by_cases hm : m = 0
    · subst hm; exact may_new_f (by simpa using h) w
    · exact may_new_m hm w
  · by_cases hm : 8 ≤ m ∧ m ≤ 8589934592
    · exact may_has_f hm (by simp at h; omega) w
    · exact may_has_m hm w
theorem Check_yes {b : Bool} {m f : Int} (h : MayRtt b m f) (w : World) : Calls Try.prog 41 #[.agg #[.bool b, .int .i64 m, .int .i64 f]] w fun e w' => e = .returned (.bool true) ∧ Kept w w' := by
  have H := Lib.hid h
  clear h
  go_enter Try.func41, Try.ntmps41
  go_wp2_with fail
  refine (may_yes H.out _).mono ?_
  rintro e w1 ⟨rfl, k1⟩
  go_wp2
  go_ret
  exact ⟨rfl, (by (repeat (first | with_reducible exact Kept.refl _ | with_reducible apply Kept.drew | with_reducible apply Kept.alloc | ((with_reducible apply Kept.set); focus (simp <;> omega)) | ((with_reducible apply Kept.via); focus with_reducible assumption))))⟩
theorem Check_no {b : Bool} {m f : Int} (h : ¬ MayRtt b m f) (w : World) : Calls Try.prog 41 #[.agg #[.bool b, .int .i64 m, .int .i64 f]] w fun e w' => e = .returned (.bool false) ∧ Kept w w' := by
  have H := Lib.hid h
  clear h
  go_enter Try.func41, Try.ntmps41
  go_wp2_with fail
  refine (may_no H.out _).mono ?_
  rintro e w1 ⟨rfl, k1⟩
  go_wp2
  go_ret
  exact ⟨rfl, (by (repeat (first | with_reducible exact Kept.refl _ | with_reducible apply Kept.drew | with_reducible apply Kept.alloc | ((with_reducible apply Kept.set); focus (simp <;> omega)) | ((with_reducible apply Kept.via); focus with_reducible assumption))))⟩
theorem Mean_ok {b : Bool} {m f n : Int} (h : In64 m ∧ m.tdiv 8 = n) (w : World) : Calls Try.prog 42 #[.agg #[.bool b, .int .i64 m, .int .i64 f]] w fun e w' => e = .returned (.int .i64 n) ∧ Kept w w' := by
  have H := Lib.hid h
  clear h
  go_enter Try.func42, Try.ntmps42
  go_wp2_with fail
  refine (mean_ok H.out.1 H.out.2 _).mono ?_
  rintro e w1 ⟨rfl, k1⟩
  go_wp2
  go_ret
  exact ⟨rfl, (by (repeat (first | with_reducible exact Kept.refl _ | with_reducible apply Kept.drew | with_reducible apply Kept.alloc | ((with_reducible apply Kept.set); focus (simp <;> omega)) | ((with_reducible apply Kept.via); focus with_reducible assumption))))⟩
end Go.Proofs.Ytjfeobkkkgalaaa
