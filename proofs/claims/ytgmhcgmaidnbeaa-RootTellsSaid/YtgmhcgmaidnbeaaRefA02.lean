/-
  Contracts of the small functions of the document's answer, package sawtoothref02.
-/
import Derived.Test.YtgmhcgmaidnbeaaSemB02
import Derived.Test.YtgmhcgmaidnbeaaQuiet
namespace Go.Proofs.Ytgmhcgmaidnbeaa
open Go.RowKit Go.BigFrame

set_option maxHeartbeats 400000 in
theorem digits_any (b : Bool) (h l : Int) (w : World) (h1 : Word h) (h2 : Word l) :
    Calls Try.prog 39 #[.agg #[.bool b, .int .u64 h, .int .u64 l]] w fun e w' => e = .returned (.agg #[.int .u64 (l % 4294967296), .int .u64 (l / 4294967296), .int .u64 (h % 4294967296), .int .u64 (h / 4294967296)]) ∧ Kept w w' := by
  obtain ⟨a1, a2⟩ := h1; obtain ⟨b1, b2⟩ := h2
  go_enter Try.func39, Try.ntmps39
  go_wp2
  simp [bodyPost, results, Try.results39, go_sem]
  exact (by (repeat (first | with_reducible exact Kept.refl _ | with_reducible apply Kept.drew | with_reducible apply Kept.alloc | ((with_reducible apply Kept.set); focus (simp <;> omega)) | ((with_reducible apply Kept.via); focus with_reducible assumption))))
set_option maxHeartbeats 800000 in
theorem whole_raw (d0 d1 d2 d3 : Int) (s r : Bool) (w : World) (a0 : 0 ≤ d0) (a1 : 0 ≤ d1) (a2 : 0 ≤ d2) (a3 : 0 ≤ d3) (b0 : d0 < 4294967296) (b1 : d1 < 4294967296) (b2 : d2 < 4294967296) (b3 : d3 < 4294967296)
    (hr : (s = false ∧ r = false) ∨ (s = true ∧ r = true ∧ 0 < d3 * 4294967296 + d2) ∨ (s = true ∧ r = true ∧ d3 * 4294967296 + d2 = 0 ∧ 0 < d1 * 4294967296 + d0) ∨ (s = true ∧ r = false ∧ d3 * 4294967296 + d2 = 0 ∧ d1 * 4294967296 + d0 = 0)) :
    Calls Try.prog 40 #[.agg #[.int .u64 d0, .int .u64 d1, .int .u64 d2, .int .u64 d3], .bool s] w fun e w' => e = .returned (.agg #[.bool r, .int .u64 (d3 * 4294967296 + d2), .int .u64 (d1 * 4294967296 + d0)]) ∧ Kept w w' := by
  rcases hr with ⟨rfl, rfl⟩ | ⟨rfl, rfl, c⟩ | ⟨rfl, rfl, c, c'⟩ | ⟨rfl, rfl, c, c'⟩
  · go_enter Try.func40, Try.ntmps40
    go_wp2
    simp [bodyPost, results, Try.results40, go_sem]
    exact (by (repeat (first | with_reducible exact Kept.refl _ | with_reducible apply Kept.drew | with_reducible apply Kept.alloc | ((with_reducible apply Kept.set); focus (simp <;> omega)) | ((with_reducible apply Kept.via); focus with_reducible assumption))))
  · go_enter Try.func40, Try.ntmps40
    go_wp2
    simp [bodyPost, results, Try.results40, go_sem]
    exact (by (repeat (first | with_reducible exact Kept.refl _ | with_reducible apply Kept.drew | with_reducible apply Kept.alloc | ((with_reducible apply Kept.set); focus (simp <;> omega)) | ((with_reducible apply Kept.via); focus with_reducible assumption))))
  · obtain rfl : d2 = 0 := by omega
    obtain rfl : d3 = 0 := by omega
    clear c
    simp only [Int.zero_mul, Int.zero_add]
    go_enter Try.func40, Try.ntmps40
    go_wp2
    simp [bodyPost, results, Try.results40, go_sem]
    exact (by (repeat (first | with_reducible exact Kept.refl _ | with_reducible apply Kept.drew | with_reducible apply Kept.alloc | ((with_reducible apply Kept.set); focus (simp <;> omega)) | ((with_reducible apply Kept.via); focus with_reducible assumption))))
  · obtain rfl : d2 = 0 := by omega
    obtain rfl : d3 = 0 := by omega
    obtain rfl : d0 = 0 := by omega
    obtain rfl : d1 = 0 := by omega
    clear c c'
    simp only [Int.zero_mul, Int.zero_add]
    go_enter Try.func40, Try.ntmps40
    go_wp2
    simp [bodyPost, results, Try.results40, go_sem]
    exact (by (repeat (first | with_reducible exact Kept.refl _ | with_reducible apply Kept.drew | with_reducible apply Kept.alloc | ((with_reducible apply Kept.set); focus (simp <;> omega)) | ((with_reducible apply Kept.via); focus with_reducible assumption))))

theorem whole_any (d0 d1 d2 d3 h l : Int) (s : Bool) (w : World) (a0 : 0 ≤ d0) (a1 : 0 ≤ d1) (a2 : 0 ≤ d2) (a3 : 0 ≤ d3) (b0 : d0 < 4294967296) (b1 : d1 < 4294967296) (b2 : d2 < 4294967296) (b3 : d3 < 4294967296) (eh : h = d3 * 4294967296 + d2) (el : l = d1 * 4294967296 + d0) :
    Calls Try.prog 40 #[.agg #[.int .u64 d0, .int .u64 d1, .int .u64 d2, .int .u64 d3], .bool s] w fun e w' => e = .returned (.agg #[.bool (s && nz h l), .int .u64 h, .int .u64 l]) ∧ Kept w w' := by
  subst eh el
  refine whole_raw d0 d1 d2 d3 s _ w a0 a1 a2 a3 b0 b1 b2 b3 ?_
  unfold nz
  cases s
  · exact Or.inl ⟨rfl, rfl⟩
  · by_cases c : d3 * 4294967296 + d2 = 0
    · by_cases c' : d1 * 4294967296 + d0 = 0
      · exact Or.inr (Or.inr (Or.inr ⟨rfl, by simp [c, c'], c, c'⟩))
      · exact Or.inr (Or.inr (Or.inl ⟨rfl, by simp [c, c'], c, by omega⟩))
    · exact Or.inr (Or.inl ⟨rfl, by simp [c], by omega⟩)
set_option maxHeartbeats 400000 in
theorem refBelow_raw (s r : Bool) (h l : Int) (w : World) (a0 : 0 ≤ h) (a1 : 0 ≤ l) (hr : (s = false ∧ r = false) ∨ (s = true ∧ r = true ∧ 0 < h) ∨ (s = true ∧ r = true ∧ h = 0 ∧ 0 < l) ∨ (s = true ∧ r = false ∧ h = 0 ∧ l = 0)) :
    Calls Try.prog 41 #[.agg #[.bool s, .int .u64 h, .int .u64 l]] w fun e w' => e = .returned (.bool r) ∧ Kept w w' := by
  rcases hr with ⟨rfl, rfl⟩ | ⟨rfl, rfl, c⟩ | ⟨rfl, rfl, rfl, c⟩ | ⟨rfl, rfl, rfl, rfl⟩
  all_goals
    go_enter Try.func41, Try.ntmps41
    go_wp2
    go_ret
    exact ⟨rfl, (by (repeat (first | with_reducible exact Kept.refl _ | with_reducible apply Kept.drew | with_reducible apply Kept.alloc | ((with_reducible apply Kept.set); focus (simp <;> omega)) | ((with_reducible apply Kept.via); focus with_reducible assumption))))⟩
theorem refBelow (s : Bool) (h l : Int) (w : World) (h1 : Word h) (h2 : Word l) : Calls Try.prog 41 #[.agg #[.bool s, .int .u64 h, .int .u64 l]] w fun e w' => e = .returned (.bool (s && nz h l)) ∧ Kept w w' := by
  refine refBelow_raw s _ h l w h1.1 h2.1 ?_
  have := h1.1; have := h2.1
  unfold nz
  cases s
  · exact Or.inl ⟨rfl, rfl⟩
  · by_cases c : h = 0
    · by_cases c' : l = 0
      · exact Or.inr (Or.inr (Or.inr ⟨rfl, by simp [c, c'], c, c'⟩))
      · exact Or.inr (Or.inr (Or.inl ⟨rfl, by simp [c'], c, by omega⟩))
    · exact Or.inr (Or.inl ⟨rfl, by simp [c], by omega⟩)
end Go.Proofs.Ytgmhcgmaidnbeaa
