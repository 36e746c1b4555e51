/-
  Contracts of the document's answers of layer 5.
-/
import Derived.Test.YtlgpeafphanobaaClock05
import Derived.Test.YtlgpeafphanobaaOne01
namespace Go.Proofs.Ytlgpeafphanobaa
open Go.RowKit

theorem refCheck_yes {t : Int} (h : IsTime t) (w : World) : Calls Try.prog 30 #[.int .i64 t] w fun e w' => e = .returned (.bool true) ∧ Kept w w' := by
  obtain ⟨h0, h1⟩ := h
  go_enter Try.func30, Try.ntmps30
  go_wp2
  go_ret
  exact ⟨rfl, Kept.refl _⟩
theorem refCheck_no {t : Int} (h : ¬ IsTime t) (w : World) : Calls Try.prog 30 #[.int .i64 t] w fun e w' => e = .returned (.bool false) ∧ Kept w w' := by
  have h' : t < 0 ∨ 1099511627776 < t := by unfold IsTime at h; omega
  clear h
  rcases h' with h | h
  · go_enter Try.func30, Try.ntmps30
    go_wp2
    go_ret
    exact ⟨rfl, Kept.refl _⟩
  · have h0 : 0 ≤ t := by omega
    have g : decide (t ≤ 1099511627776) = false := by simp; omega
    go_enter Try.func30, Try.ntmps30
    go_wp2
    go_ret
    exact ⟨rfl, Kept.refl _⟩
theorem refStep_ok {now t v er : Int} (h : StepIs now t v er) (w : World) : Calls Try.prog 24 #[.int .i64 now, .int .i64 t] w fun e w' => e = .returned (.tuple #[.int .i64 v, .int .i64 er]) ∧ Kept w w' := by
  have h' : (t < 0 ∧ v = now ∧ er = 51) ∨ (0 ≤ t ∧ 1099511627776 < t ∧ v = now ∧ er = 51) ∨ (0 ≤ t ∧ t ≤ 1099511627776 ∧ t < now ∧ v = now ∧ er = 50) ∨ (0 ≤ t ∧ t ≤ 1099511627776 ∧ now ≤ t ∧ v = t ∧ er = 0) := by
    unfold StepIs IsTime at h; omega
  clear h
  rcases h' with ⟨a, rfl, rfl⟩ | ⟨a, b, rfl, rfl⟩ | ⟨a, b, c, rfl, rfl⟩ | ⟨a, b, c, rfl, rfl⟩
  all_goals
    go_enter Try.func24, Try.ntmps24
    go_wp2
    go_ret2
    exact ⟨rfl, Kept.refl _⟩
end Go.Proofs.Ytlgpeafphanobaa
