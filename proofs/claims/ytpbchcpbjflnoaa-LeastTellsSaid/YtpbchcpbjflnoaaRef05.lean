/-
  Contracts of the document's answers of layer 5.
-/
import Derived.Test.YtpbchcpbjflnoaaClock05
import Derived.Test.YtpbchcpbjflnoaaRef01
namespace Go.Proofs.Ytpbchcpbjflnoaa
open Go.RowKit

theorem refCheck_yes {t : Int} (h : IsTime t) (w : World) : Calls Try.prog 25 #[.int .i64 t] w fun e w' => e = .returned (.bool true) ∧ Kept w w' := by
  obtain ⟨h0, h1⟩ := h
  go_enter Try.func25, Try.ntmps25
  go_wp2
  go_ret
  exact ⟨rfl, Kept.refl _⟩
theorem refCheck_no {t : Int} (h : ¬ IsTime t) (w : World) : Calls Try.prog 25 #[.int .i64 t] w fun e w' => e = .returned (.bool false) ∧ Kept w w' := by
  have h' : t < 0 ∨ 1099511627776 < t := by unfold IsTime at h; omega
  clear h
  rcases h' with h | h
  · go_enter Try.func25, Try.ntmps25
    go_wp2
    go_ret
    exact ⟨rfl, Kept.refl _⟩
  · have h0 : 0 ≤ t := by omega
    have g : decide (t ≤ 1099511627776) = false := by simp; omega
    go_enter Try.func25, Try.ntmps25
    go_wp2
    go_ret
    exact ⟨rfl, Kept.refl _⟩
end Go.Proofs.Ytpbchcpbjflnoaa
