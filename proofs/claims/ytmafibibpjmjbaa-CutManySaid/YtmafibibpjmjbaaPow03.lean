/-
  Contracts of package root's powers, and of 'within'.
-/
import Derived.Test.YtmafibibpjmjbaaMath03
import Derived.Test.YtmafibibpjmjbaaSemA02
import Derived.Deep.RegionHeld3
import Derived.Deep.DeepCutAuto
namespace Go.Proofs.Ytmafibibpjmjbaa
open Go.RowKit

theorem sz_lo (l : Int) : sz 0 l = l := by unfold sz; omega
theorem sq_in {n : Int} (hn : Word n) : InBig (n * n) := by
  unfold Word at hn
  have := sq_le (a := n) (b := 18446744073709551615) hn.1 (by omega)
  have := sq_nonneg hn.1
  unfold InBig; omega
theorem square_rep {n : Int} (hn : Word n) : ∃ h l, Rep false h l (n * n) := by
  obtain ⟨b, h, l, r⟩ := rep_ex _ (sq_in hn)
  have e : b = false := by rw [r.2.2.2]; have := sq_nonneg hn.1; simp; omega
  subst e
  exact ⟨h, l, r⟩
theorem cube_rep {n : Int} (hn : 0 ≤ n) (l : n ≤ 6981463658331) : ∃ h l, Rep false h l (n * n * n) := by
  have c := (cube_fits hn).2 l
  obtain ⟨b, h, l, r⟩ := rep_ex (n * n * n) (by have := cu_nonneg hn; unfold InBig; omega)
  have e : b = false := by rw [r.2.2.2]; have := cu_nonneg hn; simp; omega
  subst e
  exact ⟨h, l, r⟩
theorem cube_over {n : Int} (hn : 0 ≤ n) (l : 6981463658331 < n) : ¬ InBig (n * n * n) := by
  have := (cube_fits hn); unfold InBig; omega
end Go.Proofs.Ytmafibibpjmjbaa
