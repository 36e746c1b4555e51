/-
  Contracts of the document's answer for layer 4.
-/
import Derived.Test.YtdbikeehoildlaaDoorRefN02
import Derived.Deep.DeepCutAuto
import Derived.Test.YtdbikeehoildlaaDoorPartA04
namespace Go.Proofs.YtdbikeehoildlaaDoor
open Go.RowKit Go.BigFrame

theorem sum_126 {m d : Int} (h : In126 m) (k : In64 d) : InBig (m + d) := by unfold In126 at h; unfold In64 at k; unfold InBig; omega
theorem div_in {n c : Int} (h : InBig n) (hc : 1 ≤ c) : InBig (n / c) := by
  have a := Int.mul_ediv_add_emod n c
  have a2 := Int.emod_nonneg n (show c ≠ 0 by omega)
  have a3 := Int.emod_lt_of_pos n (show 0 < c by omega)
  unfold InBig at *
  constructor
  · rw [← Int.add_one_le_iff, Int.le_ediv_iff_mul_le (by omega)]
    have := Int.mul_le_mul_of_nonpos_left (a := -340282366920938463463374607431768211455) (by omega) hc
    omega
  · rw [Int.ediv_lt_iff_lt_mul (by omega)]
    have := Int.mul_le_mul_of_nonneg_left (c := 340282366920938463463374607431768211456) hc (by omega)
    omega
theorem part_same {c m n v er : Int} (T : Part c m v er) (h : 1 ≤ c → n = m) : Part c n v er := by
  rcases T with T | ⟨h1, T⟩
  · exact Or.inl T
  · rw [← h h1] at T; exact Or.inr ⟨h1, T⟩
theorem tdiv_in {c : Int} (h : In64 c) : In64 (c.tdiv 2) := by
  have l : (c.tdiv 2).natAbs ≤ c.natAbs / 2 := by rw [Int.natAbs_tdiv]; exact Nat.le_refl _
  unfold In64 at *; omega
end Go.Proofs.YtdbikeehoildlaaDoor
