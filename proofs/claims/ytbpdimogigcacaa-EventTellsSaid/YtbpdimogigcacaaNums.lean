/-
  Plain arithmetic of layer 1, no Go in sight: numbers of 64 bits, and 'heldAt', the nearest of them; and 'Kept', a world that has at most new blocks.
-/
import Derived.WalkKit
import Derived.OpenShut
namespace Go.Proofs.Ytbpdimogigcacaa
open Go.RowKit

/-- A number of 64 bits. -/
def In64 (n : Int) : Prop := -9223372036854775808 ≤ n ∧ n ≤ 9223372036854775807

/-- The nearest number of 64 bits. -/
def heldAt (n : Int) : Int := if 9223372036854775807 < n then 9223372036854775807 else if n < -9223372036854775808 then -9223372036854775808 else n

theorem in64_of_wf {a : Int} (h : (Lit.int .i64 a).wf = true) : In64 a := by
  have := bounds_i64 h; unfold In64; omega
theorem in64_of_wf32 {a : Int} (h : (Lit.int .i32 a).wf = true) : -2147483648 ≤ a ∧ a ≤ 2147483647 := bounds_i32 h

theorem heldAt_in (n : Int) : In64 (heldAt n) := by unfold heldAt In64; split <;> (try split) <;> omega
theorem heldAt_of {n : Int} (h : In64 n) : heldAt n = n := by unfold heldAt; unfold In64 at h; rw [if_neg (by omega), if_neg (by omega)]
theorem heldAt_up {n : Int} (h : 9223372036854775807 < n) : heldAt n = 9223372036854775807 := by unfold heldAt; rw [if_pos h]
theorem heldAt_down {n : Int} (h : n < -9223372036854775808) : heldAt n = -9223372036854775808 := by unfold heldAt; rw [if_neg (by omega), if_pos h]
theorem heldAt_mono {m n : Int} (h : m ≤ n) : heldAt m ≤ heldAt n := by unfold heldAt; split <;> split <;> (try split) <;> (try split) <;> omega

/-- The number between two bounds, the lower one first. -/
def clampAt (a b c : Int) : Int := if a < b then b else if c < a then c else a
theorem clampAt_low {a b c : Int} (h : a < b) : clampAt a b c = b := by unfold clampAt; rw [if_pos h]
theorem clampAt_high {a b c : Int} (h : ¬ a < b) (k : c < a) : clampAt a b c = c := by unfold clampAt; rw [if_neg h, if_pos k]
theorem clampAt_in {a b c : Int} (h : ¬ a < b) (k : ¬ c < a) : clampAt a b c = a := by unfold clampAt; rw [if_neg h, if_neg k]

/-- A number without its sign, held. -/
def absAt (a : Int) : Int := if a < 0 then heldAt (-a) else a
theorem absAt_neg {a : Int} (h : a < 0) : absAt a = heldAt (-a) := by unfold absAt; rw [if_pos h]
theorem absAt_pos {a : Int} (h : ¬ a < 0) : absAt a = a := by unfold absAt; rw [if_neg h]

theorem mul_up {a b : Int} (h : 9223372036854775807 < a * b) : (a < 0 ∧ b < 0) ∨ (0 ≤ a ∧ 0 ≤ b) := by
  by_cases h1 : a < 0 <;> by_cases h2 : b < 0
  · exact Or.inl ⟨h1, h2⟩
  · have := Int.mul_nonpos_of_nonpos_of_nonneg (a := a) (b := b) (by omega) (by omega); omega
  · have := Int.mul_nonpos_of_nonneg_of_nonpos (a := a) (b := b) (by omega) (by omega); omega
  · exact Or.inr ⟨by omega, by omega⟩
theorem mul_down {a b : Int} (h : a * b < -9223372036854775808) : (a < 0 ∧ 0 ≤ b) ∨ (0 ≤ a ∧ b < 0) := by
  by_cases h1 : a < 0 <;> by_cases h2 : b < 0
  · have := Int.mul_nonneg_of_nonpos_of_nonpos (a := a) (b := b) (by omega) (by omega); omega
  · exact Or.inl ⟨h1, by omega⟩
  · exact Or.inr ⟨by omega, h2⟩
  · have := Int.mul_nonneg (a := a) (b := b) (by omega) (by omega); omega

/-- What goes round and is divided back shows it: a product out of reach does not come back. -/
theorem back_no {a b k : Int} (hb : In64 b) (hb0 : b ≠ 0) (hk : k ≠ 0) : (a * b + k * 18446744073709551616).tdiv b ≠ a := by
  unfold In64 at hb
  intro h
  have e := Int.mul_tdiv_add_tmod (a * b + k * 18446744073709551616) b
  have l : ((a * b + k * 18446744073709551616).tmod b).natAbs < b.natAbs := by
    rw [Int.natAbs_tmod]; exact Nat.mod_lt _ (by omega)
  rw [h, Int.mul_comm b a] at e
  generalize (a * b + k * 18446744073709551616).tmod b = r at e l
  omega

theorem wrap64_of (m : Int) : ∃ k : Int, wrap64 m = m + k * 18446744073709551616 ∧ (k = 0 → In64 m) ∧ In64 (wrap64 m) := by
  refine ⟨-((m + 9223372036854775808) / 18446744073709551616), ?_, ?_, ?_⟩
  · unfold wrap64; omega
  · unfold In64; omega
  · unfold wrap64 In64; omega

theorem wrap64_in {m : Int} (h : In64 m) : wrap64 m = m := by unfold In64 at h; unfold wrap64; omega

/-- A quotient of 64 bits stays so, but for one by -1. -/
theorem wrap64_quo {m b : Int} (hm : In64 m) (hb0 : b ≠ 0) (hb : b ≠ -1) : wrap64 (m.tdiv b) = m.tdiv b := by
  by_cases h1 : b = 1
  · subst h1; rw [Int.tdiv_one]; exact wrap64_in hm
  · apply wrap64_in
    have l : (m.tdiv b).natAbs ≤ m.natAbs / 2 := by
      rw [Int.natAbs_tdiv]; exact Nat.div_le_div_left (by omega) (by omega)
    unfold In64 at *; omega

/-- The quotient of what went round, as the program takes it. -/
theorem product_back {a b : Int} (ha : In64 a) (hb : In64 b) (hb0 : b ≠ 0) (hs : ¬ (a = -9223372036854775808 ∧ b = -1)) (h : ¬ In64 (a * b)) : wrap64 ((wrap64 (a * b)).tdiv b) ≠ a := by
  obtain ⟨k, e, k0, hw⟩ := wrap64_of (a * b)
  have hk : k ≠ 0 := fun hk => h (k0 hk)
  have n := back_no (a := a) hb hb0 hk
  rw [← e] at n
  by_cases hm : b = -1
  · subst hm
    unfold In64 at ha hb h
    exfalso; omega
  · rw [wrap64_quo hw hb0 hm]; exact n

theorem quo_back {a b : Int} (ha : In64 a) (hb0 : b ≠ 0) : (wrap64 ((a * b).tdiv b) == a) = true := by
  rw [Int.mul_tdiv_cancel _ hb0, wrap64_in ha]; simp
theorem rem_back (a b : Int) : ((a * b).tmod b == 0) = true := by
  rw [Int.mul_tmod_left]; rfl

/-- A world that has at most new blocks: what was there is as it was. -/
def Kept (w w' : World) : Prop := Grown w w' ∧ Below w.heap.size w w'
theorem Kept.refl (w : World) : Kept w w := ⟨Grown.refl _, Below.refl _ _⟩
theorem Kept.trans {a b c : World} (h : Kept a b) (k : Kept b c) : Kept a c :=
  ⟨⟨World.keptBut_trans h.1.1 k.1.1, fun x => (k.1.2.1 x).trans (h.1.2.1 x), Nat.le_trans h.1.2.2 k.1.2.2⟩, h.2.trans (k.2.mono h.2.size)⟩
theorem Kept.alloc {W w' : World} (h : Kept W w') (c : Array Value) (t : TypeId) : Kept W (w'.alloc (.cells c t)) := ⟨h.1.alloc c t, h.2.alloc h.2.size _⟩
theorem Kept.drew {W w' : World} (h : Kept W w') : Kept W w'.drew := ⟨h.1.drew, h.2.drew⟩

end Go.Proofs.Ytbpdimogigcacaa
