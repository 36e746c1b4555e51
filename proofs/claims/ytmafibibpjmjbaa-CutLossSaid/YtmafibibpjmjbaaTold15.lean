/-
  Plain words of layer 15: what is left of a window.
-/
import Derived.Test.YtmafibibpjmjbaaTold14
namespace Go.Proofs.Ytmafibibpjmjbaa
open Go.RowKit

/-- What is left. -/
def leastC (w : Int) : Int := if givG w * 7 / 10 < 131072 then 131072 else givG w * 7 / 10
theorem leastC_range (w : Int) : 131072 ≤ leastC w ∧ leastC w ≤ 48103633715 := by have := givG_range w; unfold leastC; split <;> omega
theorem leastC_mono {a b : Int} (h : a ≤ b) : leastC a ≤ leastC b := by have := givG_mono h; unfold leastC; split <;> split <;> omega
theorem leastC_less {w : Int} (h : 131072 ≤ w) : leastC w ≤ w ∧ (131072 < w → leastC w < w) := by
  unfold leastC givG
  split <;> (try split) <;> (try split) <;> omega
theorem leastC_exact {w : Int} (h : 131072 ≤ w ∧ w ≤ 68719476736) : (10 * leastC w ≤ 7 * w ∧ 7 * w - 10 * leastC w < 10) ∨ (leastC w = 131072 ∧ 7 * w < 1310720) := by
  unfold leastC
  rw [givG_of h]
  split <;> omega
/-- What some leave. -/
def manyC (w : Int) : Nat → Int
  | 0 => givG w
  | k + 1 => leastC (manyC w k)
theorem manyC_range (w : Int) : ∀ k, 131072 ≤ manyC w k ∧ manyC w k ≤ 68719476736
  | 0 => givG_range w
  | k + 1 => by have := leastC_range (manyC w k); exact ⟨this.1, by show leastC _ ≤ _; omega⟩
theorem leastC_two : leastC 131072 = 131072 := by decide
theorem manyC_two {w : Int} {k : Nat} (h : manyC w k = 131072) : ∀ j, manyC w (k + j) = 131072
  | 0 => h
  | j + 1 => by show leastC (manyC w (k + j)) = _; rw [manyC_two h j, leastC_two]
theorem givG_many (w : Int) (k : Nat) : givG (manyC w k) = manyC w k := givG_of (manyC_range w k)
theorem manyC_sum (w : Int) (a : Nat) : ∀ b, manyC (manyC w a) b = manyC w (a + b)
  | 0 => givG_many w a
  | b + 1 => by show leastC _ = leastC _; rw [manyC_sum w a b]; rfl
theorem manyC_one (w : Int) : manyC w 1 = leastC w := by show leastC (givG w) = leastC w; unfold leastC; rw [givG_twice]
theorem manyC_next (w : Int) (k : Nat) : manyC w (k + 1) ≤ manyC w k := (leastC_less (manyC_range w k).1).1
def boundC : Nat → Nat
  | 0 => 68719476736
  | k + 1 => if boundC k * 7 / 10 < 131072 then 131072 else boundC k * 7 / 10
theorem boundC_fifty : boundC 50 = 131072 := by decide +kernel
theorem manyC_bound (w : Int) : ∀ k, manyC w k ≤ (boundC k : Int)
  | 0 => (givG_range w).2
  | k + 1 => by
    have a := manyC_bound w k
    have r := manyC_range w k
    show leastC (manyC w k) ≤ ((if boundC k * 7 / 10 < 131072 then 131072 else boundC k * 7 / 10 : Nat) : Int)
    unfold leastC
    rw [givG_of r]
    split <;> split <;> omega
theorem manyC_fifty (w : Int) : manyC w 50 = 131072 := by
  have a := manyC_bound w 50
  have b := manyC_range w 50
  rw [boundC_fifty] at a
  omega
/-- As often as it is said. -/
def timesC (n : Int) : Nat := n.toNat
/-- Where it grows next. -/
theorem fast_exact {w last : Int} (h : 131072 ≤ w ∧ w ≤ 68719476736) : (last ≤ w ∧ fastN last w = w) ∨ (w < last ∧ 20 * fastN last w ≤ 17 * w ∧ 17 * w - 20 * fastN last w < 20) := by
  unfold fastN
  split
  · exact Or.inl ⟨by assumption, rfl⟩
  · rw [if_neg (by omega)]; exact Or.inr ⟨by omega, by omega, by omega⟩
theorem fast_less {w last : Int} (h : 0 ≤ w) : fastN last w ≤ w := by unfold fastN; split <;> (try split) <;> omega
theorem fast_least {w last : Int} (h : 131072 ≤ w ∧ w ≤ 68719476736) : 17 * w < 20 * 131072 ∨ leastC w ≤ fastN last w := by
  unfold leastC fastN
  rw [givG_of h]
  split <;> (try split) <;> (try split) <;> omega
end Go.Proofs.Ytmafibibpjmjbaa
