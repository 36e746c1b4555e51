/-
  Contracts of package rtt.
-/
import Derived.Test.YtlgpeafphanobaaRoom
import Derived.Deep.DeepCutAuto
namespace Go.Proofs.Ytlgpeafphanobaa
open Go.RowKit Go.BigFrame
set_option linter.unusedVariables false

theorem ret_same_r {k : IntKind} {a b : Int} (h : a = b) : Ending.returned (.int k a) = Ending.returned (.int k b) := by rw [h]
/-- What is known may be. -/
def MayRtt (b : Bool) (m f : Int) : Prop := (b = false ∧ m = 0 ∧ f = 0) ∨ (b = true ∧ 8 ≤ m ∧ m ≤ 8589934592 ∧ 0 ≤ f ∧ f ≤ 4294967296)
/-- How far two numbers are from each other. -/
def gapOf (a b : Int) : Int := if a < b then b - a else a - b
/-- A time there and back. -/
def IsTrip (t : Int) : Prop := 1 ≤ t ∧ t ≤ 1073741824
/-- What is known behind one time more. -/
def SampleIs (b : Bool) (m f t : Int) (b' : Bool) (m' f' er : Int) : Prop :=
  (¬ (MayRtt b m f ∧ IsTrip t) ∧ b' = b ∧ m' = m ∧ f' = f ∧ er = 201) ∨
  (MayRtt b m f ∧ IsTrip t ∧ b = false ∧ b' = true ∧ m' = 8 * t ∧ f' = 2 * t ∧ er = 0) ∨
  (MayRtt b m f ∧ IsTrip t ∧ b = true ∧ b' = true ∧ m' = m + t - m / 8 ∧ f' = f + gapOf t (m / 8) - f / 4 ∧ er = 0)

end Go.Proofs.Ytlgpeafphanobaa
