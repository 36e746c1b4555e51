/-
  Contracts of Sample of package rtt.
-/
import Derived.Test.YtjfeobkkkgalaaaRtt06
import Derived.Test.YtjfeobkkkgalaaaTail
import Derived.Deep.DeepCutAuto
import Derived.Deep.RegionWith
namespace Go.Proofs.Ytjfeobkkkgalaaa
open Go.RowKit Go.BigFrame
set_option linter.unusedVariables false

/-- Cells of what is known, which may be written. -/
def RC (w : World) (g : Nat) (b : Bool) (m f : Int) : Prop := (w.cell? ⟨g, 0, none⟩ = some (.bool b) ∧ w.cell? ⟨g, 1, none⟩ = some (.int .i64 m) ∧ w.cell? ⟨g, 2, none⟩ = some (.int .i64 f)) ∧ Thaw3 w g
theorem RC.kept {w1 w2 : World} {g : Nat} {b : Bool} {m f : Int} (q : RC w1 g b m f) (k : Kept w1 w2) : RC w2 g b m f :=
  ⟨⟨k.read q.1.1, k.read q.1.2.1, k.read q.1.2.2⟩, q.2.kept k⟩
theorem field_known (a c : Int) (w : World) : (Instr.field 76 (.agg #[.bool true, .int .i64 a, .int .i64 c]) 0).run Try.prog w = .ok (.agg #[.bool true, .int .i64 a, .int .i64 c]) w := by rfl
theorem gap_range {a b : Int} (a0 : 0 ≤ a) (a1 : a ≤ 1073741824) (b0 : 0 ≤ b) (b1 : b ≤ 1073741824) : 0 ≤ gapOf a b ∧ gapOf a b ≤ 1073741824 := by
  unfold gapOf; split <;> omega
theorem sample_ex (b : Bool) (m f t : Int) : ∃ b' m' f' er, SampleIs b m f t b' m' f' er := by
  by_cases hr : MayRtt b m f ∧ IsTrip t
  · cases b
    · exact ⟨_, _, _, _, Or.inr (Or.inl ⟨hr.1, hr.2, rfl, rfl, rfl, rfl, rfl⟩)⟩
    · exact ⟨_, _, _, _, Or.inr (Or.inr ⟨hr.1, hr.2, rfl, rfl, rfl, rfl, rfl⟩)⟩
  · exact ⟨_, _, _, _, Or.inl ⟨hr, rfl, rfl, rfl, rfl⟩⟩
/-- What is known may be behind a time, if it might be ahead of it. -/
theorem sample_may {b b' : Bool} {m f t m' f' er : Int} (h : SampleIs b m f t b' m' f' er) (hm : MayRtt b m f) : MayRtt b' m' f' := by
  rcases h with ⟨h, rfl, rfl, rfl, rfl⟩ | ⟨h, ht, rfl, rfl, rfl, rfl, rfl⟩ | ⟨h, ht, rfl, rfl, rfl, rfl, rfl⟩
  · exact hm
  · unfold IsTrip at ht; exact Or.inr ⟨rfl, by omega, by omega, by omega, by omega⟩
  · have k : 8 ≤ m ∧ m ≤ 8589934592 ∧ 0 ≤ f ∧ f ≤ 4294967296 := by unfold MayRtt at h; simpa using h
    obtain ⟨g0, g1⟩ := gap_range (a := t) (b := m / 8) (by unfold IsTrip at ht; omega) (by unfold IsTrip at ht; omega) (by omega) (by omega)
    unfold IsTrip at ht
    exact Or.inr ⟨rfl, by omega, by omega, by omega, by omega⟩
end Go.Proofs.Ytjfeobkkkgalaaa
