/-
  Words for a loop over a slice with structures.
-/
import Derived.Test.YthjchmjpiijfnaaRises06
import Derived.Test.YthjchmjpiijfnaaFrame
import Derived.Deep.DeepCutAuto
namespace Go.Proofs.Ythjchmjpiijfnaa
open Go.RowKit Go.BigFrame
set_option linter.unusedVariables false

theorem Kept.all4r {w1 w2 : World} {p0 p1 p2 p3 : Addr} {v0 v1 v2 v3 : Value} (k : Kept w1 w2) (h : Hid (w1.cell? p0 = some v0 ∧ w1.cell? p1 = some v1 ∧ w1.cell? p2 = some v2 ∧ w1.cell? p3 = some v3)) : w2.cell? p0 = some v0 ∧ w2.cell? p1 = some v1 ∧ w2.cell? p2 = some v2 ∧ w2.cell? p3 = some v3 := by
  obtain ⟨h0, h1, h2, h3⟩ := h.out
  exact ⟨k.read h0, k.read h1, k.read h2, k.read h3⟩
theorem RC.ne {w : World} {g : Nat} {b : Bool} {m f : Int} (h : RC w g b m f) : g < w.heap.size := cell_lt h.1.1
end Go.Proofs.Ythjchmjpiijfnaa
