/-
  Contracts of plus and minus of the document's answer, package sawtoothref02.
-/
import Derived.Test.YtgmhcgmaidnbeaaRefA02
namespace Go.Proofs.Ytgmhcgmaidnbeaa
open Go.RowKit Go.BigFrame

/-- Four digits that may be written. -/
def Out4 (w : World) (g : Nat) (o0 o1 o2 o3 : Int) : Prop := (w.cell? ⟨g, 0, none⟩ = some (.int .u64 o0) ∧ w.cell? ⟨g, 1, none⟩ = some (.int .u64 o1) ∧ w.cell? ⟨g, 2, none⟩ = some (.int .u64 o2) ∧ w.cell? ⟨g, 3, none⟩ = some (.int .u64 o3)) ∧ w.frozen? ⟨g, 0, none⟩ = false ∧ w.frozen? ⟨g, 1, none⟩ = false ∧ w.frozen? ⟨g, 2, none⟩ = false ∧ w.frozen? ⟨g, 3, none⟩ = false
theorem Out4.kept {w1 w2 : World} {g : Nat} {o0 o1 o2 o3 : Int} (h : Out4 w1 g o0 o1 o2 o3) (k : Kept w1 w2) : Out4 w2 g o0 o1 o2 o3 := by
  obtain ⟨⟨a, b, c, d⟩, e, f, i, j⟩ := h
  exact ⟨⟨k.read a, k.read b, k.read c, k.read d⟩, k.thaw e, k.thaw f, k.thaw i, k.thaw j⟩

theorem Kept.all4 {w1 w2 : World} {p0 p1 p2 p3 : Addr} {v0 v1 v2 v3 : Value} (k : Kept w1 w2) (h : Hid (w1.cell? p0 = some v0 ∧ w1.cell? p1 = some v1 ∧ w1.cell? p2 = some v2 ∧ w1.cell? p3 = some v3)) : w2.cell? p0 = some v0 ∧ w2.cell? p1 = some v1 ∧ w2.cell? p2 = some v2 ∧ w2.cell? p3 = some v3 := by
  obtain ⟨h0, h1, h2, h3⟩ := h.out
  exact ⟨k.read h0, k.read h1, k.read h2, k.read h3⟩

end Go.Proofs.Ytgmhcgmaidnbeaa
