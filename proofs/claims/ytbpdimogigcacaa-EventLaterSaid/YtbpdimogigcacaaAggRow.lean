/-
  A slice of structures that came in, whatever structures lie in them: the cells of each element, as Bools and numbers.
-/
import Derived.Test.YtbpdimogigcacaaAgg
import Derived.Deep.Slices
namespace Go.Proofs.Ytbpdimogigcacaa
open Go.RowKit Go.WideShapes Go.ChangeShapes Go.Deep

/-- What a slice's three words must keep. -/
def SliceOk (A : Option Addr) (len cap : Nat) : Prop := len ≤ cap ∧ cap ≤ 9223372036854775807 ∧ (A = none → cap = 0)
section
variable {H : Type} {enc : TypeId × Value → H} {P : Program} {w : World} {base : Nat} {held : Bool}
theorem row_of_leaves {t e : TypeId} {v : Value} {d : DataW H} {ps : List MemPlace} {ls : List Cell1} (m : Nat) (ht : P.underlying t = some (.slice e)) (hl : leavesOf P m e = some ls) (hC : 0 < P.cellsOf e)
    (hv : ∃ a len cap, v = .slice a len cap) (h : DataW.Trod enc P w base (fun _ => true) held t v d ps) :
    ∃ (A : Option Addr) (len cap : Nat) (E : Nat → List Value), v = .slice A len cap ∧ SliceOk A len cap ∧ (∀ i, i < len → Leaves ls (E i)) ∧
      (0 < len → ∃ b off : Nat, A = some ⟨b, off, none⟩ ∧ ∀ i, i < len → ∀ j, j < P.cellsOf e → w.cell? ⟨b, off + i * P.cellsOf e + j, none⟩ = (E i)[j]?) := by
  obtain ⟨a0, len, cap, rfl⟩ := hv
  obtain ⟨fuel, hf⟩ := h
  rcases open_slice ht hf with ⟨hcs, hx⟩ | ⟨a, len', cap', m', n, D, Pl, hcs, _, hlc, hm, hmm, hx, hi⟩
  · simp [Value.cells] at hcs
    obtain ⟨rfl, rfl, rfl⟩ := hcs
    exact ⟨none, 0, 0, fun _ => [], rfl, ⟨Nat.le_refl _, Nat.zero_le _, fun _ => rfl⟩, fun i h => absurd h (by omega), fun h => absurd h (by omega)⟩
  · simp [Value.cells] at hcs
    obtain ⟨rfl, rfl, rfl⟩ := hcs
    simp only [if_true] at hmm
    subst hmm
    obtain ⟨E, hE⟩ := choose_lt (n := len) (p := fun i cs' => w.cells? base (a.add (i * P.cellsOf e)) (P.cellsOf e) = some cs' ∧ DataW.trod enc P w base (fun _ => true) held n e cs' = some (D i, Pl i)) (fun i h => hi i (by omega))
    have hm' : m' ≤ 9223372036854775807 := by simp only [maxLen] at hm; omega
    refine ⟨some a, len, m', E, rfl, ⟨hlc, hm', fun h => by cases h⟩, fun i h => leaves_trod m e ls n (E i) _ hl (hE i h).2, fun h0 => ?_⟩
    obtain ⟨b, off, spot⟩ := a
    have hsp : spot = none := by
      obtain ⟨_, hlen, hat⟩ := World.cells?_some (hE 0 h0).1
      have h1 := hat 0 hC
      rw [List.getElem?_eq_getElem (by omega)] at h1
      have := World.cell?_spot h1
      simpa [Addr.add] using this
    subst hsp
    refine ⟨b, off, rfl, fun i h j hj => ?_⟩
    obtain ⟨_, hlen, hat⟩ := World.cells?_some (hE i h).1
    have := hat j hj
    rw [Go.Deep.add_add, Addr.add_lit, ← Nat.add_assoc] at this
    exact this
end
end Go.Proofs.Ytbpdimogigcacaa
