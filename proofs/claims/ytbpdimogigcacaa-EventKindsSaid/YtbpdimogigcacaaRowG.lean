/-
  A slice of one's own of structures of numbers of one kind, as a row of rows of cells.
-/
import Derived.Test.YtbpdimogigcacaaRowI
namespace Go.Proofs.Ytbpdimogigcacaa
open Go.RowKit Go.WideShapes Go.ChangeShapes

section
variable {α : Type} {cs : α → List Value} {n : Nat}
theorem flat_app (l r : List α) : (l ++ r).flatMap cs = l.flatMap cs ++ r.flatMap cs := by simp
theorem flat_one (l : List α) (x : α) : (l ++ [x]).flatMap cs = l.flatMap cs ++ cs x := by simp
theorem flat_len (hn : ∀ x, (cs x).length = n) (l : List α) : (l.flatMap cs).length = l.length * n := by
  induction l with
  | nil => simp
  | cons a l ih => rw [List.flatMap_cons, List.length_append, ih, hn, List.length_cons, Nat.succ_mul]; omega
theorem flat_get (hn : ∀ x, (cs x).length = n) (d : α) : ∀ (l : List α) (k j : Nat), k < l.length → j < n → (l.flatMap cs)[k * n + j]? = (cs (l.getD k d))[j]?
  | [], k, j, h, _ => absurd h (by simp)
  | a :: l, 0, j, _, hj => by
    rw [List.flatMap_cons, List.getElem?_append_left (by rw [hn]; omega)]
    simp
  | a :: l, k + 1, j, h, hj => by
    rw [List.flatMap_cons, List.getElem?_append_right (by rw [hn, Nat.succ_mul]; omega), hn, show (k + 1) * n + j - n = k * n + j by rw [Nat.succ_mul]; omega]
    have := flat_get hn d l k j (by simpa using h) hj
    rw [this]
    simp [List.getD]
/-- What is owned, as a row of rows of cells. -/
theorem own_rowI {κ : IntKind} {c : α → Nat → Int} (hn : ∀ x, (cs x).length = n) (hc : ∀ x j, j < n → (cs x)[j]? = some (.int κ (c x j))) (d : α) {w : World} {base : Nat} {e : TypeId} {v : Value} {l : List α} {m : Nat} (hl : l.length = m) (h : w.ownsRow base e n v m (l.flatMap cs)) :
    ∃ (B : Option Addr) (cap : Nat), v = .slice B m cap ∧ SliceOk B m cap ∧ RowI κ w B n m (fun i j => c (l.getD i d) j) ∧ ∀ a, B = some a → base ≤ a.block ∧ a.block < w.heap.size := by
  subst hl
  rcases h.2 with ⟨rfl, e0⟩ | ⟨g, cap, cur, rfl, hb, hg, hcap, hm, _, _⟩
  · refine ⟨none, 0, by rw [e0], ⟨by omega, by omega, fun _ => rfl⟩, fun h0 => absurd h0 (by omega), fun a z => by cases z⟩
  · refine ⟨some ⟨g, 0, none⟩, cap, rfl, ⟨hcap, by simp only [maxLen] at hm; omega, fun h => by cases h⟩, fun _ => ⟨g, 0, rfl, fun i hi j hj => ?_⟩, fun a z => by cases z; exact ⟨hb, (h.lt g rfl).2⟩⟩
    have c0 := h.cells (g := g) rfl (i * n + j) (.int κ (c (l.getD i d) j)) (by rw [flat_get hn d l i j hi hj]; exact hc _ j hj)
    rw [Addr.add_lit, ← Nat.add_assoc] at c0
    exact c0
end
end Go.Proofs.Ytbpdimogigcacaa
