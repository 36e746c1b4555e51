/-
  Small words for loops that append numbers to a slice of their own, beside blocks that they write.
-/
import Derived.Test.YtbpdimogigcacaaRowI
import Derived.Test.YtbpdimogigcacaaRoom
import Derived.Deep.Heap
namespace Go.Proofs.Ytbpdimogigcacaa
open Go.RowKit Go.WideShapes Go.ChangeShapes

theorem own_set {w : World} {base : Nat} {e : TypeId} {size : Nat} {v : Value} {n : Nat} {xs : List Value} (h : w.ownsRow base e size v n xs) {a : Addr} (u : Value) (ha : some a.block ≠ v.ownBlock) : (w.setCell a u).ownsRow base e size v n xs := by
  refine ⟨h.1, ?_⟩
  rcases h.2 with hn | ⟨g, cap, cur, rfl, hb, hg, rest⟩
  · exact Or.inl hn
  · refine Or.inr ⟨g, cap, cur, rfl, hb, ?_, rest⟩
    rw [Go.Deep.blk_setCell_other w a u g (fun z => ha (by rw [← z]; rfl))]; exact hg
theorem off_next {w : World} {g : Nat} {v v' : Value} (h : some g ≠ v.ownBlock) (hg : g < w.heap.size) (o : v'.ownBlock = v.ownBlock ∨ v'.ownBlock = some w.heap.size) : some g ≠ v'.ownBlock := by
  rcases o with o | o <;> rw [o]
  · exact h
  · intro z; have := Option.some.inj z; omega
theorem off_nil (g : Nat) : some g ≠ Value.ownBlock (.slice none 0 0) := by intro z; cases z
/-- A new block of one cell, as what is appended. -/
theorem cells_one_new (w : World) (x : Value) (t : TypeId) : ∀ j u, [x][j]? = some u → (w.alloc (.cells #[x] t)).cell? ((⟨w.heap.size, 0, none⟩ : Addr).add j) = some u := by
  intro j u hj
  match j, hj with
  | 0, hj => simp at hj; subst hj; simp [Addr.add, go_sem]
  | j + 1, hj => simp at hj
/-- A list's numbers lie in a row. -/
def RowK (κ : IntKind) (w : World) (A : Option Addr) (l : List Int) : Prop := RowAt w A l.length (fun j => .int κ (l.getD j 0))
theorem RowK.kept {κ : IntKind} {w w' : World} {A : Option Addr} {l : List Int} (h : RowK κ w A l) (k : Kept w w') : RowK κ w' A l := RowAt.kept h k
theorem own_rowK {κ : IntKind} {w : World} {base : Nat} {e : TypeId} {v : Value} {l : List Int} {n : Nat} (hl : l.length = n) (h : w.ownsRow base e 1 v n (l.map (.int κ))) : ∃ (B : Option Addr) (c : Nat), v = .slice B n c ∧ SliceOk B n c ∧ RowK κ w B l ∧ ∀ a, B = some a → base ≤ a.block ∧ a.block < w.heap.size := by
  subst hl
  rcases h.2 with ⟨rfl, e0⟩ | ⟨g, cap, cur, rfl, hb, hg, hc, hm, _, _⟩
  · refine ⟨none, 0, by rw [e0], ⟨by omega, by omega, fun _ => rfl⟩, fun h0 => absurd h0 (by omega), fun a z => by cases z⟩
  · refine ⟨some ⟨g, 0, none⟩, cap, rfl, ⟨hc, by simp only [maxLen] at hm; omega, fun h => by cases h⟩, fun hn => ⟨g, 0, rfl, fun k hk => ?_⟩, fun a z => by cases z; exact ⟨hb, (h.lt g rfl).2⟩⟩
    have c0 := h.cells (g := g) rfl k (.int κ (l.getD k 0)) (by simp [List.getD, hk])
    rw [Addr.add_lit] at c0
    exact c0
/-- A cell behind what was appended. -/
theorem cell_grown {w w' : World} {a : Addr} {u : Value} {row : Option Nat} (h : w.cell? a = some u) (hg : w.grownBy w' row) (hn : some a.block ≠ row) : w'.cell? a = some u := hg.cell h hn
end Go.Proofs.Ytbpdimogigcacaa
