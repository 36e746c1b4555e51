/-
  A slice of numbers that the call has made with its length: the first of them have been written.
-/
import Derived.Test.YtbpdimogigcacaaOwnSet
import Derived.Test.YtbpdimogigcacaaRoom
namespace Go.Proofs.Ytbpdimogigcacaa
open Go.RowKit Go.WideShapes Go.ChangeShapes

/-- All its cells are there, and free; the first of them are these. -/
def MadeI (w : World) (g n : Nat) (l : List Int) : Prop := (∀ j, j < n → (∃ u, w.cell? ⟨g, j, none⟩ = some u) ∧ w.frozen? ⟨g, j, none⟩ = false) ∧ ∀ j, j < l.length → w.cell? ⟨g, j, none⟩ = some (.int .i64 (l.getD j 0))
theorem MadeI.kept {w w' : World} {g n : Nat} {l : List Int} (h : MadeI w g n l) (k : Kept w w') : MadeI w' g n l :=
  ⟨fun j hj => ⟨by obtain ⟨u, hu⟩ := (h.1 j hj).1; exact ⟨u, k.read hu⟩, k.thaw (h.1 j hj).2⟩, fun j hj => k.read (h.2 j hj)⟩
theorem MadeI.grown {w w' : World} {g n : Nat} {l : List Int} {row : Option Nat} (h : MadeI w g n l) (hg : w.grownBy w' row) (hn : some g ≠ row) (hz : ∀ x, w'.frozen? x = w.frozen? x) : MadeI w' g n l :=
  ⟨fun j hj => ⟨by obtain ⟨u, hu⟩ := (h.1 j hj).1; exact ⟨u, cell_grown hu hg hn⟩, by rw [hz]; exact (h.1 j hj).2⟩, fun j hj => cell_grown (h.2 j hj) hg hn⟩
theorem MadeI.put {w : World} {g n : Nat} {l : List Int} (h : MadeI w g n l) (x : Int) (hl : l.length < n) : MadeI (w.setCell ⟨g, l.length, none⟩ (.int .i64 x)) g n (l ++ [x]) := by
  obtain ⟨u, hu⟩ := (h.1 l.length hl).1
  refine ⟨fun j hj => ⟨?_, by rw [World.frozen?_setCell]; exact (h.1 j hj).2⟩, fun j hj => ?_⟩
  · by_cases e : j = l.length
    · subst e; exact ⟨_, World.cell?_setCell_same _ _ _ hu⟩
    · obtain ⟨v, hv⟩ := (h.1 j hj).1
      exact ⟨v, by rw [World.cell?_setCell_other _ _ _ _ (by intro z; cases z; exact e rfl)]; exact hv⟩
  · by_cases e : j = l.length
    · subst e; rw [World.cell?_setCell_same _ _ _ hu]; simp
    · rw [List.length_append, List.length_singleton] at hj
      have hj2 : j < l.length := by omega
      rw [World.cell?_setCell_other _ _ _ _ (by intro z; cases z; exact e rfl), h.2 j hj2]
      simp [List.getD, List.getElem?_append_left hj2]
theorem made_ownI {w : World} {base : Nat} {e : TypeId} {g n c : Nat} {xs : List Value} (h : w.ownsRow base e 1 (.slice (some ⟨g, 0, none⟩) n c) n xs) : MadeI w g n [] := by
  rcases h.2 with ⟨h0, _⟩ | ⟨g', cap', cur, hv, hbg, hgg, hnc, hcm, hcs, htake⟩
  · cases h0
  · cases hv
    refine ⟨fun j hj => ⟨?_, ?_⟩, fun j hj => absurd hj (by simp)⟩
    · have hjc : j < cur.size := by rw [hcs]; omega
      exact ⟨cur[j], by simp [World.cell?, hgg, hjc]⟩
    · simp [World.frozen?, hgg]
theorem MadeI.row {w : World} {g n : Nat} {l : List Int} (h : MadeI w g n l) : RowK .i64 w (some ⟨g, 0, none⟩) l := fun _ => ⟨g, 0, rfl, fun j hj => by rw [Nat.zero_add]; exact h.2 j hj⟩
end Go.Proofs.Ytbpdimogigcacaa
