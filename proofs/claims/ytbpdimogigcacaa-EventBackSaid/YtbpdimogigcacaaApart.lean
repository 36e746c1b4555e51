/-
  Two slices of the call's own, each grown beside the other.
-/
import Derived.Test.YtbpdimogigcacaaRowG
import Derived.Test.YtbpdimogigcacaaOwnSet
namespace Go.Proofs.Ytbpdimogigcacaa
open Go.RowKit Go.WideShapes Go.ChangeShapes

/-- They do not lie in one block. -/
def Apart (v1 v2 : Value) : Prop := v1.ownBlock = none ∨ v2.ownBlock = none ∨ v1.ownBlock ≠ v2.ownBlock
theorem Apart.symm {v1 v2 : Value} (h : Apart v1 v2) : Apart v2 v1 := by
  rcases h with h | h | h
  · exact Or.inr (Or.inl h)
  · exact Or.inl h
  · exact Or.inr (Or.inr (fun e => h e.symm))
theorem Apart.next {v1 v1' v2 : Value} {w : World} {base n s m : Nat} {e : TypeId} {xs : List Value} (h : Apart v1 v2) (o : v1'.ownBlock = v1.ownBlock ∨ v1'.ownBlock = some m) (h2 : w.ownsRow base e s v2 n xs) (hm : w.heap.size ≤ m) : Apart v1' v2 := by
  rcases o with o | o
  · unfold Apart; rw [o]; exact h
  · by_cases z : v2.ownBlock = none
    · exact Or.inr (Or.inl z)
    · refine Or.inr (Or.inr (fun q => ?_))
      have := (h2.lt m (by rw [← q, o])).2
      omega
theorem own_form {w : World} {base n s : Nat} {e : TypeId} {v : Value} {xs : List Value} (h : w.ownsRow base e s v n xs) : ∃ (A : Option Addr) (c : Nat), v = .slice A n c := by
  rcases h.2 with ⟨rfl, rfl⟩ | ⟨g, cap, cur, rfl, _⟩
  · exact ⟨none, 0, rfl⟩
  · exact ⟨_, _, rfl⟩
theorem own_apart {w w' : World} {base n s : Nat} {e : TypeId} {v1 v2 : Value} {xs : List Value} (h2 : w.ownsRow base e s v2 n xs) (h : Apart v1 v2) (g : w.grownBy w' v1.ownBlock) : w'.ownsRow base e s v2 n xs := by
  refine h2.kept g ?_
  by_cases z : v2.ownBlock = none
  · exact Or.inl z
  · refine Or.inr (fun q => ?_)
    rcases h with h | h | h
    · rw [h] at q; exact z q
    · exact z h
    · exact h q.symm
theorem cells_four_new (w : World) (a b c d : Value) (t : TypeId) : ∀ j u, [a, b, c, d][j]? = some u → (w.alloc (.cells #[a, b, c, d] t)).cell? ((⟨w.heap.size, 0, none⟩ : Addr).add j) = some u := by
  intro j u hj
  match j, hj with
  | 0, hj => simp at hj; subst hj; simp [Addr.add, go_sem]
  | 1, hj => simp at hj; subst hj; simp [Addr.add, go_sem]
  | 2, hj => simp at hj; subst hj; simp [Addr.add, go_sem]
  | 3, hj => simp at hj; subst hj; simp [Addr.add, go_sem]
  | j + 4, hj => simp at hj
end Go.Proofs.Ytbpdimogigcacaa
