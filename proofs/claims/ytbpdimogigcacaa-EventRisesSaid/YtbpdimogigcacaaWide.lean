/-
  Plain words of layer 2, and what a walk over structures made by value needs: 'Kept' behind a store into what is new.
-/
import Derived.Test.YtbpdimogigcacaaNums
import Derived.RowKit3
namespace Go.Proofs.Ytbpdimogigcacaa
open Go.RowKit

/-- A word of 64 bits, without a sign. -/
def Word (x : Int) : Prop := 0 ≤ x ∧ x < 18446744073709551616

/-- Is a size of two words not 0? -/
def nz (h l : Int) : Bool := !(h == 0 && l == 0)

theorem Kept.setCell {W w' : World} (h : Kept W w') {a : Addr} (ha : W.heap.size ≤ a.block) (v : Value) : Kept W (w'.setCell a v) := ⟨h.1.setCell ha v, h.2.setCell ha v⟩

theorem cell_lt {w : World} {p : Addr} {v : Value} (h : w.cell? p = some v) : p.block < w.heap.size := by
  rcases Nat.lt_or_ge p.block w.heap.size with h1 | h1
  · exact h1
  · have : w.heap[p.block]? = none := Array.getElem?_eq_none h1
    simp [World.cell?, this] at h
theorem Kept.read {w1 w2 : World} (k : Kept w1 w2) {p : Addr} {v : Value} (h : w1.cell? p = some v) : w2.cell? p = some v := (k.2.cell (cell_lt h)).trans h
theorem Kept.thaw {w1 w2 : World} (k : Kept w1 w2) {p : Addr} (h : w1.frozen? p = false) : w2.frozen? p = false := (k.1.2.1 p).trans h

/-- A block of three cells that may be written. -/
def Room3 (w : World) (b : Nat) : Prop := ∃ x y z : Value, w.cell? ⟨b, 0, none⟩ = some x ∧ w.cell? ⟨b, 1, none⟩ = some y ∧ w.cell? ⟨b, 2, none⟩ = some z ∧ w.frozen? ⟨b, 0, none⟩ = false ∧ w.frozen? ⟨b, 1, none⟩ = false ∧ w.frozen? ⟨b, 2, none⟩ = false
theorem Room3.kept {w1 w2 : World} {b : Nat} (h : Room3 w1 b) (k : Kept w1 w2) : Room3 w2 b := by
  obtain ⟨x, y, z, a1, a2, a3, b1, b2, b3⟩ := h
  exact ⟨x, y, z, k.read a1, k.read a2, k.read a3, k.thaw b1, k.thaw b2, k.thaw b3⟩
theorem Room3.alloc {w : World} {b : Nat} (h : Room3 w b) (c : Array Value) (t : TypeId) : Room3 (w.alloc (.cells c t)) b := h.kept ((Kept.refl _).alloc _ _)
theorem Room3.setCell {w : World} {b : Nat} (h : Room3 w b) {p : Addr} (hp : b ≠ p.block) (v : Value) : Room3 (w.setCell p v) b := by
  obtain ⟨x, y, z, a1, a2, a3, b1, b2, b3⟩ := h
  have far : ∀ o, (w.setCell p v).cell? ⟨b, o, none⟩ = w.cell? ⟨b, o, none⟩ := fun o => World.cell?_setCell_other w p ⟨b, o, none⟩ v (fun e => hp (by rw [e]))
  exact ⟨x, y, z, (far 0).trans a1, (far 1).trans a2, (far 2).trans a3, (World.frozen?_setCell _ _ _ _).trans b1, (World.frozen?_setCell _ _ _ _).trans b2, (World.frozen?_setCell _ _ _ _).trans b3⟩
/-- A block of three cells that holds a number. -/
def Has3 (w : World) (b : Nat) (n : Bool) (h l : Int) : Prop := w.cell? ⟨b, 0, none⟩ = some (.bool n) ∧ w.cell? ⟨b, 1, none⟩ = some (.int .u64 h) ∧ w.cell? ⟨b, 2, none⟩ = some (.int .u64 l)
theorem Has3.kept {w1 w2 : World} {b : Nat} {n : Bool} {h l : Int} (H : Has3 w1 b n h l) (k : Kept w1 w2) : Has3 w2 b n h l := ⟨k.read H.1, k.read H.2.1, k.read H.2.2⟩

/-- What was new ahead of a call may be written behind it. -/
theorem Room3.new {w1 w2 : World} {x y z : Value} {t : TypeId} (k : Kept (w1.alloc (.cells #[x, y, z] t)) w2) : Room3 w2 w1.heap.size :=
  Room3.kept ⟨x, y, z, by simp [go_sem], by simp [go_sem], by simp [go_sem], by simp [go_sem], by simp [go_sem], by simp [go_sem]⟩ k
/-- A block of two cells that may be written. -/
def Room2 (w : World) (b : Nat) : Prop := ∃ x y : Value, w.cell? ⟨b, 0, none⟩ = some x ∧ w.cell? ⟨b, 1, none⟩ = some y ∧ w.frozen? ⟨b, 0, none⟩ = false ∧ w.frozen? ⟨b, 1, none⟩ = false
theorem Room2.kept {w1 w2 : World} {b : Nat} (h : Room2 w1 b) (k : Kept w1 w2) : Room2 w2 b := by
  obtain ⟨x, y, a1, a2, b1, b2⟩ := h
  exact ⟨x, y, k.read a1, k.read a2, k.thaw b1, k.thaw b2⟩
theorem Room2.new {w1 w2 : World} {x y : Value} {t : TypeId} (k : Kept (w1.alloc (.cells #[x, y] t)) w2) : Room2 w2 w1.heap.size :=
  Room2.kept ⟨x, y, by simp [go_sem], by simp [go_sem], by simp [go_sem], by simp [go_sem]⟩ k

end Go.Proofs.Ytbpdimogigcacaa
