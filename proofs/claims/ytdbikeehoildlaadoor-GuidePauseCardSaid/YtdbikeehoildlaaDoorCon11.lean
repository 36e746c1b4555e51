/-
  What the calls of package epoch are to do, as premises; and words for what lies in six cells.
-/
import Derived.Test.YtdbikeehoildlaaDoorTold11
import Derived.Test.YtdbikeehoildlaaDoorFrame
import Derived.Test.YtdbikeehoildlaaDoorRoom
namespace Go.Proofs.YtdbikeehoildlaaDoor
open Go.RowKit

def CE (w : World) (g : Nat) (h : Ep) : Prop := w.cell? ⟨g, 0, none⟩ = some (.bool h.on) ∧ w.cell? ⟨g, 1, none⟩ = some (.int .i64 h.start) ∧ w.cell? ⟨g, 2, none⟩ = some (.int .i64 h.first) ∧ w.cell? ⟨g, 3, none⟩ = some (.int .i64 h.most) ∧ w.cell? ⟨g, 4, none⟩ = some (.int .i64 h.k) ∧ w.cell? ⟨g, 5, none⟩ = some (.int .i64 h.est)
def FE (w : World) (g : Nat) : Prop := w.frozen? ⟨g, 0, none⟩ = false ∧ w.frozen? ⟨g, 1, none⟩ = false ∧ w.frozen? ⟨g, 2, none⟩ = false ∧ w.frozen? ⟨g, 3, none⟩ = false ∧ w.frozen? ⟨g, 4, none⟩ = false ∧ w.frozen? ⟨g, 5, none⟩ = false
/-- What lies in a block, which may be written. -/
def RE (w : World) (g : Nat) (h : Ep) : Prop := CE w g h ∧ FE w g
theorem CE.kept {w w' : World} {g : Nat} {h : Ep} (c : CE w g h) (k : Kept w w') : CE w' g h := by
  obtain ⟨c0, c1, c2, c3, c4, c5⟩ := c
  exact ⟨k.read c0, k.read c1, k.read c2, k.read c3, k.read c4, k.read c5⟩
theorem RE.kept {w w' : World} {g : Nat} {h : Ep} (r : RE w g h) (k : Kept w w') : RE w' g h := by
  obtain ⟨c, f0, f1, f2, f3, f4, f5⟩ := r
  exact ⟨c.kept k, k.thaw f0, k.thaw f1, k.thaw f2, k.thaw f3, k.thaw f4, k.thaw f5⟩
theorem RE.ne {w : World} {g : Nat} {h : Ep} (r : RE w g h) : g < w.heap.size := cell_lt r.1.1
theorem re_new (w : World) (h : Ep) (t : TypeId) : RE (w.alloc (.cells #[.bool h.on, .int .i64 h.start, .int .i64 h.first, .int .i64 h.most, .int .i64 h.k, .int .i64 h.est] t)) w.heap.size h := ⟨⟨by simp [go_sem], by simp [go_sem], by simp [go_sem], by simp [go_sem], by simp [go_sem], by simp [go_sem]⟩, by simp [go_sem], by simp [go_sem], by simp [go_sem], by simp [go_sem], by simp [go_sem], by simp [go_sem]⟩
theorem RE.setCell {w : World} {g : Nat} {h : Ep} (r : RE w g h) {p : Addr} (hp : g ≠ p.block) (v : Value) : RE (w.setCell p v) g h := by
  obtain ⟨⟨c0, c1, c2, c3, c4, c5⟩, f0, f1, f2, f3, f4, f5⟩ := r
  have far : ∀ o, (w.setCell p v).cell? ⟨g, o, none⟩ = w.cell? ⟨g, o, none⟩ := fun o => World.cell?_setCell_other w p ⟨g, o, none⟩ v (fun e => hp (by rw [e]))
  have fz : ∀ o, (w.setCell p v).frozen? ⟨g, o, none⟩ = w.frozen? ⟨g, o, none⟩ := fun o => World.frozen?_setCell _ _ _ _
  exact ⟨⟨(far 0).trans c0, (far 1).trans c1, (far 2).trans c2, (far 3).trans c3, (far 4).trans c4, (far 5).trans c5⟩, (fz 0).trans f0, (fz 1).trans f1, (fz 2).trans f2, (fz 3).trans f3, (fz 4).trans f4, (fz 5).trans f5⟩
theorem re_far {w : World} {g b : Nat} {x : Ep} (r : RE w b x) (hp : b ≠ g) (h : Ep) : RE (World.setCell (World.setCell (World.setCell (World.setCell (World.setCell (World.setCell w ⟨g, 0, none⟩ (.bool h.on)) ⟨g, 1, none⟩ (.int .i64 h.start)) ⟨g, 2, none⟩ (.int .i64 h.first)) ⟨g, 3, none⟩ (.int .i64 h.most)) ⟨g, 4, none⟩ (.int .i64 h.k)) ⟨g, 5, none⟩ (.int .i64 h.est)) b x :=
  (((((r.setCell hp _).setCell hp _).setCell hp _).setCell hp _).setCell hp _).setCell hp _
theorem kept_storeE {W w : World} {g : Nat} (k : Kept W w) (hg : W.heap.size ≤ g) (h : Ep) : Kept W (World.setCell (World.setCell (World.setCell (World.setCell (World.setCell (World.setCell w ⟨g, 0, none⟩ (.bool h.on)) ⟨g, 1, none⟩ (.int .i64 h.start)) ⟨g, 2, none⟩ (.int .i64 h.first)) ⟨g, 3, none⟩ (.int .i64 h.most)) ⟨g, 4, none⟩ (.int .i64 h.k)) ⟨g, 5, none⟩ (.int .i64 h.est)) :=
  (((((k.setCell (a := ⟨g, 0, none⟩) hg _).setCell (a := ⟨g, 1, none⟩) hg _).setCell (a := ⟨g, 2, none⟩) hg _).setCell (a := ⟨g, 3, none⟩) hg _).setCell (a := ⟨g, 4, none⟩) hg _).setCell (a := ⟨g, 5, none⟩) hg _
theorem re_store {w : World} {g : Nat} {x : Ep} (r : RE w g x) (h : Ep) : RE (World.setCell (World.setCell (World.setCell (World.setCell (World.setCell (World.setCell w ⟨g, 0, none⟩ (.bool h.on)) ⟨g, 1, none⟩ (.int .i64 h.start)) ⟨g, 2, none⟩ (.int .i64 h.first)) ⟨g, 3, none⟩ (.int .i64 h.most)) ⟨g, 4, none⟩ (.int .i64 h.k)) ⟨g, 5, none⟩ (.int .i64 h.est)) g h := by
  obtain ⟨⟨c0, c1, c2, c3, c4, c5⟩, f0, f1, f2, f3, f4, f5⟩ := r
  exact ⟨⟨by simp [go_sem, *], by simp [go_sem, *], by simp [go_sem, *], by simp [go_sem, *], by simp [go_sem, *], by simp [go_sem, *]⟩, by simp [go_sem, *], by simp [go_sem, *], by simp [go_sem, *], by simp [go_sem, *], by simp [go_sem, *], by simp [go_sem, *]⟩
theorem size_storeE (w : World) (g : Nat) (h : Ep) : (World.setCell (World.setCell (World.setCell (World.setCell (World.setCell (World.setCell w ⟨g, 0, none⟩ (.bool h.on)) ⟨g, 1, none⟩ (.int .i64 h.start)) ⟨g, 2, none⟩ (.int .i64 h.first)) ⟨g, 3, none⟩ (.int .i64 h.most)) ⟨g, 4, none⟩ (.int .i64 h.k)) ⟨g, 5, none⟩ (.int .i64 h.est)).heap.size = w.heap.size := by simp
theorem room6_new {w1 w2 : World} {x0 x1 x2 x3 x4 x5 : Value} {t : TypeId} (k : Kept (w1.alloc (.cells #[x0, x1, x2, x3, x4, x5] t)) w2) : (w2.cell? ⟨w1.heap.size, 0, none⟩ = some x0 ∧ w2.cell? ⟨w1.heap.size, 1, none⟩ = some x1 ∧ w2.cell? ⟨w1.heap.size, 2, none⟩ = some x2 ∧ w2.cell? ⟨w1.heap.size, 3, none⟩ = some x3 ∧ w2.cell? ⟨w1.heap.size, 4, none⟩ = some x4 ∧ w2.cell? ⟨w1.heap.size, 5, none⟩ = some x5) ∧ FE w2 w1.heap.size :=
  ⟨⟨k.read (by simp [go_sem]), k.read (by simp [go_sem]), k.read (by simp [go_sem]), k.read (by simp [go_sem]), k.read (by simp [go_sem]), k.read (by simp [go_sem])⟩, k.thaw (by simp [go_sem]), k.thaw (by simp [go_sem]), k.thaw (by simp [go_sem]), k.thaw (by simp [go_sem]), k.thaw (by simp [go_sem]), k.thaw (by simp [go_sem])⟩
theorem room6_newD {w1 w2 : World} {x0 x1 x2 x3 x4 x5 : Value} {t : TypeId} (k : Kept ((w1.alloc (.cells #[x0, x1, x2, x3, x4, x5] t)).drew) w2) : (w2.cell? ⟨w1.heap.size, 0, none⟩ = some x0 ∧ w2.cell? ⟨w1.heap.size, 1, none⟩ = some x1 ∧ w2.cell? ⟨w1.heap.size, 2, none⟩ = some x2 ∧ w2.cell? ⟨w1.heap.size, 3, none⟩ = some x3 ∧ w2.cell? ⟨w1.heap.size, 4, none⟩ = some x4 ∧ w2.cell? ⟨w1.heap.size, 5, none⟩ = some x5) ∧ FE w2 w1.heap.size :=
  room6_new (((Kept.refl _).drew).trans k)
/-- What the table of tens holds. -/
def Tens (w : World) : Prop := w.cell? ⟨0, 0, none⟩ = some (.int .u64 10) ∧ w.cell? ⟨0, 1, none⟩ = some (.int .u64 1000000) ∧ w.cell? ⟨0, 2, none⟩ = some (.int .u64 1000000) ∧ w.cell? ⟨0, 3, none⟩ = some (.int .u64 1000000)
theorem Tens.kept {w w' : World} (h : Tens w) (k : Kept w w') : Tens w' := by
  obtain ⟨c0, c1, c2, c3⟩ := h
  exact ⟨k.read c0, k.read c1, k.read c2, k.read c3⟩
/-- The same, in a class of worlds that kept one. -/
theorem tens_via {w W w' : World} (h : Tens w) (j : Kept w W) (k : Kept W w') : Tens w' := (h.kept j).kept k
def ECheckC : Prop := ∀ (h : Ep) (v : Bool), In64E h → (v = true ↔ MayE h) → ∀ w, Tens w → Calls Tryd.prog 23 #[.agg #[.bool h.on, .int .i64 h.start, .int .i64 h.first, .int .i64 h.most, .int .i64 h.k, .int .i64 h.est]] w fun e w' => e = .returned (.bool v) ∧ Kept w w'
def EKC : Prop := ∀ n v : Int, In64 n → KIs n v → ∀ w, Tens w → Calls Tryd.prog 39 #[.int .i64 n] w fun e w' => e = .returned (.int .i64 v) ∧ Kept w w'
def EBeginC : Prop := ∀ (a n m : Int) (h : Ep) (er : Int), In64 a → In64 n → In64 m → BeginIs a n m h er → ∀ w, Tens w → Calls Tryd.prog 25 #[.int .i64 a, .int .i64 n, .int .i64 m] w fun e w' => e = .returned (.tuple #[.agg #[.bool h.on, .int .i64 h.start, .int .i64 h.first, .int .i64 h.most, .int .i64 h.k, .int .i64 h.est], .int .i64 er]) ∧ Kept w w'
def EShiftC : Prop := ∀ (h h' : Ep) (d : Int), In64E h → In64 d → shiftE h d = h' → ∀ w, Calls Tryd.prog 31 #[.agg #[.bool h.on, .int .i64 h.start, .int .i64 h.first, .int .i64 h.most, .int .i64 h.k, .int .i64 h.est], .int .i64 d] w fun e w' => e = .returned (.agg #[.bool h'.on, .int .i64 h'.start, .int .i64 h'.first, .int .i64 h'.most, .int .i64 h'.k, .int .i64 h'.est]) ∧ Kept w w'
end Go.Proofs.YtdbikeehoildlaaDoor
