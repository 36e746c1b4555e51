/-
  What the calls of package flight are to do, as premises.
-/
import Derived.Test.YtbpdimogigcacaaTold16
import Derived.Test.YtbpdimogigcacaaRowI
import Derived.Test.YtbpdimogigcacaaRoom
import Derived.Test.YtbpdimogigcacaaOwnSet
namespace Go.Proofs.Ytbpdimogigcacaa
open Go.RowKit

/-- A flight's three cells, that may be written. -/
def RF (w : World) (g : Nat) (x y z : Int) : Prop := (w.cell? ⟨g, 0, none⟩ = some (.int .i64 x) ∧ w.cell? ⟨g, 1, none⟩ = some (.int .i64 y) ∧ w.cell? ⟨g, 2, none⟩ = some (.int .i64 z)) ∧ w.frozen? ⟨g, 0, none⟩ = false ∧ w.frozen? ⟨g, 1, none⟩ = false ∧ w.frozen? ⟨g, 2, none⟩ = false
theorem RF.kept {w w' : World} {g : Nat} {x y z : Int} (h : RF w g x y z) (k : Kept w w') : RF w' g x y z := ⟨⟨k.read h.1.1, k.read h.1.2.1, k.read h.1.2.2⟩, k.thaw h.2.1, k.thaw h.2.2.1, k.thaw h.2.2.2⟩
theorem RF.ne {w : World} {g : Nat} {x y z : Int} (h : RF w g x y z) : g < w.heap.size := cell_lt h.1.1
theorem RF.grown {w w' : World} {g : Nat} {x y z : Int} {row : Option Nat} (h : RF w g x y z) (hg : w.grownBy w' row) (hf : ∀ a, w'.frozen? a = w.frozen? a) (hn : some g ≠ row) : RF w' g x y z :=
  ⟨⟨cell_grown h.1.1 hg hn, cell_grown h.1.2.1 hg hn, cell_grown h.1.2.2 hg hn⟩, by rw [hf]; exact h.2.1, by rw [hf]; exact h.2.2.1, by rw [hf]; exact h.2.2.2⟩
instance (s t o n room s' t' o' er : Int) : Decidable (SendIs s t o n room s' t' o' er) := by unfold SendIs; infer_instance
instance (s t o n told s' t' o' er : Int) : Decidable (LessIs s t o n told s' t' o' er) := by unfold LessIs; infer_instance
instance (f : Fl) (x : Ac) (f' : Fl) (er : Int) : Decidable (ActIs f x f' er) := by unfold ActIs; infer_instance
/-- Acts that lie in a row. -/
def actsL (E : Nat → Nat → Int) (len : Nat) : List Ac := (List.range len).map fun i => (E i 0, E i 1, E i 2)
theorem actsL_len (E : Nat → Nat → Int) (len : Nat) : (actsL E len).length = len := by simp [actsL]
theorem actsL_next (E : Nat → Nat → Int) (k : Nat) : actsL E (k + 1) = actsL E k ++ [(E k 0, E k 1, E k 2)] := by simp [actsL, List.range_succ]
theorem actsL_cut (E : Nat → Nat → Int) (k n : Nat) : actsL E (k + n) = actsL E k ++ actsL (fun i => E (k + i)) n := by
  induction n with
  | zero => simp [actsL]
  | succ n ih => rw [← Nat.add_assoc, actsL_next, actsL_next, ih, List.append_assoc]
theorem do_next (f : Fl) (E : Nat → Nat → Int) (k : Nat) : doF f (actsL E (k + 1)) = actF (doF f (actsL E k)) (E k 0, E k 1, E k 2) ∧ doE f (actsL E (k + 1)) = doE f (actsL E k) ++ [actE (doF f (actsL E k)) (E k 0, E k 1, E k 2)] := by
  rw [actsL_next, doF_app, doE_app]; exact ⟨rfl, rfl⟩
/-- A list's numbers lie in a row. -/
def RowE (w : World) (A : Option Addr) (l : List Int) : Prop := RowAt w A l.length (fun j => .int .i64 (l.getD j 0))
theorem RowE.kept {w w' : World} {A : Option Addr} {l : List Int} (h : RowE w A l) (k : Kept w w') : RowE w' A l := RowAt.kept h k
theorem RowE.far {w : World} {A : Option Addr} {l : List Int} (h : RowE w A l) (p : Addr) (u : Value) (hf : ∀ a, A = some a → a.block ≠ p.block) : RowE (w.setCell p u) A l := fun h0 => by
  obtain ⟨b, off, e, hc⟩ := h h0
  have hb : b ≠ p.block := hf _ e
  exact ⟨b, off, e, fun k hk => read_far (q := ⟨b, off + k, none⟩) (hc k hk) hb⟩
end Go.Proofs.Ytbpdimogigcacaa
