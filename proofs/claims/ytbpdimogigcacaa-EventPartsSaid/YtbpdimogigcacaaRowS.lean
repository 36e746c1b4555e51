/-
  A slice of slices of numbers that came in: a row of slices, each of them a row of cells.
-/
import Derived.Test.YtbpdimogigcacaaOwnSet
import Derived.Deep.Slices
import Derived.ChangeSlices
namespace Go.Proofs.Ytbpdimogigcacaa
open Go.RowKit Go.WideShapes Go.ChangeShapes Go.Deep

/-- Slices lie in a row; where each lies is B, its room C, what is in it R. -/
def RowS (κ : IntKind) (w : World) (A : Option Addr) (len : Nat) (B : Nat → Option Addr) (C : Nat → Nat) (R : Nat → List Int) : Prop :=
  RowAt w A len (fun i => .slice (B i) (R i).length (C i)) ∧ ∀ i, i < len → SliceOk (B i) (R i).length (C i) ∧ RowK κ w (B i) (R i)
theorem RowS.kept {κ : IntKind} {w w' : World} {A : Option Addr} {len : Nat} {B : Nat → Option Addr} {C : Nat → Nat} {R : Nat → List Int} (h : RowS κ w A len B C R) (k : Kept w w') : RowS κ w' A len B C R :=
  ⟨h.1.kept k, fun i hi => ⟨(h.2 i hi).1, (h.2 i hi).2.kept k⟩⟩
/-- The first ones of the rows. -/
def firstR (R : Nat → List Int) (n : Nat) : List (List Int) := (List.range n).map R
theorem firstR_len (R : Nat → List Int) (n : Nat) : (firstR R n).length = n := by simp [firstR]
theorem firstR_next (R : Nat → List Int) (n : Nat) : firstR R (n + 1) = firstR R n ++ [R n] := by simp [firstR, List.range_succ]
theorem firstR_cut (R : Nat → List Int) (k n : Nat) : firstR R (k + n) = firstR R k ++ firstR (fun i => R (k + i)) n := by
  induction n with
  | zero => simp [firstR]
  | succ n ih => rw [← Nat.add_assoc, firstR_next, firstR_next, ih, List.append_assoc]
theorem rows_of_rows {H : Type} {enc : TypeId × Value → H} {P : Program} {w : World} {base : Nat} {held : Bool} {t e i : TypeId} {κ : IntKind} {v : Value} {d : DataW H} {ps : List MemPlace}
    (ht : P.underlying t = some (.slice e)) (he : P.underlying e = some (.slice i)) (hi : P.underlying i = some (.int κ)) (hC : P.cellsOf e = 1) (hC2 : P.cellsOf i = 1) (hv : ∃ a len cap, v = .slice a len cap) (h : DataW.Trod enc P w base (fun _ => true) held t v d ps) :
    ∃ (A : Option Addr) (len cap : Nat) (B : Nat → Option Addr) (C : Nat → Nat) (R : Nat → List Int), v = .slice A len cap ∧ SliceOk A len cap ∧ RowS κ w A len B C R ∧ ∀ i, i < len → ∀ n ∈ R i, (Lit.int κ n).wf = true := by
  obtain ⟨a0, len, cap, rfl⟩ := hv
  obtain ⟨fuel, hf⟩ := h
  rcases open_slice ht hf with ⟨hcs, hx⟩ | ⟨a, len', cap', m', n, D, Pl, hcs, _, hlc, hm, hmm, hx, hall⟩
  · simp [Value.cells] at hcs
    obtain ⟨rfl, rfl, rfl⟩ := hcs
    exact ⟨none, 0, 0, fun _ => none, fun _ => 0, fun _ => [], rfl, ⟨Nat.le_refl _, Nat.zero_le _, fun _ => rfl⟩, ⟨fun h => absurd h (by omega), fun i h => absurd h (by omega)⟩, fun i h => absurd h (by omega)⟩
  · simp [Value.cells] at hcs
    obtain ⟨rfl, rfl, rfl⟩ := hcs
    simp only [if_true] at hmm
    subst hmm
    have one : ∀ j, j < len → ∃ q : Option Addr × Nat × List Int, w.cell? (a.add j) = some (.slice q.1 q.2.2.length q.2.1) ∧ SliceOk q.1 q.2.2.length q.2.1 ∧ RowK κ w q.1 q.2.2 ∧ ∀ n ∈ q.2.2, (Lit.int κ n).wf = true := fun j hj => by
      obtain ⟨cs', h1, h2⟩ := hall j (by omega)
      rw [hC, Nat.mul_one] at h1
      obtain ⟨_, hlen, hat⟩ := World.cells?_some h1
      have c0 := hat 0 (by omega)
      have ea : (a.add j).add 0 = a.add j := by simp [Addr.add]
      rw [ea] at c0
      rcases open_ints he hi hC2 h2 with ⟨hcs, _⟩ | ⟨b, l2, cap2, zs, hcs, _, hl, hm2, hz, _, hcell, hwz⟩
      · subst hcs
        exact ⟨(none, 0, []), c0, ⟨Nat.le_refl _, Nat.zero_le _, fun _ => rfl⟩, fun h => absurd h (by simp), by simp⟩
      · subst hcs
        simp only [if_true] at hz
        have ln : (zs.take l2).length = l2 := by simp; omega
        refine ⟨(some b, cap2, zs.take l2), by rw [ln]; exact c0, by rw [ln]; exact ⟨hl, by simp only [maxLen] at hm2; omega, fun h => by cases h⟩, fun hn => ?_, fun n hn => hwz n (List.mem_of_mem_take hn)⟩
        have hn' : 0 < l2 := by rw [ln] at hn; exact hn
        obtain ⟨bb, off, spot⟩ := b
        have hspot : spot = none := by simpa [Addr.add] using World.cell?_spot (hcell 0 (by omega))
        subst hspot
        refine ⟨bb, off, rfl, fun q hq => ?_⟩
        have hq' : q < l2 := by rw [← ln]; exact hq
        rw [← add_plain, hcell q (by omega)]
        congr 2
        simp [List.getD, hq']
    obtain ⟨E, hE⟩ := choose_lt (n := len) (p := fun j (q : Option Addr × Nat × List Int) => w.cell? (a.add j) = some (.slice q.1 q.2.2.length q.2.1) ∧ SliceOk q.1 q.2.2.length q.2.1 ∧ RowK κ w q.1 q.2.2 ∧ ∀ n ∈ q.2.2, (Lit.int κ n).wf = true) one
    refine ⟨some a, len, m', fun j => (E j).1, fun j => (E j).2.1, fun j => (E j).2.2, rfl, ⟨hlc, by simp only [maxLen] at hm; omega, fun h => by cases h⟩, ⟨fun h0 => ?_, fun j hj => ⟨(hE j hj).2.1, (hE j hj).2.2.1⟩⟩, fun j hj => (hE j hj).2.2.2⟩
    obtain ⟨b, off, spot⟩ := a
    have hspot : spot = none := by simpa [Addr.add] using World.cell?_spot (hE 0 h0).1
    subst hspot
    exact ⟨b, off, rfl, fun q hq => by rw [← add_plain]; exact (hE q hq).1⟩
end Go.Proofs.Ytbpdimogigcacaa
