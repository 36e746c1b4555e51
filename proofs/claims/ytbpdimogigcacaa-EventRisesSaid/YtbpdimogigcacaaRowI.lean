/-
  A slice of structures, or arrays, of numbers of one kind that came in: a row of rows of cells.
-/
import Derived.Test.YtbpdimogigcacaaAggRow
import Derived.Test.YtbpdimogigcacaaApp
namespace Go.Proofs.Ytbpdimogigcacaa
open Go.RowKit Go.WideShapes Go.ChangeShapes

/-- Elements lie in a row, n cells each. -/
def RowI (κ : IntKind) (w : World) (A : Option Addr) (n len : Nat) (E : Nat → Nat → Int) : Prop := 0 < len → ∃ b off : Nat, A = some ⟨b, off, none⟩ ∧ ∀ i, i < len → ∀ j, j < n → w.cell? ⟨b, off + i * n + j, none⟩ = some (.int κ (E i j))
theorem RowI.kept {κ : IntKind} {w w' : World} {A : Option Addr} {n len : Nat} {E : Nat → Nat → Int} (h : RowI κ w A n len E) (k : Kept w w') : RowI κ w' A n len E := fun hn => by
  obtain ⟨b, off, e, hc⟩ := h hn
  exact ⟨b, off, e, fun i hi j hj => k.read (hc i hi j hj)⟩
theorem RowI.less {κ : IntKind} {w : World} {A : Option Addr} {n m len : Nat} {E : Nat → Nat → Int} (h : RowI κ w A n len E) (hm : m ≤ len) : RowI κ w A n m E := fun h0 => by
  obtain ⟨b, off, e, hc⟩ := h (by omega)
  exact ⟨b, off, e, fun i hi => hc i (by omega)⟩
theorem RowI.drop {κ : IntKind} {w : World} {b off : Nat} {n k len : Nat} {E : Nat → Nat → Int} (h : RowI κ w (some ⟨b, off, none⟩) n len E) (hk : k ≤ len) : RowI κ w (some ⟨b, off + k * n, none⟩) n (len - k) (fun i => E (k + i)) := fun h0 => by
  obtain ⟨b2, off2, e, hc⟩ := h (by omega)
  cases e
  refine ⟨b, off + k * n, rfl, fun i hi j hj => ?_⟩
  have := hc (k + i) (by omega) j hj
  rw [Nat.add_mul, ← Nat.add_assoc off] at this
  exact this
theorem sliceOk_drop {A : Option Addr} {len cap k n : Nat} (h : SliceOk A len cap) (hk : k ≤ len) : SliceOk (if cap = k then A else Option.map (fun x => x.add (k * n)) A) (len - k) (cap - k) := by
  refine ⟨by have := h.1; omega, by have := h.2.1; omega, fun e => ?_⟩
  split at e
  · omega
  · have : A = none := by cases A with
      | none => rfl
      | some a => cases e
    have := h.2.2 this; omega
theorem RowI.drop2 {κ : IntKind} {w : World} {A : Option Addr} {n k len cap : Nat} {E : Nat → Nat → Int} (h : RowI κ w A n len E) (hk : k ≤ len) (hl : len ≤ cap) : RowI κ w (if cap = k then A else Option.map (fun x => x.add (k * n)) A) n (len - k) (fun i => E (k + i)) := fun h0 => by
  obtain ⟨b, off, e, hc⟩ := h (by omega)
  subst e
  rw [if_neg (by omega)]
  refine ⟨b, off + k * n, by simp [Addr.add_lit], fun i hi j hj => ?_⟩
  have := hc (k + i) (by omega) j hj
  rw [Nat.add_mul, ← Nat.add_assoc off] at this
  exact this
theorem sliceOk_drop3 {A : Option Addr} {len cap k n : Nat} (h : SliceOk A len cap) (hk : k ≤ len) (hc : ¬ cap = k) : SliceOk (Option.map (fun x => x.add (k * n)) A) (len - k) (cap - k) := by
  have := sliceOk_drop (n := n) h hk
  rwa [if_neg hc] at this
theorem RowI.drop3 {κ : IntKind} {w : World} {A : Option Addr} {n k len : Nat} {E : Nat → Nat → Int} (h : RowI κ w A n len E) (hk : k ≤ len) : RowI κ w (Option.map (fun x => x.add (k * n)) A) n (len - k) (fun i => E (k + i)) := fun h0 => by
  have := RowI.drop2 (cap := len) (k := k) h hk (Nat.le_refl _)
  rw [if_neg (by omega)] at this
  exact this h0
theorem leaves_ints {κ : IntKind} : ∀ (n : Nat) (cs : List Value), Leaves (List.replicate n (.i κ)) cs → ∃ f : Nat → Int, ∀ j, j < n → cs[j]? = some (.int κ (f j)) ∧ (Lit.int κ (f j)).wf = true
  | 0, _, _ => ⟨fun _ => 0, fun j h => absurd h (by omega)⟩
  | n + 1, cs, h => by
    obtain ⟨x, vs, rfl, hw, hl⟩ := (show ∃ (x : Int) (vs : List Value), cs = .int κ x :: vs ∧ (Lit.int κ x).wf = true ∧ Leaves (List.replicate n (.i κ)) vs from h)
    obtain ⟨f, hf⟩ := leaves_ints n vs hl
    refine ⟨fun j => match j with | 0 => x | j + 1 => f j, fun j hj => ?_⟩
    match j with
    | 0 => exact ⟨rfl, hw⟩
    | j + 1 => exact ⟨by simpa using (hf j (by omega)).1, (hf j (by omega)).2⟩
theorem rows_of_ints {H : Type} {enc : TypeId × Value → H} {P : Program} {w : World} {base : Nat} {held : Bool} {t e : TypeId} {v : Value} {d : DataW H} {ps : List MemPlace} {κ : IntKind} {n : Nat}
    (ht : P.underlying t = some (.slice e)) (hl : leavesOf P 3 e = some (List.replicate n (.i κ))) (hC : P.cellsOf e = n) (h0 : 0 < n) (hv : ∃ a len cap, v = .slice a len cap) (h : DataW.Trod enc P w base (fun _ => true) held t v d ps) :
    ∃ (A : Option Addr) (len cap : Nat) (E : Nat → Nat → Int), v = .slice A len cap ∧ SliceOk A len cap ∧ RowI κ w A n len E ∧ ∀ i, i < len → ∀ j, j < n → (Lit.int κ (E i j)).wf = true := by
  obtain ⟨A, len, cap, E, rfl, hs, hE, hr⟩ := row_of_leaves 3 ht hl (by omega) hv h
  obtain ⟨F, hF⟩ := Go.Deep.choose_lt (n := len) (p := fun i (f : Nat → Int) => ∀ j, j < n → (E i)[j]? = some (.int κ (f j)) ∧ (Lit.int κ (f j)).wf = true) (fun i hi => leaves_ints n _ (hE i hi))
  refine ⟨A, len, cap, F, rfl, hs, fun h1 => ?_, fun i hi j hj => (hF i hi j hj).2⟩
  obtain ⟨b, off, rfl, hc⟩ := hr h1
  refine ⟨b, off, rfl, fun i hi j hj => ?_⟩
  have := hc i hi j (by omega)
  rw [hC] at this
  rw [this]
  exact (hF i hi j hj).1
end Go.Proofs.Ytbpdimogigcacaa
