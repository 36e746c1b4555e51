/-
  A structure by value, whatever structures lie in it: its cells, each a Bool or a number of its kind.
-/
import Derived.Test.YtbpdimogigcacaaFrame
import Derived.Lib.SmallJoins
import Derived.OpenShut
namespace Go.Proofs.Ytbpdimogigcacaa
open Go.RowKit Go.WideShapes Go.ChangeShapes

/-- What a cell holds. -/
inductive Cell1 where
  | b
  | i (k : IntKind)
/-- The cells, in order. -/
def Leaves : List Cell1 → List Value → Prop
  | [], cs => cs = []
  | .b :: ls, cs => ∃ (x : Bool) (vs : List Value), cs = .bool x :: vs ∧ Leaves ls vs
  | .i k :: ls, cs => ∃ (n : Int) (vs : List Value), cs = .int k n :: vs ∧ (Lit.int k n).wf = true ∧ Leaves ls vs
theorem Leaves.append : ∀ {l1 l2 : List Cell1} {c1 c2 : List Value}, Leaves l1 c1 → Leaves l2 c2 → Leaves (l1 ++ l2) (c1 ++ c2)
  | [], _, _, _, h1, h2 => by
    have : _ = [] := h1
    subst this; exact h2
  | .b :: _, _, _, _, ⟨x, vs, e, h⟩, h2 => by subst e; exact ⟨x, _, rfl, h.append h2⟩
  | .i _ :: _, _, _, _, ⟨n, vs, e, hw, h⟩, h2 => by subst e; exact ⟨n, _, rfl, hw, h.append h2⟩

section
variable {H : Type} {enc : TypeId × Value → H} {P : Program} {w : World} {base : Nat} {spare : Nat → Bool} {held : Bool}

def cellsSum (P : Program) : List Field → Nat
  | [] => 0
  | f :: fs => P.cellsOf f.type + cellsSum P fs
def leavesFields (P : Program) (g : TypeId → Option (List Cell1)) : Nat → List Field → Option (List Cell1)
  | _, [] => some []
  | o, f :: fs => if f.offset = o then (g f.type).bind fun a => (leavesFields P g (o + P.cellsOf f.type) fs).map (a ++ ·) else none
/-- The cells of a type of Bools and numbers, and structures of them. -/
def leavesOf (P : Program) : Nat → TypeId → Option (List Cell1)
  | 0, _ => none
  | n + 1, t => match P.underlying t with
    | some .bool => some [.b]
    | some (.int k) => some [.i k]
    | some (.struct fs) => if cellsSum P fs.toList = P.cellsOf t then leavesFields P (leavesOf P n) 0 fs.toList else none
    | some (.array m e) => if m * P.cellsOf e = P.cellsOf t then (leavesOf P n e).map fun a => (List.replicate m a).flatten else none
    | _ => none
theorem leaves_fields {g : TypeId → Option (List Cell1)} {cs : List Value} : ∀ (fs : List Field) (o : Nat) (ls : List Cell1), leavesFields P g o fs = some ls →
    (∀ f ∈ fs, ∀ a, g f.type = some a → Leaves a ((cs.drop f.offset).take (P.cellsOf f.type))) → Leaves ls ((cs.drop o).take (cellsSum P fs))
  | [], _, ls, h, _ => by
    simp only [leavesFields, Option.some.injEq] at h
    subst h; simp [cellsSum, Leaves]
  | f :: fs, o, ls, h, hf => by
    simp only [leavesFields] at h
    split at h
    · rename_i ho
      obtain ⟨a, ha, h⟩ := Option.bind_eq_some_iff.1 h
      obtain ⟨c, hc, rfl⟩ := Option.map_eq_some_iff.1 h
      have h1 := hf f (by simp) a ha
      have h2 := leaves_fields fs _ c hc (fun x hx => hf x (by simp [hx]))
      rw [ho] at h1
      simp only [cellsSum]
      rw [List.take_add, List.drop_drop]
      exact h1.append h2
    · cases h
theorem leaves_array {a : List Cell1} {c : Nat} {cs : List Value} : ∀ (n o : Nat), (∀ i, i < n → Leaves a ((cs.drop ((o + i) * c)).take c)) → Leaves (List.replicate n a).flatten ((cs.drop (o * c)).take (n * c))
  | 0, o, _ => by simp [Leaves]
  | n + 1, o, h => by
    have h1 := h 0 (by omega)
    have h2 := leaves_array (cs := cs) n (o + 1) (fun i hi => by have := h (i + 1) (by omega); rwa [show o + (i + 1) = o + 1 + i by omega] at this)
    rw [List.replicate_succ, List.flatten_cons, show (n + 1) * c = c + n * c by rw [Nat.add_mul]; omega, List.take_add, List.drop_drop]
    rw [show (o + 1) * c = o * c + c by rw [Nat.add_mul]; omega] at h2
    exact h1.append h2
theorem leaves_trod : ∀ (m : Nat) (t : TypeId) (ls : List Cell1) (fuel : Nat) (cs : List Value) (x : DataW H × List MemPlace), leavesOf P m t = some ls → DataW.trod enc P w base spare held fuel t cs = some x → Leaves ls cs
  | 0, _, _, _, _, _, h, _ => by cases h
  | m + 1, t, ls, fuel, cs, x, h, hx => by
    unfold leavesOf at h
    split at h
    · rename_i hu
      obtain ⟨b, rfl, _⟩ := DataW.trod_bool hu hx
      cases h; exact ⟨b, [], rfl, rfl⟩
    · rename_i k hu
      obtain ⟨n, rfl, _, hw⟩ := DataW.trod_int hu hx
      cases h; exact ⟨n, [], rfl, hw, rfl⟩
    · rename_i fs hu
      split at h
      · rename_i hsum
        obtain ⟨xs, n, _, _, hlen, hxs, hf⟩ := DataW.trod_struct hu hx
        have := leaves_fields (cs := cs) fs.toList 0 ls h (fun f hfm a ha => by
          obtain ⟨i, hi, he⟩ := List.getElem_of_mem hfm
          have hi' : i < fs.size := by simpa using hi
          have hfi : fs[i]? = some f := by
            rw [Array.getElem?_eq_getElem hi']; congr 1
          have hy := hf i f hfi
          have hix : i < xs.length := by omega
          rw [List.getElem?_eq_getElem hix] at hy
          exact leaves_trod m _ _ _ _ _ ha hy)
        rw [hsum, ← hlen] at this
        simpa using this
      · cases h
    · rename_i n e hu
      split at h
      · rename_i hsum
        obtain ⟨a, ha, rfl⟩ := Option.map_eq_some_iff.1 h
        obtain ⟨xs, k, _, _, hlen, hxs, hf⟩ := DataW.trod_array hu hx
        have := leaves_array (a := a) (c := P.cellsOf e) (cs := cs) n 0 (fun i hi => by
          have hy := hf i hi
          rw [List.getElem?_eq_getElem (by omega)] at hy
          rw [Nat.zero_add]
          exact leaves_trod m _ _ _ _ _ ha hy)
        rw [hsum, ← hlen] at this
        simpa using this
      · cases h
    · cases h
/-- A structure that came in, by value. -/
theorem open_leaves {r : Reach} {b0 : Nat} {t : TypeId} {fs : Array Field} {v : Value} {d : DataW H} {p : List MemPlace} {ls : List Cell1} (m : Nat) (hs : P.underlying t = some (.struct fs)) (hl : leavesOf P m t = some ls)
    (hv : Value.okWide P w r b0 t v) (h : DataW.Trod enc P w base spare held t v d p) : ∃ cs : List Value, v = .agg cs.toArray ∧ Leaves ls cs := by
  obtain ⟨⟨cs⟩, rfl, _⟩ := okWide_struct hs hv
  obtain ⟨fuel, hf⟩ := h
  exact ⟨cs, rfl, leaves_trod m t ls fuel cs _ hl (by simpa [Value.cells] using hf)⟩
end
end Go.Proofs.Ytbpdimogigcacaa
