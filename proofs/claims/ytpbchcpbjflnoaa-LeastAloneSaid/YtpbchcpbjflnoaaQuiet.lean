/-
  A region that draws its order, whose own operations only read and whose callees leave what was there: one walk in the order of the text, over the class of worlds that have kept a world.
-/
import Derived.Test.YtpbchcpbjflnoaaRoomsB
import Derived.BigQuiet
namespace Go.Proofs.Ytpbchcpbjflnoaa
open Go.RowKit

/-- A world that has kept W. -/
structure KW (W : World) where
  w : World
  k : Kept W w
instance (W : World) : Inhabited (KW W) := ⟨⟨W, Kept.refl W⟩⟩

theorem wp_region_kept {P : Program} {id : Nat} {Q : Exit → Act → World → Prop} {a : Act} {W : World} {l : List Oper} (hm : P.follows .mixedOrders = true) (hB : Region.lexB .any l.toArray = true)
    (h : wpQuiet P l.toArray (fun w' => ∃ p : KW W, w' = p.w) (fun a' => ∀ w', (∃ p : KW W, w' = p.w) → Q .normal a' w') l a) : (Code.region id l.toArray true).wp P Q a W :=
  wp_region_quiet (C := fun w' => ∃ p : KW W, w' = p.w) hm hB ⟨⟨W.drew, (Kept.refl _).drew⟩, rfl⟩ (by simpa using h)

theorem wp_region_kept_of {P : Program} {id : Nat} {Q : Exit → Act → World → Prop} {a : Act} {W : World} {l : List Oper} {O : Array Oper} (hB : Region.lexB .any O = true) (hO : l.toArray = O) (hm : P.follows .mixedOrders = true)
    (h : wpQuiet P l.toArray (fun w' => ∃ p : KW W, w' = p.w) (fun a' => ∀ w', (∃ p : KW W, w' = p.w) → Q .normal a' w') l a) : (Code.region id l.toArray true).wp P Q a W :=
  wp_region_kept hm (by rw [hO]; exact hB) h

/-- A callee's contract, met in a world of the class. -/
theorem kept_of {P : Program} {f : FuncId} {args : Array Value} {W : World} {p : KW W} {v : Value} (h : Calls P f args p.w fun e w' => e = .returned v ∧ Kept p.w w') :
    Calls P f args p.w fun e w'' => e = .returned v ∧ ∃ p' : KW W, w'' = p'.w :=
  h.mono fun _ w' ⟨he, hk⟩ => ⟨he, ⟨w', p.k.trans hk⟩, rfl⟩

/-- A number's cells, in every world of the class. -/
theorem kw3 {W : World} {p0 p1 p2 : Addr} {v0 v1 v2 : Value} (h : Hid (W.cell? p0 = some v0 ∧ W.cell? p1 = some v1 ∧ W.cell? p2 = some v2)) :
    (∀ p : KW W, p.w.cell? p0 = some v0) ∧ (∀ p : KW W, p.w.cell? p1 = some v1) ∧ (∀ p : KW W, p.w.cell? p2 = some v2) :=
  ⟨fun p => p.k.read h.out.1, fun p => p.k.read h.out.2.1, fun p => p.k.read h.out.2.2⟩

end Go.Proofs.Ytpbchcpbjflnoaa
