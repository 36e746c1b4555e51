/-
  What the calls of package event are to do, as premises.
-/
import Derived.Test.YtbpdimogigcacaaTold20
import Derived.Test.YtbpdimogigcacaaRowS
import Derived.Test.YtbpdimogigcacaaRoom
namespace Go.Proofs.Ytbpdimogigcacaa
open Go.RowKit

/-- An event's four cells, that may be written. -/
def RV (w : World) (g : Nat) (x y z u : Int) : Prop := (w.cell? ⟨g, 0, none⟩ = some (.int .i64 x) ∧ w.cell? ⟨g, 1, none⟩ = some (.int .i64 y) ∧ w.cell? ⟨g, 2, none⟩ = some (.int .i64 z) ∧ w.cell? ⟨g, 3, none⟩ = some (.int .i64 u)) ∧ w.frozen? ⟨g, 0, none⟩ = false ∧ w.frozen? ⟨g, 1, none⟩ = false ∧ w.frozen? ⟨g, 2, none⟩ = false ∧ w.frozen? ⟨g, 3, none⟩ = false
theorem RV.kept {w w' : World} {g : Nat} {x y z u : Int} (h : RV w g x y z u) (k : Kept w w') : RV w' g x y z u := ⟨⟨k.read h.1.1, k.read h.1.2.1, k.read h.1.2.2.1, k.read h.1.2.2.2⟩, k.thaw h.2.1, k.thaw h.2.2.1, k.thaw h.2.2.2.1, k.thaw h.2.2.2.2⟩
theorem RV.ne {w : World} {g : Nat} {x y z u : Int} (h : RV w g x y z u) : g < w.heap.size := cell_lt h.1.1
def evc (e : Ev) (j : Nat) : Int := if j = 0 then e.1 else if j = 1 then e.2.1 else if j = 2 then e.2.2.1 else e.2.2.2
/-- Events lie in a row. -/
def RowV (w : World) (A : Option Addr) (l : List Ev) : Prop := RowI .i64 w A 4 l.length (fun i j => evc (ev0 l i) j)
theorem RowV.kept {w w' : World} {A : Option Addr} {l : List Ev} (h : RowV w A l) (k : Kept w w') : RowV w' A l := RowI.kept h k
def EvCheckC : Prop := ∀ k a b r n : Int, In64 k → In64 a → In64 b → In64 r → chkV (k, a, b, r) = n → ∀ w, Calls Try.prog 16 #[.agg #[.int .i64 k, .int .i64 a, .int .i64 b, .int .i64 r]] w fun e w' => e = .returned (.int .i64 n) ∧ Kept w w'
def EvDecC : Prop := ∀ (A : Option Addr) (n cap : Nat) (l : List Int) (k a b r er : Int), l.length = n → SliceOk A n cap → (∀ x ∈ l, In64 x) → decV l = (k, a, b, r) → decE l = er → ∀ w, RowK .i64 w A l → Calls Try.prog 11 #[.slice A n cap] w fun e w' => e = .returned (.tuple #[.agg #[.int .i64 k, .int .i64 a, .int .i64 b, .int .i64 r], .int .i64 er]) ∧ Kept w w'
def EvEncC : Prop := ∀ k a b r : Int, In64 k → In64 a → In64 b → In64 r → ∀ w, Calls Try.prog 15 #[.agg #[.int .i64 k, .int .i64 a, .int .i64 b, .int .i64 r]] w fun e w' => ∃ (B : Option Addr) (c : Nat), e = .returned (.slice B 4 c) ∧ SliceOk B 4 c ∧ RowK .i64 w' B [k, a, b, r] ∧ (∀ a, B = some a → w.heap.size ≤ a.block) ∧ Kept w w'
def EvAllC : Prop := ∀ (A : Option Addr) (len cap : Nat) (B : Nat → Option Addr) (C : Nat → Nat) (R : Nat → List Int) (n : Nat) (l : List Ev) (bad : List Int), SliceOk A len cap → len ≤ 1099511627776 → (∀ i, i < len → ∀ x ∈ R i, In64 x) → allV (firstR R len) = (l, bad) → l.length = n →
  ∀ w, RowS .i64 w A len B C R → Calls Try.prog 13 #[.slice A len cap] w fun e w' => ∃ (B1 : Option Addr) (c1 : Nat) (B2 : Option Addr) (c2 : Nat), e = .returned (.tuple #[.slice B1 n c1, .slice B2 len c2]) ∧ SliceOk B1 n c1 ∧ SliceOk B2 len c2 ∧ RowV w' B1 l ∧ RowK .i64 w' B2 bad ∧ (∀ a, B1 = some a → w.heap.size ≤ a.block) ∧ (∀ a, B2 = some a → w.heap.size ≤ a.block) ∧ Kept w w'
end Go.Proofs.Ytbpdimogigcacaa
