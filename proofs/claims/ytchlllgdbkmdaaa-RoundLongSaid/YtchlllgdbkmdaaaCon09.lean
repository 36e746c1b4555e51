/-
  What the calls of package round are to do, as premises; and words for a round in memory.
-/
import Derived.Test.YtchlllgdbkmdaaaTold09
import Derived.Test.YtchlllgdbkmdaaaFrame
import Derived.Test.YtchlllgdbkmdaaaRoom
namespace Go.Proofs.Ytchlllgdbkmdaaa
open Go.RowKit

/-- A round's two cells, that may be written. -/
def RD (w : World) (g : Nat) (x y : Int) : Prop := (w.cell? ⟨g, 0, none⟩ = some (.int .i64 x) ∧ w.cell? ⟨g, 1, none⟩ = some (.int .i64 y)) ∧ w.frozen? ⟨g, 0, none⟩ = false ∧ w.frozen? ⟨g, 1, none⟩ = false
theorem RD.kept {w w' : World} {g : Nat} {x y : Int} (h : RD w g x y) (k : Kept w w') : RD w' g x y := ⟨⟨k.read h.1.1, k.read h.1.2⟩, k.thaw h.2.1, k.thaw h.2.2⟩
theorem RD.ne {w : World} {g : Nat} {x y : Int} (h : RD w g x y) : g < w.heap.size := cell_lt h.1.1
theorem RowAt.less {w : World} {A : Option Addr} {n m : Nat} {f : Nat → Value} (h : RowAt w A n f) (hm : m ≤ n) : RowAt w A m f := fun h0 => by
  obtain ⟨b, off, e, hc⟩ := h (by omega)
  exact ⟨b, off, e, fun k hk => hc k (by omega)⟩

def RBeginC : Prop := ∀ sent v : Int, In64 sent → (if sent < 0 then 0 else sent) = v → ∀ w, Calls Try.prog 7 #[.int .i64 sent] w fun e w' => e = .returned (.agg #[.int .i64 0, .int .i64 v]) ∧ Kept w w'
def RAckC : Prop := ∀ (id en told sent id' en' : Int) (b : Bool) (er : Int), In64 id → In64 en → In64 told → In64 sent → AckIs id en told sent id' en' b er → ∀ w, Calls Try.prog 8 #[.agg #[.int .i64 id, .int .i64 en], .int .i64 told, .int .i64 sent] w fun e w' => e = .returned (.tuple #[.agg #[.int .i64 id', .int .i64 en'], .bool b, .int .i64 er]) ∧ Kept w w'
def RCheckC : Prop := ∀ (id en : Int) (v : Bool), In64 id → In64 en → (v = true ↔ 0 ≤ id ∧ 0 ≤ en) → ∀ w, Calls Try.prog 9 #[.agg #[.int .i64 id, .int .i64 en]] w fun e w' => e = .returned (.bool v) ∧ Kept w w'
def RCountC : Prop := ∀ (A : Option Addr) (len cap : Nat) (zs : List Int) (A2 : Option Addr) (len2 cap2 : Nat) (zs2 : List Int) (n : Int), len ≤ cap → cap ≤ 9223372036854775807 → len2 ≤ cap2 → cap2 ≤ 9223372036854775807 → (∀ k, k < len → In64 (zs.getD k 0)) → (∀ k, k < len2 → In64 (zs2.getD k 0)) → n = (cntS (fun k => zs.getD k 0) (fun k => zs2.getD k 0) (min len len2)).1 →
  ∀ w, RowAt w A len (fun j => .int .i64 (zs.getD j 0)) → RowAt w A2 len2 (fun j => .int .i64 (zs2.getD j 0)) → Calls Try.prog 10 #[.slice A len cap, .slice A2 len2 cap2] w fun e w' => e = .returned (.int .i64 n) ∧ Kept w w'
end Go.Proofs.Ytchlllgdbkmdaaa
