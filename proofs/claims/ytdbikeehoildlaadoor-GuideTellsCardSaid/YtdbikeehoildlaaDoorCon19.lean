/-
  What the calls of package guide are to do, as premises; and configurations in a row.
-/
import Derived.Test.YtdbikeehoildlaaDoorTold19
import Derived.Test.YtdbikeehoildlaaDoorCon11
import Derived.Test.YtdbikeehoildlaaDoorRowG
namespace Go.Proofs.YtdbikeehoildlaaDoor
open Go.RowKit Go.WideShapes

def Cf.zero : Cf := ⟨0, 0, 0, 0, 0, 0, 0⟩
def cfc (c : Cf) (j : Nat) : Int := if j = 0 then c.sg else if j = 1 then c.mx else if j = 2 then c.fi else if j = 3 then c.gn else if j = 4 then c.ls else if j = 5 then c.gt else c.bu
def cf0 (l : List Cf) (k : Nat) : Cf := l.getD k Cf.zero
/-- A configuration's cells. -/
def cfs (c : Cf) : List Value := [.int .i64 c.sg, .int .i64 c.mx, .int .i64 c.fi, .int .i64 c.gn, .int .i64 c.ls, .int .i64 c.gt, .int .i64 c.bu]
theorem cfs_len (c : Cf) : (cfs c).length = 7 := rfl
theorem cfs_get (c : Cf) (j : Nat) (h : j < 7) : (cfs c)[j]? = some (.int .i64 (cfc c j)) := by
  match j, h with
  | 0, _ => rfl
  | 1, _ => rfl
  | 2, _ => rfl
  | 3, _ => rfl
  | 4, _ => rfl
  | 5, _ => rfl
  | 6, _ => rfl
  | j + 7, h => omega
/-- Configurations lie in a row. -/
def RowC (w : World) (A : Option Addr) (l : List Cf) : Prop := RowI .i64 w A 7 l.length (fun i j => cfc (cf0 l i) j)
theorem RowC.kept {w w' : World} {A : Option Addr} {l : List Cf} (h : RowC w A l) (k : Kept w w') : RowC w' A l := RowI.kept h k
theorem rowC_nil (w : World) (A : Option Addr) : RowC w A [] := fun h => absurd h (by simp)
theorem RowC.cells {w : World} {b off : Nat} {l : List Cf} (h : ∀ i, i < l.length → ∀ j, j < 7 → w.cell? ⟨b, off + i * 7 + j, none⟩ = some (.int .i64 (cfc (cf0 l i) j))) {k : Nat} (hk : k < l.length) : w.cell? ⟨b, off + k * 7, none⟩ = some (.int .i64 (cf0 l k).sg) ∧ w.cell? ⟨b, off + k * 7 + 1, none⟩ = some (.int .i64 (cf0 l k).mx) ∧ w.cell? ⟨b, off + k * 7 + 2, none⟩ = some (.int .i64 (cf0 l k).fi) ∧ w.cell? ⟨b, off + k * 7 + 3, none⟩ = some (.int .i64 (cf0 l k).gn) ∧ w.cell? ⟨b, off + k * 7 + 4, none⟩ = some (.int .i64 (cf0 l k).ls) ∧ w.cell? ⟨b, off + k * 7 + 5, none⟩ = some (.int .i64 (cf0 l k).gt) ∧ w.cell? ⟨b, off + k * 7 + 6, none⟩ = some (.int .i64 (cf0 l k).bu) :=
  ⟨h k hk 0 (by omega), h k hk 1 (by omega), h k hk 2 (by omega), h k hk 3 (by omega), h k hk 4 (by omega), h k hk 5 (by omega), h k hk 6 (by omega)⟩
theorem own_rowC {w : World} {base : Nat} {e : TypeId} {v : Value} {l : List Cf} {m : Nat} (hl : l.length = m) (h : w.ownsRow base e 7 v m (l.flatMap cfs)) : ∃ (B : Option Addr) (c : Nat), v = .slice B m c ∧ SliceOk B m c ∧ RowC w B l ∧ ∀ a, B = some a → base ≤ a.block ∧ a.block < w.heap.size := by
  obtain ⟨B, c, h1, h2, h3, h4⟩ := own_rowI (κ := .i64) (c := cfc) cfs_len (fun x j hj => cfs_get x j hj) Cf.zero hl h
  subst hl
  exact ⟨B, c, h1, h2, h3, h4⟩
theorem cfgE_in (c : Cf) : 0 ≤ cfgE c ∧ cfgE c ≤ 210 := by rcases cfgE_vals c with h | h <;> rw [h] <;> omega
def GdCheckC : Prop := ∀ (c : Cf) (n : Int), CfIn c → cfgE c = n → ∀ w, Calls Tryd.prog 11 #[.agg #[.int .i64 c.sg, .int .i64 c.mx, .int .i64 c.fi, .int .i64 c.gn, .int .i64 c.ls, .int .i64 c.gt, .int .i64 c.bu]] w fun e w' => e = .returned (.int .i64 n) ∧ Kept w w'
def GdFirstC : Prop := ∀ (c : Cf) (n : Int), CfIn c → firstW c = n → ∀ w, Calls Tryd.prog 13 #[.agg #[.int .i64 c.sg, .int .i64 c.mx, .int .i64 c.fi, .int .i64 c.gn, .int .i64 c.ls, .int .i64 c.gt, .int .i64 c.bu]] w fun e w' => e = .returned (.int .i64 n) ∧ Kept w w'
def GdIdleC : Prop := ∀ (v last now tmo n : Int) (c : Cf), In64 v → In64 last → In64 now → In64 tmo → CfIn c → idleN v last now tmo c = n → ∀ w, Calls Tryd.prog 15 #[.int .i64 v, .int .i64 last, .int .i64 now, .int .i64 tmo, .agg #[.int .i64 c.sg, .int .i64 c.mx, .int .i64 c.fi, .int .i64 c.gn, .int .i64 c.ls, .int .i64 c.gt, .int .i64 c.bu]] w fun e w' => e = .returned (.int .i64 n) ∧ Kept w w'
def GdPauseC : Prop := ∀ (h h' : Ep) (last now : Int), In64E h → In64 last → In64 now → shiftE h (heldAt (now - last)) = h' → ∀ w, Calls Tryd.prog 17 #[.agg #[.bool h.on, .int .i64 h.start, .int .i64 h.first, .int .i64 h.most, .int .i64 h.k, .int .i64 h.est], .int .i64 last, .int .i64 now] w fun e w' => e = .returned (.agg #[.bool h'.on, .int .i64 h'.start, .int .i64 h'.first, .int .i64 h'.most, .int .i64 h'.k, .int .i64 h'.est]) ∧ Kept w w'
def GdUsedC : Prop := ∀ (v out sg : Int) (b : Bool), In64 v → In64 out → In64 sg → (b = true ↔ UsedW v out sg) → ∀ w, Calls Tryd.prog 19 #[.int .i64 v, .int .i64 out, .int .i64 sg] w fun e w' => e = .returned (.bool b) ∧ Kept w w'
def GdPartsC : Prop := ∀ (A : Option Addr) (len cap : Nat) (l yes no : List Cf) (n m : Nat), SliceOk A len cap → l.length = len → len ≤ 1099511627776 → (∀ c ∈ l, CfIn c) → partsC l 0 = yes → partsC l 210 = no → yes.length = n → no.length = m →
  ∀ w, RowC w A l → Calls Tryd.prog 10 #[.slice A len cap] w fun e w' => ∃ (B1 : Option Addr) (c1 : Nat) (B2 : Option Addr) (c2 : Nat), e = .returned (.tuple #[.slice B1 n c1, .slice B2 m c2]) ∧ SliceOk B1 n c1 ∧ SliceOk B2 m c2 ∧ RowC w' B1 yes ∧ RowC w' B2 no ∧ (∀ a, B1 = some a → w.heap.size ≤ a.block) ∧ (∀ a, B2 = some a → w.heap.size ≤ a.block) ∧ Kept w w'
end Go.Proofs.YtdbikeehoildlaaDoor
