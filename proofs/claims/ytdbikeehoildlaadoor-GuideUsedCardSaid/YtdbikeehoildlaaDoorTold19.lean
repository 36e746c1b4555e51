/-
  Plain words of layer 19: pauses, and configurations.
-/
import Derived.Test.YtdbikeehoildlaaDoorTold11
namespace Go.Proofs.YtdbikeehoildlaaDoor
open Go.RowKit

/-- A configuration: seven numbers. -/
structure Cf where
  sg : Int
  mx : Int
  fi : Int
  gn : Int
  ls : Int
  gt : Int
  bu : Int
def CfIn (c : Cf) : Prop := In64 c.sg ∧ In64 c.mx ∧ In64 c.fi ∧ In64 c.gn ∧ In64 c.ls ∧ In64 c.gt ∧ In64 c.bu
/-- It may be. -/
def MayCf (c : Cf) : Prop := (1 ≤ c.sg ∧ c.sg ≤ 9000) ∧ (4 ≤ c.mx ∧ c.mx ≤ 1048576) ∧ (2 ≤ c.fi ∧ c.fi ≤ c.mx) ∧ (1 ≤ c.gn ∧ c.gn ≤ 1000000) ∧ (1 ≤ c.ls ∧ c.ls ≤ c.gt) ∧ c.gt ≤ 1099511627776 ∧ (1 ≤ c.bu ∧ c.bu ≤ 1000)
instance (c : Cf) : Decidable (MayCf c) := by unfold MayCf; infer_instance
def cfgE (c : Cf) : Int := if MayCf c then 0 else 210
theorem cfgE_ok {c : Cf} : cfgE c = 0 ↔ MayCf c := by unfold cfgE; split <;> simp_all
theorem cfgE_vals (c : Cf) : cfgE c = 0 ∨ cfgE c = 210 := by unfold cfgE; split <;> simp
/-- Its first window. -/
def firstW (c : Cf) : Int := if MayCf c then 65536 * c.fi else 131072
theorem firstW_range (c : Cf) : 131072 ≤ firstW c ∧ firstW c ≤ 68719476736 := by
  unfold firstW
  split
  · rename_i m; have := m.2.2.1; have := m.2.1; omega
  · omega
/-- What a pause leaves. -/
def idleN (window last now timeout : Int) (c : Cf) : Int := if timeout < heldAt (now - last) then (if (if firstW c < window then firstW c else window) < 131072 then 131072 else (if firstW c < window then firstW c else window)) else window
theorem idle_long {window last now timeout : Int} {c : Cf} (h : timeout < heldAt (now - last)) : idleN window last now timeout c = max (min window (firstW c)) 131072 := by
  unfold idleN; rw [if_pos h]; split <;> split <;> omega
theorem idle_short {window last now timeout : Int} {c : Cf} (h : ¬ timeout < heldAt (now - last)) : idleN window last now timeout c = window := by unfold idleN; rw [if_neg h]
/-- Whether a window is used. -/
def UsedW (window out seg : Int) : Prop := (0 ≤ window ∧ 0 ≤ out ∧ 0 ≤ seg) ∧ window * seg ≤ out * 131072
/-- Those of which Check tells this. -/
def partsC (l : List Cf) (e : Int) : List Cf := l.filter fun c => decide (cfgE c = e)
theorem parts_next (l : List Cf) (c : Cf) (e : Int) : partsC (l ++ [c]) e = if cfgE c = e then partsC l e ++ [c] else partsC l e := by
  unfold partsC; rw [List.filter_append]
  by_cases h : cfgE c = e <;> simp [h]
theorem parts_len (l : List Cf) (e : Int) : (partsC l e).length ≤ l.length := List.length_filter_le _ _
theorem parts_same (l : List Cf) (e : Int) : partsC (partsC l e) e = partsC l e := by unfold partsC; rw [List.filter_filter]; simp
theorem parts_other {l : List Cf} {a b : Int} (h : a ≠ b) : partsC (partsC l a) b = [] := by
  unfold partsC; rw [List.filter_filter]
  apply List.filter_eq_nil_iff.2
  intro c _
  simp; intro x y; exact h (y.symm.trans x)
end Go.Proofs.YtdbikeehoildlaaDoor
