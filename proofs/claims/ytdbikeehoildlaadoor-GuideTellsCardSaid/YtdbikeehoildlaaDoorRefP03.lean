/-
  Contracts of the document's answer for layer 3.
-/
import Derived.Test.YtdbikeehoildlaaDoorPow03
import Derived.Test.YtdbikeehoildlaaDoorRoom
import Derived.Deep.RegionHeld3
import Derived.Deep.CutBlock
import Derived.Deep.LoopGhost
import Derived.Deep.DeepCutAuto
import Derived.Test.YtdbikeehoildlaaDoorRefM02
import Derived.LoopTactic
namespace Go.Proofs.YtdbikeehoildlaaDoor
open Go.RowKit Go.BigFrame

/-- 2 to a number. -/
def IsPow (p : Int) (k : Nat) : Prop := p = ((2 ^ k : Nat) : Int)
theorem pow_small {p : Int} {k : Nat} (h : IsPow p k) (l : k ≤ 62) : 1 ≤ p ∧ p ≤ 4611686018427387904 := by
  unfold IsPow at h
  have a : 2 ^ k ≤ 2 ^ 62 := Nat.pow_le_pow_right (by omega) l
  have b : 0 < 2 ^ k := Nat.pow_pos (by omega)
  rw [h]; rw [show (2 : Nat) ^ 62 = 4611686018427387904 by decide] at a; omega
theorem pow_next {p : Int} {k : Nat} (h : IsPow p k) : IsPow (2 * p) (k + 1) := by
  unfold IsPow at *; rw [Nat.pow_succ, h]; omega
theorem pow_half {q p : Int} {k : Nat} (h : IsPow q (k + 1)) (hp : IsPow p k) : q = 2 * p := by
  unfold IsPow at *; rw [Nat.pow_succ] at h; omega
def PowRel (k : Nat) (s3 s4 : Value) : Prop := ∃ (j : Nat) (p : Int), s4 = .int .i64 j ∧ s3 = .int .u64 p ∧ j ≤ k ∧ IsPow p j
/-- Bit by bit: what is found lies within q below the root. -/
def BitRel (n B : Int) (W : World) (s4 s5 : Value) (wr : World) : Prop :=
  ∃ o i q : Int, s4 = .int .u64 o ∧ s5 = .int .i64 i ∧ -1 ≤ i ∧ i ≤ 63 ∧ 0 ≤ o ∧ o ≤ n ∧ n < o + q ∧ o + q ≤ B ∧ IsPow q (i + 1).toNat ∧ Kept W wr
theorem bit_step {q i : Int} (h : IsPow q (i + 1).toNat) (h0 : 0 ≤ i) : ∃ p, IsPow p i.toNat ∧ q = 2 * p ∧ 1 ≤ p := by
  refine ⟨_, rfl, ?_, ?_⟩
  · rw [show (i + 1).toNat = i.toNat + 1 by omega] at h; exact pow_half h rfl
  · have : 0 < 2 ^ i.toNat := Nat.pow_pos (by omega)
    omega
theorem bit_last {q i : Int} (h : IsPow q (i + 1).toNat) (h0 : i < 0) (h1 : -1 ≤ i) : q = 1 := by
  rw [show (i + 1).toNat = 0 by omega] at h; exact h

end Go.Proofs.YtdbikeehoildlaaDoor
