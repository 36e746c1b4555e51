/-
  Contracts of the document's answers of layer 11.
-/
import Derived.Test.YtmafibibpjmjbaaCon11
import Derived.Test.YtmafibibpjmjbaaRefP03
import Derived.Test.YtmafibibpjmjbaaRef04
import Derived.Test.YtmafibibpjmjbaaOne01
import Derived.Test.YtmafibibpjmjbaaRoom
import Derived.Deep.DeepCutAuto
namespace Go.Proofs.Ytmafibibpjmjbaa
open Go.RowKit Go.BigFrame
set_option linter.unusedVariables false

theorem Of_repr (n : Int) (h : In64 n) : numOf (decide (n < 0)) 0 (mag n) = n := by
  unfold numOf mag sz
  by_cases l : n < 0
  · simp [l]
  · simp [l]
/-- Bit by bit, j bits to go. -/
def halfB : Nat → Int
  | 0 => 0
  | j + 1 => ((2 ^ j : Nat) : Int)
theorem halfB_next (j : Nat) : halfB (j + 1) / 2 = halfB j := by
  cases j with
  | zero => decide
  | succ i => show ((2 ^ (i + 1) : Nat) : Int) / 2 = ((2 ^ i : Nat) : Int); rw [Nat.pow_succ]; omega
theorem halfB_small (j : Nat) (h : j ≤ 31) : 0 ≤ halfB j ∧ halfB j ≤ 1073741824 := by
  cases j with
  | zero => decide
  | succ i =>
    have a : 2 ^ i ≤ 2 ^ 30 := Nat.pow_le_pow_right (by omega) (by omega)
    rw [show (2 : Nat) ^ 30 = 1073741824 by decide] at a
    show 0 ≤ ((2 ^ i : Nat) : Int) ∧ ((2 ^ i : Nat) : Int) ≤ 1073741824
    generalize 2 ^ i = x at *
    omega
theorem halfB_pos (j : Nat) : 0 < halfB (j + 1) := by
  have : 0 < 2 ^ j := Nat.pow_pos (by omega)
  show 0 < ((2 ^ j : Nat) : Int)
  omega
theorem halfB_top (j : Nat) : ((2 ^ (j + 1) : Nat) : Int) = 2 * halfB (j + 1) := by
  show ((2 ^ (j + 1) : Nat) : Int) = 2 * ((2 ^ j : Nat) : Int)
  rw [Nat.pow_succ]; omega
def KRel (n : Int) (W : World) (s4 s5 : Value) (wr : World) : Prop := ∃ (o b : Int) (j : Nat), s4 = .int .u64 o ∧ s5 = .int .u64 b ∧ b = halfB j ∧ j ≤ 31 ∧ 0 ≤ o ∧ o ≤ n ∧ n < o + ((2 ^ j : Nat) : Int) ∧ Kept W wr
theorem clampLift (a b c n : Int) (hn : clampAt a b c = n) (w : World) : Calls Try.prog 25 #[.int .i64 a, .int .i64 b, .int .i64 c] w fun e w' => e = .returned (.int .i64 n) ∧ Kept w w' :=
  (refClamp_lit_s a b c n w hn).mono (fun _ _ ⟨h, k⟩ => ⟨h, k ▸ Kept.refl _⟩)
set_option maxRecDepth 100000 in
set_option maxHeartbeats 1600000 in
theorem refFast_ok {l n v : Int} (_hl : In64 l) (hn : In64 n) (h : fastN l n = v) (w : World) : Calls Try.prog 19 #[.int .i64 l, .int .i64 n] w fun e w' => e = .returned (.int .i64 v) ∧ Kept w w' := by
  subst h
  unfold fastN
  by_cases h1 : l ≤ n
  · have d1 : decide (l ≤ n) = true := by simp [h1]
    rw [if_pos h1]
    go_enter Try.func19, Try.ntmps19
    go_wp2
    go_ret
    exact ⟨rfl, Kept.refl _⟩
  · have d1 : decide (l ≤ n) = false := by simp [h1]
    rw [if_neg h1]
    by_cases h2 : n < 0
    · have d2 : decide (n < 0) = true := by simp [h2]
      rw [if_pos h2]
      go_enter Try.func19, Try.ntmps19
      go_wp2
      go_ret
      exact ⟨rfl, Kept.refl _⟩
    · have d2 : decide (n < 0) = false := by simp [h2]
      rw [if_neg h2]
      have FL := Lib.hid (fun w => refFloor_ok (a := n) (b := 17) (c := 20) hn (by unfold In64; omega) (by unfold In64; omega) (part_yes (by omega) (by unfold In64 at *; omega)) w)
      generalize n * 17 / 20 = v at *
      go_enter Try.func19, Try.ntmps19
      go_wp2_with fail
      refine (FL.out _).mono ?_
      rintro e w1 ⟨rfl, k1⟩
      go_wp2
      go_ret
      exact ⟨rfl, k1⟩
end Go.Proofs.Ytmafibibpjmjbaa
