/-
  Contracts of the document's answer for layer 3.
-/
import Derived.Test.YtlonfobeblnbbaaDoorPow03
import Derived.Test.YtlonfobeblnbbaaDoorRoom
import Derived.Deep.RegionHeld3
import Derived.Deep.CutBlock
import Derived.Deep.LoopGhost
import Derived.Deep.DeepCutAuto
import Derived.Test.YtlonfobeblnbbaaDoorRefM02
import Derived.LoopTactic
namespace Go.Proofs.YtlonfobeblnbbaaDoor
open Go.RowKit Go.BigFrame

set_option maxHeartbeats 400000 in
theorem refSquare_ok {n h l : Int} (hn : Word n) (r : Rep false h l (n * n)) (w : World) : Calls Tryd.prog 91 #[.int .u64 n] w fun e w' => e = .returned (.agg #[.bool false, .int .u64 h, .int .u64 l]) ∧ Kept w w' := by
  have C := Lib.hid (fun w => refScale_yes (b := false) (h := h) (l := l) (b1 := false) (xh := 0) (xl := n) word_zero hn hn (by rw [numOf_false, sz_lo]; exact r) w)
  clear r hn
  go_enter Tryd.func91, Tryd.ntmps91
  go_wp2_with fail
  refine (C.out _).mono ?_
  rintro e w1 ⟨rfl, k1⟩
  have z1 : w.heap.size < w1.heap.size := by have := Kept.below k1; simp at this; omega
  obtain ⟨x, y, z, a1, a2, a3, b1, b2, b3⟩ : Room3 w1 w.heap.size := Room3.kept (by exact ⟨_, _, _, by first | (simp [go_sem]; done) | (simp [go_sem]; rfl), by first | (simp [go_sem]; done) | (simp [go_sem]; rfl), by first | (simp [go_sem]; done) | (simp [go_sem]; rfl), by simp [go_sem], by simp [go_sem], by simp [go_sem]⟩) k1
  go_wp2
  simp [bodyPost, results, Tryd.results91, go_sem, *]
  exact (by (repeat (first | with_reducible exact Kept.refl _ | with_reducible apply Kept.drew | with_reducible apply Kept.alloc | ((with_reducible apply Kept.set); focus (simp <;> omega)) | ((with_reducible apply Kept.via); focus with_reducible assumption))))
set_option maxHeartbeats 400000 in
theorem refCube_ok {n h l : Int} (hn : Word n) (r : Rep false h l (n * n * n)) (w : World) : Calls Tryd.prog 88 #[.int .u64 n] w fun e w' => e = .returned (.tuple #[.agg #[.bool false, .int .u64 h, .int .u64 l], .int .i64 0]) ∧ Kept w w' := by
  obtain ⟨sh, sl, rs⟩ := square_rep hn
  have C1 := Lib.hid (fun w => refSquare_ok hn rs w)
  have C2 := Lib.hid (fun w => refScale_yes (b := false) (h := h) (l := l) (b1 := false) (xh := sh) (xl := sl) rs.1 rs.2.1 hn (by rw [rs.2.2.1]; exact r) w)
  clear r hn rs
  go_enter Tryd.func88, Tryd.ntmps88
  go_wp2_with fail
  refine (C1.out _).mono ?_
  rintro e w1 ⟨rfl, k1⟩
  go_wp2_with fail
  refine (C2.out _).mono ?_
  rintro e w2 ⟨rfl, k2⟩
  obtain ⟨x, y, z, a1, a2, a3, b1, b2, b3⟩ : Room3 w2 w.heap.size := (Room3.kept (by exact ⟨_, _, _, by first | (simp [go_sem]; done) | (simp [go_sem]; rfl), by first | (simp [go_sem]; done) | (simp [go_sem]; rfl), by first | (simp [go_sem]; done) | (simp [go_sem]; rfl), by simp [go_sem], by simp [go_sem], by simp [go_sem]⟩) k1).kept k2
  go_wp2
  simp [bodyPost, results, Tryd.results88, go_sem, *]
  exact (by (repeat (first | with_reducible exact Kept.refl _ | with_reducible apply Kept.drew | with_reducible apply Kept.alloc | ((with_reducible apply Kept.set); focus (simp <;> omega)) | ((with_reducible apply Kept.via); focus with_reducible assumption))))
set_option maxHeartbeats 400000 in
theorem refCube_no {n : Int} (hn : Word n) (r : ¬ InBig (n * n * n)) (w : World) : Calls Tryd.prog 88 #[.int .u64 n] w fun e w' => e = .returned (.tuple #[.agg #[.bool false, .int .u64 0, .int .u64 0], .int .i64 10]) ∧ Kept w w' := by
  obtain ⟨sh, sl, rs⟩ := square_rep hn
  have C1 := Lib.hid (fun w => refSquare_ok hn rs w)
  have C2 := Lib.hid (fun w => refScale_no (b1 := false) (xh := sh) (xl := sl) rs.1 rs.2.1 hn (by rw [rs.2.2.1]; exact r) w)
  clear r hn rs
  go_enter Tryd.func88, Tryd.ntmps88
  go_wp2_with fail
  refine (C1.out _).mono ?_
  rintro e w1 ⟨rfl, k1⟩
  go_wp2_with fail
  refine (C2.out _).mono ?_
  rintro e w2 ⟨rfl, k2⟩
  obtain ⟨x, y, z, a1, a2, a3, b1, b2, b3⟩ : Room3 w2 w.heap.size := (Room3.kept (by exact ⟨_, _, _, by first | (simp [go_sem]; done) | (simp [go_sem]; rfl), by first | (simp [go_sem]; done) | (simp [go_sem]; rfl), by first | (simp [go_sem]; done) | (simp [go_sem]; rfl), by simp [go_sem], by simp [go_sem], by simp [go_sem]⟩) k1).kept k2
  go_wp2
  simp [bodyPost, results, Tryd.results88, go_sem, *]
  exact (by (repeat (first | with_reducible exact Kept.refl _ | with_reducible apply Kept.drew | with_reducible apply Kept.alloc | ((with_reducible apply Kept.set); focus (simp <;> omega)) | ((with_reducible apply Kept.via); focus with_reducible assumption))))

/-- 2 to a number. -/
def IsPow (p : Int) (k : Nat) : Prop := p = ((2 ^ k : Nat) : Int)
theorem pow_small {p : Int} {k : Nat} (h : IsPow p k) (l : k ≤ 62) : 1 ≤ p ∧ p ≤ 4611686018427387904 := by
  unfold IsPow at h
  have a : 2 ^ k ≤ 2 ^ 62 := Nat.pow_le_pow_right (by omega) l
  have b : 0 < 2 ^ k := Nat.pow_pos (by omega)
  rw [h]; rw [show (2 : Nat) ^ 62 = 4611686018427387904 by decide] at a; omega
theorem pow_next {p : Int} {k : Nat} (h : IsPow p k) : IsPow (2 * p) (k + 1) := by
  unfold IsPow at *; rw [Nat.pow_succ, h]; omega
theorem pow_half {q p : Int} {k : Nat} (h : IsPow q (k + 1)) (hp : IsPow p k) : q = 2 * p := by
  unfold IsPow at *; rw [Nat.pow_succ] at h; omega
def PowRel (k : Nat) (s3 s4 : Value) : Prop := ∃ (j : Nat) (p : Int), s4 = .int .i64 j ∧ s3 = .int .u64 p ∧ j ≤ k ∧ IsPow p j
/-- Bit by bit: what is found lies within q below the root. -/
def BitRel (n B : Int) (W : World) (s4 s5 : Value) (wr : World) : Prop :=
  ∃ o i q : Int, s4 = .int .u64 o ∧ s5 = .int .i64 i ∧ -1 ≤ i ∧ i ≤ 63 ∧ 0 ≤ o ∧ o ≤ n ∧ n < o + q ∧ o + q ≤ B ∧ IsPow q (i + 1).toNat ∧ Kept W wr
theorem bit_step {q i : Int} (h : IsPow q (i + 1).toNat) (h0 : 0 ≤ i) : ∃ p, IsPow p i.toNat ∧ q = 2 * p ∧ 1 ≤ p := by
  refine ⟨_, rfl, ?_, ?_⟩
  · rw [show (i + 1).toNat = i.toNat + 1 by omega] at h; exact pow_half h rfl
  · have : 0 < 2 ^ i.toNat := Nat.pow_pos (by omega)
    omega
theorem bit_last {q i : Int} (h : IsPow q (i + 1).toNat) (h0 : i < 0) (h1 : -1 ≤ i) : q = 1 := by
  rw [show (i + 1).toNat = 0 by omega] at h; exact h

end Go.Proofs.YtlonfobeblnbbaaDoor
