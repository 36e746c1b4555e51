/-
  Contracts of the document's answers of layer 11.
-/
import Derived.Test.YtdbikeehoildlaaDoorCon11
import Derived.Test.YtdbikeehoildlaaDoorRefP03
import Derived.Test.YtdbikeehoildlaaDoorRef04
import Derived.Test.YtdbikeehoildlaaDoorOne01
import Derived.Test.YtdbikeehoildlaaDoorRoom
import Derived.Deep.DeepCutAuto
namespace Go.Proofs.YtdbikeehoildlaaDoor
open Go.RowKit Go.BigFrame
set_option linter.unusedVariables false

theorem Of_repr (n : Int) (h : In64 n) : numOf (decide (n < 0)) 0 (mag n) = n := by
  unfold numOf mag sz
  by_cases l : n < 0
  · simp [l]
  · simp [l]
/-- Bit by bit, j bits to go. -/
def halfB : Nat → Int
  | 0 => 0
  | j + 1 => ((2 ^ j : Nat) : Int)
theorem halfB_next (j : Nat) : halfB (j + 1) / 2 = halfB j := by
  cases j with
  | zero => decide
  | succ i => show ((2 ^ (i + 1) : Nat) : Int) / 2 = ((2 ^ i : Nat) : Int); rw [Nat.pow_succ]; omega
theorem halfB_small (j : Nat) (h : j ≤ 31) : 0 ≤ halfB j ∧ halfB j ≤ 1073741824 := by
  cases j with
  | zero => decide
  | succ i =>
    have a : 2 ^ i ≤ 2 ^ 30 := Nat.pow_le_pow_right (by omega) (by omega)
    rw [show (2 : Nat) ^ 30 = 1073741824 by decide] at a
    show 0 ≤ ((2 ^ i : Nat) : Int) ∧ ((2 ^ i : Nat) : Int) ≤ 1073741824
    generalize 2 ^ i = x at *
    omega
theorem halfB_pos (j : Nat) : 0 < halfB (j + 1) := by
  have : 0 < 2 ^ j := Nat.pow_pos (by omega)
  show 0 < ((2 ^ j : Nat) : Int)
  omega
theorem halfB_top (j : Nat) : ((2 ^ (j + 1) : Nat) : Int) = 2 * halfB (j + 1) := by
  show ((2 ^ (j + 1) : Nat) : Int) = 2 * ((2 ^ j : Nat) : Int)
  rw [Nat.pow_succ]; omega
def KRel (n : Int) (W : World) (s4 s5 : Value) (wr : World) : Prop := ∃ (o b : Int) (j : Nat), s4 = .int .u64 o ∧ s5 = .int .u64 b ∧ b = halfB j ∧ j ≤ 31 ∧ 0 ≤ o ∧ o ≤ n ∧ n < o + ((2 ^ j : Nat) : Int) ∧ Kept W wr
theorem addLift {a b n : Int} (ha : In64 a) (hb : In64 b) (hn : heldAt (a + b) = n) (w : World) : Calls Tryd.prog 47 #[.int .i64 a, .int .i64 b] w fun e w' => e = .returned (.int .i64 n) ∧ Kept w w' :=
  (refAdd_lit_s a b n w ha hb hn).mono (fun _ _ ⟨h, k⟩ => ⟨h, k ▸ Kept.refl _⟩)
set_option maxRecDepth 100000 in
set_option maxHeartbeats 1600000 in
theorem refShift_off {s f m k es d : Int}  (w : World) : Calls Tryd.prog 32 #[.agg #[.bool false, .int .i64 s, .int .i64 f, .int .i64 m, .int .i64 k, .int .i64 es], .int .i64 d] w fun e w' => e = .returned (.agg #[.bool false, .int .i64 s, .int .i64 f, .int .i64 m, .int .i64 k, .int .i64 es]) ∧ Kept w w' := by
  go_enter Tryd.func32, Tryd.ntmps32
  go_upto_region 1 with fail
  generalize hW : World.alloc (World.alloc w (.cells #[.bool false, .int .i64 s, .int .i64 f, .int .i64 m, .int .i64 k, .int .i64 es] 25)) (.cells #[.bool false, .int .i64 0, .int .i64 0, .int .i64 0, .int .i64 0, .int .i64 0] 25) = W0
  have K0 : Kept w W0 := by subst hW; exact ((Kept.refl _).alloc _ _).alloc _ _
  have R0 : RE W0 w.heap.size (⟨false, s, f, m, k, es⟩ : Ep) := by subst hW; exact ⟨⟨by simp [go_sem], by simp [go_sem], by simp [go_sem], by simp [go_sem], by simp [go_sem], by simp [go_sem]⟩, by simp [go_sem], by simp [go_sem], by simp [go_sem], by simp [go_sem], by simp [go_sem], by simp [go_sem]⟩
  have R1 : RE W0 (w.heap.size + 1) (⟨false, 0, 0, 0, 0, 0⟩ : Ep) := by subst hW; exact ⟨⟨by simp [go_sem], by simp [go_sem], by simp [go_sem], by simp [go_sem], by simp [go_sem], by simp [go_sem]⟩, by simp [go_sem], by simp [go_sem], by simp [go_sem], by simp [go_sem], by simp [go_sem], by simp [go_sem]⟩
  clear hW
  have zg : w.heap.size ≤ w.heap.size := Nat.le_refl _
  obtain ⟨⟨p0, p1, p2, p3, p4, p5⟩, ⟨pf0, pf1, pf2, pf3, pf4, pf5⟩⟩ := R0
  obtain ⟨⟨q0, q1, q2, q3, q4, q5⟩, ⟨qf0, qf1, qf2, qf3, qf4, qf5⟩⟩ := R1
  have k2 := K0
  go_wp2
  simp [bodyPost, results, Tryd.results32, go_sem, *]
  exact (by (repeat (first | with_reducible exact Kept.refl _ | with_reducible apply Kept.drew | with_reducible apply Kept.alloc | ((with_reducible apply Kept.set); focus (simp <;> omega)) | ((with_reducible apply Kept.via); focus with_reducible assumption))))
set_option maxRecDepth 100000 in
set_option maxHeartbeats 1600000 in
theorem refShift_none {s f m k es d : Int} (h : d < 1) (w : World) : Calls Tryd.prog 32 #[.agg #[.bool true, .int .i64 s, .int .i64 f, .int .i64 m, .int .i64 k, .int .i64 es], .int .i64 d] w fun e w' => e = .returned (.agg #[.bool true, .int .i64 s, .int .i64 f, .int .i64 m, .int .i64 k, .int .i64 es]) ∧ Kept w w' := by
  have d0 : decide (d < 1) = true := by simp [h]
  go_enter Tryd.func32, Tryd.ntmps32
  go_upto_region 1 with fail
  generalize hW : World.alloc (World.alloc w (.cells #[.bool true, .int .i64 s, .int .i64 f, .int .i64 m, .int .i64 k, .int .i64 es] 25)) (.cells #[.bool false, .int .i64 0, .int .i64 0, .int .i64 0, .int .i64 0, .int .i64 0] 25) = W0
  have K0 : Kept w W0 := by subst hW; exact ((Kept.refl _).alloc _ _).alloc _ _
  have R0 : RE W0 w.heap.size (⟨true, s, f, m, k, es⟩ : Ep) := by subst hW; exact ⟨⟨by simp [go_sem], by simp [go_sem], by simp [go_sem], by simp [go_sem], by simp [go_sem], by simp [go_sem]⟩, by simp [go_sem], by simp [go_sem], by simp [go_sem], by simp [go_sem], by simp [go_sem], by simp [go_sem]⟩
  have R1 : RE W0 (w.heap.size + 1) (⟨false, 0, 0, 0, 0, 0⟩ : Ep) := by subst hW; exact ⟨⟨by simp [go_sem], by simp [go_sem], by simp [go_sem], by simp [go_sem], by simp [go_sem], by simp [go_sem]⟩, by simp [go_sem], by simp [go_sem], by simp [go_sem], by simp [go_sem], by simp [go_sem], by simp [go_sem]⟩
  clear hW
  have zg : w.heap.size ≤ w.heap.size := Nat.le_refl _
  obtain ⟨⟨p0, p1, p2, p3, p4, p5⟩, ⟨pf0, pf1, pf2, pf3, pf4, pf5⟩⟩ := R0
  obtain ⟨⟨q0, q1, q2, q3, q4, q5⟩, ⟨qf0, qf1, qf2, qf3, qf4, qf5⟩⟩ := R1
  have k2 := K0
  go_wp2
  simp [bodyPost, results, Tryd.results32, go_sem, *]
  exact (by (repeat (first | with_reducible exact Kept.refl _ | with_reducible apply Kept.drew | with_reducible apply Kept.alloc | ((with_reducible apply Kept.set); focus (simp <;> omega)) | ((with_reducible apply Kept.via); focus with_reducible assumption))))
set_option maxRecDepth 100000 in
set_option maxHeartbeats 1600000 in
theorem refShift_in {s f m k es d v : Int} (h : 1 ≤ d) (hs : In64 s) (hd : In64 d) (hv : heldAt (s + d) = v) (hl : v ≤ 1099511627776) (w : World) : Calls Tryd.prog 32 #[.agg #[.bool true, .int .i64 s, .int .i64 f, .int .i64 m, .int .i64 k, .int .i64 es], .int .i64 d] w fun e w' => e = .returned (.agg #[.bool true, .int .i64 v, .int .i64 f, .int .i64 m, .int .i64 k, .int .i64 es]) ∧ Kept w w' := by
  have d0 : decide (d < 1) = false := by simp; omega
  have d1 : decide (1099511627776 < v) = false := by simp; omega
  have AD := Lib.hid (fun w => addLift hs hd hv w)
  clear hv
  go_enter Tryd.func32, Tryd.ntmps32
  go_upto_region 1 with fail
  generalize hW : World.alloc (World.alloc w (.cells #[.bool true, .int .i64 s, .int .i64 f, .int .i64 m, .int .i64 k, .int .i64 es] 25)) (.cells #[.bool false, .int .i64 0, .int .i64 0, .int .i64 0, .int .i64 0, .int .i64 0] 25) = W0
  have K0 : Kept w W0 := by subst hW; exact ((Kept.refl _).alloc _ _).alloc _ _
  have R0 : RE W0 w.heap.size (⟨true, s, f, m, k, es⟩ : Ep) := by subst hW; exact ⟨⟨by simp [go_sem], by simp [go_sem], by simp [go_sem], by simp [go_sem], by simp [go_sem], by simp [go_sem]⟩, by simp [go_sem], by simp [go_sem], by simp [go_sem], by simp [go_sem], by simp [go_sem], by simp [go_sem]⟩
  have R1 : RE W0 (w.heap.size + 1) (⟨false, 0, 0, 0, 0, 0⟩ : Ep) := by subst hW; exact ⟨⟨by simp [go_sem], by simp [go_sem], by simp [go_sem], by simp [go_sem], by simp [go_sem], by simp [go_sem]⟩, by simp [go_sem], by simp [go_sem], by simp [go_sem], by simp [go_sem], by simp [go_sem], by simp [go_sem]⟩
  clear hW
  have zg : w.heap.size ≤ w.heap.size := Nat.le_refl _
  obtain ⟨⟨p0, p1, p2, p3, p4, p5⟩, ⟨pf0, pf1, pf2, pf3, pf4, pf5⟩⟩ := (id R0)
  go_wp2_with fail
  refine (AD.out _).mono ?_
  rintro e w1 ⟨rfl, k1⟩
  clear p0 p1 p2 p3 p4 p5 pf0 pf1 pf2 pf3 pf4 pf5
  have R0' := R0.kept k1
  have R1' := R1.kept k1
  clear R0 R1
  obtain ⟨⟨p0, p1, p2, p3, p4, p5⟩, ⟨pf0, pf1, pf2, pf3, pf4, pf5⟩⟩ := R0'
  obtain ⟨⟨q0, q1, q2, q3, q4, q5⟩, ⟨qf0, qf1, qf2, qf3, qf4, qf5⟩⟩ := R1'
  have k2 := Kept.trans K0 k1
  go_wp2
  simp [bodyPost, results, Tryd.results32, go_sem, *]
  exact (by (repeat (first | with_reducible exact Kept.refl _ | with_reducible apply Kept.drew | with_reducible apply Kept.alloc | ((with_reducible apply Kept.set); focus (simp <;> omega)) | ((with_reducible apply Kept.via); focus with_reducible assumption))))
set_option maxRecDepth 100000 in
set_option maxHeartbeats 1600000 in
theorem refShift_top {s f m k es d v : Int} (h : 1 ≤ d) (hs : In64 s) (hd : In64 d) (hv : heldAt (s + d) = v) (hl : 1099511627776 < v) (w : World) : Calls Tryd.prog 32 #[.agg #[.bool true, .int .i64 s, .int .i64 f, .int .i64 m, .int .i64 k, .int .i64 es], .int .i64 d] w fun e w' => e = .returned (.agg #[.bool true, .int .i64 1099511627776, .int .i64 f, .int .i64 m, .int .i64 k, .int .i64 es]) ∧ Kept w w' := by
  have d0 : decide (d < 1) = false := by simp; omega
  have d1 : decide (1099511627776 < v) = true := by simp; omega
  have AD := Lib.hid (fun w => addLift hs hd hv w)
  clear hv
  go_enter Tryd.func32, Tryd.ntmps32
  go_upto_region 1 with fail
  generalize hW : World.alloc (World.alloc w (.cells #[.bool true, .int .i64 s, .int .i64 f, .int .i64 m, .int .i64 k, .int .i64 es] 25)) (.cells #[.bool false, .int .i64 0, .int .i64 0, .int .i64 0, .int .i64 0, .int .i64 0] 25) = W0
  have K0 : Kept w W0 := by subst hW; exact ((Kept.refl _).alloc _ _).alloc _ _
  have R0 : RE W0 w.heap.size (⟨true, s, f, m, k, es⟩ : Ep) := by subst hW; exact ⟨⟨by simp [go_sem], by simp [go_sem], by simp [go_sem], by simp [go_sem], by simp [go_sem], by simp [go_sem]⟩, by simp [go_sem], by simp [go_sem], by simp [go_sem], by simp [go_sem], by simp [go_sem], by simp [go_sem]⟩
  have R1 : RE W0 (w.heap.size + 1) (⟨false, 0, 0, 0, 0, 0⟩ : Ep) := by subst hW; exact ⟨⟨by simp [go_sem], by simp [go_sem], by simp [go_sem], by simp [go_sem], by simp [go_sem], by simp [go_sem]⟩, by simp [go_sem], by simp [go_sem], by simp [go_sem], by simp [go_sem], by simp [go_sem], by simp [go_sem]⟩
  clear hW
  have zg : w.heap.size ≤ w.heap.size := Nat.le_refl _
  obtain ⟨⟨p0, p1, p2, p3, p4, p5⟩, ⟨pf0, pf1, pf2, pf3, pf4, pf5⟩⟩ := (id R0)
  go_wp2_with fail
  refine (AD.out _).mono ?_
  rintro e w1 ⟨rfl, k1⟩
  clear p0 p1 p2 p3 p4 p5 pf0 pf1 pf2 pf3 pf4 pf5
  have R0' := R0.kept k1
  have R1' := R1.kept k1
  clear R0 R1
  obtain ⟨⟨p0, p1, p2, p3, p4, p5⟩, ⟨pf0, pf1, pf2, pf3, pf4, pf5⟩⟩ := R0'
  obtain ⟨⟨q0, q1, q2, q3, q4, q5⟩, ⟨qf0, qf1, qf2, qf3, qf4, qf5⟩⟩ := R1'
  have k2 := Kept.trans K0 k1
  go_wp2
  simp [bodyPost, results, Tryd.results32, go_sem, *]
  exact (by (repeat (first | with_reducible exact Kept.refl _ | with_reducible apply Kept.drew | with_reducible apply Kept.alloc | ((with_reducible apply Kept.set); focus (simp <;> omega)) | ((with_reducible apply Kept.via); focus with_reducible assumption))))
theorem refShift_ok {h h' : Ep} {d : Int} (hi : In64E h) (hd : In64 d) (e : shiftE h d = h') (w : World) : Calls Tryd.prog 32 #[.agg #[.bool h.on, .int .i64 h.start, .int .i64 h.first, .int .i64 h.most, .int .i64 h.k, .int .i64 h.est], .int .i64 d] w fun e w' => e = .returned (.agg #[.bool h'.on, .int .i64 h'.start, .int .i64 h'.first, .int .i64 h'.most, .int .i64 h'.k, .int .i64 h'.est]) ∧ Kept w w' := by
  subst e
  obtain ⟨on, s, f, m, k, es⟩ := h
  have hs : In64 s := hi.1
  cases on with
  | false =>
    have e : shiftE ⟨false, s, f, m, k, es⟩ d = ⟨false, s, f, m, k, es⟩ := by unfold shiftE; rw [if_pos (Or.inl rfl)]
    rw [e]; exact refShift_off w
  | true =>
    by_cases h1 : d < 1
    · have e : shiftE ⟨true, s, f, m, k, es⟩ d = ⟨true, s, f, m, k, es⟩ := by unfold shiftE; rw [if_pos (Or.inr h1)]
      rw [e]; exact refShift_none h1 w
    · have e : shiftE ⟨true, s, f, m, k, es⟩ d = ⟨true, if 1099511627776 < s + d then 1099511627776 else s + d, f, m, k, es⟩ := by unfold shiftE; rw [if_neg (by simp; omega)]
      rw [e]
      by_cases hl : 1099511627776 < s + d
      · rw [if_pos hl]
        exact refShift_top (by omega) hs hd rfl (by unfold heldAt; split; omega; split; (unfold In64 at hs hd; omega); exact hl) w
      · rw [if_neg hl]
        exact refShift_in (by omega) hs hd (heldAt_of (by unfold In64 at *; omega)) (by omega) w
end Go.Proofs.YtdbikeehoildlaaDoor
