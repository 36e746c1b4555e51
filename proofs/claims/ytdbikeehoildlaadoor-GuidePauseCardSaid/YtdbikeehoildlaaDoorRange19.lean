/-
  What guide.Check does: it goes through seven bounds by a range over a function.
-/
import Derived.Test.YtdbikeehoildlaaDoorCon19
import Derived.Test.YtdbikeehoildlaaDoorRangeK
import Derived.RangeFuncNested
import Derived.RangeFuncBound
import Derived.Shelf.Abstract
import Derived.Shelf.RegionOpen
import Derived.WalkKit
import Derived.OwnWalkIn
import Derived.TacticsInMore
import Derived.LoopNIn
import Derived.LoopIn
import Derived.OwnWalk
import Derived.Lib.Hide
import Derived.Deep.RegionHeld3
namespace Go.Proofs.YtdbikeehoildlaaDoor
open Go Go.RowKit Go.WideShapes Go.Shelf

/-- A bound's three numbers as a value. -/
def bv19 (x : Int × Int × Int) : Value := .agg #[.int .i64 x.1, .int .i64 x.2.1, .int .i64 x.2.2]
/-- The bounds of a configuration. -/
def bnds (c : Cf) : List (Int × Int × Int) := [(c.sg, 1, 9000), (c.mx, 4, 1048576), (c.fi, 2, c.mx), (c.gn, 1, 1000000), (c.ls, 1, c.gt), (c.gt, 1, 1099511627776), (c.bu, 1, 1000)]
def HoldsB (x : Int × Int × Int) : Prop := x.2.1 ≤ x.1 ∧ x.1 ≤ x.2.2
instance (x : Int × Int × Int) : Decidable (HoldsB x) := by unfold HoldsB; infer_instance
theorem may_holds (c : Cf) : MayCf c ↔ ∀ x ∈ bnds c, HoldsB x := by
  unfold MayCf bnds HoldsB
  simp only [List.mem_cons, List.not_mem_nil, or_false, forall_eq_or_imp, forall_eq]
  omega
/-- A configuration's cells at the beginning of a block. -/
def CfAt (w : World) (b : Nat) (c : Cf) : Prop := w.cell? ⟨b, 0, none⟩ = some (.int .i64 c.sg) ∧ w.cell? ⟨b, 1, none⟩ = some (.int .i64 c.mx) ∧ w.cell? ⟨b, 2, none⟩ = some (.int .i64 c.fi) ∧ w.cell? ⟨b, 3, none⟩ = some (.int .i64 c.gn) ∧ w.cell? ⟨b, 4, none⟩ = some (.int .i64 c.ls) ∧ w.cell? ⟨b, 5, none⟩ = some (.int .i64 c.gt) ∧ w.cell? ⟨b, 6, none⟩ = some (.int .i64 c.bu)
theorem CfAt.kept {w w' : World} {b : Nat} {c : Cf} (h : CfAt w b c) (k : Kept w w') : CfAt w' b c := ⟨k.read h.1, k.read h.2.1, k.read h.2.2.1, k.read h.2.2.2.1, k.read h.2.2.2.2.1, k.read h.2.2.2.2.2.1, k.read h.2.2.2.2.2.2⟩
set_option maxRecDepth 100000 in
theorem gidx0 (c : Cf) : ∀ w, (Instr.index 67 (.agg #[.int .i64 c.sg, .int .i64 1, .int .i64 9000, .int .i64 c.mx, .int .i64 4, .int .i64 1048576, .int .i64 c.fi, .int .i64 2, .int .i64 c.mx, .int .i64 c.gn, .int .i64 1, .int .i64 1000000, .int .i64 c.ls, .int .i64 1, .int .i64 c.gt, .int .i64 c.gt, .int .i64 1, .int .i64 1099511627776, .int .i64 c.bu, .int .i64 1, .int .i64 1000]) (.int .i64 0)).run Tryd.prog w = .ok (.agg #[.int .i64 c.sg, .int .i64 1, .int .i64 9000]) w := by intro w; rfl
set_option maxRecDepth 100000 in
theorem gidx1 (c : Cf) : ∀ w, (Instr.index 67 (.agg #[.int .i64 c.sg, .int .i64 1, .int .i64 9000, .int .i64 c.mx, .int .i64 4, .int .i64 1048576, .int .i64 c.fi, .int .i64 2, .int .i64 c.mx, .int .i64 c.gn, .int .i64 1, .int .i64 1000000, .int .i64 c.ls, .int .i64 1, .int .i64 c.gt, .int .i64 c.gt, .int .i64 1, .int .i64 1099511627776, .int .i64 c.bu, .int .i64 1, .int .i64 1000]) (.int .i64 1)).run Tryd.prog w = .ok (.agg #[.int .i64 c.mx, .int .i64 4, .int .i64 1048576]) w := by intro w; rfl
set_option maxRecDepth 100000 in
theorem gidx2 (c : Cf) : ∀ w, (Instr.index 67 (.agg #[.int .i64 c.sg, .int .i64 1, .int .i64 9000, .int .i64 c.mx, .int .i64 4, .int .i64 1048576, .int .i64 c.fi, .int .i64 2, .int .i64 c.mx, .int .i64 c.gn, .int .i64 1, .int .i64 1000000, .int .i64 c.ls, .int .i64 1, .int .i64 c.gt, .int .i64 c.gt, .int .i64 1, .int .i64 1099511627776, .int .i64 c.bu, .int .i64 1, .int .i64 1000]) (.int .i64 2)).run Tryd.prog w = .ok (.agg #[.int .i64 c.fi, .int .i64 2, .int .i64 c.mx]) w := by intro w; rfl
set_option maxRecDepth 100000 in
theorem gidx3 (c : Cf) : ∀ w, (Instr.index 67 (.agg #[.int .i64 c.sg, .int .i64 1, .int .i64 9000, .int .i64 c.mx, .int .i64 4, .int .i64 1048576, .int .i64 c.fi, .int .i64 2, .int .i64 c.mx, .int .i64 c.gn, .int .i64 1, .int .i64 1000000, .int .i64 c.ls, .int .i64 1, .int .i64 c.gt, .int .i64 c.gt, .int .i64 1, .int .i64 1099511627776, .int .i64 c.bu, .int .i64 1, .int .i64 1000]) (.int .i64 3)).run Tryd.prog w = .ok (.agg #[.int .i64 c.gn, .int .i64 1, .int .i64 1000000]) w := by intro w; rfl
set_option maxRecDepth 100000 in
theorem gidx4 (c : Cf) : ∀ w, (Instr.index 67 (.agg #[.int .i64 c.sg, .int .i64 1, .int .i64 9000, .int .i64 c.mx, .int .i64 4, .int .i64 1048576, .int .i64 c.fi, .int .i64 2, .int .i64 c.mx, .int .i64 c.gn, .int .i64 1, .int .i64 1000000, .int .i64 c.ls, .int .i64 1, .int .i64 c.gt, .int .i64 c.gt, .int .i64 1, .int .i64 1099511627776, .int .i64 c.bu, .int .i64 1, .int .i64 1000]) (.int .i64 4)).run Tryd.prog w = .ok (.agg #[.int .i64 c.ls, .int .i64 1, .int .i64 c.gt]) w := by intro w; rfl
set_option maxRecDepth 100000 in
theorem gidx5 (c : Cf) : ∀ w, (Instr.index 67 (.agg #[.int .i64 c.sg, .int .i64 1, .int .i64 9000, .int .i64 c.mx, .int .i64 4, .int .i64 1048576, .int .i64 c.fi, .int .i64 2, .int .i64 c.mx, .int .i64 c.gn, .int .i64 1, .int .i64 1000000, .int .i64 c.ls, .int .i64 1, .int .i64 c.gt, .int .i64 c.gt, .int .i64 1, .int .i64 1099511627776, .int .i64 c.bu, .int .i64 1, .int .i64 1000]) (.int .i64 5)).run Tryd.prog w = .ok (.agg #[.int .i64 c.gt, .int .i64 1, .int .i64 1099511627776]) w := by intro w; rfl
set_option maxRecDepth 100000 in
theorem gidx6 (c : Cf) : ∀ w, (Instr.index 67 (.agg #[.int .i64 c.sg, .int .i64 1, .int .i64 9000, .int .i64 c.mx, .int .i64 4, .int .i64 1048576, .int .i64 c.fi, .int .i64 2, .int .i64 c.mx, .int .i64 c.gn, .int .i64 1, .int .i64 1000000, .int .i64 c.ls, .int .i64 1, .int .i64 c.gt, .int .i64 c.gt, .int .i64 1, .int .i64 1099511627776, .int .i64 c.bu, .int .i64 1, .int .i64 1000]) (.int .i64 6)).run Tryd.prog w = .ok (.agg #[.int .i64 c.bu, .int .i64 1, .int .i64 1000]) w := by intro w; rfl
section
attribute [local go_sem] Oper.semAt_some
set_option maxRecDepth 100000 in
set_option maxHeartbeats 1600000 in
/-- The iterator: the seven bounds come, one behind the other, up to where a round says that it is enough. -/
theorem giter {c : Cf} {b : Nat} (n : Nat) (hn : 1 ≤ n) (w0 : World) (hc : CfAt w0 b c) : SeqK Fence.wide n Tryd.prog 40 #[.pointer (some ⟨b, 0, none⟩)] (fun x => #[bv19 x]) (fun xs => xs = bnds c) (fun pre => ∃ k, pre = (bnds c).take k) 7 w0 := fun l J Jx W hW hJ hJx hY h0 => by
  have hro : Fence.wide.round = none := rfl
  obtain ⟨q0, q1, q2, q3, q4, q5, q6⟩ := hc.kept hW
  refine callsIn_of_wp Tryd.func40 rfl trivial ?_ hro
  simp only [Tryd.ntmps40, List.size_toArray, List.length_cons, List.length_nil, Nat.reduceAdd, Nat.reduceSub, Array.replicate_succ, Array.replicate_zero, List.push_toArray, List.append_toArray, List.nil_append, List.cons_append]
  gi_wp2
  gi_loopw [31] (fun i wr => ∃ k : Nat, k ≤ 7 ∧ i = .int .i64 k ∧ J ((bnds c).take k) wr) (fun i _ => 7 - (intOf i).toNat)
  case atStart => exact ⟨0, by omega, rfl, h0⟩
  case round =>
    obtain ⟨k, hk, rfl, hj⟩ := hrel
    have hk' : k = 0 ∨ k = 1 ∨ k = 2 ∨ k = 3 ∨ k = 4 ∨ k = 5 ∨ k = 6 ∨ k = 7 := by omega
    rcases hk' with rfl | rfl | rfl | rfl | rfl | rfl | rfl | rfl
    · have hx := gidx0 c
      obtain ⟨fn, tmps, assign, body, hy, hR⟩ := hY ((bnds c).take 0) (c.sg, 1, 9000) _ (hJ _ _ _ hj ((Kept.refl wr).alloc #[.int .i64 c.sg, .int .i64 1, .int .i64 9000] 55)) (by simp [bnds])
      dsimp only [bv19] at hy
      gi_wp2
      refine hR.mono ?_
      rintro e W3 (⟨rfl, hJ3, hk3⟩ | ⟨rfl, hJx3⟩)
      · gi_wp2
        go_roundw
        case rel => exact ⟨1, by omega, by go_num, hJ3⟩
        case measure => simp [intOf]
      · gi_wp2
        refine bodyPost_ret (results_none rfl _ _ _) rfl ?_
        exact ⟨⟨_, rfl⟩, .inr ⟨_, ⟨1, rfl⟩, hJx3⟩⟩
    · have hx := gidx1 c
      obtain ⟨fn, tmps, assign, body, hy, hR⟩ := hY ((bnds c).take 1) (c.mx, 4, 1048576) _ (hJ _ _ _ hj ((Kept.refl wr).alloc #[.int .i64 c.mx, .int .i64 4, .int .i64 1048576] 55)) (by simp [bnds])
      dsimp only [bv19] at hy
      gi_wp2
      refine hR.mono ?_
      rintro e W3 (⟨rfl, hJ3, hk3⟩ | ⟨rfl, hJx3⟩)
      · gi_wp2
        go_roundw
        case rel => exact ⟨2, by omega, by go_num, hJ3⟩
        case measure => simp [intOf]
      · gi_wp2
        refine bodyPost_ret (results_none rfl _ _ _) rfl ?_
        exact ⟨⟨_, rfl⟩, .inr ⟨_, ⟨2, rfl⟩, hJx3⟩⟩
    · have hx := gidx2 c
      obtain ⟨fn, tmps, assign, body, hy, hR⟩ := hY ((bnds c).take 2) (c.fi, 2, c.mx) _ (hJ _ _ _ hj ((Kept.refl wr).alloc #[.int .i64 c.fi, .int .i64 2, .int .i64 c.mx] 55)) (by simp [bnds])
      dsimp only [bv19] at hy
      gi_wp2
      refine hR.mono ?_
      rintro e W3 (⟨rfl, hJ3, hk3⟩ | ⟨rfl, hJx3⟩)
      · gi_wp2
        go_roundw
        case rel => exact ⟨3, by omega, by go_num, hJ3⟩
        case measure => simp [intOf]
      · gi_wp2
        refine bodyPost_ret (results_none rfl _ _ _) rfl ?_
        exact ⟨⟨_, rfl⟩, .inr ⟨_, ⟨3, rfl⟩, hJx3⟩⟩
    · have hx := gidx3 c
      obtain ⟨fn, tmps, assign, body, hy, hR⟩ := hY ((bnds c).take 3) (c.gn, 1, 1000000) _ (hJ _ _ _ hj ((Kept.refl wr).alloc #[.int .i64 c.gn, .int .i64 1, .int .i64 1000000] 55)) (by simp [bnds])
      dsimp only [bv19] at hy
      gi_wp2
      refine hR.mono ?_
      rintro e W3 (⟨rfl, hJ3, hk3⟩ | ⟨rfl, hJx3⟩)
      · gi_wp2
        go_roundw
        case rel => exact ⟨4, by omega, by go_num, hJ3⟩
        case measure => simp [intOf]
      · gi_wp2
        refine bodyPost_ret (results_none rfl _ _ _) rfl ?_
        exact ⟨⟨_, rfl⟩, .inr ⟨_, ⟨4, rfl⟩, hJx3⟩⟩
    · have hx := gidx4 c
      obtain ⟨fn, tmps, assign, body, hy, hR⟩ := hY ((bnds c).take 4) (c.ls, 1, c.gt) _ (hJ _ _ _ hj ((Kept.refl wr).alloc #[.int .i64 c.ls, .int .i64 1, .int .i64 c.gt] 55)) (by simp [bnds])
      dsimp only [bv19] at hy
      gi_wp2
      refine hR.mono ?_
      rintro e W3 (⟨rfl, hJ3, hk3⟩ | ⟨rfl, hJx3⟩)
      · gi_wp2
        go_roundw
        case rel => exact ⟨5, by omega, by go_num, hJ3⟩
        case measure => simp [intOf]
      · gi_wp2
        refine bodyPost_ret (results_none rfl _ _ _) rfl ?_
        exact ⟨⟨_, rfl⟩, .inr ⟨_, ⟨5, rfl⟩, hJx3⟩⟩
    · have hx := gidx5 c
      obtain ⟨fn, tmps, assign, body, hy, hR⟩ := hY ((bnds c).take 5) (c.gt, 1, 1099511627776) _ (hJ _ _ _ hj ((Kept.refl wr).alloc #[.int .i64 c.gt, .int .i64 1, .int .i64 1099511627776] 55)) (by simp [bnds])
      dsimp only [bv19] at hy
      gi_wp2
      refine hR.mono ?_
      rintro e W3 (⟨rfl, hJ3, hk3⟩ | ⟨rfl, hJx3⟩)
      · gi_wp2
        go_roundw
        case rel => exact ⟨6, by omega, by go_num, hJ3⟩
        case measure => simp [intOf]
      · gi_wp2
        refine bodyPost_ret (results_none rfl _ _ _) rfl ?_
        exact ⟨⟨_, rfl⟩, .inr ⟨_, ⟨6, rfl⟩, hJx3⟩⟩
    · have hx := gidx6 c
      obtain ⟨fn, tmps, assign, body, hy, hR⟩ := hY ((bnds c).take 6) (c.bu, 1, 1000) _ (hJ _ _ _ hj ((Kept.refl wr).alloc #[.int .i64 c.bu, .int .i64 1, .int .i64 1000] 55)) (by simp [bnds])
      dsimp only [bv19] at hy
      gi_wp2
      refine hR.mono ?_
      rintro e W3 (⟨rfl, hJ3, hk3⟩ | ⟨rfl, hJx3⟩)
      · gi_wp2
        go_roundw
        case rel => exact ⟨7, by omega, by go_num, hJ3⟩
        case measure => simp [intOf]
      · gi_wp2
        refine bodyPost_ret (results_none rfl _ _ _) rfl ?_
        exact ⟨⟨_, rfl⟩, .inr ⟨_, ⟨7, rfl⟩, hJx3⟩⟩
    · gi_wp2
      go_end0
      exact ⟨⟨_, rfl⟩, .inl ⟨_, rfl, hj⟩⟩
end
set_option maxRecDepth 100000 in
set_option maxHeartbeats 1600000 in
theorem gbounds (c : Cf) (w : World) : Calls Tryd.prog 27 #[.agg #[.int .i64 c.sg, .int .i64 c.mx, .int .i64 c.fi, .int .i64 c.gn, .int .i64 c.ls, .int .i64 c.gt, .int .i64 c.bu]] w fun e w' => e = .returned (.func (.func 40) #[] #[.pointer (some ⟨w.heap.size, 0, none⟩)]) ∧ CfAt w' w.heap.size c ∧ Kept w w' := by
  go_enter Tryd.func27, Tryd.ntmps27
  go_wp2
  go_ret
  refine ⟨rfl, ?_, (Kept.refl _).alloc _ _⟩
  exact ⟨by simp [go_sem], by simp [go_sem], by simp [go_sem], by simp [go_sem], by simp [go_sem], by simp [go_sem], by simp [go_sem]⟩
set_option maxRecDepth 100000 in
set_option maxHeartbeats 1600000 in
theorem gholds0 {n lo hi : Int} (d0 : decide (lo ≤ n) = false) (w : World) : Calls Tryd.prog 28 #[.agg #[.int .i64 n, .int .i64 lo, .int .i64 hi]] w fun e w' => e = .returned (.bool false) ∧ Kept w w' := by
  go_enter Tryd.func28, Tryd.ntmps28
  go_wp2
  go_ret
  exact ⟨rfl, (Kept.refl _).alloc _ _⟩
set_option maxRecDepth 100000 in
set_option maxHeartbeats 1600000 in
theorem gholds1 {n lo hi : Int} {v : Bool} (d0 : decide (lo ≤ n) = true) (d1 : decide (n ≤ hi) = v) (w : World) : Calls Tryd.prog 28 #[.agg #[.int .i64 n, .int .i64 lo, .int .i64 hi]] w fun e w' => e = .returned (.bool v) ∧ Kept w w' := by
  go_enter Tryd.func28, Tryd.ntmps28
  go_wp2
  go_ret
  exact ⟨rfl, (Kept.refl _).alloc _ _⟩
theorem gholds (x : Int × Int × Int) (w : World) : Calls Tryd.prog 28 #[bv19 x] w fun e w' => e = .returned (.bool (decide (HoldsB x))) ∧ Kept w w' := by
  by_cases h : x.2.1 ≤ x.1
  · exact gholds1 (by simp [h]) (by simp [HoldsB, h]) w
  · rw [show decide (HoldsB x) = false by simp [HoldsB, h]]
    exact gholds0 (by simp [h]) w
section
attribute [local go_sem] Oper.semAt_some
set_option maxRecDepth 100000 in
set_option maxHeartbeats 3200000 in
theorem gcheck {c : Cf} {n : Int} (hn : cfgE c = n) (w : World) : Calls Tryd.prog 11 #[.agg #[.int .i64 c.sg, .int .i64 c.mx, .int .i64 c.fi, .int .i64 c.gn, .int .i64 c.ls, .int .i64 c.gt, .int .i64 c.bu]] w fun e w' => e = .returned (.int .i64 n) ∧ Kept w w' := by
  refine (callsIn_wide (n := 5)).1 ?_
  have hro : Fence.wide.round = none := rfl
  refine callsIn_of_wp_marks Tryd.func11 rfl trivial ?_ hro
  simp only [Tryd.ntmps11, List.size_toArray, List.length_cons, List.length_nil, Nat.reduceAdd, Nat.reduceSub, Array.replicate_succ, Array.replicate_zero, List.push_toArray, List.append_toArray, List.nil_append, List.cons_append]
  gi_wp2_with (refine ⟨trivial, ?_⟩; refine (callsIn_wide.2 (gbounds c _)).mono ?_; rintro e w1 ⟨rfl, hc, k1⟩)
  have k0 := Kept.trans (((Kept.refl w).alloc #[.int .i64 c.sg, .int .i64 c.mx, .int .i64 c.fi, .int .i64 c.gn, .int .i64 c.ls, .int .i64 c.gt, .int .i64 c.bu] 23).alloc #[.int .i64 0] 30) k1
  have o1 : OpenAt w1 ⟨w.heap.size + 1, 0, none⟩ (.int .i64 0) := ⟨k1.read (by simp [go_sem]), k1.thaw (by simp [go_sem])⟩
  have sz : w.heap.size + 2 ≤ w1.heap.size := by have := k1.2.size; simp at this; omega
  simp only [World.size_alloc] at hc
  refine rangeFunc_kept hro (by omega) (gf := 40) rfl trivial (enters_of Tryd.func40 (by kernel_rfl) rfl) (giter _ (by omega) w1 hc) (fun _ => rfl)
    (fun pre W => (∀ x ∈ pre, HoldsB x) ∧ OpenAt W ⟨w.heap.size + 1, 0, none⟩ (.int .i64 0) ∧ Kept w W)
    (fun pre W => (∃ x ∈ pre, ¬ HoldsB x) ∧ OpenAt W ⟨w.heap.size + 1, 0, none⟩ (.int .i64 210) ∧ Kept w W)
    (fun l => (stay_pure _ _).and ((stay_open _ _ fun _ => _).and (stay_kept (by omega))))
    (fun l => (stay_pure _ _).and ((stay_open _ _ fun _ => _).and (stay_kept (by omega))))
    ⟨by simp, o1, k0⟩
    (fun x a' W => ∃ p : Nat, a' = { tmps := #[.agg #[.int .i64 c.sg, .int .i64 c.mx, .int .i64 c.fi, .int .i64 c.gn, .int .i64 c.ls, .int .i64 c.gt, .int .i64 c.bu], .pointer (some ⟨w.heap.size, 0, none⟩), .pointer (some ⟨w.heap.size + 1, 0, none⟩), .pointer (some ⟨p, 0, none⟩), .agg #[.int .i64 c.sg, .int .i64 c.mx, .int .i64 c.fi, .int .i64 c.gn, .int .i64 c.ls, .int .i64 c.gt, .int .i64 c.bu], .func (.func 40) #[] #[.pointer (some ⟨w.heap.size + 1 + 1, 0, none⟩)], bv19 x, undef, undef, undef], defers := [] } ∧ W.cell? ⟨p, 0, none⟩ = some (.int .i64 x.1) ∧ W.cell? ⟨p, 1, none⟩ = some (.int .i64 x.2.1) ∧ W.cell? ⟨p, 2, none⟩ = some (.int .i64 x.2.2))
    (fun x => StayK.ex fun p => (stay_pure _ _).and ((stay_cell _ _ fun _ => _).and ((stay_cell _ _ fun _ => _).and (stay_cell _ _ fun _ => _)))) ?assign ?body ?done ?stop
  case assign =>
    intro l pre x W K hi hK
    simp only [bv19]
    gi_wp2
    exact hK _ _ ((Kept.refl W).alloc _ _) ⟨W.heap.size, rfl, by simp [go_sem], by simp [go_sem], by simp [go_sem]⟩
  case body =>
    rintro l pre x a' W ⟨hp, ho, k⟩ ⟨p, rfl, z0, z1, z2⟩ hlen
    obtain ⟨o0, o2⟩ := ho
    have H := Lib.hid (gholds x)
    simp only [bv19] at H
    by_cases hx : HoldsB x
    · simp only [hx, decide_true] at H
      have HP := Lib.hid (And.intro hp hx)
      clear hp hx
      gi_wp2_with (refine ⟨trivial, ?_⟩; refine (CallsIn.inRound l (callsIn_wide.2 (H.out _))).mono ?_; rintro e w2 ⟨rfl, k2⟩)
      exact ⟨k2, fun y hy => (List.mem_append.1 hy).elim (fun z => HP.out.1 y z) (fun z => by rw [List.mem_singleton.1 z]; exact HP.out.2), ⟨k2.read o0, k2.thaw o2⟩, k.trans k2⟩
    · simp only [hx, decide_false] at H
      have HP := Lib.hid hx
      clear hp hx
      gi_wp2_with (refine ⟨trivial, ?_⟩; refine (CallsIn.inRound l (callsIn_wide.2 (H.out _))).mono ?_; rintro e w2 ⟨rfl, k2⟩; have r0 := k2.read o0; have r1 := k2.thaw o2)
      exact ⟨(Kept.others k2).trans (KeepsOthers.setCell _ _ _), ⟨x, by simp, HP.out⟩, ⟨World.cell?_setCell_same' _ _ _ (by rw [r0]; rfl), by rw [World.frozen?_setCell]; exact r1⟩, (k.trans k2).setCell (by simp) _⟩
  case done =>
    rintro D ys W hD rfl ⟨hp, ⟨o0, o2⟩, k⟩ hK
    have hn0 : n = 0 := by rw [← hn]; exact cfgE_ok.2 ((may_holds c).2 hp)
    subst hn0
    clear hp
    gi_wp2
    have hK' := (KeepsOthers.setCell W ⟨w.heap.size + 1, 0, none⟩ (.int .i64 0)).same D _ hK rfl
    refine ⟨by simp, .inl ⟨_, _, rfl, run_takeDeferred hK', ?_⟩⟩
    have hc5 := cell_putObj (.deferred none) (World.cell?_setCell_same' W ⟨w.heap.size + 1, 0, none⟩ (.int .i64 0) (by rw [o0]; rfl)) hK' rfl
    refine ⟨.int .i64 0, ?_, rfl, (k.setCell (by simp) _).putObj (by omega) hK' rfl rfl⟩
    simp [results, Tryd.f11, go_sem, hc5]
  case stop =>
    rintro D pre W hD ⟨j, rfl⟩ ⟨⟨x, hx, nx⟩, ⟨o0, o2⟩, k⟩ hK
    have hn0 : n = 210 := by
      rw [← hn]; unfold cfgE
      exact if_neg fun m => nx ((may_holds c).1 m x (List.mem_of_mem_take hx))
    subst hn0
    clear hx nx
    gi_wp2
    refine ⟨by simp, .inl ⟨_, _, rfl, run_takeDeferred hK, ?_⟩⟩
    have hc5 := cell_putObj (.deferred none) o0 hK rfl
    refine ⟨.int .i64 210, ?_, rfl, k.putObj (by omega) hK rfl rfl⟩
    simp [results, Tryd.f11, go_sem, hc5]
end
theorem gcheck_c : GdCheckC := fun _ _ _ hn w => gcheck hn w
end Go.Proofs.YtdbikeehoildlaaDoor
