/-
  What the calls of package bucket do.
-/
import Derived.Test.YtlgpeafphanobaaCon18
import Derived.Test.YtlgpeafphanobaaPartA04
import Derived.Test.YtlgpeafphanobaaClock05
import Derived.Test.YtlgpeafphanobaaTail
import Derived.Test.YtlgpeafphanobaaRoom
import Derived.Test.YtlgpeafphanobaaOne01
import Derived.OwnWalk
import Derived.ScopeJumps
import Derived.WalkMore
import Derived.Laws.StructEq
import Derived.Deep.RegionHeld3
import Derived.Deep.DeepCutAuto
namespace Go.Proofs.Ytlgpeafphanobaa
open Go.RowKit Go.BigFrame
set_option linter.unusedVariables false

/-- As Q; by a jump to label l, what stands behind it. -/
def onceTo (P : Program) (l : Nat) (rest : Code) (Q : Exit → Act → World → Prop) : Exit → Act → World → Prop
  | .goto l', a, w => l' = l ∧ rest.wp P (Exit.noGoto Q) a w
  | e, a, w => Q e a w
theorem onceTo_ret {P : Program} {l : Nat} {rest : Code} {Q : Exit → Act → World → Prop} {a : Act} {w : World} : onceTo P l rest Q .ret a w = Q .ret a w := rfl
theorem onceTo_normal {P : Program} {l : Nat} {rest : Code} {Q : Exit → Act → World → Prop} {a : Act} {w : World} : onceTo P l rest Q .normal a w = Q .normal a w := rfl
/-- A scope with jumps to one label, from ahead of it. -/
theorem wp_scope_once {P : Program} {a : Act} {w : World} {Q : Exit → Act → World → Prop} {c rest : Code} (l : Nat) (hf : findLabel c l = some rest) (h : c.wp P (onceTo P l rest Q) a w) : (Code.scope c).wp P Q a w := by
  refine wp_scope_jumps l (fun a' w' => rest.wp P (Exit.noGoto Q) a' w') (fun _ _ => 0) hf (wp_mono h ?_) (fun a' w' h' => wp_mono h' ?_)
  · intro e a' w' q
    cases e with
    | goto l' => exact q
    | _ => exact q
  · intro e a' w' q
    cases e with
    | goto l' => exact q.elim
    | _ => exact q
set_option maxRecDepth 100000 in
set_option maxHeartbeats 1600000 in
theorem vcounted {n v : Int} (CL : ∀ w, Calls Try.prog 41 #[.int .i64 n, .int .i64 0, .int .i64 1099511627776] w fun e w' => e = .returned (.int .i64 v) ∧ Kept w w') (w : World) : Calls Try.prog 23 #[.int .i64 n] w fun e w' => e = .returned (.int .i64 v) ∧ Kept w w' := by
  have CL' := Lib.hid CL
  clear CL
  go_enter Try.func23, Try.ntmps23
  go_wp2_with fail
  refine (CL'.out _).mono ?_
  rintro e w1 ⟨rfl, k1⟩
  go_wp2
  go_ret
  exact ⟨rfl, (by (repeat (first | with_reducible exact Kept.refl _ | with_reducible apply Kept.drew | with_reducible apply Kept.alloc | ((with_reducible apply Kept.set); focus (simp <;> omega)) | ((with_reducible apply Kept.via); focus with_reducible assumption))))⟩
theorem bcounted (n : Int) (w : World) : Calls Try.prog 23 #[.int .i64 n] w fun e w' => e = .returned (.int .i64 (heldTime n)) ∧ Kept w w' := vcounted (fun w => (clamp_any_s n 0 1099511627776 w).mono (fun _ _ ⟨h, k⟩ => by rw [show clampAt n 0 1099511627776 = heldTime n from by unfold clampAt heldTime; (repeat split) <;> omega] at h; exact ⟨h, k ▸ Kept.refl _⟩)) w
set_option maxRecDepth 100000 in
set_option maxHeartbeats 1600000 in
theorem vmore {h y m s r v : Int} (e1 : min s m = r) (e2 : max h r = v) (AD : ∀ w, Calls Try.prog 36 #[.int .i64 h, .int .i64 y] w fun e w' => e = .returned (.int .i64 s) ∧ Kept w w') (w : World) : Calls Try.prog 21 #[.int .i64 h, .int .i64 y, .int .i64 m] w fun e w' => e = .returned (.int .i64 v) ∧ Kept w w' := by
  have AD' := Lib.hid AD
  clear AD
  have e3 : (if m < s then m else s) = r := by rw [← e1]; split <;> omega
  have e4 : (if h < r then r else h) = v := by rw [← e2]; split <;> omega
  go_enter Try.func21, Try.ntmps21
  go_wp2_with fail
  refine (AD'.out _).mono ?_
  rintro e w1 ⟨rfl, k1⟩
  go_wp2
  go_ret
  exact ⟨rfl, (by (repeat (first | with_reducible exact Kept.refl _ | with_reducible apply Kept.drew | with_reducible apply Kept.alloc | ((with_reducible apply Kept.set); focus (simp <;> omega)) | ((with_reducible apply Kept.via); focus with_reducible assumption))))⟩
set_option maxRecDepth 100000 in
set_option maxHeartbeats 1600000 in
theorem vbounded {a h x y : Int} (CA : ∀ w, Calls Try.prog 41 #[.int .i64 a, .int .i64 0, .int .i64 1099511627776] w fun e w' => e = .returned (.int .i64 x) ∧ Kept w w') (CH : ∀ w, Calls Try.prog 41 #[.int .i64 h, .int .i64 0, .int .i64 1152921504606846976] w fun e w' => e = .returned (.int .i64 y) ∧ Kept w w') (w : World) : Calls Try.prog 29 #[.agg #[.int .i64 a, .int .i64 h]] w fun e w' => e = .returned (.agg #[.int .i64 x, .int .i64 y]) ∧ Kept w w' := by
  have CA' := Lib.hid CA
  have CH' := Lib.hid CH
  clear CA CH
  go_enter Try.func29, Try.ntmps29
  go_upto_region 1 with fail
  generalize hW : (World.alloc (World.alloc w (.cells #[.int .i64 a, .int .i64 h] 23)) (.cells #[.int .i64 0, .int .i64 0] 23)) = W0
  have R0 := Lib.hid (show RB W0 w.heap.size a h from by subst hW; exact ⟨⟨by simp [go_sem], by simp [go_sem]⟩, by simp [go_sem], by simp [go_sem]⟩)
  have Z0 := Lib.hid (show RB W0 (w.heap.size + 1) 0 0 from by subst hW; exact ⟨⟨by simp [go_sem], by simp [go_sem]⟩, by simp [go_sem], by simp [go_sem]⟩)
  have kz0 : Kept w W0 := by subst hW; exact ((Kept.refl _).alloc _ _).alloc _ _
  clear hW
  generalize hg : w.heap.size = g at *
  have gw : w.heap.size ≤ g + 1 := by omega
  have B_b := Lib.hid R0.out.1
  obtain ⟨q_0, q_1⟩ := kwn2 B_b
  refine wp_region_kept_tail 7 (by kernel_rfl) (by kernel_rfl) ?_
  simp only [List.take_succ_cons, List.take_zero, List.drop_succ_cons, List.drop_zero]
  repeat (go_big_quiet_step (first | (with_reducible exact kept_of (CA'.out _)) | (with_reducible exact kept_of (CH'.out _))))
  refine wpQuiet_nil ?_
  intro wq hw'
  have kq : Kept W0 wq := by obtain ⟨p, rfl⟩ := hw'; exact p.k
  clear hw' q_0 q_1 B_b
  have R1 := Lib.hid (R0.out.kept kq)
  have Z1 := Lib.hid (Z0.out.kept kq)
  have kz1 := Kept.trans kz0 kq
  clear R0 Z0 kz0
  have ne1 := Z1.out.ne
  obtain ⟨⟨z0, z1⟩, zf0, zf1⟩ := Z1.out
  go_wp2
  simp [bodyPost, results, Try.results29, go_sem, *]
  exact (by (repeat (first | with_reducible exact Kept.refl _ | with_reducible apply Kept.drew | with_reducible apply Kept.alloc | ((with_reducible apply Kept.set); focus (simp <;> omega)) | ((with_reducible apply Kept.via); focus with_reducible assumption))))
theorem eq18_yes (a h : Int) (w : World) : (binOp .eql 23 (.agg #[.int .i64 a, .int .i64 h]) (.agg #[.int .i64 a, .int .i64 h])).run Try.prog w = .ok (.bool true) w := by simp [go_sem]
theorem eq18_no {a h x y : Int} (n : ¬ (a = x ∧ h = y)) (w : World) : (binOp .eql 23 (.agg #[.int .i64 a, .int .i64 h]) (.agg #[.int .i64 x, .int .i64 y])).run Try.prog w = .ok (.bool false) w := by
  simp only [not_and] at n
  simp [go_sem]
  exact n
set_option maxRecDepth 100000 in
set_option maxHeartbeats 1600000 in
theorem vchk {a h x y : Int} {v : Bool} (eq : ∀ w : World, (binOp .eql 23 (.agg #[.int .i64 a, .int .i64 h]) (.agg #[.int .i64 x, .int .i64 y])).run Try.prog w = .ok (.bool v) w) (BO : ∀ w, Calls Try.prog 29 #[.agg #[.int .i64 a, .int .i64 h]] w fun e w' => e = .returned (.agg #[.int .i64 x, .int .i64 y]) ∧ Kept w w') (w : World) : Calls Try.prog 14 #[.agg #[.int .i64 a, .int .i64 h]] w fun e w' => e = .returned (.bool v) ∧ Kept w w' := by
  have BO' := Lib.hid BO
  clear BO
  go_enter Try.func14, Try.ntmps14
  go_upto_region 1 with fail
  generalize hW : World.alloc w (.cells #[.int .i64 a, .int .i64 h] 23) = W_b
  have K_b : Kept w W_b := by subst hW; exact (Kept.refl _).alloc _ _
  have H_b := Lib.hid (show W_b.cell? ⟨w.heap.size, 0, none⟩ = some (.int .i64 a) ∧ W_b.cell? ⟨w.heap.size, 1, none⟩ = some (.int .i64 h) from by subst hW; simp [go_sem])
  clear hW
  generalize w.heap.size = g_b at *
  have B_b := Lib.hid (Kept.alln2 (show Kept W_b W_b from (by (repeat (first | with_reducible exact Kept.refl _ | with_reducible apply Kept.drew | with_reducible apply Kept.alloc | ((with_reducible apply Kept.set); focus (simp <;> omega)) | ((with_reducible apply Kept.via); focus with_reducible assumption))))) H_b)
  have kall : Kept w W_b := (by (repeat (first | with_reducible exact Kept.refl _ | with_reducible apply Kept.drew | with_reducible apply Kept.alloc | ((with_reducible apply Kept.set); focus (simp <;> omega)) | ((with_reducible apply Kept.via); focus with_reducible assumption))))
  obtain ⟨q_b0, q_b1⟩ := kwn2 B_b
  clear B_b
  refine wp_region_kept (by kernel_rfl) (by as_aux_lemma => kernel_rfl) ?_
  repeat (go_big_quiet_step (first | (with_reducible exact kept_of (BO'.out _))))
  refine wpQuiet_nil ?_
  intro wq hw'
  have kq : Kept W_b wq := by obtain ⟨p, rfl⟩ := hw'; exact p.k
  clear hw'
  clear kall
  go_wp2
  go_ret
  exact ⟨rfl, Kept.trans (K_b) kq⟩
set_option maxRecDepth 100000 in
set_option maxHeartbeats 1600000 in
theorem vbyt_n {a h : Int} (CK : ∀ w, Calls Try.prog 14 #[.agg #[.int .i64 a, .int .i64 h]] w fun e w' => e = .returned (.bool false) ∧ Kept w w') (w : World) : Calls Try.prog 18 #[.agg #[.int .i64 a, .int .i64 h]] w fun e w' => e = .returned (.int .i64 0) ∧ Kept w w' := by
  have CK' := Lib.hid CK
  clear CK
  go_enter Try.func18, Try.ntmps18
  go_upto_region 1 with fail
  generalize hW : World.alloc w (.cells #[.int .i64 a, .int .i64 h] 23) = W_b
  have K_b : Kept w W_b := by subst hW; exact (Kept.refl _).alloc _ _
  have H_b := Lib.hid (show W_b.cell? ⟨w.heap.size, 0, none⟩ = some (.int .i64 a) ∧ W_b.cell? ⟨w.heap.size, 1, none⟩ = some (.int .i64 h) from by subst hW; simp [go_sem])
  clear hW
  generalize w.heap.size = g_b at *
  obtain ⟨cb0, cb1⟩ := Kept.alln2 (show Kept W_b W_b from (by (repeat (first | with_reducible exact Kept.refl _ | with_reducible apply Kept.drew | with_reducible apply Kept.alloc | ((with_reducible apply Kept.set); focus (simp <;> omega)) | ((with_reducible apply Kept.via); focus with_reducible assumption))))) H_b
  go_wp2_with fail
  refine (CK'.out _).mono ?_
  rintro e w20 ⟨rfl, k20⟩
  clear cb0 cb1
  obtain ⟨cb0, cb1⟩ := Kept.alln2 (show Kept W_b w20 from (by (repeat (first | with_reducible exact Kept.refl _ | with_reducible apply Kept.drew | with_reducible apply Kept.alloc | ((with_reducible apply Kept.set); focus (simp <;> omega)) | ((with_reducible apply Kept.via); focus with_reducible assumption))))) H_b
  go_wp2
  go_ret
  exact ⟨rfl, (by (repeat (first | with_reducible exact Kept.refl _ | with_reducible apply Kept.drew | with_reducible apply Kept.alloc | ((with_reducible apply Kept.set); focus (simp <;> omega)) | ((with_reducible apply Kept.via); focus with_reducible assumption))))⟩
set_option maxRecDepth 100000 in
set_option maxHeartbeats 1600000 in
theorem vbyt_y {a h n : Int} (CK : ∀ w, Calls Try.prog 14 #[.agg #[.int .i64 a, .int .i64 h]] w fun e w' => e = .returned (.bool true) ∧ Kept w w') (FL : ∀ w, Calls Try.prog 33 #[.int .i64 h, .int .i64 1, .int .i64 1000000] w fun e w' => e = .returned (.tuple #[.int .i64 n, .int .i64 0]) ∧ Kept w w') (w : World) : Calls Try.prog 18 #[.agg #[.int .i64 a, .int .i64 h]] w fun e w' => e = .returned (.int .i64 n) ∧ Kept w w' := by
  have CK' := Lib.hid CK
  have FL' := Lib.hid FL
  clear CK FL
  go_enter Try.func18, Try.ntmps18
  go_upto_region 1 with fail
  generalize hW : World.alloc w (.cells #[.int .i64 a, .int .i64 h] 23) = W_b
  have K_b : Kept w W_b := by subst hW; exact (Kept.refl _).alloc _ _
  have H_b := Lib.hid (show W_b.cell? ⟨w.heap.size, 0, none⟩ = some (.int .i64 a) ∧ W_b.cell? ⟨w.heap.size, 1, none⟩ = some (.int .i64 h) from by subst hW; simp [go_sem])
  clear hW
  generalize w.heap.size = g_b at *
  obtain ⟨cb0, cb1⟩ := Kept.alln2 (show Kept W_b W_b from (by (repeat (first | with_reducible exact Kept.refl _ | with_reducible apply Kept.drew | with_reducible apply Kept.alloc | ((with_reducible apply Kept.set); focus (simp <;> omega)) | ((with_reducible apply Kept.via); focus with_reducible assumption))))) H_b
  go_wp2_with fail
  refine (CK'.out _).mono ?_
  rintro e w20 ⟨rfl, k20⟩
  clear cb0 cb1
  obtain ⟨cb0, cb1⟩ := Kept.alln2 (show Kept W_b w20 from (by (repeat (first | with_reducible exact Kept.refl _ | with_reducible apply Kept.drew | with_reducible apply Kept.alloc | ((with_reducible apply Kept.set); focus (simp <;> omega)) | ((with_reducible apply Kept.via); focus with_reducible assumption))))) H_b
  go_wp2_with fail
  refine (FL'.out _).mono ?_
  rintro e w21 ⟨rfl, k21⟩
  clear cb0 cb1
  obtain ⟨cb0, cb1⟩ := Kept.alln2 (show Kept W_b w21 from (by (repeat (first | with_reducible exact Kept.refl _ | with_reducible apply Kept.drew | with_reducible apply Kept.alloc | ((with_reducible apply Kept.set); focus (simp <;> omega)) | ((with_reducible apply Kept.via); focus with_reducible assumption))))) H_b
  go_wp2
  go_ret
  exact ⟨rfl, (by (repeat (first | with_reducible exact Kept.refl _ | with_reducible apply Kept.drew | with_reducible apply Kept.alloc | ((with_reducible apply Kept.set); focus (simp <;> omega)) | ((with_reducible apply Kept.via); focus with_reducible assumption))))⟩
set_option maxRecDepth 100000 in
set_option maxHeartbeats 1600000 in
theorem vtak_m {a h n : Int} (CK : ∀ w, Calls Try.prog 14 #[.agg #[.int .i64 a, .int .i64 h]] w fun e w' => e = .returned (.bool false) ∧ Kept w w') (w : World) : Calls Try.prog 12 #[.agg #[.int .i64 a, .int .i64 h], .int .i64 n] w fun e w' => e = .returned (.tuple #[.agg #[.int .i64 a, .int .i64 h], .int .i64 201]) ∧ Kept w w' := by
  have CK' := Lib.hid CK
  clear CK
  go_enter Try.func12, Try.ntmps12
  go_wp2
  apply wp_scope_once 0
  case hf => rfl
  go_upto_region 1 with fail
  generalize hW : (World.alloc (World.alloc w (.cells #[.int .i64 a, .int .i64 h] 23)) (.cells #[.int .i64 0, .int .i64 0] 23)) = W0
  have R0 := Lib.hid (show RB W0 w.heap.size a h from by subst hW; exact ⟨⟨by simp [go_sem], by simp [go_sem]⟩, by simp [go_sem], by simp [go_sem]⟩)
  have Z0 := Lib.hid (show RB W0 (w.heap.size + 1) 0 0 from by subst hW; exact ⟨⟨by simp [go_sem], by simp [go_sem]⟩, by simp [go_sem], by simp [go_sem]⟩)
  have kz0 : Kept w W0 := by subst hW; exact ((Kept.refl _).alloc _ _).alloc _ _
  clear hW
  generalize hg : w.heap.size = g at *
  have gw : w.heap.size ≤ g + 1 := by omega
  obtain ⟨c0, c1⟩ := R0.out.1
  go_wp2_with fail
  refine (CK'.out _).mono ?_
  rintro e v0 ⟨rfl, k0⟩
  clear c0 c1
  have R1 := Lib.hid (R0.out.kept k0)
  have Z1 := Lib.hid (Z0.out.kept k0)
  have kz1 := Kept.trans kz0 k0
  clear R0 Z0 kz0
  go_wp2
  go_step3
  refine ⟨rfl, ?_⟩
  have ne0 := R1.out.ne
  have ne1 := Z1.out.ne
  obtain ⟨⟨c0, c1⟩, cf0, cf1⟩ := R1.out
  obtain ⟨⟨z0, z1⟩, zf0, zf1⟩ := Z1.out
  go_wp2
  rw [Exit.noGoto_ret]
  show bodyPost _ _ _ _ _ _
  simp [bodyPost, results, Try.results12, go_sem, *]
  exact (by (repeat (first | with_reducible exact Kept.refl _ | with_reducible apply Kept.drew | with_reducible apply Kept.alloc | ((with_reducible apply Kept.set); focus (simp <;> omega)) | ((with_reducible apply Kept.via); focus with_reducible assumption))))
set_option maxRecDepth 100000 in
set_option maxHeartbeats 1600000 in
theorem vtak_y {a h n y : Int} (d0 : decide (n < 1) = false) (d1 : decide (y < n) = false) (n0 : 1 ≤ n) (n1 : n ≤ 1152921504607) (h0 : 0 ≤ h) (h1 : h ≤ 1152921504606846976) (CK : ∀ w, Calls Try.prog 14 #[.agg #[.int .i64 a, .int .i64 h]] w fun e w' => e = .returned (.bool true) ∧ Kept w w') (YB : ∀ w, Calls Try.prog 18 #[.agg #[.int .i64 a, .int .i64 h]] w fun e w' => e = .returned (.int .i64 y) ∧ Kept w w') (w : World) : Calls Try.prog 12 #[.agg #[.int .i64 a, .int .i64 h], .int .i64 n] w fun e w' => e = .returned (.tuple #[.agg #[.int .i64 a, .int .i64 (h - n * 1000000)], .int .i64 0]) ∧ Kept w w' := by
  have CK' := Lib.hid CK
  have YB' := Lib.hid YB
  clear CK YB
  go_enter Try.func12, Try.ntmps12
  go_wp2
  apply wp_scope_once 0
  case hf => rfl
  go_upto_region 1 with fail
  generalize hW : (World.alloc (World.alloc w (.cells #[.int .i64 a, .int .i64 h] 23)) (.cells #[.int .i64 0, .int .i64 0] 23)) = W0
  have R0 := Lib.hid (show RB W0 w.heap.size a h from by subst hW; exact ⟨⟨by simp [go_sem], by simp [go_sem]⟩, by simp [go_sem], by simp [go_sem]⟩)
  have Z0 := Lib.hid (show RB W0 (w.heap.size + 1) 0 0 from by subst hW; exact ⟨⟨by simp [go_sem], by simp [go_sem]⟩, by simp [go_sem], by simp [go_sem]⟩)
  have kz0 : Kept w W0 := by subst hW; exact ((Kept.refl _).alloc _ _).alloc _ _
  clear hW
  generalize hg : w.heap.size = g at *
  have gw : w.heap.size ≤ g + 1 := by omega
  obtain ⟨c0, c1⟩ := R0.out.1
  go_wp2_with fail
  refine (CK'.out _).mono ?_
  rintro e v0 ⟨rfl, k0⟩
  clear c0 c1
  have R1 := Lib.hid (R0.out.kept k0)
  have Z1 := Lib.hid (Z0.out.kept k0)
  have kz1 := Kept.trans kz0 k0
  clear R0 Z0 kz0
  obtain ⟨c0, c1⟩ := R1.out.1
  go_wp2_with fail
  refine (YB'.out _).mono ?_
  rintro e v1 ⟨rfl, k1⟩
  clear c0 c1
  have R2 := Lib.hid (R1.out.kept k1)
  have Z2 := Lib.hid (Z1.out.kept k1)
  have kz2 := Kept.trans kz1 k1
  clear R1 Z1 kz1
  have ne0 := R2.out.ne
  have ne1 := Z2.out.ne
  obtain ⟨⟨c0, c1⟩, cf0, cf1⟩ := R2.out
  obtain ⟨⟨z0, z1⟩, zf0, zf1⟩ := Z2.out
  go_wp2
  rw [onceTo_ret]
  show bodyPost _ _ _ _ _ _
  simp [bodyPost, results, Try.results12, go_sem, *]
  exact (by (repeat (first | with_reducible exact Kept.refl _ | with_reducible apply Kept.drew | with_reducible apply Kept.alloc | ((with_reducible apply Kept.set); focus (simp <;> omega)) | ((with_reducible apply Kept.via); focus with_reducible assumption))))
set_option maxRecDepth 100000 in
set_option maxHeartbeats 1600000 in
theorem vtak_n {a h n : Int} (d0 : decide (n < 1) = true) (CK : ∀ w, Calls Try.prog 14 #[.agg #[.int .i64 a, .int .i64 h]] w fun e w' => e = .returned (.bool true) ∧ Kept w w') (w : World) : Calls Try.prog 12 #[.agg #[.int .i64 a, .int .i64 h], .int .i64 n] w fun e w' => e = .returned (.tuple #[.agg #[.int .i64 a, .int .i64 h], .int .i64 201]) ∧ Kept w w' := by
  have CK' := Lib.hid CK
  clear CK
  go_enter Try.func12, Try.ntmps12
  go_wp2
  apply wp_scope_once 0
  case hf => rfl
  go_upto_region 1 with fail
  generalize hW : (World.alloc (World.alloc w (.cells #[.int .i64 a, .int .i64 h] 23)) (.cells #[.int .i64 0, .int .i64 0] 23)) = W0
  have R0 := Lib.hid (show RB W0 w.heap.size a h from by subst hW; exact ⟨⟨by simp [go_sem], by simp [go_sem]⟩, by simp [go_sem], by simp [go_sem]⟩)
  have Z0 := Lib.hid (show RB W0 (w.heap.size + 1) 0 0 from by subst hW; exact ⟨⟨by simp [go_sem], by simp [go_sem]⟩, by simp [go_sem], by simp [go_sem]⟩)
  have kz0 : Kept w W0 := by subst hW; exact ((Kept.refl _).alloc _ _).alloc _ _
  clear hW
  generalize hg : w.heap.size = g at *
  have gw : w.heap.size ≤ g + 1 := by omega
  obtain ⟨c0, c1⟩ := R0.out.1
  go_wp2_with fail
  refine (CK'.out _).mono ?_
  rintro e v0 ⟨rfl, k0⟩
  clear c0 c1
  have R1 := Lib.hid (R0.out.kept k0)
  have Z1 := Lib.hid (Z0.out.kept k0)
  have kz1 := Kept.trans kz0 k0
  clear R0 Z0 kz0
  go_wp2
  go_step3
  refine ⟨rfl, ?_⟩
  have ne0 := R1.out.ne
  have ne1 := Z1.out.ne
  obtain ⟨⟨c0, c1⟩, cf0, cf1⟩ := R1.out
  obtain ⟨⟨z0, z1⟩, zf0, zf1⟩ := Z1.out
  go_wp2
  rw [Exit.noGoto_ret]
  show bodyPost _ _ _ _ _ _
  simp [bodyPost, results, Try.results12, go_sem, *]
  exact (by (repeat (first | with_reducible exact Kept.refl _ | with_reducible apply Kept.drew | with_reducible apply Kept.alloc | ((with_reducible apply Kept.set); focus (simp <;> omega)) | ((with_reducible apply Kept.via); focus with_reducible assumption))))
set_option maxRecDepth 100000 in
set_option maxHeartbeats 1600000 in
theorem vtak_f {a h n y : Int} (d0 : decide (n < 1) = false) (d1 : decide (y < n) = true) (CK : ∀ w, Calls Try.prog 14 #[.agg #[.int .i64 a, .int .i64 h]] w fun e w' => e = .returned (.bool true) ∧ Kept w w') (YB : ∀ w, Calls Try.prog 18 #[.agg #[.int .i64 a, .int .i64 h]] w fun e w' => e = .returned (.int .i64 y) ∧ Kept w w') (w : World) : Calls Try.prog 12 #[.agg #[.int .i64 a, .int .i64 h], .int .i64 n] w fun e w' => e = .returned (.tuple #[.agg #[.int .i64 a, .int .i64 h], .int .i64 203]) ∧ Kept w w' := by
  have CK' := Lib.hid CK
  have YB' := Lib.hid YB
  clear CK YB
  go_enter Try.func12, Try.ntmps12
  go_wp2
  apply wp_scope_once 0
  case hf => rfl
  go_upto_region 1 with fail
  generalize hW : (World.alloc (World.alloc w (.cells #[.int .i64 a, .int .i64 h] 23)) (.cells #[.int .i64 0, .int .i64 0] 23)) = W0
  have R0 := Lib.hid (show RB W0 w.heap.size a h from by subst hW; exact ⟨⟨by simp [go_sem], by simp [go_sem]⟩, by simp [go_sem], by simp [go_sem]⟩)
  have Z0 := Lib.hid (show RB W0 (w.heap.size + 1) 0 0 from by subst hW; exact ⟨⟨by simp [go_sem], by simp [go_sem]⟩, by simp [go_sem], by simp [go_sem]⟩)
  have kz0 : Kept w W0 := by subst hW; exact ((Kept.refl _).alloc _ _).alloc _ _
  clear hW
  generalize hg : w.heap.size = g at *
  have gw : w.heap.size ≤ g + 1 := by omega
  obtain ⟨c0, c1⟩ := R0.out.1
  go_wp2_with fail
  refine (CK'.out _).mono ?_
  rintro e v0 ⟨rfl, k0⟩
  clear c0 c1
  have R1 := Lib.hid (R0.out.kept k0)
  have Z1 := Lib.hid (Z0.out.kept k0)
  have kz1 := Kept.trans kz0 k0
  clear R0 Z0 kz0
  obtain ⟨c0, c1⟩ := R1.out.1
  go_wp2_with fail
  refine (YB'.out _).mono ?_
  rintro e v1 ⟨rfl, k1⟩
  clear c0 c1
  have R2 := Lib.hid (R1.out.kept k1)
  have Z2 := Lib.hid (Z1.out.kept k1)
  have kz2 := Kept.trans kz1 k1
  clear R1 Z1 kz1
  go_wp2
  go_step3
  refine ⟨rfl, ?_⟩
  have ne0 := R2.out.ne
  have ne1 := Z2.out.ne
  obtain ⟨⟨c0, c1⟩, cf0, cf1⟩ := R2.out
  obtain ⟨⟨z0, z1⟩, zf0, zf1⟩ := Z2.out
  go_wp2
  rw [Exit.noGoto_ret]
  show bodyPost _ _ _ _ _ _
  simp [bodyPost, results, Try.results12, go_sem, *]
  exact (by (repeat (first | with_reducible exact Kept.refl _ | with_reducible apply Kept.drew | with_reducible apply Kept.alloc | ((with_reducible apply Kept.set); focus (simp <;> omega)) | ((with_reducible apply Kept.via); focus with_reducible assumption))))
set_option maxRecDepth 100000 in
set_option maxHeartbeats 1600000 in
theorem vfil_m {a h t rate most : Int} (CK : ∀ w, Calls Try.prog 14 #[.agg #[.int .i64 a, .int .i64 h]] w fun e w' => e = .returned (.bool false) ∧ Kept w w') (w : World) : Calls Try.prog 10 #[.agg #[.int .i64 a, .int .i64 h], .int .i64 t, .int .i64 rate, .int .i64 most] w fun e w' => e = .returned (.tuple #[.agg #[.int .i64 a, .int .i64 h], .int .i64 201]) ∧ Kept w w' := by
  have CK' := Lib.hid CK
  clear CK
  go_enter Try.func10, Try.ntmps10
  go_wp2
  apply wp_scope_once 0
  case hf => rfl
  go_upto_region 1 with fail
  generalize hW : (World.alloc (World.alloc w (.cells #[.int .i64 a, .int .i64 h] 23)) (.cells #[.int .i64 0, .int .i64 0] 23)) = W0
  have R0 := Lib.hid (show RB W0 w.heap.size a h from by subst hW; exact ⟨⟨by simp [go_sem], by simp [go_sem]⟩, by simp [go_sem], by simp [go_sem]⟩)
  have Z0 := Lib.hid (show RB W0 (w.heap.size + 1) 0 0 from by subst hW; exact ⟨⟨by simp [go_sem], by simp [go_sem]⟩, by simp [go_sem], by simp [go_sem]⟩)
  have kz0 : Kept w W0 := by subst hW; exact ((Kept.refl _).alloc _ _).alloc _ _
  clear hW
  generalize hg : w.heap.size = g at *
  have gw : w.heap.size ≤ g + 1 := by omega
  obtain ⟨c0, c1⟩ := R0.out.1
  go_wp2_with fail
  refine (CK'.out _).mono ?_
  rintro e v0 ⟨rfl, k0⟩
  clear c0 c1
  have R1 := Lib.hid (R0.out.kept k0)
  have Z1 := Lib.hid (Z0.out.kept k0)
  have kz1 := Kept.trans kz0 k0
  clear R0 Z0 kz0
  go_wp2
  go_step3
  refine ⟨rfl, ?_⟩
  have ne0 := R1.out.ne
  have ne1 := Z1.out.ne
  obtain ⟨⟨c0, c1⟩, cf0, cf1⟩ := R1.out
  obtain ⟨⟨z0, z1⟩, zf0, zf1⟩ := Z1.out
  go_wp2
  rw [Exit.noGoto_ret]
  show bodyPost _ _ _ _ _ _
  simp [bodyPost, results, Try.results10, go_sem, *]
  exact (by (repeat (first | with_reducible exact Kept.refl _ | with_reducible apply Kept.drew | with_reducible apply Kept.alloc | ((with_reducible apply Kept.set); focus (simp <;> omega)) | ((with_reducible apply Kept.via); focus with_reducible assumption))))
set_option maxRecDepth 100000 in
set_option maxHeartbeats 1600000 in
theorem vfil_s {a h t rate most er v : Int} (z : (er == 0) = false) (z2 : ¬ er = 0) (CK : ∀ w, Calls Try.prog 14 #[.agg #[.int .i64 a, .int .i64 h]] w fun e w' => e = .returned (.bool true) ∧ Kept w w') (ST : ∀ w, Calls Try.prog 20 #[.int .i64 a, .int .i64 t] w fun e w' => e = .returned (.tuple #[.int .i64 v, .int .i64 er]) ∧ Kept w w') (w : World) : Calls Try.prog 10 #[.agg #[.int .i64 a, .int .i64 h], .int .i64 t, .int .i64 rate, .int .i64 most] w fun e w' => e = .returned (.tuple #[.agg #[.int .i64 a, .int .i64 h], .int .i64 er]) ∧ Kept w w' := by
  have CK' := Lib.hid CK
  have ST' := Lib.hid ST
  clear CK ST
  go_enter Try.func10, Try.ntmps10
  go_wp2
  apply wp_scope_once 0
  case hf => rfl
  go_upto_region 1 with fail
  generalize hW : (World.alloc (World.alloc w (.cells #[.int .i64 a, .int .i64 h] 23)) (.cells #[.int .i64 0, .int .i64 0] 23)) = W0
  have R0 := Lib.hid (show RB W0 w.heap.size a h from by subst hW; exact ⟨⟨by simp [go_sem], by simp [go_sem]⟩, by simp [go_sem], by simp [go_sem]⟩)
  have Z0 := Lib.hid (show RB W0 (w.heap.size + 1) 0 0 from by subst hW; exact ⟨⟨by simp [go_sem], by simp [go_sem]⟩, by simp [go_sem], by simp [go_sem]⟩)
  have kz0 : Kept w W0 := by subst hW; exact ((Kept.refl _).alloc _ _).alloc _ _
  clear hW
  generalize hg : w.heap.size = g at *
  have gw : w.heap.size ≤ g + 1 := by omega
  obtain ⟨c0, c1⟩ := R0.out.1
  go_wp2_with fail
  refine (CK'.out _).mono ?_
  rintro e v0 ⟨rfl, k0⟩
  clear c0 c1
  have R1 := Lib.hid (R0.out.kept k0)
  have Z1 := Lib.hid (Z0.out.kept k0)
  have kz1 := Kept.trans kz0 k0
  clear R0 Z0 kz0
  obtain ⟨c0, c1⟩ := R1.out.1
  go_wp2_with fail
  refine (ST'.out _).mono ?_
  rintro e v1 ⟨rfl, k1⟩
  clear c0 c1
  have R2 := Lib.hid (R1.out.kept k1)
  have Z2 := Lib.hid (Z1.out.kept k1)
  have kz2 := Kept.trans kz1 k1
  clear R1 Z1 kz1
  go_wp2
  go_step3
  refine ⟨rfl, ?_⟩
  have ne0 := R2.out.ne
  have ne1 := Z2.out.ne
  obtain ⟨⟨c0, c1⟩, cf0, cf1⟩ := R2.out
  obtain ⟨⟨z0, z1⟩, zf0, zf1⟩ := Z2.out
  go_wp2
  rw [Exit.noGoto_ret]
  show bodyPost _ _ _ _ _ _
  simp [bodyPost, results, Try.results10, go_sem, *]
  exact (by (repeat (first | with_reducible exact Kept.refl _ | with_reducible apply Kept.drew | with_reducible apply Kept.alloc | ((with_reducible apply Kept.set); focus (simp <;> omega)) | ((with_reducible apply Kept.via); focus with_reducible assumption))))
set_option maxRecDepth 100000 in
set_option maxHeartbeats 1600000 in
theorem vfil_y {a h t rate most r m p y x : Int} (ew : IntKind.i64.wrap (t - a) = t - a) (em : IntKind.i64.wrap (m * 1000000) = y) (CK : ∀ w, Calls Try.prog 14 #[.agg #[.int .i64 a, .int .i64 h]] w fun e w' => e = .returned (.bool true) ∧ Kept w w') (ST : ∀ w, Calls Try.prog 20 #[.int .i64 a, .int .i64 t] w fun e w' => e = .returned (.tuple #[.int .i64 t, .int .i64 0]) ∧ Kept w w') (C1 : ∀ w, Calls Try.prog 23 #[.int .i64 rate] w fun e w' => e = .returned (.int .i64 r) ∧ Kept w w') (ML : ∀ w, Calls Try.prog 22 #[.int .i64 r, .int .i64 (t - a)] w fun e w' => e = .returned (.int .i64 p) ∧ Kept w w') (C2 : ∀ w, Calls Try.prog 23 #[.int .i64 most] w fun e w' => e = .returned (.int .i64 m) ∧ Kept w w') (MO : ∀ w, Calls Try.prog 21 #[.int .i64 h, .int .i64 p, .int .i64 y] w fun e w' => e = .returned (.int .i64 x) ∧ Kept w w') (w : World) : Calls Try.prog 10 #[.agg #[.int .i64 a, .int .i64 h], .int .i64 t, .int .i64 rate, .int .i64 most] w fun e w' => e = .returned (.tuple #[.agg #[.int .i64 t, .int .i64 x], .int .i64 0]) ∧ Kept w w' := by
  have CK' := Lib.hid CK
  have ST' := Lib.hid ST
  have C1' := Lib.hid C1
  have ML' := Lib.hid ML
  have C2' := Lib.hid C2
  have MO' := Lib.hid MO
  clear CK ST C1 ML C2 MO
  go_enter Try.func10, Try.ntmps10
  go_wp2
  apply wp_scope_once 0
  case hf => rfl
  go_upto_region 1 with fail
  generalize hW : (World.alloc (World.alloc w (.cells #[.int .i64 a, .int .i64 h] 23)) (.cells #[.int .i64 0, .int .i64 0] 23)) = W0
  have R0 := Lib.hid (show RB W0 w.heap.size a h from by subst hW; exact ⟨⟨by simp [go_sem], by simp [go_sem]⟩, by simp [go_sem], by simp [go_sem]⟩)
  have Z0 := Lib.hid (show RB W0 (w.heap.size + 1) 0 0 from by subst hW; exact ⟨⟨by simp [go_sem], by simp [go_sem]⟩, by simp [go_sem], by simp [go_sem]⟩)
  have kz0 : Kept w W0 := by subst hW; exact ((Kept.refl _).alloc _ _).alloc _ _
  clear hW
  generalize hg : w.heap.size = g at *
  have gw : w.heap.size ≤ g + 1 := by omega
  obtain ⟨c0, c1⟩ := R0.out.1
  go_wp2_with fail
  refine (CK'.out _).mono ?_
  rintro e v0 ⟨rfl, k0⟩
  clear c0 c1
  have R1 := Lib.hid (R0.out.kept k0)
  have Z1 := Lib.hid (Z0.out.kept k0)
  have kz1 := Kept.trans kz0 k0
  clear R0 Z0 kz0
  obtain ⟨c0, c1⟩ := R1.out.1
  go_wp2_with fail
  refine (ST'.out _).mono ?_
  rintro e v1 ⟨rfl, k1⟩
  clear c0 c1
  have R2 := Lib.hid (R1.out.kept k1)
  have Z2 := Lib.hid (Z1.out.kept k1)
  have kz2 := Kept.trans kz1 k1
  clear R1 Z1 kz1
  go_upto_region 5 with fail
  have B_b := Lib.hid R2.out.1
  obtain ⟨q_0, q_1⟩ := kwn2 B_b
  refine wp_region_kept_tail 14 (by kernel_rfl) (by kernel_rfl) ?_
  simp only [List.take_succ_cons, List.take_zero, List.drop_succ_cons, List.drop_zero]
  repeat (go_big_quiet_step (first | (with_reducible exact kept_of (C1'.out _)) | (with_reducible exact kept_of (C2'.out _)) | (with_reducible exact kept_of (ML'.out _)) | (with_reducible exact kept_of (MO'.out _))))
  refine wpQuiet_nil ?_
  intro wq hw'
  have kq : Kept v1 wq := by obtain ⟨p, rfl⟩ := hw'; exact p.k
  clear hw' q_0 q_1 B_b
  have R3 := Lib.hid (R2.out.kept kq)
  have Z3 := Lib.hid (Z2.out.kept kq)
  have kz3 := Kept.trans kz2 kq
  clear R2 Z2 kz2
  have ne0 := R3.out.ne
  have ne1 := Z3.out.ne
  obtain ⟨⟨c0, c1⟩, cf0, cf1⟩ := R3.out
  obtain ⟨⟨z0, z1⟩, zf0, zf1⟩ := Z3.out
  go_upto_region 6 with fail
  generalize hW : World.setCell wq ⟨g, 1, none⟩ (.int .i64 x) = W_t
  have R4 := Lib.hid (show RB W_t g a x from by subst hW; exact ⟨⟨by simp [*, go_sem], by simp [*, go_sem]⟩, by simp [*, go_sem], by simp [*, go_sem]⟩)
  have Z4 := Lib.hid (show RB W_t (g + 1) 0 0 from by subst hW; exact ⟨⟨by simp [*, go_sem], by simp [*, go_sem]⟩, by simp [*, go_sem], by simp [*, go_sem]⟩)
  have kz4 : Kept w W_t := by subst hW; exact (by (repeat (first | with_reducible exact Kept.refl _ | with_reducible apply Kept.drew | with_reducible apply Kept.alloc | ((with_reducible apply Kept.set); focus (simp <;> omega)) | ((with_reducible apply Kept.via); focus with_reducible assumption))))
  clear hW c0 c1 cf0 cf1 z0 z1 zf0 zf1 ne0 ne1 R3 Z3 kz3
  have ne0 := R4.out.ne
  have ne1 := Z4.out.ne
  obtain ⟨⟨c0, c1⟩, cf0, cf1⟩ := R4.out
  obtain ⟨⟨z0, z1⟩, zf0, zf1⟩ := Z4.out
  go_wp2
  rw [onceTo_ret]
  show bodyPost _ _ _ _ _ _
  simp [bodyPost, results, Try.results10, go_sem, *]
  exact (by (repeat (first | with_reducible exact Kept.refl _ | with_reducible apply Kept.drew | with_reducible apply Kept.alloc | ((with_reducible apply Kept.set); focus (simp <;> omega)) | ((with_reducible apply Kept.via); focus with_reducible assumption))))
set_option maxRecDepth 100000 in
set_option maxHeartbeats 1600000 in
theorem vwai_m {a h n rate : Int} (CK : ∀ w, Calls Try.prog 14 #[.agg #[.int .i64 a, .int .i64 h]] w fun e w' => e = .returned (.bool false) ∧ Kept w w') (w : World) : Calls Try.prog 16 #[.agg #[.int .i64 a, .int .i64 h], .int .i64 n, .int .i64 rate] w fun e w' => e = .returned (.int .i64 0) ∧ Kept w w' := by
  have CK' := Lib.hid CK
  clear CK
  go_enter Try.func16, Try.ntmps16
  go_upto_region 1 with fail
  generalize hW : World.alloc w (.cells #[.int .i64 a, .int .i64 h] 23) = W_b
  have K_b : Kept w W_b := by subst hW; exact (Kept.refl _).alloc _ _
  have H_b := Lib.hid (show W_b.cell? ⟨w.heap.size, 0, none⟩ = some (.int .i64 a) ∧ W_b.cell? ⟨w.heap.size, 1, none⟩ = some (.int .i64 h) from by subst hW; simp [go_sem])
  clear hW
  generalize w.heap.size = g_b at *
  obtain ⟨cb0, cb1⟩ := Kept.alln2 (show Kept W_b W_b from (by (repeat (first | with_reducible exact Kept.refl _ | with_reducible apply Kept.drew | with_reducible apply Kept.alloc | ((with_reducible apply Kept.set); focus (simp <;> omega)) | ((with_reducible apply Kept.via); focus with_reducible assumption))))) H_b
  go_wp2_with fail
  refine (CK'.out _).mono ?_
  rintro e w20 ⟨rfl, k20⟩
  clear cb0 cb1
  obtain ⟨cb0, cb1⟩ := Kept.alln2 (show Kept W_b w20 from (by (repeat (first | with_reducible exact Kept.refl _ | with_reducible apply Kept.drew | with_reducible apply Kept.alloc | ((with_reducible apply Kept.set); focus (simp <;> omega)) | ((with_reducible apply Kept.via); focus with_reducible assumption))))) H_b
  go_wp2
  go_ret
  exact ⟨rfl, (by (repeat (first | with_reducible exact Kept.refl _ | with_reducible apply Kept.drew | with_reducible apply Kept.alloc | ((with_reducible apply Kept.set); focus (simp <;> omega)) | ((with_reducible apply Kept.via); focus with_reducible assumption))))⟩
set_option maxRecDepth 100000 in
set_option maxHeartbeats 1600000 in
theorem vwai_h {a h n rate k x : Int} (km : max n 0 = k) (ew : IntKind.i64.wrap (x - h) = x - h) (d0 : decide (x - h ≤ 0) = true) (l : x ≤ h) (CK : ∀ w, Calls Try.prog 14 #[.agg #[.int .i64 a, .int .i64 h]] w fun e w' => e = .returned (.bool true) ∧ Kept w w') (ML : ∀ w, Calls Try.prog 22 #[.int .i64 k, .int .i64 1000000] w fun e w' => e = .returned (.int .i64 x) ∧ Kept w w') (w : World) : Calls Try.prog 16 #[.agg #[.int .i64 a, .int .i64 h], .int .i64 n, .int .i64 rate] w fun e w' => e = .returned (.int .i64 0) ∧ Kept w w' := by
  have CK' := Lib.hid CK
  have ML' := Lib.hid ML
  clear CK ML
  go_enter Try.func16, Try.ntmps16
  go_upto_region 1 with fail
  generalize hW : World.alloc w (.cells #[.int .i64 a, .int .i64 h] 23) = W_b
  have K_b : Kept w W_b := by subst hW; exact (Kept.refl _).alloc _ _
  have H_b := Lib.hid (show W_b.cell? ⟨w.heap.size, 0, none⟩ = some (.int .i64 a) ∧ W_b.cell? ⟨w.heap.size, 1, none⟩ = some (.int .i64 h) from by subst hW; simp [go_sem])
  clear hW
  generalize w.heap.size = g_b at *
  obtain ⟨cb0, cb1⟩ := Kept.alln2 (show Kept W_b W_b from (by (repeat (first | with_reducible exact Kept.refl _ | with_reducible apply Kept.drew | with_reducible apply Kept.alloc | ((with_reducible apply Kept.set); focus (simp <;> omega)) | ((with_reducible apply Kept.via); focus with_reducible assumption))))) H_b
  go_wp2_with fail
  refine (CK'.out _).mono ?_
  rintro e w20 ⟨rfl, k20⟩
  clear cb0 cb1
  go_upto_region 3 with fail
  have B_b := Lib.hid (Kept.alln2 (show Kept W_b w20 from (by (repeat (first | with_reducible exact Kept.refl _ | with_reducible apply Kept.drew | with_reducible apply Kept.alloc | ((with_reducible apply Kept.set); focus (simp <;> omega)) | ((with_reducible apply Kept.via); focus with_reducible assumption))))) H_b)
  have kall : Kept w w20 := (by (repeat (first | with_reducible exact Kept.refl _ | with_reducible apply Kept.drew | with_reducible apply Kept.alloc | ((with_reducible apply Kept.set); focus (simp <;> omega)) | ((with_reducible apply Kept.via); focus with_reducible assumption))))
  obtain ⟨q_b0, q_b1⟩ := kwn2 B_b
  clear B_b
  refine wp_region_kept (by kernel_rfl) (by as_aux_lemma => kernel_rfl) ?_
  repeat (go_big_quiet_step (first | (with_reducible exact kept_of (ML'.out _))))
  refine wpQuiet_nil ?_
  intro wq hw'
  have kq : Kept w20 wq := by obtain ⟨p, rfl⟩ := hw'; exact p.k
  clear hw'
  clear kall
  go_wp2
  go_ret
  exact ⟨rfl, Kept.trans (Kept.trans (K_b) k20) kq⟩
set_option maxRecDepth 100000 in
set_option maxHeartbeats 1600000 in
theorem vwai_r {a h n rate k x : Int} (km : max n 0 = k) (ew : IntKind.i64.wrap (x - h) = x - h) (d0 : decide (x - h ≤ 0) = false) (l : h < x) (d1 : decide (rate < 1) = true) (CK : ∀ w, Calls Try.prog 14 #[.agg #[.int .i64 a, .int .i64 h]] w fun e w' => e = .returned (.bool true) ∧ Kept w w') (ML : ∀ w, Calls Try.prog 22 #[.int .i64 k, .int .i64 1000000] w fun e w' => e = .returned (.int .i64 x) ∧ Kept w w') (w : World) : Calls Try.prog 16 #[.agg #[.int .i64 a, .int .i64 h], .int .i64 n, .int .i64 rate] w fun e w' => e = .returned (.int .i64 1099511627776) ∧ Kept w w' := by
  have CK' := Lib.hid CK
  have ML' := Lib.hid ML
  clear CK ML
  go_enter Try.func16, Try.ntmps16
  go_upto_region 1 with fail
  generalize hW : World.alloc w (.cells #[.int .i64 a, .int .i64 h] 23) = W_b
  have K_b : Kept w W_b := by subst hW; exact (Kept.refl _).alloc _ _
  have H_b := Lib.hid (show W_b.cell? ⟨w.heap.size, 0, none⟩ = some (.int .i64 a) ∧ W_b.cell? ⟨w.heap.size, 1, none⟩ = some (.int .i64 h) from by subst hW; simp [go_sem])
  clear hW
  generalize w.heap.size = g_b at *
  obtain ⟨cb0, cb1⟩ := Kept.alln2 (show Kept W_b W_b from (by (repeat (first | with_reducible exact Kept.refl _ | with_reducible apply Kept.drew | with_reducible apply Kept.alloc | ((with_reducible apply Kept.set); focus (simp <;> omega)) | ((with_reducible apply Kept.via); focus with_reducible assumption))))) H_b
  go_wp2_with fail
  refine (CK'.out _).mono ?_
  rintro e w20 ⟨rfl, k20⟩
  clear cb0 cb1
  go_upto_region 3 with fail
  have B_b := Lib.hid (Kept.alln2 (show Kept W_b w20 from (by (repeat (first | with_reducible exact Kept.refl _ | with_reducible apply Kept.drew | with_reducible apply Kept.alloc | ((with_reducible apply Kept.set); focus (simp <;> omega)) | ((with_reducible apply Kept.via); focus with_reducible assumption))))) H_b)
  have kall : Kept w w20 := (by (repeat (first | with_reducible exact Kept.refl _ | with_reducible apply Kept.drew | with_reducible apply Kept.alloc | ((with_reducible apply Kept.set); focus (simp <;> omega)) | ((with_reducible apply Kept.via); focus with_reducible assumption))))
  obtain ⟨q_b0, q_b1⟩ := kwn2 B_b
  clear B_b
  refine wp_region_kept (by kernel_rfl) (by as_aux_lemma => kernel_rfl) ?_
  repeat (go_big_quiet_step (first | (with_reducible exact kept_of (ML'.out _))))
  refine wpQuiet_nil ?_
  intro wq hw'
  have kq : Kept w20 wq := by obtain ⟨p, rfl⟩ := hw'; exact p.k
  clear hw'
  clear kall
  go_wp2
  go_ret
  exact ⟨rfl, Kept.trans (Kept.trans (K_b) k20) kq⟩
set_option maxRecDepth 100000 in
set_option maxHeartbeats 1600000 in
theorem vwai_y {a h n rate k x r c v : Int} (km : max n 0 = k) (ew : IntKind.i64.wrap (x - h) = x - h) (d0 : decide (x - h ≤ 0) = false) (l : h < x) (d1 : decide (rate < 1) = false) (e1 : min c 1099511627776 = v) (e2 : (if 1099511627776 < c then 1099511627776 else c) = v) (CK : ∀ w, Calls Try.prog 14 #[.agg #[.int .i64 a, .int .i64 h]] w fun e w' => e = .returned (.bool true) ∧ Kept w w') (ML : ∀ w, Calls Try.prog 22 #[.int .i64 k, .int .i64 1000000] w fun e w' => e = .returned (.int .i64 x) ∧ Kept w w') (CO : ∀ w, Calls Try.prog 23 #[.int .i64 rate] w fun e w' => e = .returned (.int .i64 r) ∧ Kept w w') (CE : ∀ w, Calls Try.prog 31 #[.int .i64 (x - h), .int .i64 1, .int .i64 r] w fun e w' => e = .returned (.tuple #[.int .i64 c, .int .i64 0]) ∧ Kept w w') (w : World) : Calls Try.prog 16 #[.agg #[.int .i64 a, .int .i64 h], .int .i64 n, .int .i64 rate] w fun e w' => e = .returned (.int .i64 v) ∧ Kept w w' := by
  have CK' := Lib.hid CK
  have ML' := Lib.hid ML
  have CO' := Lib.hid CO
  have CE' := Lib.hid CE
  clear CK ML CO CE
  go_enter Try.func16, Try.ntmps16
  go_upto_region 1 with fail
  generalize hW : World.alloc w (.cells #[.int .i64 a, .int .i64 h] 23) = W_b
  have K_b : Kept w W_b := by subst hW; exact (Kept.refl _).alloc _ _
  have H_b := Lib.hid (show W_b.cell? ⟨w.heap.size, 0, none⟩ = some (.int .i64 a) ∧ W_b.cell? ⟨w.heap.size, 1, none⟩ = some (.int .i64 h) from by subst hW; simp [go_sem])
  clear hW
  generalize w.heap.size = g_b at *
  obtain ⟨cb0, cb1⟩ := Kept.alln2 (show Kept W_b W_b from (by (repeat (first | with_reducible exact Kept.refl _ | with_reducible apply Kept.drew | with_reducible apply Kept.alloc | ((with_reducible apply Kept.set); focus (simp <;> omega)) | ((with_reducible apply Kept.via); focus with_reducible assumption))))) H_b
  go_wp2_with fail
  refine (CK'.out _).mono ?_
  rintro e w20 ⟨rfl, k20⟩
  clear cb0 cb1
  go_upto_region 3 with fail
  have B_b := Lib.hid (Kept.alln2 (show Kept W_b w20 from (by (repeat (first | with_reducible exact Kept.refl _ | with_reducible apply Kept.drew | with_reducible apply Kept.alloc | ((with_reducible apply Kept.set); focus (simp <;> omega)) | ((with_reducible apply Kept.via); focus with_reducible assumption))))) H_b)
  have kall : Kept w w20 := (by (repeat (first | with_reducible exact Kept.refl _ | with_reducible apply Kept.drew | with_reducible apply Kept.alloc | ((with_reducible apply Kept.set); focus (simp <;> omega)) | ((with_reducible apply Kept.via); focus with_reducible assumption))))
  obtain ⟨q_b0, q_b1⟩ := kwn2 B_b
  clear B_b
  refine wp_region_kept (by kernel_rfl) (by as_aux_lemma => kernel_rfl) ?_
  repeat (go_big_quiet_step (first | (with_reducible exact kept_of (ML'.out _))))
  refine wpQuiet_nil ?_
  intro wq hw'
  have kq : Kept w20 wq := by obtain ⟨p, rfl⟩ := hw'; exact p.k
  clear hw'
  clear kall
  go_wp2_with fail
  refine (CO'.out _).mono ?_
  rintro e w70 ⟨rfl, k70⟩
  go_wp2_with fail
  refine (CE'.out _).mono ?_
  rintro e w71 ⟨rfl, k71⟩
  have kz := Kept.trans (Kept.trans (Kept.trans (K_b) k20) kq) (Kept.trans k70 k71)
  go_wp2
  go_ret
  exact ⟨rfl, kz⟩
theorem bmore {h p y x : Int} (ih : In64 h) (ip : In64 p) (e : max h (min (heldAt (h + p)) y) = x) (w : World) : Calls Try.prog 21 #[.int .i64 h, .int .i64 p, .int .i64 y] w fun e w' => e = .returned (.int .i64 x) ∧ Kept w w' := vmore rfl e (fun w => Add_any_s h p w ih ip) w
theorem bbounded (a h : Int) (w : World) : Calls Try.prog 29 #[.agg #[.int .i64 a, .int .i64 h]] w fun e w' => e = .returned (.agg #[.int .i64 (clampAt a 0 1099511627776), .int .i64 (clampAt h 0 1152921504606846976)]) ∧ Kept w w' := vbounded (fun w => (clamp_any_s a 0 1099511627776 w).mono (fun _ _ ⟨h, k⟩ => ⟨h, k ▸ Kept.refl _⟩)) (fun w => (clamp_any_s h 0 1152921504606846976 w).mono (fun _ _ ⟨h, k⟩ => ⟨h, k ▸ Kept.refl _⟩)) w
theorem clamp_same {n c : Int} (c0 : 0 ≤ c) : clampAt n 0 c = n ↔ 0 ≤ n ∧ n ≤ c := by
  unfold clampAt
  (repeat split) <;> omega
theorem bcheck {a h : Int} {v : Bool} (hv : v = true ↔ MayB a h) (w : World) : Calls Try.prog 14 #[.agg #[.int .i64 a, .int .i64 h]] w fun e w' => e = .returned (.bool v) ∧ Kept w w' := by
  have B := bbounded a h
  have ca := clamp_same (n := a) (c := 1099511627776) (by omega)
  have ch := clamp_same (n := h) (c := 1152921504606846976) (by omega)
  by_cases m : MayB a h
  · obtain rfl : v = true := hv.2 m
    have m1 := m.1
    unfold IsTime at m1
    rw [ca.2 m1, ch.2 m.2] at B
    exact vchk (eq18_yes a h) B w
  · obtain rfl : v = false := by cases v with
      | false => rfl
      | true => exact absurd (hv.1 rfl) m
    refine vchk (eq18_no (fun z => m ?_)) B w
    unfold MayB IsTime
    exact ⟨ca.1 z.1.symm, ch.1 z.2.symm⟩
theorem bcheck_c : BuCheckC := fun a h v _ _ hv w => bcheck hv w
theorem bbytes {a h n : Int} (hn : bytesB a h = n) (w : World) : Calls Try.prog 18 #[.agg #[.int .i64 a, .int .i64 h]] w fun e w' => e = .returned (.int .i64 n) ∧ Kept w w' := by
  by_cases m : MayB a h
  · obtain rfl : h / 1000000 = n := by rw [← hn]; unfold bytesB; rw [if_pos m]
    have m0 := m.2
    refine vbyt_y (fun w => bcheck (v := true) (by simp [m]) w) (fun w => Floor_ok (a := h) (b := 1) (c := 1000000) (by unfold In64; omega) (by unfold In64; omega) (by unfold In64; omega) ?_ w) w
    have P := part_yes (c := 1000000) (n := h / 1000000) (by omega) (by unfold In64; omega)
    rw [Int.mul_one]
    exact P
  · obtain rfl : 0 = n := by rw [← hn]; unfold bytesB; rw [if_neg m]
    exact vbyt_n (fun w => bcheck (v := false) (by simp [m]) w) w
theorem bbytes_c : BuBytesC := fun a h t _ _ hn w => bbytes hn w
theorem btake {a h n h' er : Int} (f : TakeIs a h n h' er) (w : World) : Calls Try.prog 12 #[.agg #[.int .i64 a, .int .i64 h], .int .i64 n] w fun e w' => e = .returned (.tuple #[.agg #[.int .i64 a, .int .i64 h'], .int .i64 er]) ∧ Kept w w' := by
  rcases f with ⟨f, rfl, rfl⟩ | ⟨m, n0, l, rfl, rfl⟩ | ⟨m, n0, l, rfl, rfl⟩
  · by_cases m : MayB a h'
    · exact vtak_n (by simp; rcases (show n < 1 ∨ 1 ≤ n by omega) with z | z; omega; exact absurd ⟨m, z⟩ f) (fun w => bcheck (v := true) (by simp [m]) w) w
    · exact vtak_m (fun w => bcheck (v := false) (by simp [m]) w) w
  · exact vtak_f (y := h' / 1000000) (by simp; omega) (by simp [l]) (fun w => bcheck (v := true) (by simp [m]) w) (fun w => bbytes (by unfold bytesB; rw [if_pos m]) w) w
  · have := m.2.2
    rw [show h - 1000000 * n = h - n * 1000000 by omega]
    exact vtak_y (y := h / 1000000) (by simp; omega) (by simp; omega) n0 (by omega) m.2.1 m.2.2 (fun w => bcheck (v := true) (by simp [m]) w) (fun w => bbytes (by unfold bytesB; rw [if_pos m]) w) w
theorem btake_c : BuTakeC := fun a h n h' er _ _ _ f w => btake f w
theorem bfill {a h t rate most a' h' er : Int} (f : FillIs a h t rate most a' h' er) (w : World) : Calls Try.prog 10 #[.agg #[.int .i64 a, .int .i64 h], .int .i64 t, .int .i64 rate, .int .i64 most] w fun e w' => e = .returned (.tuple #[.agg #[.int .i64 a', .int .i64 h'], .int .i64 er]) ∧ Kept w w' := by
  rcases f with ⟨m, rfl, rfl, rfl⟩ | ⟨m, ht, rfl, rfl, rfl⟩ | ⟨m, ht, l, rfl, rfl, rfl⟩ | ⟨m, ht, l, rfl, rfl, rfl⟩
  · exact vfil_m (fun w => bcheck (v := false) (by simp [m]) w) w
  · exact vfil_s (by decide) (by decide) (fun w => bcheck (v := true) (by simp [m]) w) (fun w => Step_ok (Or.inl ⟨ht, rfl, rfl⟩) w) w
  · exact vfil_s (by decide) (by decide) (fun w => bcheck (v := true) (by simp [m]) w) (fun w => Step_ok (Or.inr (Or.inl ⟨ht, l, rfl, rfl⟩)) w) w
  · have q := m.1
    unfold IsTime at q ht
    have tk := taken_range rate
    have tm := taken_range most
    have ih : In64 h := by have := m.2.1; have := m.2.2; unfold In64; omega
    have e : max h (min (heldAt (h + heldAt (heldTime rate * (a' - a)))) (heldTime most * 1000000)) = fillB h rate (a' - a) most := by
      unfold fillB capB rawB topN
      split <;> split <;> omega
    exact vfil_y (m := heldTime most) (p := heldAt (heldTime rate * (a' - a))) (y := heldTime most * 1000000) (by rw [IntKind.wrap_i64]; omega) (by rw [IntKind.wrap_i64]; omega)
      (fun w => bcheck (v := true) (by simp [m]) w) (fun w => Step_ok (Or.inr (Or.inr ⟨ht, l, rfl, rfl⟩)) w) (fun w => bcounted rate w)
      (fun w => Mul_any_s (heldTime rate) (a' - a) w (by unfold In64; omega) (by unfold In64; omega)) (fun w => bcounted most w) (fun w => bmore ih (heldAt_in _) e w) w
theorem bfill_c : BuFillC := fun a h at_ rate most a' h' er _ _ _ _ _ f w => bfill f w
theorem bwait {a h n rate t : Int} (hn : In64 n) (e : waitB a h n rate = t) (w : World) : Calls Try.prog 16 #[.agg #[.int .i64 a, .int .i64 h], .int .i64 n, .int .i64 rate] w fun e w' => e = .returned (.int .i64 t) ∧ Kept w w' := by
  have km : max n 0 = (if n < 0 then 0 else n) := by split <;> omega
  have ik : In64 (if n < 0 then 0 else n) := by unfold In64 at *; split <;> omega
  have ML : ∀ w, Calls Try.prog 22 #[.int .i64 (if n < 0 then 0 else n), .int .i64 1000000] w fun e w' => e = .returned (.int .i64 (needB n)) ∧ Kept w w' := fun w => Mul_any_s (if n < 0 then 0 else n) 1000000 w ik (by unfold In64; omega)
  have nb : In64 (needB n) := heldAt_in _
  have n0 : 0 ≤ needB n := by
    have z : 0 ≤ (if n < 0 then 0 else n) * 1000000 := by split <;> omega
    unfold needB heldAt
    split
    · omega
    · split <;> omega
  unfold In64 at nb
  unfold waitB at e
  by_cases m : MayB a h
  · have CK := fun w => bcheck (a := a) (h := h) (v := true) (by simp [m]) w
    have h0 := m.2
    have ew : IntKind.i64.wrap (needB n - h) = needB n - h := by rw [IntKind.wrap_i64]; omega
    by_cases l : needB n ≤ h
    · rw [if_pos (Or.inr l)] at e; subst e
      exact vwai_h km ew (by simp; omega) l CK ML w
    · rw [if_neg (by intro z; rcases z with z | z; exact z m; exact l z)] at e
      by_cases r : rate < 1
      · rw [if_pos r] at e; subst e
        exact vwai_r km ew (by simp; omega) (by omega) (by simp [r]) CK ML w
      · rw [if_neg r] at e
        have tk : 1 ≤ heldTime rate ∧ heldTime rate ≤ 1099511627776 := by unfold heldTime; split <;> (try split) <;> omega
        have cp := ceil_pos (m := needB n - h) (by omega) tk.1
        have cl := ceil_least (m := needB n - h) tk.1
        have cb : In64 (ceilOf (needB n - h) (heldTime rate)) := by
          have a1 : (ceilOf (needB n - h) (heldTime rate) - 1) * 1 ≤ (ceilOf (needB n - h) (heldTime rate) - 1) * heldTime rate ∨ ceilOf (needB n - h) (heldTime rate) - 1 < 0 := by
            rcases Int.lt_or_le (ceilOf (needB n - h) (heldTime rate) - 1) 0 with z | z
            · exact Or.inr z
            · exact Or.inl (Int.mul_le_mul_of_nonneg_left tk.1 z)
          unfold In64; omega
        have CE := fun w => Ceil_ok (a := needB n - h) (b := 1) (c := heldTime rate) (by unfold In64; omega) (by unfold In64; omega) (by unfold In64; omega) (part_yes tk.1 (show In64 (ceilOf ((needB n - h) * 1) (heldTime rate)) from by rw [Int.mul_one]; exact cb)) w
        rw [Int.mul_one] at CE
        exact vwai_y km ew (by simp; omega) (by omega) (by simp; omega) (by rw [← e]; split <;> omega) e CK ML (fun w => bcounted rate w) CE w
  · rw [if_pos (Or.inl m)] at e; subst e
    exact vwai_m (fun w => bcheck (v := false) (by simp [m]) w) w
theorem bwait_c : BuWaitC := fun a h n rate t _ _ hn _ e w => bwait hn e w
end Go.Proofs.Ytlgpeafphanobaa
