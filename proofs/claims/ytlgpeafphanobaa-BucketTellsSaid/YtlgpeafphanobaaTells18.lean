/-
  The walk of BucketTells: it answers true, if the calls do what they are to do.
-/
import Derived.Test.YtlgpeafphanobaaAwake18
import Derived.Test.YtlgpeafphanobaaRef18
import Derived.Deep.RegionHeld3
import Derived.Deep.DeepCutAuto
namespace Go.Proofs.Ytlgpeafphanobaa
open Go.RowKit Go.BigFrame
set_option linter.unusedVariables false

set_option maxRecDepth 100000 in
set_option maxHeartbeats 1600000 in
theorem tells18_all (CC : BuCheckC) (FC : BuFillC) (TC : BuTakeC) (WC : BuWaitC) (YC : BuBytesC) {a h t rate most n a1 h1 e1 h2 e2 u y : Int} {v : Bool} (ia : In64 a) (ih : In64 h) (it : In64 t) (ir : In64 rate) (im : In64 most) (i_n : In64 n) (f1 : FillIs a h t rate most a1 h1 e1) (f2 : TakeIs a h n h2 e2) (f3 : v = true ↔ MayB a h) (f4 : waitB a h n rate = u) (f5 : bytesB a h = y) (w : World) : Calls Try.prog 3 #[.agg #[.int .i64 a, .int .i64 h], .int .i64 t, .int .i64 rate, .int .i64 most, .int .i64 n] w fun e w' => e = .returned (.bool true) ∧ Kept w w' := by
  have CC' := Lib.hid CC
  have FC' := Lib.hid FC
  have TC' := Lib.hid TC
  have WC' := Lib.hid WC
  have YC' := Lib.hid YC
  have AW' := Lib.hid (fun w => awake18 CC FC TC WC YC w)
  clear CC FC TC WC YC
  have Q1 := Lib.hid (fun w_ => FC'.out a h t rate most a1 h1 e1 ia ih it ir im f1 w_)
  have Q2 := Lib.hid (fun w_ => refFill18_ok it f1 w_)
  have Q3 := Lib.hid (fun w_ => TC'.out a h n h2 e2 ia ih i_n f2 w_)
  have Q4 := Lib.hid (fun w_ => refTake18_ok f2 w_)
  have C1 := Lib.hid (fun w_ => CC'.out a h v ia ih f3 w_)
  have C2 := Lib.hid (fun w_ => refCheck18_ok v f3 w_)
  have V1 := Lib.hid (fun w_ => WC'.out a h n rate u ia ih i_n ir f4 w_)
  have V2 := Lib.hid (fun w_ => refWait18_ok i_n f4 w_)
  have Y1 := Lib.hid (fun w_ => YC'.out a h y ia ih f5 w_)
  have Y2 := Lib.hid (fun w_ => refBytes18_ok f5 w_)
  clear ia ih it ir im i_n f1 f2 f3 f4 f5
  go_enter Try.func3, Try.ntmps3
  go_upto_region 1 with fail
  generalize hW : World.alloc w (.cells #[.int .i64 a, .int .i64 h] 23) = W_b
  have K_b : Kept w W_b := by subst hW; exact (Kept.refl _).alloc _ _
  have H_b := Lib.hid (show W_b.cell? ⟨w.heap.size, 0, none⟩ = some (.int .i64 a) ∧ W_b.cell? ⟨w.heap.size, 1, none⟩ = some (.int .i64 h) from by subst hW; simp [go_sem])
  clear hW
  generalize w.heap.size = g_b at *
  go_wp2_with fail
  refine (AW'.out _).mono ?_
  rintro e w20 ⟨rfl, k20⟩
  obtain ⟨cb0, cb1⟩ := Kept.alln2 (show Kept W_b w20 from (by (repeat (first | with_reducible exact Kept.refl _ | with_reducible apply Kept.drew | with_reducible apply Kept.alloc | ((with_reducible apply Kept.set); focus (simp <;> omega)) | ((with_reducible apply Kept.via); focus with_reducible assumption))))) H_b
  go_wp2_with fail
  refine (Q1.out _).mono ?_
  rintro e w21 ⟨rfl, k21⟩
  clear cb0 cb1
  go_upto_region 3 with fail
  generalize hW : World.alloc w21 (.cells #[.int .i64 a1, .int .i64 h1] 23) = W_x
  have K_x : Kept w21 W_x := by subst hW; exact (Kept.refl _).alloc _ _
  have H_x := Lib.hid (show W_x.cell? ⟨w21.heap.size, 0, none⟩ = some (.int .i64 a1) ∧ W_x.cell? ⟨w21.heap.size, 1, none⟩ = some (.int .i64 h1) from by subst hW; simp [go_sem])
  clear hW
  generalize w21.heap.size = g_x at *
  obtain ⟨cb0, cb1⟩ := Kept.alln2 (show Kept W_b W_x from (by (repeat (first | with_reducible exact Kept.refl _ | with_reducible apply Kept.drew | with_reducible apply Kept.alloc | ((with_reducible apply Kept.set); focus (simp <;> omega)) | ((with_reducible apply Kept.via); focus with_reducible assumption))))) H_b
  go_wp2_with fail
  refine (Q2.out _).mono ?_
  rintro e w22 ⟨rfl, k22⟩
  clear cb0 cb1
  go_upto_region 4 with fail
  generalize hW : World.alloc w22 (.cells #[.int .i64 a1, .int .i64 h1] 23) = W_y
  have K_y : Kept w22 W_y := by subst hW; exact (Kept.refl _).alloc _ _
  have H_y := Lib.hid (show W_y.cell? ⟨w22.heap.size, 0, none⟩ = some (.int .i64 a1) ∧ W_y.cell? ⟨w22.heap.size, 1, none⟩ = some (.int .i64 h1) from by subst hW; simp [go_sem])
  clear hW
  generalize w22.heap.size = g_y at *
  obtain ⟨cb0, cb1⟩ := Kept.alln2 (show Kept W_b W_y from (by (repeat (first | with_reducible exact Kept.refl _ | with_reducible apply Kept.drew | with_reducible apply Kept.alloc | ((with_reducible apply Kept.set); focus (simp <;> omega)) | ((with_reducible apply Kept.via); focus with_reducible assumption))))) H_b
  go_wp2_with fail
  refine (Q3.out _).mono ?_
  rintro e w23 ⟨rfl, k23⟩
  clear cb0 cb1
  go_upto_region 5 with fail
  generalize hW : World.alloc w23 (.cells #[.int .i64 a, .int .i64 h2] 23) = W_p
  have K_p : Kept w23 W_p := by subst hW; exact (Kept.refl _).alloc _ _
  have H_p := Lib.hid (show W_p.cell? ⟨w23.heap.size, 0, none⟩ = some (.int .i64 a) ∧ W_p.cell? ⟨w23.heap.size, 1, none⟩ = some (.int .i64 h2) from by subst hW; simp [go_sem])
  clear hW
  generalize w23.heap.size = g_p at *
  obtain ⟨cb0, cb1⟩ := Kept.alln2 (show Kept W_b W_p from (by (repeat (first | with_reducible exact Kept.refl _ | with_reducible apply Kept.drew | with_reducible apply Kept.alloc | ((with_reducible apply Kept.set); focus (simp <;> omega)) | ((with_reducible apply Kept.via); focus with_reducible assumption))))) H_b
  go_wp2_with fail
  refine (Q4.out _).mono ?_
  rintro e w24 ⟨rfl, k24⟩
  clear cb0 cb1
  go_upto_region 6 with fail
  generalize hW : World.alloc w24 (.cells #[.int .i64 a, .int .i64 h2] 23) = W_q
  have K_q : Kept w24 W_q := by subst hW; exact (Kept.refl _).alloc _ _
  have H_q := Lib.hid (show W_q.cell? ⟨w24.heap.size, 0, none⟩ = some (.int .i64 a) ∧ W_q.cell? ⟨w24.heap.size, 1, none⟩ = some (.int .i64 h2) from by subst hW; simp [go_sem])
  clear hW
  generalize w24.heap.size = g_q at *
  go_upto_region 6 with fail
  have B_b := Lib.hid (Kept.alln2 (show Kept W_b W_q from (by (repeat (first | with_reducible exact Kept.refl _ | with_reducible apply Kept.drew | with_reducible apply Kept.alloc | ((with_reducible apply Kept.set); focus (simp <;> omega)) | ((with_reducible apply Kept.via); focus with_reducible assumption))))) H_b)
  have B_x := Lib.hid (Kept.alln2 (show Kept W_x W_q from (by (repeat (first | with_reducible exact Kept.refl _ | with_reducible apply Kept.drew | with_reducible apply Kept.alloc | ((with_reducible apply Kept.set); focus (simp <;> omega)) | ((with_reducible apply Kept.via); focus with_reducible assumption))))) H_x)
  have B_y := Lib.hid (Kept.alln2 (show Kept W_y W_q from (by (repeat (first | with_reducible exact Kept.refl _ | with_reducible apply Kept.drew | with_reducible apply Kept.alloc | ((with_reducible apply Kept.set); focus (simp <;> omega)) | ((with_reducible apply Kept.via); focus with_reducible assumption))))) H_y)
  have B_p := Lib.hid (Kept.alln2 (show Kept W_p W_q from (by (repeat (first | with_reducible exact Kept.refl _ | with_reducible apply Kept.drew | with_reducible apply Kept.alloc | ((with_reducible apply Kept.set); focus (simp <;> omega)) | ((with_reducible apply Kept.via); focus with_reducible assumption))))) H_p)
  have B_q := Lib.hid (Kept.alln2 (show Kept W_q W_q from (by (repeat (first | with_reducible exact Kept.refl _ | with_reducible apply Kept.drew | with_reducible apply Kept.alloc | ((with_reducible apply Kept.set); focus (simp <;> omega)) | ((with_reducible apply Kept.via); focus with_reducible assumption))))) H_q)
  have kall : Kept w W_q := (by (repeat (first | with_reducible exact Kept.refl _ | with_reducible apply Kept.drew | with_reducible apply Kept.alloc | ((with_reducible apply Kept.set); focus (simp <;> omega)) | ((with_reducible apply Kept.via); focus with_reducible assumption))))
  obtain ⟨q_b0, q_b1⟩ := kwn2 B_b
  obtain ⟨q_x0, q_x1⟩ := kwn2 B_x
  obtain ⟨q_y0, q_y1⟩ := kwn2 B_y
  obtain ⟨q_p0, q_p1⟩ := kwn2 B_p
  obtain ⟨q_q0, q_q1⟩ := kwn2 B_q
  clear B_b B_x B_y B_p B_q
  refine wp_region_kept (by kernel_rfl) (by as_aux_lemma => kernel_rfl) ?_
  repeat (go_big_quiet_step (first | (with_reducible exact kept_of (C1.out _)) | (with_reducible exact kept_of (C2.out _)) | (with_reducible exact kept_of (V1.out _)) | (with_reducible exact kept_of (V2.out _)) | (with_reducible exact kept_of (Y1.out _)) | (with_reducible exact kept_of (Y2.out _))))
  refine wpQuiet_nil ?_
  intro wq hw'
  have kq : Kept W_q wq := by obtain ⟨p, rfl⟩ := hw'; exact p.k
  clear hw'
  clear kall
  go_wp2
  go_ret
  exact ⟨rfl, Kept.trans (Kept.trans (Kept.trans (Kept.trans (Kept.trans (Kept.trans (Kept.trans (Kept.trans (Kept.trans (Kept.trans (K_b) k20) k21) K_x) k22) K_y) k23) K_p) k24) K_q) kq⟩
theorem bucketTells_walk (CC : BuCheckC) (FC : BuFillC) (TC : BuTakeC) (WC : BuWaitC) (YC : BuBytesC) (a h t rate most n : Int) (w : World) (ia : In64 a) (ih : In64 h) (it : In64 t) (ir : In64 rate) (im : In64 most) (i_n : In64 n) : Calls Try.prog 3 #[.agg #[.int .i64 a, .int .i64 h], .int .i64 t, .int .i64 rate, .int .i64 most, .int .i64 n] w fun e w' => e = .returned (.bool true) ∧ Kept w w' := by
  obtain ⟨a1, h1, e1, f1⟩ := fill_ex a h t rate most
  obtain ⟨h2, e2, f2⟩ := take_ex a h n
  exact tells18_all CC FC TC WC YC (v := decide (MayB a h)) ia ih it ir im i_n f1 f2 (by simp) rfl rfl w
end Go.Proofs.Ytlgpeafphanobaa
