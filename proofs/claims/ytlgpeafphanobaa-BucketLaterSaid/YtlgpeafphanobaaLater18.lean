/-
  The walk of BucketLater: it answers true, if the calls do what they are to do.
-/
import Derived.Test.YtlgpeafphanobaaAwake18
import Derived.Deep.RegionHeld3
import Derived.Deep.DeepCutAuto
namespace Go.Proofs.Ytlgpeafphanobaa
open Go.RowKit Go.BigFrame
set_option linter.unusedVariables false

set_option maxRecDepth 100000 in
set_option maxHeartbeats 1600000 in
theorem later18_no (CC : BuCheckC) (FC : BuFillC) (TC : BuTakeC) (WC : BuWaitC) (YC : BuBytesC) {a h y x rate most n : Int} (ia : In64 a) (ih : In64 h) (m : ¬ MayB a h) (w : World) : Calls Try.prog 8 #[.agg #[.int .i64 a, .int .i64 h], .int .u32 y, .int .u32 x, .int .i64 rate, .int .i64 most, .int .i64 n] w fun e w' => e = .returned (.bool true) ∧ Kept w w' := by
  have CC' := Lib.hid CC
  have FC' := Lib.hid FC
  have TC' := Lib.hid TC
  have WC' := Lib.hid WC
  have YC' := Lib.hid YC
  have AW' := Lib.hid (fun w => awake18 CC FC TC WC YC w)
  clear CC FC TC WC YC
  have Q0 := Lib.hid (fun w_ => CC'.out a h false ia ih (by simp [m]) w_)
  clear ia ih m
  go_enter Try.func8, Try.ntmps8
  go_upto_region 1 with fail
  generalize hW : World.alloc w (.cells #[.int .i64 a, .int .i64 h] 23) = W_b
  have K_b : Kept w W_b := by subst hW; exact (Kept.refl _).alloc _ _
  have H_b := Lib.hid (show W_b.cell? ⟨w.heap.size, 0, none⟩ = some (.int .i64 a) ∧ W_b.cell? ⟨w.heap.size, 1, none⟩ = some (.int .i64 h) from by subst hW; simp [go_sem])
  clear hW
  generalize w.heap.size = g_b at *
  go_wp2_with fail
  refine (AW'.out _).mono ?_
  rintro e w20 ⟨rfl, k20⟩
  obtain ⟨cb0, cb1⟩ := Kept.alln2 (show Kept W_b w20 from (by (repeat (first | with_reducible exact Kept.refl _ | with_reducible apply Kept.drew | with_reducible apply Kept.alloc | ((with_reducible apply Kept.set); focus (simp <;> omega)) | ((with_reducible apply Kept.via); focus with_reducible assumption))))) H_b
  go_wp2_with fail
  refine (Q0.out _).mono ?_
  rintro e w21 ⟨rfl, k21⟩
  clear cb0 cb1
  go_wp2
  go_ret
  exact ⟨rfl, (by (repeat (first | with_reducible exact Kept.refl _ | with_reducible apply Kept.drew | with_reducible apply Kept.alloc | ((with_reducible apply Kept.set); focus (simp <;> omega)) | ((with_reducible apply Kept.via); focus with_reducible assumption))))⟩
set_option maxRecDepth 100000 in
set_option maxHeartbeats 1600000 in
theorem later18_far (CC : BuCheckC) (FC : BuFillC) (TC : BuTakeC) (WC : BuWaitC) (YC : BuBytesC) {a h y x rate most n : Int} (ia : In64 a) (ih : In64 h) (m : MayB a h) (l : 274877906944 < a) (w : World) : Calls Try.prog 8 #[.agg #[.int .i64 a, .int .i64 h], .int .u32 y, .int .u32 x, .int .i64 rate, .int .i64 most, .int .i64 n] w fun e w' => e = .returned (.bool true) ∧ Kept w w' := by
  have CC' := Lib.hid CC
  have FC' := Lib.hid FC
  have TC' := Lib.hid TC
  have WC' := Lib.hid WC
  have YC' := Lib.hid YC
  have AW' := Lib.hid (fun w => awake18 CC FC TC WC YC w)
  clear CC FC TC WC YC
  have Q0 := Lib.hid (fun w_ => CC'.out a h true ia ih (by simp [m]) w_)
  clear ia ih m
  have d0 : decide (274877906944 < a) = true := by simp [l]
  go_enter Try.func8, Try.ntmps8
  go_upto_region 1 with fail
  generalize hW : World.alloc w (.cells #[.int .i64 a, .int .i64 h] 23) = W_b
  have K_b : Kept w W_b := by subst hW; exact (Kept.refl _).alloc _ _
  have H_b := Lib.hid (show W_b.cell? ⟨w.heap.size, 0, none⟩ = some (.int .i64 a) ∧ W_b.cell? ⟨w.heap.size, 1, none⟩ = some (.int .i64 h) from by subst hW; simp [go_sem])
  clear hW
  generalize w.heap.size = g_b at *
  go_wp2_with fail
  refine (AW'.out _).mono ?_
  rintro e w20 ⟨rfl, k20⟩
  obtain ⟨cb0, cb1⟩ := Kept.alln2 (show Kept W_b w20 from (by (repeat (first | with_reducible exact Kept.refl _ | with_reducible apply Kept.drew | with_reducible apply Kept.alloc | ((with_reducible apply Kept.set); focus (simp <;> omega)) | ((with_reducible apply Kept.via); focus with_reducible assumption))))) H_b
  go_wp2_with fail
  refine (Q0.out _).mono ?_
  rintro e w21 ⟨rfl, k21⟩
  clear cb0 cb1
  obtain ⟨cb0, cb1⟩ := Kept.alln2 (show Kept W_b w21 from (by (repeat (first | with_reducible exact Kept.refl _ | with_reducible apply Kept.drew | with_reducible apply Kept.alloc | ((with_reducible apply Kept.set); focus (simp <;> omega)) | ((with_reducible apply Kept.via); focus with_reducible assumption))))) H_b
  go_wp2
  go_ret
  exact ⟨rfl, (by (repeat (first | with_reducible exact Kept.refl _ | with_reducible apply Kept.drew | with_reducible apply Kept.alloc | ((with_reducible apply Kept.set); focus (simp <;> omega)) | ((with_reducible apply Kept.via); focus with_reducible assumption))))⟩
set_option maxRecDepth 100000 in
set_option maxHeartbeats 1600000 in
theorem later18_in (CC : BuCheckC) (FC : BuFillC) (TC : BuTakeC) (WC : BuWaitC) (YC : BuBytesC) {a h y x rate most n p u v : Int} (m : MayB a h) (l : a ≤ 274877906944) (x0 : 0 ≤ x) (x1 : x ≤ 4294967295) (y0 : 0 ≤ y) (y1 : y ≤ 4294967295) (ir : In64 rate) (im : In64 most) (i_n : In64 n) (f1 : FillIs a h (a + x) rate most (a + x) p 0) (f2 : FillIs (a + y) h (a + y + x) rate most (a + x + y) p 0) (f3 : waitB a h n rate = u) (f4 : waitB (a + y) h n rate = u) (f5 : bytesB a h = v) (f6 : bytesB (a + y) h = v) (w : World) : Calls Try.prog 8 #[.agg #[.int .i64 a, .int .i64 h], .int .u32 y, .int .u32 x, .int .i64 rate, .int .i64 most, .int .i64 n] w fun e w' => e = .returned (.bool true) ∧ Kept w w' := by
  have CC' := Lib.hid CC
  have FC' := Lib.hid FC
  have TC' := Lib.hid TC
  have WC' := Lib.hid WC
  have YC' := Lib.hid YC
  have AW' := Lib.hid (fun w => awake18 CC FC TC WC YC w)
  clear CC FC TC WC YC
  have a0 : 0 ≤ a := m.1.1
  have h0 : 0 ≤ h := m.2.1
  have h1 : h ≤ 1152921504606846976 := m.2.2
  have Q0 := Lib.hid (fun w_ => CC'.out a h true (by unfold In64; omega) (by unfold In64; omega) (by simp [m]) w_)
  have Q1 := Lib.hid (fun w_ => FC'.out a h (a + x) rate most (a + x) p 0 (by unfold In64; omega) (by unfold In64; omega) (by unfold In64; omega) ir im f1 w_)
  have Q2 := Lib.hid (fun w_ => FC'.out (a + y) h (a + y + x) rate most (a + x + y) p 0 (by unfold In64; omega) (by unfold In64; omega) (by unfold In64; omega) ir im f2 w_)
  have W1 := Lib.hid (fun w_ => WC'.out a h n rate u (by unfold In64; omega) (by unfold In64; omega) i_n ir f3 w_)
  have W2 := Lib.hid (fun w_ => WC'.out (a + y) h n rate u (by unfold In64; omega) (by unfold In64; omega) i_n ir f4 w_)
  have Y1 := Lib.hid (fun w_ => YC'.out a h v (by unfold In64; omega) (by unfold In64; omega) f5 w_)
  have Y2 := Lib.hid (fun w_ => YC'.out (a + y) h v (by unfold In64; omega) (by unfold In64; omega) f6 w_)
  clear f1 f2 f3 f4 f5 f6 m ir im i_n
  have d0 : decide (274877906944 < a) = false := by simp; omega
  have ew : IntKind.i64.wrap (a + x + y) = a + x + y := by rw [IntKind.wrap_i64]; omega
  have ew2 : IntKind.i64.wrap y = y := by rw [IntKind.wrap_i64]; omega
  go_enter Try.func8, Try.ntmps8
  go_upto_region 1 with fail
  generalize hW : World.alloc w (.cells #[.int .i64 a, .int .i64 h] 23) = W_b
  have K_b : Kept w W_b := by subst hW; exact (Kept.refl _).alloc _ _
  have H_b := Lib.hid (show W_b.cell? ⟨w.heap.size, 0, none⟩ = some (.int .i64 a) ∧ W_b.cell? ⟨w.heap.size, 1, none⟩ = some (.int .i64 h) from by subst hW; simp [go_sem])
  clear hW
  generalize w.heap.size = g_b at *
  go_wp2_with fail
  refine (AW'.out _).mono ?_
  rintro e w20 ⟨rfl, k20⟩
  obtain ⟨cb0, cb1⟩ := Kept.alln2 (show Kept W_b w20 from (by (repeat (first | with_reducible exact Kept.refl _ | with_reducible apply Kept.drew | with_reducible apply Kept.alloc | ((with_reducible apply Kept.set); focus (simp <;> omega)) | ((with_reducible apply Kept.via); focus with_reducible assumption))))) H_b
  go_wp2_with fail
  refine (Q0.out _).mono ?_
  rintro e w21 ⟨rfl, k21⟩
  clear cb0 cb1
  obtain ⟨cb0, cb1⟩ := Kept.alln2 (show Kept W_b w21 from (by (repeat (first | with_reducible exact Kept.refl _ | with_reducible apply Kept.drew | with_reducible apply Kept.alloc | ((with_reducible apply Kept.set); focus (simp <;> omega)) | ((with_reducible apply Kept.via); focus with_reducible assumption))))) H_b
  go_upto_region 5 with fail
  generalize hW : World.alloc w21 (.cells #[.int .i64 (a + y), .int .i64 h] 23) = W_c
  have K_c : Kept w21 W_c := by subst hW; exact (Kept.refl _).alloc _ _
  have H_c := Lib.hid (show W_c.cell? ⟨w21.heap.size, 0, none⟩ = some (.int .i64 (a + y)) ∧ W_c.cell? ⟨w21.heap.size, 1, none⟩ = some (.int .i64 h) from by subst hW; simp [go_sem])
  clear hW
  generalize w21.heap.size = g_c at *
  clear cb0 cb1
  obtain ⟨cb0, cb1⟩ := Kept.alln2 (show Kept W_b W_c from (by (repeat (first | with_reducible exact Kept.refl _ | with_reducible apply Kept.drew | with_reducible apply Kept.alloc | ((with_reducible apply Kept.set); focus (simp <;> omega)) | ((with_reducible apply Kept.via); focus with_reducible assumption))))) H_b
  go_wp2_with fail
  refine (Q1.out _).mono ?_
  rintro e w22 ⟨rfl, k22⟩
  clear cb0 cb1
  go_upto_region 6 with fail
  generalize hW : World.alloc w22 (.cells #[.int .i64 (a + x), .int .i64 p] 23) = W_x
  have K_x : Kept w22 W_x := by subst hW; exact (Kept.refl _).alloc _ _
  have H_x := Lib.hid (show W_x.cell? ⟨w22.heap.size, 0, none⟩ = some (.int .i64 (a + x)) ∧ W_x.cell? ⟨w22.heap.size, 1, none⟩ = some (.int .i64 p) from by subst hW; simp [go_sem])
  clear hW
  generalize w22.heap.size = g_x at *
  obtain ⟨cc0, cc1⟩ := Kept.alln2 (show Kept W_c W_x from (by (repeat (first | with_reducible exact Kept.refl _ | with_reducible apply Kept.drew | with_reducible apply Kept.alloc | ((with_reducible apply Kept.set); focus (simp <;> omega)) | ((with_reducible apply Kept.via); focus with_reducible assumption))))) H_c
  go_wp2_with fail
  refine (Q2.out _).mono ?_
  rintro e w23 ⟨rfl, k23⟩
  clear cc0 cc1
  go_upto_region 7 with fail
  generalize hW : World.alloc w23 (.cells #[.int .i64 (a + x + y), .int .i64 p] 23) = W_y
  have K_y : Kept w23 W_y := by subst hW; exact (Kept.refl _).alloc _ _
  have H_y := Lib.hid (show W_y.cell? ⟨w23.heap.size, 0, none⟩ = some (.int .i64 (a + x + y)) ∧ W_y.cell? ⟨w23.heap.size, 1, none⟩ = some (.int .i64 p) from by subst hW; simp [go_sem])
  clear hW
  generalize w23.heap.size = g_y at *
  go_upto_region 7 with fail
  have B_x := Lib.hid (Kept.alln2 (show Kept W_x W_y from (by (repeat (first | with_reducible exact Kept.refl _ | with_reducible apply Kept.drew | with_reducible apply Kept.alloc | ((with_reducible apply Kept.set); focus (simp <;> omega)) | ((with_reducible apply Kept.via); focus with_reducible assumption))))) H_x)
  have B_y := Lib.hid (Kept.alln2 (show Kept W_y W_y from (by (repeat (first | with_reducible exact Kept.refl _ | with_reducible apply Kept.drew | with_reducible apply Kept.alloc | ((with_reducible apply Kept.set); focus (simp <;> omega)) | ((with_reducible apply Kept.via); focus with_reducible assumption))))) H_y)
  have B_b := Lib.hid (Kept.alln2 (show Kept W_b W_y from (by (repeat (first | with_reducible exact Kept.refl _ | with_reducible apply Kept.drew | with_reducible apply Kept.alloc | ((with_reducible apply Kept.set); focus (simp <;> omega)) | ((with_reducible apply Kept.via); focus with_reducible assumption))))) H_b)
  have B_c := Lib.hid (Kept.alln2 (show Kept W_c W_y from (by (repeat (first | with_reducible exact Kept.refl _ | with_reducible apply Kept.drew | with_reducible apply Kept.alloc | ((with_reducible apply Kept.set); focus (simp <;> omega)) | ((with_reducible apply Kept.via); focus with_reducible assumption))))) H_c)
  have kall : Kept w W_y := (by (repeat (first | with_reducible exact Kept.refl _ | with_reducible apply Kept.drew | with_reducible apply Kept.alloc | ((with_reducible apply Kept.set); focus (simp <;> omega)) | ((with_reducible apply Kept.via); focus with_reducible assumption))))
  obtain ⟨q_x0, q_x1⟩ := kwn2 B_x
  obtain ⟨q_y0, q_y1⟩ := kwn2 B_y
  obtain ⟨q_b0, q_b1⟩ := kwn2 B_b
  obtain ⟨q_c0, q_c1⟩ := kwn2 B_c
  clear B_x B_y B_b B_c
  refine wp_region_kept (by kernel_rfl) (by as_aux_lemma => kernel_rfl) ?_
  repeat (go_big_quiet_step (first | (with_reducible exact kept_of (W1.out _)) | (with_reducible exact kept_of (W2.out _)) | (with_reducible exact kept_of (Y1.out _)) | (with_reducible exact kept_of (Y2.out _))))
  refine wpQuiet_nil ?_
  intro wq hw'
  have kq : Kept W_y wq := by obtain ⟨p, rfl⟩ := hw'; exact p.k
  clear hw'
  clear kall
  go_wp2
  go_ret
  exact ⟨rfl, Kept.trans (Kept.trans (Kept.trans (Kept.trans (Kept.trans (Kept.trans (Kept.trans (Kept.trans (K_b) k20) k21) K_c) k22) K_x) k23) K_y) kq⟩
theorem bucketLater_walk (CC : BuCheckC) (FC : BuFillC) (TC : BuTakeC) (WC : BuWaitC) (YC : BuBytesC) (a h y x rate most n : Int) (w : World) (ia : In64 a) (ih : In64 h) (y0 : 0 ≤ y) (y1 : y ≤ 4294967295) (x0 : 0 ≤ x) (x1 : x ≤ 4294967295) (ir : In64 rate) (im : In64 most) (i_n : In64 n) : Calls Try.prog 8 #[.agg #[.int .i64 a, .int .i64 h], .int .u32 y, .int .u32 x, .int .i64 rate, .int .i64 most, .int .i64 n] w fun e w' => e = .returned (.bool true) ∧ Kept w w' := by
  by_cases m : MayB a h
  · by_cases l : 274877906944 < a
    · exact later18_far CC FC TC WC YC ia ih m l w
    · have m1 := m.1
      unfold IsTime at m1
      have m2 : MayB (a + y) h := ⟨by unfold IsTime; omega, m.2⟩
      refine later18_in CC FC TC WC YC m (by omega) x0 x1 y0 y1 ir im i_n (p := fillB h rate x most) (Or.inr (Or.inr (Or.inr ⟨m, by unfold IsTime; omega, by omega, rfl, ?_, rfl⟩))) (Or.inr (Or.inr (Or.inr ⟨m2, by unfold IsTime; omega, by omega, by omega, ?_, rfl⟩))) (u := waitB a h n rate) rfl ?_ (v := bytesB a h) rfl ?_ w
      · rw [show a + x - a = x by omega]
      · rw [show a + y + x - (a + y) = x by omega]
      · unfold waitB; simp only [m, m2]
      · unfold bytesB; simp only [m, m2]
  · exact later18_no CC FC TC WC YC ia ih m w
end Go.Proofs.Ytlgpeafphanobaa
