/-
  The walk of RateSpan: it answers true, if the calls do what they are to do.
-/
import Derived.Test.YtjfeobkkkgalaaaAwake17
import Derived.Test.YtjfeobkkkgalaaaRefN02
import Derived.Deep.RegionHeld3
import Derived.Deep.DeepCutAuto
namespace Go.Proofs.Ytjfeobkkkgalaaa
open Go.RowKit Go.BigFrame
set_option linter.unusedVariables false

set_option maxRecDepth 100000 in
set_option maxHeartbeats 1600000 in
theorem span17_none (GC : VGainC) (FC : VFirstC) (OC : VOfC) (SC : VSpanC) {v n mo u ca cb xh xl yh yl zh zl : Int} {xb yb zb : Bool} (v0 : 0 ≤ v) (v1 : v ≤ 4294967295) (n0 : 0 ≤ n) (n1 : n ≤ 4294967295) (mo0 : 0 ≤ mo) (mo1 : mo ≤ 4294967295) (f0 : spanT v (1 + n) = 0) (f1 : spanT (v + mo) (1 + n) = u) (o9 : 0 ≤ u) (hb : decide (0 ≤ cb) = true) (w : World) (MN : ∀ w, Calls Try.prog 16 #[.int .i64 v, .int .i64 1000000] w fun e w' => e = .returned (.agg #[.bool xb, .int .u64 xh, .int .u64 xl]) ∧ Kept w w') (MB : ∀ w, Calls Try.prog 16 #[.int .i64 0, .int .i64 (1 + n)] w fun e w' => e = .returned (.agg #[.bool zb, .int .u64 zh, .int .u64 zl]) ∧ Kept w w') (CB : ∀ w, Calls Try.prog 17 #[.agg #[.bool zb, .int .u64 zh, .int .u64 zl], .agg #[.bool xb, .int .u64 xh, .int .u64 xl]] w fun e w' => e = .returned (.int .i64 cb) ∧ Kept w w') : Calls Try.prog 6 #[.int .u32 v, .int .u32 n, .int .u32 mo] w fun e w' => e = .returned (.bool true) ∧ Kept w w' := by
  have GC' := Lib.hid GC
  have FC' := Lib.hid FC
  have OC' := Lib.hid OC
  have SC' := Lib.hid SC
  have AW' := Lib.hid (fun w => awake17 GC FC OC SC w)
  clear GC FC OC SC
  have MN' := Lib.hid MN
  have MB' := Lib.hid MB
  have CB' := Lib.hid CB
  clear MN MB CB
  have Q0 := Lib.hid (fun w_ => SC'.out v (1 + n) 0 (by unfold In64; omega) (by unfold In64; omega) f0 w_)
  have Q1 := Lib.hid (fun w_ => SC'.out (v + mo) (1 + n) u (by unfold In64; omega) (by unfold In64; omega) f1 w_)
  have ew1 : IntKind.i64.wrap (v + mo) = v + mo := by rw [IntKind.wrap_i64]; omega
  have ew2 : IntKind.i64.wrap (0 - 1) = 0 - 1 := by rw [IntKind.wrap_i64]; omega
  have ew3 : IntKind.i64.wrap v = v := by rw [IntKind.wrap_i64]; omega
  have ew4 : IntKind.i64.wrap mo = mo := by rw [IntKind.wrap_i64]; omega
  have d9 : decide (0 ≤ u) = true := by simp [o9]
  clear f0 f1
  go_enter Try.func6, Try.ntmps6
  go_wp2_with fail
  refine (AW'.out _).mono ?_
  rintro e w21 ⟨rfl, k21⟩
  go_wp2_with fail
  refine (Q0.out _).mono ?_
  rintro e w22 ⟨rfl, k22⟩
  go_wp2_with fail
  refine (MN'.out _).mono ?_
  rintro e w23 ⟨rfl, k23⟩
  go_upto_region 5 with fail
  generalize hW : World.alloc w23 (.cells #[.bool xb, .int .u64 xh, .int .u64 xl] 35) = W_x
  have K_x : Kept w23 W_x := by subst hW; exact (Kept.refl _).alloc _ _
  have H_x := Lib.hid (show W_x.cell? ⟨w23.heap.size, 0, none⟩ = some (.bool xb) ∧ W_x.cell? ⟨w23.heap.size, 1, none⟩ = some (.int .u64 xh) ∧ W_x.cell? ⟨w23.heap.size, 2, none⟩ = some (.int .u64 xl) from by subst hW; simp [go_sem])
  clear hW
  generalize w23.heap.size = g_x at *
  have H_y := Lib.hid H_x.out
  have B_x := Lib.hid (Kept.all3 (show Kept W_x W_x from (by (repeat (first | with_reducible exact Kept.refl _ | with_reducible apply Kept.drew | with_reducible apply Kept.alloc | ((with_reducible apply Kept.set); focus (simp <;> omega)) | ((with_reducible apply Kept.via); focus with_reducible assumption))))) H_x)
  have kall : Kept w W_x := (by (repeat (first | with_reducible exact Kept.refl _ | with_reducible apply Kept.drew | with_reducible apply Kept.alloc | ((with_reducible apply Kept.set); focus (simp <;> omega)) | ((with_reducible apply Kept.via); focus with_reducible assumption))))
  obtain ⟨q_x0, q_x1, q_x2⟩ := kw3 B_x
  clear B_x
  refine wp_region_kept (by kernel_rfl) (by as_aux_lemma => kernel_rfl) ?_
  repeat (go_big_quiet_step (first | fail))
  refine wpQuiet_nil ?_
  intro wq hw'
  have kq : Kept W_x wq := by obtain ⟨p, rfl⟩ := hw'; exact p.k
  clear hw'
  clear kall
  have H_x2 := Lib.hid (Kept.all3 kq H_y)
  have kq1 := kq
  clear kq
  generalize wq = W_q at *
  go_upto_region 6 with fail
  have B_x := Lib.hid (Kept.all3 (show Kept W_q W_q from (by (repeat (first | with_reducible exact Kept.refl _ | with_reducible apply Kept.drew | with_reducible apply Kept.alloc | ((with_reducible apply Kept.set); focus (simp <;> omega)) | ((with_reducible apply Kept.via); focus with_reducible assumption))))) H_x2)
  have kall : Kept w W_q := (by (repeat (first | with_reducible exact Kept.refl _ | with_reducible apply Kept.drew | with_reducible apply Kept.alloc | ((with_reducible apply Kept.set); focus (simp <;> omega)) | ((with_reducible apply Kept.via); focus with_reducible assumption))))
  obtain ⟨q_x0, q_x1, q_x2⟩ := kw3 B_x
  clear B_x
  refine wp_region_kept (by kernel_rfl) (by as_aux_lemma => kernel_rfl) ?_
  repeat (go_big_quiet_step (first | (with_reducible exact kept_of (MB'.out _)) | (with_reducible exact kept_of (CB'.out _)) | (with_reducible exact kept_of (Q1.out _))))
  refine wpQuiet_nil ?_
  intro wq hw'
  have kq : Kept W_q wq := by obtain ⟨p, rfl⟩ := hw'; exact p.k
  clear hw'
  clear kall
  go_wp2
  go_ret
  exact ⟨rfl, Kept.trans (Kept.trans (Kept.trans (Kept.trans (Kept.trans k21 k22) k23) K_x) kq1) kq⟩
set_option maxRecDepth 100000 in
set_option maxHeartbeats 1600000 in
theorem span17_in (GC : VGainC) (FC : VFirstC) (OC : VOfC) (SC : VSpanC) {v n mo u ca cb xh xl yh yl zh zl t : Int} {xb yb zb : Bool} (v0 : 0 ≤ v) (v1 : v ≤ 4294967295) (n0 : 0 ≤ n) (n1 : n ≤ 4294967295) (mo0 : 0 ≤ mo) (mo1 : mo ≤ 4294967295) (f0 : spanT v (1 + n) = t) (f1 : spanT (v + mo) (1 + n) = u) (o9 : t ≤ u) (t0 : 0 < t) (t1 : t < 1099511627776) (ha : decide (ca < 0) = true) (hb : decide (0 ≤ cb) = true) (w : World) (MN : ∀ w, Calls Try.prog 16 #[.int .i64 v, .int .i64 1000000] w fun e w' => e = .returned (.agg #[.bool xb, .int .u64 xh, .int .u64 xl]) ∧ Kept w w') (MA : ∀ w, Calls Try.prog 16 #[.int .i64 (t - 1), .int .i64 (1 + n)] w fun e w' => e = .returned (.agg #[.bool yb, .int .u64 yh, .int .u64 yl]) ∧ Kept w w') (CA : ∀ w, Calls Try.prog 17 #[.agg #[.bool yb, .int .u64 yh, .int .u64 yl], .agg #[.bool xb, .int .u64 xh, .int .u64 xl]] w fun e w' => e = .returned (.int .i64 ca) ∧ Kept w w') (MB : ∀ w, Calls Try.prog 16 #[.int .i64 t, .int .i64 (1 + n)] w fun e w' => e = .returned (.agg #[.bool zb, .int .u64 zh, .int .u64 zl]) ∧ Kept w w') (CB : ∀ w, Calls Try.prog 17 #[.agg #[.bool zb, .int .u64 zh, .int .u64 zl], .agg #[.bool xb, .int .u64 xh, .int .u64 xl]] w fun e w' => e = .returned (.int .i64 cb) ∧ Kept w w') : Calls Try.prog 6 #[.int .u32 v, .int .u32 n, .int .u32 mo] w fun e w' => e = .returned (.bool true) ∧ Kept w w' := by
  have GC' := Lib.hid GC
  have FC' := Lib.hid FC
  have OC' := Lib.hid OC
  have SC' := Lib.hid SC
  have AW' := Lib.hid (fun w => awake17 GC FC OC SC w)
  clear GC FC OC SC
  have MN' := Lib.hid MN
  have MA' := Lib.hid MA
  have CA' := Lib.hid CA
  have MB' := Lib.hid MB
  have CB' := Lib.hid CB
  clear MN MA CA MB CB
  have Q0 := Lib.hid (fun w_ => SC'.out v (1 + n) t (by unfold In64; omega) (by unfold In64; omega) f0 w_)
  have Q1 := Lib.hid (fun w_ => SC'.out (v + mo) (1 + n) u (by unfold In64; omega) (by unfold In64; omega) f1 w_)
  have ew1 : IntKind.i64.wrap (v + mo) = v + mo := by rw [IntKind.wrap_i64]; omega
  have ew2 : IntKind.i64.wrap (t - 1) = t - 1 := by rw [IntKind.wrap_i64]; omega
  have ew3 : IntKind.i64.wrap v = v := by rw [IntKind.wrap_i64]; omega
  have ew4 : IntKind.i64.wrap mo = mo := by rw [IntKind.wrap_i64]; omega
  have d9 : decide (t ≤ u) = true := by simp [o9]
  clear f0 f1
  have z0 : (t == 0) = false := by simp; omega
  have z2 : ¬ t = 0 := by omega
  have z1 : (t == 1099511627776) = false := by simp; omega
  have z3 : ¬ t = 1099511627776 := by omega
  clear t0 t1
  go_enter Try.func6, Try.ntmps6
  go_wp2_with fail
  refine (AW'.out _).mono ?_
  rintro e w21 ⟨rfl, k21⟩
  go_wp2_with fail
  refine (Q0.out _).mono ?_
  rintro e w22 ⟨rfl, k22⟩
  go_wp2_with fail
  refine (MN'.out _).mono ?_
  rintro e w23 ⟨rfl, k23⟩
  go_upto_region 5 with fail
  generalize hW : World.alloc w23 (.cells #[.bool xb, .int .u64 xh, .int .u64 xl] 35) = W_x
  have K_x : Kept w23 W_x := by subst hW; exact (Kept.refl _).alloc _ _
  have H_x := Lib.hid (show W_x.cell? ⟨w23.heap.size, 0, none⟩ = some (.bool xb) ∧ W_x.cell? ⟨w23.heap.size, 1, none⟩ = some (.int .u64 xh) ∧ W_x.cell? ⟨w23.heap.size, 2, none⟩ = some (.int .u64 xl) from by subst hW; simp [go_sem])
  clear hW
  generalize w23.heap.size = g_x at *
  have H_y := Lib.hid H_x.out
  have B_x := Lib.hid (Kept.all3 (show Kept W_x W_x from (by (repeat (first | with_reducible exact Kept.refl _ | with_reducible apply Kept.drew | with_reducible apply Kept.alloc | ((with_reducible apply Kept.set); focus (simp <;> omega)) | ((with_reducible apply Kept.via); focus with_reducible assumption))))) H_x)
  have kall : Kept w W_x := (by (repeat (first | with_reducible exact Kept.refl _ | with_reducible apply Kept.drew | with_reducible apply Kept.alloc | ((with_reducible apply Kept.set); focus (simp <;> omega)) | ((with_reducible apply Kept.via); focus with_reducible assumption))))
  obtain ⟨q_x0, q_x1, q_x2⟩ := kw3 B_x
  clear B_x
  refine wp_region_kept (by kernel_rfl) (by as_aux_lemma => kernel_rfl) ?_
  repeat (go_big_quiet_step (first | (with_reducible exact kept_of (MA'.out _)) | (with_reducible exact kept_of (CA'.out _))))
  refine wpQuiet_nil ?_
  intro wq hw'
  have kq : Kept W_x wq := by obtain ⟨p, rfl⟩ := hw'; exact p.k
  clear hw'
  clear kall
  have H_x2 := Lib.hid (Kept.all3 kq H_y)
  have kq1 := kq
  clear kq
  generalize wq = W_q at *
  go_upto_region 6 with fail
  have B_x := Lib.hid (Kept.all3 (show Kept W_q W_q from (by (repeat (first | with_reducible exact Kept.refl _ | with_reducible apply Kept.drew | with_reducible apply Kept.alloc | ((with_reducible apply Kept.set); focus (simp <;> omega)) | ((with_reducible apply Kept.via); focus with_reducible assumption))))) H_x2)
  have kall : Kept w W_q := (by (repeat (first | with_reducible exact Kept.refl _ | with_reducible apply Kept.drew | with_reducible apply Kept.alloc | ((with_reducible apply Kept.set); focus (simp <;> omega)) | ((with_reducible apply Kept.via); focus with_reducible assumption))))
  obtain ⟨q_x0, q_x1, q_x2⟩ := kw3 B_x
  clear B_x
  refine wp_region_kept (by kernel_rfl) (by as_aux_lemma => kernel_rfl) ?_
  repeat (go_big_quiet_step (first | (with_reducible exact kept_of (MB'.out _)) | (with_reducible exact kept_of (CB'.out _)) | (with_reducible exact kept_of (Q1.out _))))
  refine wpQuiet_nil ?_
  intro wq hw'
  have kq : Kept W_q wq := by obtain ⟨p, rfl⟩ := hw'; exact p.k
  clear hw'
  clear kall
  go_wp2
  go_ret
  exact ⟨rfl, Kept.trans (Kept.trans (Kept.trans (Kept.trans (Kept.trans k21 k22) k23) K_x) kq1) kq⟩
set_option maxRecDepth 100000 in
set_option maxHeartbeats 1600000 in
theorem span17_top (GC : VGainC) (FC : VFirstC) (OC : VOfC) (SC : VSpanC) {v n mo u ca cb xh xl yh yl zh zl : Int} {xb yb zb : Bool} (v0 : 0 ≤ v) (v1 : v ≤ 4294967295) (n0 : 0 ≤ n) (n1 : n ≤ 4294967295) (mo0 : 0 ≤ mo) (mo1 : mo ≤ 4294967295) (f0 : spanT v (1 + n) = 1099511627776) (f1 : spanT (v + mo) (1 + n) = u) (o9 : 1099511627776 ≤ u) (ha : decide (ca < 0) = true) (w : World) (MN : ∀ w, Calls Try.prog 16 #[.int .i64 v, .int .i64 1000000] w fun e w' => e = .returned (.agg #[.bool xb, .int .u64 xh, .int .u64 xl]) ∧ Kept w w') (MA : ∀ w, Calls Try.prog 16 #[.int .i64 1099511627775, .int .i64 (1 + n)] w fun e w' => e = .returned (.agg #[.bool yb, .int .u64 yh, .int .u64 yl]) ∧ Kept w w') (CA : ∀ w, Calls Try.prog 17 #[.agg #[.bool yb, .int .u64 yh, .int .u64 yl], .agg #[.bool xb, .int .u64 xh, .int .u64 xl]] w fun e w' => e = .returned (.int .i64 ca) ∧ Kept w w') : Calls Try.prog 6 #[.int .u32 v, .int .u32 n, .int .u32 mo] w fun e w' => e = .returned (.bool true) ∧ Kept w w' := by
  have GC' := Lib.hid GC
  have FC' := Lib.hid FC
  have OC' := Lib.hid OC
  have SC' := Lib.hid SC
  have AW' := Lib.hid (fun w => awake17 GC FC OC SC w)
  clear GC FC OC SC
  have MN' := Lib.hid MN
  have MA' := Lib.hid MA
  have CA' := Lib.hid CA
  clear MN MA CA
  have Q0 := Lib.hid (fun w_ => SC'.out v (1 + n) 1099511627776 (by unfold In64; omega) (by unfold In64; omega) f0 w_)
  have Q1 := Lib.hid (fun w_ => SC'.out (v + mo) (1 + n) u (by unfold In64; omega) (by unfold In64; omega) f1 w_)
  have ew1 : IntKind.i64.wrap (v + mo) = v + mo := by rw [IntKind.wrap_i64]; omega
  have ew2 : IntKind.i64.wrap (1099511627776 - 1) = 1099511627776 - 1 := by rw [IntKind.wrap_i64]; omega
  have ew3 : IntKind.i64.wrap v = v := by rw [IntKind.wrap_i64]; omega
  have ew4 : IntKind.i64.wrap mo = mo := by rw [IntKind.wrap_i64]; omega
  have d9 : decide (1099511627776 ≤ u) = true := by simp [o9]
  clear f0 f1
  go_enter Try.func6, Try.ntmps6
  go_wp2_with fail
  refine (AW'.out _).mono ?_
  rintro e w21 ⟨rfl, k21⟩
  go_wp2_with fail
  refine (Q0.out _).mono ?_
  rintro e w22 ⟨rfl, k22⟩
  go_wp2_with fail
  refine (MN'.out _).mono ?_
  rintro e w23 ⟨rfl, k23⟩
  go_upto_region 5 with fail
  generalize hW : World.alloc w23 (.cells #[.bool xb, .int .u64 xh, .int .u64 xl] 35) = W_x
  have K_x : Kept w23 W_x := by subst hW; exact (Kept.refl _).alloc _ _
  have H_x := Lib.hid (show W_x.cell? ⟨w23.heap.size, 0, none⟩ = some (.bool xb) ∧ W_x.cell? ⟨w23.heap.size, 1, none⟩ = some (.int .u64 xh) ∧ W_x.cell? ⟨w23.heap.size, 2, none⟩ = some (.int .u64 xl) from by subst hW; simp [go_sem])
  clear hW
  generalize w23.heap.size = g_x at *
  have H_y := Lib.hid H_x.out
  have B_x := Lib.hid (Kept.all3 (show Kept W_x W_x from (by (repeat (first | with_reducible exact Kept.refl _ | with_reducible apply Kept.drew | with_reducible apply Kept.alloc | ((with_reducible apply Kept.set); focus (simp <;> omega)) | ((with_reducible apply Kept.via); focus with_reducible assumption))))) H_x)
  have kall : Kept w W_x := (by (repeat (first | with_reducible exact Kept.refl _ | with_reducible apply Kept.drew | with_reducible apply Kept.alloc | ((with_reducible apply Kept.set); focus (simp <;> omega)) | ((with_reducible apply Kept.via); focus with_reducible assumption))))
  obtain ⟨q_x0, q_x1, q_x2⟩ := kw3 B_x
  clear B_x
  refine wp_region_kept (by kernel_rfl) (by as_aux_lemma => kernel_rfl) ?_
  repeat (go_big_quiet_step (first | (with_reducible exact kept_of (MA'.out _)) | (with_reducible exact kept_of (CA'.out _))))
  refine wpQuiet_nil ?_
  intro wq hw'
  have kq : Kept W_x wq := by obtain ⟨p, rfl⟩ := hw'; exact p.k
  clear hw'
  clear kall
  have H_x2 := Lib.hid (Kept.all3 kq H_y)
  have kq1 := kq
  clear kq
  generalize wq = W_q at *
  go_upto_region 6 with fail
  have B_x := Lib.hid (Kept.all3 (show Kept W_q W_q from (by (repeat (first | with_reducible exact Kept.refl _ | with_reducible apply Kept.drew | with_reducible apply Kept.alloc | ((with_reducible apply Kept.set); focus (simp <;> omega)) | ((with_reducible apply Kept.via); focus with_reducible assumption))))) H_x2)
  have kall : Kept w W_q := (by (repeat (first | with_reducible exact Kept.refl _ | with_reducible apply Kept.drew | with_reducible apply Kept.alloc | ((with_reducible apply Kept.set); focus (simp <;> omega)) | ((with_reducible apply Kept.via); focus with_reducible assumption))))
  obtain ⟨q_x0, q_x1, q_x2⟩ := kw3 B_x
  clear B_x
  refine wp_region_kept (by kernel_rfl) (by as_aux_lemma => kernel_rfl) ?_
  repeat (go_big_quiet_step (first | (with_reducible exact kept_of (Q1.out _))))
  refine wpQuiet_nil ?_
  intro wq hw'
  have kq : Kept W_q wq := by obtain ⟨p, rfl⟩ := hw'; exact p.k
  clear hw'
  clear kall
  go_wp2
  go_ret
  exact ⟨rfl, Kept.trans (Kept.trans (Kept.trans (Kept.trans (Kept.trans k21 k22) k23) K_x) kq1) kq⟩
theorem rateSpan_walk (GC : VGainC) (FC : VFirstC) (OC : VOfC) (SC : VSpanC) (v n mo : Int) (w : World) (v0 : 0 ≤ v) (v1 : v ≤ 4294967295) (n0 : 0 ≤ n) (n1 : n ≤ 4294967295) (mo0 : 0 ≤ mo) (mo1 : mo ≤ 4294967295) : Calls Try.prog 6 #[.int .u32 v, .int .u32 n, .int .u32 mo] w fun e w' => e = .returned (.bool true) ∧ Kept w w' := by
  have rg := span_range v (1 + n)
  have ex := span_exact (b := v) (r := 1 + n) v0 (by omega)
  have up := span_bytes (a := v) (b := v + mo) (1 + n) (by omega)
  have i0 : In64 v := by unfold In64; omega
  have i1 : In64 (1 + n) := by unfold In64; omega
  obtain ⟨t, ht⟩ : ∃ t, spanT v (1 + n) = t := ⟨_, rfl⟩
  rw [ht] at rg ex up
  have i2 : In64 t := by unfold In64; omega
  have i3 : In64 (t - 1) := by unfold In64; omega
  obtain ⟨xb, xh, xl, rx⟩ := rep_ex _ (mul_in i0 (show In64 1000000 from by unfold In64; omega))
  obtain ⟨yb, yh, yl, ry⟩ := rep_ex _ (mul_in i3 i1)
  obtain ⟨zb, zh, zl, rz⟩ := rep_ex _ (mul_in i2 i1)
  have CA : (t = 0 ∨ (t - 1) * (1 + n) < v * 1000000) → t = 0 ∨ decide (cmpI (numOf yb yh yl) (numOf xb xh xl) < 0) = true := fun h => by
    rcases h with h | h
    · exact Or.inl h
    · right
      rw [ry.2.2.1, rx.2.2.1]
      generalize (t - 1) * (1 + n) = a at *
      generalize v * 1000000 = b at *
      unfold cmpI; simp
      rw [if_neg (by omega), if_pos h]; omega
  have CB : v * 1000000 ≤ t * (1 + n) → decide (0 ≤ cmpI (numOf zb zh zl) (numOf xb xh xl)) = true := fun h => by
    rw [rz.2.2.1, rx.2.2.1]
    generalize t * (1 + n) = a at *
    generalize v * 1000000 = b at *
    unfold cmpI; simp; split
    · omega
    · rw [if_neg (by omega)]; omega
  have MN := fun w => refMul_rep i0 (show In64 1000000 from by unfold In64; omega) rx w
  have MA := fun w => refMul_rep i3 i1 ry w
  have MB := fun w => refMul_rep i2 i1 rz w
  have CAk := fun w => refCmp_ok (b1 := yb) (b2 := xb) ry.1 ry.2.1 rx.1 rx.2.1 w
  have CBk := fun w => refCmp_ok (b1 := zb) (b2 := xb) rz.1 rz.2.1 rx.1 rx.2.1 w
  by_cases h0 : t = 0
  · subst h0
    have hb := CB (by rcases ex.1 with e | e; omega; exact e)
    exact span17_none GC FC OC SC v0 v1 n0 n1 mo0 mo1 (ca := 0) (yb := yb) (yh := yh) (yl := yl) ht rfl up hb w MN MB CBk
  · have ha := (CA ex.2).resolve_left h0
    by_cases h1 : t = 1099511627776
    · subst h1
      exact span17_top GC FC OC SC v0 v1 n0 n1 mo0 mo1 (cb := 0) (zb := zb) (zh := zh) (zl := zl) ht rfl up ha w MN MA CAk
    · have hb := CB (by rcases ex.1 with e | e; exact absurd e h1; exact e)
      exact span17_in GC FC OC SC v0 v1 n0 n1 mo0 mo1 ht rfl up (by omega) (by omega) ha hb w MN MA CAk MB CBk
end Go.Proofs.Ytjfeobkkkgalaaa
