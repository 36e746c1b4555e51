/-
  The walk of RateExact: it answers true, if the calls do what they are to do.
-/
import Derived.Test.YtjfeobkkkgalaaaAwake17
import Derived.Test.YtjfeobkkkgalaaaRefN02
import Derived.Deep.RegionHeld3
import Derived.Deep.DeepCutAuto
namespace Go.Proofs.Ytjfeobkkkgalaaa
open Go.RowKit Go.BigFrame
set_option linter.unusedVariables false

set_option maxRecDepth 100000 in
set_option maxHeartbeats 1600000 in
theorem exact17_t1 (GC : VGainC) (FC : VFirstC) (OC : VOfC) (SC : VSpanC) {v sg t g p ch xh xl yh yl zh zl : Int} {xb yb zb : Bool} (v0 : 0 ≤ v) (v1 : v ≤ 4294967295) (h0 : 0 ≤ sg) (h1 : sg ≤ 65535) (t0 : 0 ≤ t) (t1 : t ≤ 4294967295) (eg : (if sg < 1 then 1 else sg) = g) (eg' : max sg 1 = g) (g0 : 1 ≤ g) (g1 : g ≤ 65535) (ep : t % 1073741824 = p) (p0 : 0 ≤ p) (p1 : p ≤ 1073741823) (f0 : ofT v g true (8 * (1 + p)) 0 true = 1) (hh : decide (0 < ch) = true)  (w : World) (MW : ∀ w, Calls Try.prog 16 #[.int .i64 v, .int .i64 (g * 1000000 * 2)] w fun e w' => e = .returned (.agg #[.bool xb, .int .u64 xh, .int .u64 xl]) ∧ Kept w w') (ML : ∀ w, Calls Try.prog 16 #[.int .i64 1, .int .i64 (65536 * (1 + p))] w fun e w' => e = .returned (.agg #[.bool yb, .int .u64 yh, .int .u64 yl]) ∧ Kept w w') (MH : ∀ w, Calls Try.prog 16 #[.int .i64 2, .int .i64 (65536 * (1 + p))] w fun e w' => e = .returned (.agg #[.bool zb, .int .u64 zh, .int .u64 zl]) ∧ Kept w w') (CH : ∀ w, Calls Try.prog 17 #[.agg #[.bool zb, .int .u64 zh, .int .u64 zl], .agg #[.bool xb, .int .u64 xh, .int .u64 xl]] w fun e w' => e = .returned (.int .i64 ch) ∧ Kept w w') : Calls Try.prog 4 #[.int .u32 v, .int .u16 sg, .int .u32 t, .bool true] w fun e w' => e = .returned (.bool true) ∧ Kept w w' := by
  have GC' := Lib.hid GC
  have FC' := Lib.hid FC
  have OC' := Lib.hid OC
  have SC' := Lib.hid SC
  have AW' := Lib.hid (fun w => awake17 GC FC OC SC w)
  clear GC FC OC SC
  have MW' := Lib.hid MW
  have ML' := Lib.hid ML
  have MH' := Lib.hid MH
  have CH' := Lib.hid CH
  clear MW ML MH CH
  have QG := Lib.hid (fun w_ => GC'.out true 2 1 rfl rfl w_)
  have Q0 := Lib.hid (fun w_ => OC'.out v g true (8 * (1 + p)) 0 true 1 (by unfold In64; omega) (by unfold In64; omega) (by unfold In64; omega) (by unfold In64; omega) f0 w_)
  clear f0
  go_enter Try.func4, Try.ntmps4
  go_wp2_with fail
  refine (AW'.out _).mono ?_
  rintro e w21 ⟨rfl, k21⟩
  go_wp2_with fail
  refine (QG.out _).mono ?_
  rintro e w22 ⟨rfl, k22⟩
  go_wp2_with fail
  refine (Q0.out _).mono ?_
  rintro e w23 ⟨rfl, k23⟩
  go_wp2_with fail
  refine (MW'.out _).mono ?_
  rintro e w24 ⟨rfl, k24⟩
  go_upto_region 7 with fail
  generalize hW : World.alloc w24 (.cells #[.bool xb, .int .u64 xh, .int .u64 xl] 35) = W_x
  have K_x : Kept w24 W_x := by subst hW; exact (Kept.refl _).alloc _ _
  have H_x := Lib.hid (show W_x.cell? ⟨w24.heap.size, 0, none⟩ = some (.bool xb) ∧ W_x.cell? ⟨w24.heap.size, 1, none⟩ = some (.int .u64 xh) ∧ W_x.cell? ⟨w24.heap.size, 2, none⟩ = some (.int .u64 xl) from by subst hW; simp [go_sem])
  clear hW
  generalize w24.heap.size = g_x at *
  go_wp2_with fail
  refine (ML'.out _).mono ?_
  rintro e w25 ⟨rfl, k25⟩
  go_upto_region 9 with fail
  generalize hW : World.alloc w25 (.cells #[.bool yb, .int .u64 yh, .int .u64 yl] 35) = W_y
  have K_y : Kept w25 W_y := by subst hW; exact (Kept.refl _).alloc _ _
  have H_y := Lib.hid (show W_y.cell? ⟨w25.heap.size, 0, none⟩ = some (.bool yb) ∧ W_y.cell? ⟨w25.heap.size, 1, none⟩ = some (.int .u64 yh) ∧ W_y.cell? ⟨w25.heap.size, 2, none⟩ = some (.int .u64 yl) from by subst hW; simp [go_sem])
  clear hW
  generalize w25.heap.size = g_y at *
  go_wp2_with fail
  refine (MH'.out _).mono ?_
  rintro e w26 ⟨rfl, k26⟩
  go_upto_region 10 with fail
  generalize hW : World.alloc w26 (.cells #[.bool zb, .int .u64 zh, .int .u64 zl] 35) = W_z
  have K_z : Kept w26 W_z := by subst hW; exact (Kept.refl _).alloc _ _
  have H_z := Lib.hid (show W_z.cell? ⟨w26.heap.size, 0, none⟩ = some (.bool zb) ∧ W_z.cell? ⟨w26.heap.size, 1, none⟩ = some (.int .u64 zh) ∧ W_z.cell? ⟨w26.heap.size, 2, none⟩ = some (.int .u64 zl) from by subst hW; simp [go_sem])
  clear hW
  generalize w26.heap.size = g_z at *
  obtain ⟨c_z0, c_z1, c_z2⟩ := Kept.all3 (show Kept W_z W_z from (by (repeat (first | with_reducible exact Kept.refl _ | with_reducible apply Kept.drew | with_reducible apply Kept.alloc | ((with_reducible apply Kept.set); focus (simp <;> omega)) | ((with_reducible apply Kept.via); focus with_reducible assumption))))) H_z
  obtain ⟨c_x0, c_x1, c_x2⟩ := Kept.all3 (show Kept W_x W_z from (by (repeat (first | with_reducible exact Kept.refl _ | with_reducible apply Kept.drew | with_reducible apply Kept.alloc | ((with_reducible apply Kept.set); focus (simp <;> omega)) | ((with_reducible apply Kept.via); focus with_reducible assumption))))) H_x
  go_wp2_with fail
  refine (CH'.out _).mono ?_
  rintro e w27 ⟨rfl, k27⟩
  clear c_z0 c_z1 c_z2 c_x0 c_x1 c_x2
  go_wp2
  go_ret
  exact ⟨rfl, (by (repeat (first | with_reducible exact Kept.refl _ | with_reducible apply Kept.drew | with_reducible apply Kept.alloc | ((with_reducible apply Kept.set); focus (simp <;> omega)) | ((with_reducible apply Kept.via); focus with_reducible assumption))))⟩
set_option maxRecDepth 100000 in
set_option maxHeartbeats 1600000 in
theorem exact17_tn (GC : VGainC) (FC : VFirstC) (OC : VOfC) (SC : VSpanC) {v sg t g p ch cl_ xh xl yh yl zh zl n : Int} {xb yb zb : Bool} (v0 : 0 ≤ v) (v1 : v ≤ 4294967295) (h0 : 0 ≤ sg) (h1 : sg ≤ 65535) (t0 : 0 ≤ t) (t1 : t ≤ 4294967295) (eg : (if sg < 1 then 1 else sg) = g) (eg' : max sg 1 = g) (g0 : 1 ≤ g) (g1 : g ≤ 65535) (ep : t % 1073741824 = p) (p0 : 0 ≤ p) (p1 : p ≤ 1073741823) (f0 : ofT v g true (8 * (1 + p)) 0 true = n) (hh : decide (0 < ch) = true) (n0 : 1 < n) (n1 : n ≤ 343592140800000000) (hl : decide (cl_ ≤ 0) = true) (w : World) (MW : ∀ w, Calls Try.prog 16 #[.int .i64 v, .int .i64 (g * 1000000 * 2)] w fun e w' => e = .returned (.agg #[.bool xb, .int .u64 xh, .int .u64 xl]) ∧ Kept w w') (ML : ∀ w, Calls Try.prog 16 #[.int .i64 n, .int .i64 (65536 * (1 + p))] w fun e w' => e = .returned (.agg #[.bool yb, .int .u64 yh, .int .u64 yl]) ∧ Kept w w') (MH : ∀ w, Calls Try.prog 16 #[.int .i64 (n + 1), .int .i64 (65536 * (1 + p))] w fun e w' => e = .returned (.agg #[.bool zb, .int .u64 zh, .int .u64 zl]) ∧ Kept w w') (CH : ∀ w, Calls Try.prog 17 #[.agg #[.bool zb, .int .u64 zh, .int .u64 zl], .agg #[.bool xb, .int .u64 xh, .int .u64 xl]] w fun e w' => e = .returned (.int .i64 ch) ∧ Kept w w') (CL : ∀ w, Calls Try.prog 17 #[.agg #[.bool yb, .int .u64 yh, .int .u64 yl], .agg #[.bool xb, .int .u64 xh, .int .u64 xl]] w fun e w' => e = .returned (.int .i64 cl_) ∧ Kept w w') : Calls Try.prog 4 #[.int .u32 v, .int .u16 sg, .int .u32 t, .bool true] w fun e w' => e = .returned (.bool true) ∧ Kept w w' := by
  have GC' := Lib.hid GC
  have FC' := Lib.hid FC
  have OC' := Lib.hid OC
  have SC' := Lib.hid SC
  have AW' := Lib.hid (fun w => awake17 GC FC OC SC w)
  clear GC FC OC SC
  have MW' := Lib.hid MW
  have ML' := Lib.hid ML
  have MH' := Lib.hid MH
  have CH' := Lib.hid CH
  have CL' := Lib.hid CL
  clear MW ML MH CH CL
  have QG := Lib.hid (fun w_ => GC'.out true 2 1 rfl rfl w_)
  have Q0 := Lib.hid (fun w_ => OC'.out v g true (8 * (1 + p)) 0 true n (by unfold In64; omega) (by unfold In64; omega) (by unfold In64; omega) (by unfold In64; omega) f0 w_)
  clear f0
  have z1 : (n == 1) = false := by simp; omega
  have z2 : ¬ n = 1 := by omega
  go_enter Try.func4, Try.ntmps4
  go_wp2_with fail
  refine (AW'.out _).mono ?_
  rintro e w21 ⟨rfl, k21⟩
  go_wp2_with fail
  refine (QG.out _).mono ?_
  rintro e w22 ⟨rfl, k22⟩
  go_wp2_with fail
  refine (Q0.out _).mono ?_
  rintro e w23 ⟨rfl, k23⟩
  go_wp2_with fail
  refine (MW'.out _).mono ?_
  rintro e w24 ⟨rfl, k24⟩
  go_upto_region 7 with fail
  generalize hW : World.alloc w24 (.cells #[.bool xb, .int .u64 xh, .int .u64 xl] 35) = W_x
  have K_x : Kept w24 W_x := by subst hW; exact (Kept.refl _).alloc _ _
  have H_x := Lib.hid (show W_x.cell? ⟨w24.heap.size, 0, none⟩ = some (.bool xb) ∧ W_x.cell? ⟨w24.heap.size, 1, none⟩ = some (.int .u64 xh) ∧ W_x.cell? ⟨w24.heap.size, 2, none⟩ = some (.int .u64 xl) from by subst hW; simp [go_sem])
  clear hW
  generalize w24.heap.size = g_x at *
  go_wp2_with fail
  refine (ML'.out _).mono ?_
  rintro e w25 ⟨rfl, k25⟩
  go_upto_region 9 with fail
  generalize hW : World.alloc w25 (.cells #[.bool yb, .int .u64 yh, .int .u64 yl] 35) = W_y
  have K_y : Kept w25 W_y := by subst hW; exact (Kept.refl _).alloc _ _
  have H_y := Lib.hid (show W_y.cell? ⟨w25.heap.size, 0, none⟩ = some (.bool yb) ∧ W_y.cell? ⟨w25.heap.size, 1, none⟩ = some (.int .u64 yh) ∧ W_y.cell? ⟨w25.heap.size, 2, none⟩ = some (.int .u64 yl) from by subst hW; simp [go_sem])
  clear hW
  generalize w25.heap.size = g_y at *
  go_wp2_with fail
  refine (MH'.out _).mono ?_
  rintro e w26 ⟨rfl, k26⟩
  go_upto_region 10 with fail
  generalize hW : World.alloc w26 (.cells #[.bool zb, .int .u64 zh, .int .u64 zl] 35) = W_z
  have K_z : Kept w26 W_z := by subst hW; exact (Kept.refl _).alloc _ _
  have H_z := Lib.hid (show W_z.cell? ⟨w26.heap.size, 0, none⟩ = some (.bool zb) ∧ W_z.cell? ⟨w26.heap.size, 1, none⟩ = some (.int .u64 zh) ∧ W_z.cell? ⟨w26.heap.size, 2, none⟩ = some (.int .u64 zl) from by subst hW; simp [go_sem])
  clear hW
  generalize w26.heap.size = g_z at *
  obtain ⟨c_y0, c_y1, c_y2⟩ := Kept.all3 (show Kept W_y W_z from (by (repeat (first | with_reducible exact Kept.refl _ | with_reducible apply Kept.drew | with_reducible apply Kept.alloc | ((with_reducible apply Kept.set); focus (simp <;> omega)) | ((with_reducible apply Kept.via); focus with_reducible assumption))))) H_y
  obtain ⟨c_x0, c_x1, c_x2⟩ := Kept.all3 (show Kept W_x W_z from (by (repeat (first | with_reducible exact Kept.refl _ | with_reducible apply Kept.drew | with_reducible apply Kept.alloc | ((with_reducible apply Kept.set); focus (simp <;> omega)) | ((with_reducible apply Kept.via); focus with_reducible assumption))))) H_x
  go_wp2_with fail
  refine (CL'.out _).mono ?_
  rintro e w27 ⟨rfl, k27⟩
  clear c_y0 c_y1 c_y2 c_x0 c_x1 c_x2
  obtain ⟨c_z0, c_z1, c_z2⟩ := Kept.all3 (show Kept W_z w27 from (by (repeat (first | with_reducible exact Kept.refl _ | with_reducible apply Kept.drew | with_reducible apply Kept.alloc | ((with_reducible apply Kept.set); focus (simp <;> omega)) | ((with_reducible apply Kept.via); focus with_reducible assumption))))) H_z
  obtain ⟨c_x0, c_x1, c_x2⟩ := Kept.all3 (show Kept W_x w27 from (by (repeat (first | with_reducible exact Kept.refl _ | with_reducible apply Kept.drew | with_reducible apply Kept.alloc | ((with_reducible apply Kept.set); focus (simp <;> omega)) | ((with_reducible apply Kept.via); focus with_reducible assumption))))) H_x
  go_wp2_with fail
  refine (CH'.out _).mono ?_
  rintro e w28 ⟨rfl, k28⟩
  clear c_z0 c_z1 c_z2 c_x0 c_x1 c_x2
  go_wp2
  go_ret
  exact ⟨rfl, (by (repeat (first | with_reducible exact Kept.refl _ | with_reducible apply Kept.drew | with_reducible apply Kept.alloc | ((with_reducible apply Kept.set); focus (simp <;> omega)) | ((with_reducible apply Kept.via); focus with_reducible assumption))))⟩
set_option maxRecDepth 100000 in
set_option maxHeartbeats 1600000 in
theorem exact17_f1 (GC : VGainC) (FC : VFirstC) (OC : VOfC) (SC : VSpanC) {v sg t g p ch xh xl yh yl zh zl : Int} {xb yb zb : Bool} (v0 : 0 ≤ v) (v1 : v ≤ 4294967295) (h0 : 0 ≤ sg) (h1 : sg ≤ 65535) (t0 : 0 ≤ t) (t1 : t ≤ 4294967295) (eg : (if sg < 1 then 1 else sg) = g) (eg' : max sg 1 = g) (g0 : 1 ≤ g) (g1 : g ≤ 65535) (ep : t % 1073741824 = p) (p0 : 0 ≤ p) (p1 : p ≤ 1073741823) (f0 : ofT v g true (8 * (1 + p)) 0 false = 1) (hh : decide (0 < ch) = true)  (w : World) (MW : ∀ w, Calls Try.prog 16 #[.int .i64 v, .int .i64 (g * 1000000 * 5)] w fun e w' => e = .returned (.agg #[.bool xb, .int .u64 xh, .int .u64 xl]) ∧ Kept w w') (ML : ∀ w, Calls Try.prog 16 #[.int .i64 1, .int .i64 (262144 * (1 + p))] w fun e w' => e = .returned (.agg #[.bool yb, .int .u64 yh, .int .u64 yl]) ∧ Kept w w') (MH : ∀ w, Calls Try.prog 16 #[.int .i64 2, .int .i64 (262144 * (1 + p))] w fun e w' => e = .returned (.agg #[.bool zb, .int .u64 zh, .int .u64 zl]) ∧ Kept w w') (CH : ∀ w, Calls Try.prog 17 #[.agg #[.bool zb, .int .u64 zh, .int .u64 zl], .agg #[.bool xb, .int .u64 xh, .int .u64 xl]] w fun e w' => e = .returned (.int .i64 ch) ∧ Kept w w') : Calls Try.prog 4 #[.int .u32 v, .int .u16 sg, .int .u32 t, .bool false] w fun e w' => e = .returned (.bool true) ∧ Kept w w' := by
  have GC' := Lib.hid GC
  have FC' := Lib.hid FC
  have OC' := Lib.hid OC
  have SC' := Lib.hid SC
  have AW' := Lib.hid (fun w => awake17 GC FC OC SC w)
  clear GC FC OC SC
  have MW' := Lib.hid MW
  have ML' := Lib.hid ML
  have MH' := Lib.hid MH
  have CH' := Lib.hid CH
  clear MW ML MH CH
  have QG := Lib.hid (fun w_ => GC'.out false 5 4 rfl rfl w_)
  have Q0 := Lib.hid (fun w_ => OC'.out v g true (8 * (1 + p)) 0 false 1 (by unfold In64; omega) (by unfold In64; omega) (by unfold In64; omega) (by unfold In64; omega) f0 w_)
  clear f0
  go_enter Try.func4, Try.ntmps4
  go_wp2_with fail
  refine (AW'.out _).mono ?_
  rintro e w21 ⟨rfl, k21⟩
  go_wp2_with fail
  refine (QG.out _).mono ?_
  rintro e w22 ⟨rfl, k22⟩
  go_wp2_with fail
  refine (Q0.out _).mono ?_
  rintro e w23 ⟨rfl, k23⟩
  go_wp2_with fail
  refine (MW'.out _).mono ?_
  rintro e w24 ⟨rfl, k24⟩
  go_upto_region 7 with fail
  generalize hW : World.alloc w24 (.cells #[.bool xb, .int .u64 xh, .int .u64 xl] 35) = W_x
  have K_x : Kept w24 W_x := by subst hW; exact (Kept.refl _).alloc _ _
  have H_x := Lib.hid (show W_x.cell? ⟨w24.heap.size, 0, none⟩ = some (.bool xb) ∧ W_x.cell? ⟨w24.heap.size, 1, none⟩ = some (.int .u64 xh) ∧ W_x.cell? ⟨w24.heap.size, 2, none⟩ = some (.int .u64 xl) from by subst hW; simp [go_sem])
  clear hW
  generalize w24.heap.size = g_x at *
  go_wp2_with fail
  refine (ML'.out _).mono ?_
  rintro e w25 ⟨rfl, k25⟩
  go_upto_region 9 with fail
  generalize hW : World.alloc w25 (.cells #[.bool yb, .int .u64 yh, .int .u64 yl] 35) = W_y
  have K_y : Kept w25 W_y := by subst hW; exact (Kept.refl _).alloc _ _
  have H_y := Lib.hid (show W_y.cell? ⟨w25.heap.size, 0, none⟩ = some (.bool yb) ∧ W_y.cell? ⟨w25.heap.size, 1, none⟩ = some (.int .u64 yh) ∧ W_y.cell? ⟨w25.heap.size, 2, none⟩ = some (.int .u64 yl) from by subst hW; simp [go_sem])
  clear hW
  generalize w25.heap.size = g_y at *
  go_wp2_with fail
  refine (MH'.out _).mono ?_
  rintro e w26 ⟨rfl, k26⟩
  go_upto_region 10 with fail
  generalize hW : World.alloc w26 (.cells #[.bool zb, .int .u64 zh, .int .u64 zl] 35) = W_z
  have K_z : Kept w26 W_z := by subst hW; exact (Kept.refl _).alloc _ _
  have H_z := Lib.hid (show W_z.cell? ⟨w26.heap.size, 0, none⟩ = some (.bool zb) ∧ W_z.cell? ⟨w26.heap.size, 1, none⟩ = some (.int .u64 zh) ∧ W_z.cell? ⟨w26.heap.size, 2, none⟩ = some (.int .u64 zl) from by subst hW; simp [go_sem])
  clear hW
  generalize w26.heap.size = g_z at *
  obtain ⟨c_z0, c_z1, c_z2⟩ := Kept.all3 (show Kept W_z W_z from (by (repeat (first | with_reducible exact Kept.refl _ | with_reducible apply Kept.drew | with_reducible apply Kept.alloc | ((with_reducible apply Kept.set); focus (simp <;> omega)) | ((with_reducible apply Kept.via); focus with_reducible assumption))))) H_z
  obtain ⟨c_x0, c_x1, c_x2⟩ := Kept.all3 (show Kept W_x W_z from (by (repeat (first | with_reducible exact Kept.refl _ | with_reducible apply Kept.drew | with_reducible apply Kept.alloc | ((with_reducible apply Kept.set); focus (simp <;> omega)) | ((with_reducible apply Kept.via); focus with_reducible assumption))))) H_x
  go_wp2_with fail
  refine (CH'.out _).mono ?_
  rintro e w27 ⟨rfl, k27⟩
  clear c_z0 c_z1 c_z2 c_x0 c_x1 c_x2
  go_wp2
  go_ret
  exact ⟨rfl, (by (repeat (first | with_reducible exact Kept.refl _ | with_reducible apply Kept.drew | with_reducible apply Kept.alloc | ((with_reducible apply Kept.set); focus (simp <;> omega)) | ((with_reducible apply Kept.via); focus with_reducible assumption))))⟩
set_option maxRecDepth 100000 in
set_option maxHeartbeats 1600000 in
theorem exact17_fn (GC : VGainC) (FC : VFirstC) (OC : VOfC) (SC : VSpanC) {v sg t g p ch cl_ xh xl yh yl zh zl n : Int} {xb yb zb : Bool} (v0 : 0 ≤ v) (v1 : v ≤ 4294967295) (h0 : 0 ≤ sg) (h1 : sg ≤ 65535) (t0 : 0 ≤ t) (t1 : t ≤ 4294967295) (eg : (if sg < 1 then 1 else sg) = g) (eg' : max sg 1 = g) (g0 : 1 ≤ g) (g1 : g ≤ 65535) (ep : t % 1073741824 = p) (p0 : 0 ≤ p) (p1 : p ≤ 1073741823) (f0 : ofT v g true (8 * (1 + p)) 0 false = n) (hh : decide (0 < ch) = true) (n0 : 1 < n) (n1 : n ≤ 343592140800000000) (hl : decide (cl_ ≤ 0) = true) (w : World) (MW : ∀ w, Calls Try.prog 16 #[.int .i64 v, .int .i64 (g * 1000000 * 5)] w fun e w' => e = .returned (.agg #[.bool xb, .int .u64 xh, .int .u64 xl]) ∧ Kept w w') (ML : ∀ w, Calls Try.prog 16 #[.int .i64 n, .int .i64 (262144 * (1 + p))] w fun e w' => e = .returned (.agg #[.bool yb, .int .u64 yh, .int .u64 yl]) ∧ Kept w w') (MH : ∀ w, Calls Try.prog 16 #[.int .i64 (n + 1), .int .i64 (262144 * (1 + p))] w fun e w' => e = .returned (.agg #[.bool zb, .int .u64 zh, .int .u64 zl]) ∧ Kept w w') (CH : ∀ w, Calls Try.prog 17 #[.agg #[.bool zb, .int .u64 zh, .int .u64 zl], .agg #[.bool xb, .int .u64 xh, .int .u64 xl]] w fun e w' => e = .returned (.int .i64 ch) ∧ Kept w w') (CL : ∀ w, Calls Try.prog 17 #[.agg #[.bool yb, .int .u64 yh, .int .u64 yl], .agg #[.bool xb, .int .u64 xh, .int .u64 xl]] w fun e w' => e = .returned (.int .i64 cl_) ∧ Kept w w') : Calls Try.prog 4 #[.int .u32 v, .int .u16 sg, .int .u32 t, .bool false] w fun e w' => e = .returned (.bool true) ∧ Kept w w' := by
  have GC' := Lib.hid GC
  have FC' := Lib.hid FC
  have OC' := Lib.hid OC
  have SC' := Lib.hid SC
  have AW' := Lib.hid (fun w => awake17 GC FC OC SC w)
  clear GC FC OC SC
  have MW' := Lib.hid MW
  have ML' := Lib.hid ML
  have MH' := Lib.hid MH
  have CH' := Lib.hid CH
  have CL' := Lib.hid CL
  clear MW ML MH CH CL
  have QG := Lib.hid (fun w_ => GC'.out false 5 4 rfl rfl w_)
  have Q0 := Lib.hid (fun w_ => OC'.out v g true (8 * (1 + p)) 0 false n (by unfold In64; omega) (by unfold In64; omega) (by unfold In64; omega) (by unfold In64; omega) f0 w_)
  clear f0
  have z1 : (n == 1) = false := by simp; omega
  have z2 : ¬ n = 1 := by omega
  go_enter Try.func4, Try.ntmps4
  go_wp2_with fail
  refine (AW'.out _).mono ?_
  rintro e w21 ⟨rfl, k21⟩
  go_wp2_with fail
  refine (QG.out _).mono ?_
  rintro e w22 ⟨rfl, k22⟩
  go_wp2_with fail
  refine (Q0.out _).mono ?_
  rintro e w23 ⟨rfl, k23⟩
  go_wp2_with fail
  refine (MW'.out _).mono ?_
  rintro e w24 ⟨rfl, k24⟩
  go_upto_region 7 with fail
  generalize hW : World.alloc w24 (.cells #[.bool xb, .int .u64 xh, .int .u64 xl] 35) = W_x
  have K_x : Kept w24 W_x := by subst hW; exact (Kept.refl _).alloc _ _
  have H_x := Lib.hid (show W_x.cell? ⟨w24.heap.size, 0, none⟩ = some (.bool xb) ∧ W_x.cell? ⟨w24.heap.size, 1, none⟩ = some (.int .u64 xh) ∧ W_x.cell? ⟨w24.heap.size, 2, none⟩ = some (.int .u64 xl) from by subst hW; simp [go_sem])
  clear hW
  generalize w24.heap.size = g_x at *
  go_wp2_with fail
  refine (ML'.out _).mono ?_
  rintro e w25 ⟨rfl, k25⟩
  go_upto_region 9 with fail
  generalize hW : World.alloc w25 (.cells #[.bool yb, .int .u64 yh, .int .u64 yl] 35) = W_y
  have K_y : Kept w25 W_y := by subst hW; exact (Kept.refl _).alloc _ _
  have H_y := Lib.hid (show W_y.cell? ⟨w25.heap.size, 0, none⟩ = some (.bool yb) ∧ W_y.cell? ⟨w25.heap.size, 1, none⟩ = some (.int .u64 yh) ∧ W_y.cell? ⟨w25.heap.size, 2, none⟩ = some (.int .u64 yl) from by subst hW; simp [go_sem])
  clear hW
  generalize w25.heap.size = g_y at *
  go_wp2_with fail
  refine (MH'.out _).mono ?_
  rintro e w26 ⟨rfl, k26⟩
  go_upto_region 10 with fail
  generalize hW : World.alloc w26 (.cells #[.bool zb, .int .u64 zh, .int .u64 zl] 35) = W_z
  have K_z : Kept w26 W_z := by subst hW; exact (Kept.refl _).alloc _ _
  have H_z := Lib.hid (show W_z.cell? ⟨w26.heap.size, 0, none⟩ = some (.bool zb) ∧ W_z.cell? ⟨w26.heap.size, 1, none⟩ = some (.int .u64 zh) ∧ W_z.cell? ⟨w26.heap.size, 2, none⟩ = some (.int .u64 zl) from by subst hW; simp [go_sem])
  clear hW
  generalize w26.heap.size = g_z at *
  obtain ⟨c_y0, c_y1, c_y2⟩ := Kept.all3 (show Kept W_y W_z from (by (repeat (first | with_reducible exact Kept.refl _ | with_reducible apply Kept.drew | with_reducible apply Kept.alloc | ((with_reducible apply Kept.set); focus (simp <;> omega)) | ((with_reducible apply Kept.via); focus with_reducible assumption))))) H_y
  obtain ⟨c_x0, c_x1, c_x2⟩ := Kept.all3 (show Kept W_x W_z from (by (repeat (first | with_reducible exact Kept.refl _ | with_reducible apply Kept.drew | with_reducible apply Kept.alloc | ((with_reducible apply Kept.set); focus (simp <;> omega)) | ((with_reducible apply Kept.via); focus with_reducible assumption))))) H_x
  go_wp2_with fail
  refine (CL'.out _).mono ?_
  rintro e w27 ⟨rfl, k27⟩
  clear c_y0 c_y1 c_y2 c_x0 c_x1 c_x2
  obtain ⟨c_z0, c_z1, c_z2⟩ := Kept.all3 (show Kept W_z w27 from (by (repeat (first | with_reducible exact Kept.refl _ | with_reducible apply Kept.drew | with_reducible apply Kept.alloc | ((with_reducible apply Kept.set); focus (simp <;> omega)) | ((with_reducible apply Kept.via); focus with_reducible assumption))))) H_z
  obtain ⟨c_x0, c_x1, c_x2⟩ := Kept.all3 (show Kept W_x w27 from (by (repeat (first | with_reducible exact Kept.refl _ | with_reducible apply Kept.drew | with_reducible apply Kept.alloc | ((with_reducible apply Kept.set); focus (simp <;> omega)) | ((with_reducible apply Kept.via); focus with_reducible assumption))))) H_x
  go_wp2_with fail
  refine (CH'.out _).mono ?_
  rintro e w28 ⟨rfl, k28⟩
  clear c_z0 c_z1 c_z2 c_x0 c_x1 c_x2
  go_wp2
  go_ret
  exact ⟨rfl, (by (repeat (first | with_reducible exact Kept.refl _ | with_reducible apply Kept.drew | with_reducible apply Kept.alloc | ((with_reducible apply Kept.set); focus (simp <;> omega)) | ((with_reducible apply Kept.via); focus with_reducible assumption))))⟩
theorem rateExact_walk (GC : VGainC) (FC : VFirstC) (OC : VOfC) (SC : VSpanC) (v sg t : Int) (s : Bool) (w : World) (v0 : 0 ≤ v) (v1 : v ≤ 4294967295) (h0 : 0 ≤ sg) (h1 : sg ≤ 65535) (t0 : 0 ≤ t) (t1 : t ≤ 4294967295) : Calls Try.prog 4 #[.int .u32 v, .int .u16 sg, .int .u32 t, .bool s] w fun e w' => e = .returned (.bool true) ∧ Kept w w' := by
  obtain ⟨g, eg⟩ : ∃ g, (if sg < 1 then 1 else sg) = g := ⟨_, rfl⟩
  have eg2 : max sg 1 = g := by rw [← eg]; split <;> omega
  have gb : 1 ≤ g ∧ g ≤ 65535 := by rw [← eg]; split <;> omega
  obtain ⟨p, ep⟩ : ∃ p, t % 1073741824 = p := ⟨_, rfl⟩
  have pb : 0 ≤ p ∧ p ≤ 1073741823 := by omega
  have ex := of_exact (w := v) (g := g) (t := 1 + p) s ⟨v0, v1⟩ gb (by omega)
  have rg := of_range v g true (8 * (1 + p)) 0 s
  obtain ⟨n, hn⟩ : ∃ n, ofT v g true (8 * (1 + p)) 0 s = n := ⟨_, rfl⟩
  rw [hn] at ex rg
  have key : ∀ (a b c : Int), In64 a → In64 b → In64 c → In64 (c + 1) → ∀ (pt : Int), In64 pt → (c * pt ≤ a * b ∨ c = 1) → a * b < (c + 1) * pt → ∃ xb xh xl yb yh yl zb zh zl, Rep xb xh xl (a * b) ∧ Rep yb yh yl (c * pt) ∧ Rep zb zh zl ((c + 1) * pt) ∧ (c = 1 ∨ decide (cmpI (numOf yb yh yl) (numOf xb xh xl) ≤ 0) = true) ∧ decide (0 < cmpI (numOf zb zh zl) (numOf xb xh xl)) = true := fun a b c ia ib ic id pt ip h1 h2 => by
    obtain ⟨xb, xh, xl, rx⟩ := rep_ex _ (mul_in ia ib)
    obtain ⟨yb, yh, yl, ry⟩ := rep_ex _ (mul_in ic ip)
    obtain ⟨zb, zh, zl, rz⟩ := rep_ex _ (mul_in id ip)
    refine ⟨xb, xh, xl, yb, yh, yl, zb, zh, zl, rx, ry, rz, ?_, ?_⟩
    · rcases h1 with h | h
      · right
        rw [ry.2.2.1, rx.2.2.1]
        generalize c * pt = e at *
        generalize a * b = d at *
        unfold cmpI; simp; split
        · omega
        · rw [if_pos (by omega)]; omega
      · exact Or.inl h
    · rw [rz.2.2.1, rx.2.2.1]
      generalize (c + 1) * pt = e at *
      generalize a * b = d at *
      unfold cmpI; simp
      rw [if_neg (by omega), if_neg (by omega)]; omega
  cases s with
  | true =>
    have e1 : n * (denT true * 65536 * (1 + p)) = n * (65536 * (1 + p)) := rfl
    have e2 : (n + 1) * (denT true * 65536 * (1 + p)) = (n + 1) * (65536 * (1 + p)) := rfl
    have e3 : v * (g * 1000000 * numT true) = v * (g * 1000000 * 2) := rfl
    rw [e1, e2, e3] at ex
    have i0 : In64 v := by unfold In64; omega
    have i1 : In64 (g * 1000000 * 2) := by unfold In64; omega
    have i2 : In64 n := by unfold In64; omega
    have i3 : In64 (n + 1) := by unfold In64; omega
    have i4 : In64 (65536 * (1 + p)) := by unfold In64; omega
    obtain ⟨xb, xh, xl, yb, yh, yl, zb, zh, zl, rx, ry, rz, hl, hh⟩ := key v (g * 1000000 * 2) n i0 i1 i2 i3 (65536 * (1 + p)) i4 ex.1.symm ex.2
    have MW := fun w => refMul_rep i0 i1 rx w
    have ML := fun w => refMul_rep i2 i4 ry w
    have MH := fun w => refMul_rep i3 i4 rz w
    have CH := fun w => refCmp_ok (b1 := zb) (b2 := xb) rz.1 rz.2.1 rx.1 rx.2.1 w
    have CLk := fun w => refCmp_ok (b1 := yb) (b2 := xb) ry.1 ry.2.1 rx.1 rx.2.1 w
    by_cases z : n = 1
    · subst z
      exact exact17_t1 GC FC OC SC v0 v1 h0 h1 t0 t1 eg eg2 gb.1 gb.2 ep pb.1 pb.2 hn hh w MW ML MH CH
    · exact exact17_tn GC FC OC SC v0 v1 h0 h1 t0 t1 eg eg2 gb.1 gb.2 ep pb.1 pb.2 hn hh (by omega) rg.2 (hl.resolve_left z) w MW ML MH CH CLk
  | false =>
    have e1 : n * (denT false * 65536 * (1 + p)) = n * (262144 * (1 + p)) := rfl
    have e2 : (n + 1) * (denT false * 65536 * (1 + p)) = (n + 1) * (262144 * (1 + p)) := rfl
    have e3 : v * (g * 1000000 * numT false) = v * (g * 1000000 * 5) := rfl
    rw [e1, e2, e3] at ex
    have i0 : In64 v := by unfold In64; omega
    have i1 : In64 (g * 1000000 * 5) := by unfold In64; omega
    have i2 : In64 n := by unfold In64; omega
    have i3 : In64 (n + 1) := by unfold In64; omega
    have i4 : In64 (262144 * (1 + p)) := by unfold In64; omega
    obtain ⟨xb, xh, xl, yb, yh, yl, zb, zh, zl, rx, ry, rz, hl, hh⟩ := key v (g * 1000000 * 5) n i0 i1 i2 i3 (262144 * (1 + p)) i4 ex.1.symm ex.2
    have MW := fun w => refMul_rep i0 i1 rx w
    have ML := fun w => refMul_rep i2 i4 ry w
    have MH := fun w => refMul_rep i3 i4 rz w
    have CH := fun w => refCmp_ok (b1 := zb) (b2 := xb) rz.1 rz.2.1 rx.1 rx.2.1 w
    have CLk := fun w => refCmp_ok (b1 := yb) (b2 := xb) ry.1 ry.2.1 rx.1 rx.2.1 w
    by_cases z : n = 1
    · subst z
      exact exact17_f1 GC FC OC SC v0 v1 h0 h1 t0 t1 eg eg2 gb.1 gb.2 ep pb.1 pb.2 hn hh w MW ML MH CH
    · exact exact17_fn GC FC OC SC v0 v1 h0 h1 t0 t1 eg eg2 gb.1 gb.2 ep pb.1 pb.2 hn hh (by omega) rg.2 (hl.resolve_left z) w MW ML MH CH CLk
end Go.Proofs.Ytjfeobkkkgalaaa
