/-
  The walk of GuideChecks: it answers true, if the calls do what they are to do.
-/
import Derived.Test.YtdbikeehoildlaaDoorAwake19
import Derived.Deep.RegionHeld3
import Derived.Deep.DeepCutAuto
namespace Go.Proofs.YtdbikeehoildlaaDoor
open Go.RowKit Go.BigFrame
set_option linter.unusedVariables false

set_option maxRecDepth 100000 in
set_option maxHeartbeats 1600000 in
theorem checks19_no (GC : GdCheckC) (FC : GdFirstC) (IC : GdIdleC) (PC : GdPauseC) (UC : GdUsedC) (YC : GdPartsC) (EC : ECheckC) (BC : EBeginC) {sg mx fi gn ls gt bu first most : Int} (isg : In64 sg) (imx : In64 mx) (ifi : In64 fi) (ign : In64 gn) (ils : In64 ls) (igt : In64 gt) (ibu : In64 bu) (m : ¬ MayCf (⟨sg, mx, fi, gn, ls, gt, bu⟩ : Cf))  (w : World) (T_ : Tens w) : Calls Tryd.prog 7 #[.agg #[.int .i64 sg, .int .i64 mx, .int .i64 fi, .int .i64 gn, .int .i64 ls, .int .i64 gt, .int .i64 bu], .int .i64 first, .int .i64 most] w fun e w' => e = .returned (.bool true) ∧ Kept w w' := by
  have GC' := Lib.hid GC
  have FC' := Lib.hid FC
  have IC' := Lib.hid IC
  have PC' := Lib.hid PC
  have UC' := Lib.hid UC
  have YC' := Lib.hid YC
  have EC' := Lib.hid EC
  have BC' := Lib.hid BC
  have AW' := Lib.hid (fun w TT_ => awake19 GC FC IC PC UC YC EC BC w TT_)
  clear GC FC IC PC UC YC EC BC
  have T := Lib.hid T_
  clear T_
  have Q0 := Lib.hid (fun w_ => GC'.out (⟨sg, mx, fi, gn, ls, gt, bu⟩ : Cf) 210 (by unfold CfIn; exact ⟨isg, imx, ifi, ign, ils, igt, ibu⟩) (by unfold cfgE; rw [if_neg m]) w_)
  have Q1 := Lib.hid (fun w_ => FC'.out (⟨sg, mx, fi, gn, ls, gt, bu⟩ : Cf) 131072 (by unfold CfIn; exact ⟨isg, imx, ifi, ign, ils, igt, ibu⟩) (by unfold firstW; rw [if_neg m]) w_)
  clear m isg imx ifi ign ils igt ibu
  go_enter Tryd.func7, Tryd.ntmps7
  go_upto_region 1 with fail
  generalize hW : World.alloc w (.cells #[.int .i64 sg, .int .i64 mx, .int .i64 fi, .int .i64 gn, .int .i64 ls, .int .i64 gt, .int .i64 bu] 23) = W_c
  have K_c : Kept w W_c := by subst hW; exact (Kept.refl _).alloc _ _
  have H_c := Lib.hid (show W_c.cell? ⟨w.heap.size, 0, none⟩ = some (.int .i64 sg) ∧ W_c.cell? ⟨w.heap.size, 1, none⟩ = some (.int .i64 mx) ∧ W_c.cell? ⟨w.heap.size, 2, none⟩ = some (.int .i64 fi) ∧ W_c.cell? ⟨w.heap.size, 3, none⟩ = some (.int .i64 gn) ∧ W_c.cell? ⟨w.heap.size, 4, none⟩ = some (.int .i64 ls) ∧ W_c.cell? ⟨w.heap.size, 5, none⟩ = some (.int .i64 gt) ∧ W_c.cell? ⟨w.heap.size, 6, none⟩ = some (.int .i64 bu) from by subst hW; simp [go_sem])
  clear hW
  generalize w.heap.size = g_c at *
  go_wp2_with fail
  refine (AW'.out _ (Tens.kept T.out (by (repeat (first | with_reducible exact Kept.refl _ | with_reducible apply Kept.drew | with_reducible apply Kept.alloc | ((with_reducible apply Kept.set); focus (simp <;> omega)) | ((with_reducible apply Kept.via); focus with_reducible assumption)))))).mono ?_
  rintro e w20 ⟨rfl, k20⟩
  obtain ⟨cc0, cc1, cc2, cc3, cc4, cc5, cc6⟩ := Kept.alln7 (show Kept W_c w20 from (by (repeat (first | with_reducible exact Kept.refl _ | with_reducible apply Kept.drew | with_reducible apply Kept.alloc | ((with_reducible apply Kept.set); focus (simp <;> omega)) | ((with_reducible apply Kept.via); focus with_reducible assumption))))) H_c
  go_wp2_with fail
  refine (Q0.out _).mono ?_
  rintro e w21 ⟨rfl, k21⟩
  clear cc0 cc1 cc2 cc3 cc4 cc5 cc6
  obtain ⟨cc0, cc1, cc2, cc3, cc4, cc5, cc6⟩ := Kept.alln7 (show Kept W_c w21 from (by (repeat (first | with_reducible exact Kept.refl _ | with_reducible apply Kept.drew | with_reducible apply Kept.alloc | ((with_reducible apply Kept.set); focus (simp <;> omega)) | ((with_reducible apply Kept.via); focus with_reducible assumption))))) H_c
  go_wp2_with fail
  refine (Q1.out _).mono ?_
  rintro e w22 ⟨rfl, k22⟩
  clear cc0 cc1 cc2 cc3 cc4 cc5 cc6
  go_wp2
  go_ret
  exact ⟨rfl, (by (repeat (first | with_reducible exact Kept.refl _ | with_reducible apply Kept.drew | with_reducible apply Kept.alloc | ((with_reducible apply Kept.set); focus (simp <;> omega)) | ((with_reducible apply Kept.via); focus with_reducible assumption))))⟩
set_option maxRecDepth 100000 in
set_option maxHeartbeats 1600000 in
theorem checks19_y (GC : GdCheckC) (FC : GdFirstC) (IC : GdIdleC) (PC : GdPauseC) (UC : GdUsedC) (YC : GdPartsC) (EC : ECheckC) (BC : EBeginC) {sg mx fi gn ls gt bu first most p r s n f : Int} (isg : In64 sg) (imx : In64 mx) (ifi : In64 fi) (ign : In64 gn) (ils : In64 ls) (igt : In64 gt) (ibu : In64 bu) (m : MayCf (⟨sg, mx, fi, gn, ls, gt, bu⟩ : Cf)) (e1 : (if first < 0 then 0 else first) = p) (p0 : 0 ≤ p) (p1 : p ≤ 9223372036854775807) (er : p % (fi - 1) = r) (r0 : 0 ≤ r) (r1 : r < fi - 1) (e2 : (if 1048576 < most then 1048576 else most) = s) (e3 : (if mx < s then s else mx) = n) (n0 : 4 ≤ n) (n1 : n ≤ 1048576) (nx : mx ≤ n) (ef : firstW (⟨sg, mx, fi, gn, ls, gt, bu⟩ : Cf) = f) (f0 : 131072 ≤ f) (f1 : f ≤ mx * 65536)  (w : World) (T_ : Tens w) : Calls Tryd.prog 7 #[.agg #[.int .i64 sg, .int .i64 mx, .int .i64 fi, .int .i64 gn, .int .i64 ls, .int .i64 gt, .int .i64 bu], .int .i64 first, .int .i64 most] w fun e w' => e = .returned (.bool true) ∧ Kept w w' := by
  have GC' := Lib.hid GC
  have FC' := Lib.hid FC
  have IC' := Lib.hid IC
  have PC' := Lib.hid PC
  have UC' := Lib.hid UC
  have YC' := Lib.hid YC
  have EC' := Lib.hid EC
  have BC' := Lib.hid BC
  have AW' := Lib.hid (fun w TT_ => awake19 GC FC IC PC UC YC EC BC w TT_)
  clear GC FC IC PC UC YC EC BC
  have T := Lib.hid T_
  clear T_
  have mm := m
  unfold MayCf at mm
  dsimp only at mm
  obtain ⟨⟨m0, m1⟩, ⟨m2, m3⟩, ⟨m4, m5⟩, ⟨m6, m7⟩, ⟨m8, m9⟩, m10, m11, m12⟩ := mm
  have Q0 := Lib.hid (fun w_ => GC'.out (⟨sg, mx, fi, gn, ls, gt, bu⟩ : Cf) 0 (by unfold CfIn; exact ⟨isg, imx, ifi, ign, ils, igt, ibu⟩) (cfgE_ok.2 m) w_)
  have QA := Lib.hid (fun w_ => GC'.out (⟨sg, mx, 2 + r, gn, ls, gt, bu⟩ : Cf) 0 (by unfold CfIn In64 at *; dsimp only; omega) (cfgE_ok.2 (by unfold MayCf; dsimp only; omega)) w_)
  have QB := Lib.hid (fun w_ => GC'.out (⟨sg, n, fi, gn, ls, gt, bu⟩ : Cf) 0 (by unfold CfIn In64 at *; dsimp only; omega) (cfgE_ok.2 (by unfold MayCf; dsimp only; omega)) w_)
  have QX := Lib.hid (fun w_ => GC'.out (⟨0, mx, fi, gn, ls, gt, bu⟩ : Cf) 210 (by unfold CfIn In64 at *; dsimp only; omega) (by unfold cfgE; exact if_neg (by unfold MayCf; dsimp only; omega)) w_)
  have QY := Lib.hid (fun w_ => GC'.out (⟨sg, mx, mx + 1, gn, ls, gt, bu⟩ : Cf) 210 (by unfold CfIn In64 at *; dsimp only; omega) (by unfold cfgE; exact if_neg (by unfold MayCf; dsimp only; omega)) w_)
  have QZ := Lib.hid (fun w_ => GC'.out (⟨sg, mx, fi, gn, gt + 1, gt, bu⟩ : Cf) 210 (by unfold CfIn In64 at *; dsimp only; omega) (by unfold cfgE; exact if_neg (by unfold MayCf; dsimp only; omega)) w_)
  have QF := Lib.hid (fun w_ => FC'.out (⟨sg, mx, fi, gn, ls, gt, bu⟩ : Cf) f (by unfold CfIn; exact ⟨isg, imx, ifi, ign, ils, igt, ibu⟩) ef w_)
  clear m ef isg imx ifi ign ils igt ibu
  have g1 : max first 0 = p := by rw [← e1]; split <;> omega
  have g2 : min most 1048576 = s := by rw [← e2]; split <;> omega
  have g3 : max mx s = n := by rw [← e3]; split <;> omega
  have er2 : p.tmod (fi - 1) = r := by rw [Int.tmod_eq_emod_of_nonneg p0]; exact er
  have q1 : (fi - 1 == 0) = false := by simp; omega
  have q2 : ¬ fi - 1 = 0 := by omega
  have w1 : IntKind.i64.wrap (mx * 65536) = mx * 65536 := by rw [IntKind.wrap_i64]; omega
  have d0 : decide (f ≤ mx * 65536) = true := decide_eq_true f1
  have d1 : decide (131072 ≤ f) = true := decide_eq_true f0
  go_enter Tryd.func7, Tryd.ntmps7
  go_upto_region 1 with fail
  generalize hW : World.alloc w (.cells #[.int .i64 sg, .int .i64 mx, .int .i64 fi, .int .i64 gn, .int .i64 ls, .int .i64 gt, .int .i64 bu] 23) = W_c
  have K_c : Kept w W_c := by subst hW; exact (Kept.refl _).alloc _ _
  have H_c := Lib.hid (show W_c.cell? ⟨w.heap.size, 0, none⟩ = some (.int .i64 sg) ∧ W_c.cell? ⟨w.heap.size, 1, none⟩ = some (.int .i64 mx) ∧ W_c.cell? ⟨w.heap.size, 2, none⟩ = some (.int .i64 fi) ∧ W_c.cell? ⟨w.heap.size, 3, none⟩ = some (.int .i64 gn) ∧ W_c.cell? ⟨w.heap.size, 4, none⟩ = some (.int .i64 ls) ∧ W_c.cell? ⟨w.heap.size, 5, none⟩ = some (.int .i64 gt) ∧ W_c.cell? ⟨w.heap.size, 6, none⟩ = some (.int .i64 bu) from by subst hW; simp [go_sem])
  clear hW
  generalize w.heap.size = g_c at *
  go_wp2_with fail
  refine (AW'.out _ (Tens.kept T.out (by (repeat (first | with_reducible exact Kept.refl _ | with_reducible apply Kept.drew | with_reducible apply Kept.alloc | ((with_reducible apply Kept.set); focus (simp <;> omega)) | ((with_reducible apply Kept.via); focus with_reducible assumption)))))).mono ?_
  rintro e w20 ⟨rfl, k20⟩
  obtain ⟨cc0, cc1, cc2, cc3, cc4, cc5, cc6⟩ := Kept.alln7 (show Kept W_c w20 from (by (repeat (first | with_reducible exact Kept.refl _ | with_reducible apply Kept.drew | with_reducible apply Kept.alloc | ((with_reducible apply Kept.set); focus (simp <;> omega)) | ((with_reducible apply Kept.via); focus with_reducible assumption))))) H_c
  go_wp2_with fail
  refine (Q0.out _).mono ?_
  rintro e w21 ⟨rfl, k21⟩
  clear cc0 cc1 cc2 cc3 cc4 cc5 cc6
  obtain ⟨cc0, cc1, cc2, cc3, cc4, cc5, cc6⟩ := Kept.alln7 (show Kept W_c w21 from (by (repeat (first | with_reducible exact Kept.refl _ | with_reducible apply Kept.drew | with_reducible apply Kept.alloc | ((with_reducible apply Kept.set); focus (simp <;> omega)) | ((with_reducible apply Kept.via); focus with_reducible assumption))))) H_c
  have nc := cell_lt cc0
  go_upto_region 6 with fail
  generalize hW : World.alloc w21 (.cells #[.int .i64 sg, .int .i64 mx, .int .i64 (2 + r), .int .i64 gn, .int .i64 ls, .int .i64 gt, .int .i64 bu] 23) = W_a
  have K_a : Kept w21 W_a := by subst hW; exact (Kept.refl _).alloc _ _
  have H_a := Lib.hid (show W_a.cell? ⟨w21.heap.size, 0, none⟩ = some (.int .i64 sg) ∧ W_a.cell? ⟨w21.heap.size, 1, none⟩ = some (.int .i64 mx) ∧ W_a.cell? ⟨w21.heap.size, 2, none⟩ = some (.int .i64 (2 + r)) ∧ W_a.cell? ⟨w21.heap.size, 3, none⟩ = some (.int .i64 gn) ∧ W_a.cell? ⟨w21.heap.size, 4, none⟩ = some (.int .i64 ls) ∧ W_a.cell? ⟨w21.heap.size, 5, none⟩ = some (.int .i64 gt) ∧ W_a.cell? ⟨w21.heap.size, 6, none⟩ = some (.int .i64 bu) from by subst hW; simp [go_sem])
  clear hW
  generalize w21.heap.size = g_a at *
  clear cc0 cc1 cc2 cc3 cc4 cc5 cc6
  clear nc
  obtain ⟨cc0, cc1, cc2, cc3, cc4, cc5, cc6⟩ := Kept.alln7 (show Kept W_c W_a from (by (repeat (first | with_reducible exact Kept.refl _ | with_reducible apply Kept.drew | with_reducible apply Kept.alloc | ((with_reducible apply Kept.set); focus (simp <;> omega)) | ((with_reducible apply Kept.via); focus with_reducible assumption))))) H_c
  have nc := cell_lt cc0
  go_upto_region 8 with fail
  generalize hW : World.alloc W_a (.cells #[.int .i64 sg, .int .i64 n, .int .i64 fi, .int .i64 gn, .int .i64 ls, .int .i64 gt, .int .i64 bu] 23) = W_b
  have K_b : Kept W_a W_b := by subst hW; exact (Kept.refl _).alloc _ _
  have H_b := Lib.hid (show W_b.cell? ⟨W_a.heap.size, 0, none⟩ = some (.int .i64 sg) ∧ W_b.cell? ⟨W_a.heap.size, 1, none⟩ = some (.int .i64 n) ∧ W_b.cell? ⟨W_a.heap.size, 2, none⟩ = some (.int .i64 fi) ∧ W_b.cell? ⟨W_a.heap.size, 3, none⟩ = some (.int .i64 gn) ∧ W_b.cell? ⟨W_a.heap.size, 4, none⟩ = some (.int .i64 ls) ∧ W_b.cell? ⟨W_a.heap.size, 5, none⟩ = some (.int .i64 gt) ∧ W_b.cell? ⟨W_a.heap.size, 6, none⟩ = some (.int .i64 bu) from by subst hW; simp [go_sem])
  clear hW
  generalize W_a.heap.size = g_b at *
  clear cc0 cc1 cc2 cc3 cc4 cc5 cc6
  clear nc
  obtain ⟨cc0, cc1, cc2, cc3, cc4, cc5, cc6⟩ := Kept.alln7 (show Kept W_c W_b from (by (repeat (first | with_reducible exact Kept.refl _ | with_reducible apply Kept.drew | with_reducible apply Kept.alloc | ((with_reducible apply Kept.set); focus (simp <;> omega)) | ((with_reducible apply Kept.via); focus with_reducible assumption))))) H_c
  have nc := cell_lt cc0
  go_upto_region 10 with fail
  generalize hW : World.alloc W_b (.cells #[.int .i64 0, .int .i64 mx, .int .i64 fi, .int .i64 gn, .int .i64 ls, .int .i64 gt, .int .i64 bu] 23) = W_x
  have K_x : Kept W_b W_x := by subst hW; exact (Kept.refl _).alloc _ _
  have H_x := Lib.hid (show W_x.cell? ⟨W_b.heap.size, 0, none⟩ = some (.int .i64 0) ∧ W_x.cell? ⟨W_b.heap.size, 1, none⟩ = some (.int .i64 mx) ∧ W_x.cell? ⟨W_b.heap.size, 2, none⟩ = some (.int .i64 fi) ∧ W_x.cell? ⟨W_b.heap.size, 3, none⟩ = some (.int .i64 gn) ∧ W_x.cell? ⟨W_b.heap.size, 4, none⟩ = some (.int .i64 ls) ∧ W_x.cell? ⟨W_b.heap.size, 5, none⟩ = some (.int .i64 gt) ∧ W_x.cell? ⟨W_b.heap.size, 6, none⟩ = some (.int .i64 bu) from by subst hW; simp [go_sem])
  clear hW
  generalize W_b.heap.size = g_x at *
  clear cc0 cc1 cc2 cc3 cc4 cc5 cc6
  clear nc
  obtain ⟨cc0, cc1, cc2, cc3, cc4, cc5, cc6⟩ := Kept.alln7 (show Kept W_c W_x from (by (repeat (first | with_reducible exact Kept.refl _ | with_reducible apply Kept.drew | with_reducible apply Kept.alloc | ((with_reducible apply Kept.set); focus (simp <;> omega)) | ((with_reducible apply Kept.via); focus with_reducible assumption))))) H_c
  have nc := cell_lt cc0
  go_upto_region 12 with fail
  generalize hW : World.alloc W_x (.cells #[.int .i64 sg, .int .i64 mx, .int .i64 (mx + 1), .int .i64 gn, .int .i64 ls, .int .i64 gt, .int .i64 bu] 23) = W_y
  have K_y : Kept W_x W_y := by subst hW; exact (Kept.refl _).alloc _ _
  have H_y := Lib.hid (show W_y.cell? ⟨W_x.heap.size, 0, none⟩ = some (.int .i64 sg) ∧ W_y.cell? ⟨W_x.heap.size, 1, none⟩ = some (.int .i64 mx) ∧ W_y.cell? ⟨W_x.heap.size, 2, none⟩ = some (.int .i64 (mx + 1)) ∧ W_y.cell? ⟨W_x.heap.size, 3, none⟩ = some (.int .i64 gn) ∧ W_y.cell? ⟨W_x.heap.size, 4, none⟩ = some (.int .i64 ls) ∧ W_y.cell? ⟨W_x.heap.size, 5, none⟩ = some (.int .i64 gt) ∧ W_y.cell? ⟨W_x.heap.size, 6, none⟩ = some (.int .i64 bu) from by subst hW; simp [go_sem])
  clear hW
  generalize W_x.heap.size = g_y at *
  clear cc0 cc1 cc2 cc3 cc4 cc5 cc6
  clear nc
  obtain ⟨cc0, cc1, cc2, cc3, cc4, cc5, cc6⟩ := Kept.alln7 (show Kept W_c W_y from (by (repeat (first | with_reducible exact Kept.refl _ | with_reducible apply Kept.drew | with_reducible apply Kept.alloc | ((with_reducible apply Kept.set); focus (simp <;> omega)) | ((with_reducible apply Kept.via); focus with_reducible assumption))))) H_c
  have nc := cell_lt cc0
  go_upto_region 14 with fail
  generalize hW : World.alloc W_y (.cells #[.int .i64 sg, .int .i64 mx, .int .i64 fi, .int .i64 gn, .int .i64 (gt + 1), .int .i64 gt, .int .i64 bu] 23) = W_z
  have K_z : Kept W_y W_z := by subst hW; exact (Kept.refl _).alloc _ _
  have H_z := Lib.hid (show W_z.cell? ⟨W_y.heap.size, 0, none⟩ = some (.int .i64 sg) ∧ W_z.cell? ⟨W_y.heap.size, 1, none⟩ = some (.int .i64 mx) ∧ W_z.cell? ⟨W_y.heap.size, 2, none⟩ = some (.int .i64 fi) ∧ W_z.cell? ⟨W_y.heap.size, 3, none⟩ = some (.int .i64 gn) ∧ W_z.cell? ⟨W_y.heap.size, 4, none⟩ = some (.int .i64 (gt + 1)) ∧ W_z.cell? ⟨W_y.heap.size, 5, none⟩ = some (.int .i64 gt) ∧ W_z.cell? ⟨W_y.heap.size, 6, none⟩ = some (.int .i64 bu) from by subst hW; simp [go_sem])
  clear hW
  generalize W_y.heap.size = g_z at *
  clear cc0 cc1 cc2 cc3 cc4 cc5 cc6
  clear nc
  have B_a := Lib.hid (Kept.alln7 (show Kept W_a W_z from (by (repeat (first | with_reducible exact Kept.refl _ | with_reducible apply Kept.drew | with_reducible apply Kept.alloc | ((with_reducible apply Kept.set); focus (simp <;> omega)) | ((with_reducible apply Kept.via); focus with_reducible assumption))))) H_a)
  have B_b := Lib.hid (Kept.alln7 (show Kept W_b W_z from (by (repeat (first | with_reducible exact Kept.refl _ | with_reducible apply Kept.drew | with_reducible apply Kept.alloc | ((with_reducible apply Kept.set); focus (simp <;> omega)) | ((with_reducible apply Kept.via); focus with_reducible assumption))))) H_b)
  have B_x := Lib.hid (Kept.alln7 (show Kept W_x W_z from (by (repeat (first | with_reducible exact Kept.refl _ | with_reducible apply Kept.drew | with_reducible apply Kept.alloc | ((with_reducible apply Kept.set); focus (simp <;> omega)) | ((with_reducible apply Kept.via); focus with_reducible assumption))))) H_x)
  have B_y := Lib.hid (Kept.alln7 (show Kept W_y W_z from (by (repeat (first | with_reducible exact Kept.refl _ | with_reducible apply Kept.drew | with_reducible apply Kept.alloc | ((with_reducible apply Kept.set); focus (simp <;> omega)) | ((with_reducible apply Kept.via); focus with_reducible assumption))))) H_y)
  have B_z := Lib.hid (Kept.alln7 (show Kept W_z W_z from (by (repeat (first | with_reducible exact Kept.refl _ | with_reducible apply Kept.drew | with_reducible apply Kept.alloc | ((with_reducible apply Kept.set); focus (simp <;> omega)) | ((with_reducible apply Kept.via); focus with_reducible assumption))))) H_z)
  have B_c := Lib.hid (Kept.alln7 (show Kept W_c W_z from (by (repeat (first | with_reducible exact Kept.refl _ | with_reducible apply Kept.drew | with_reducible apply Kept.alloc | ((with_reducible apply Kept.set); focus (simp <;> omega)) | ((with_reducible apply Kept.via); focus with_reducible assumption))))) H_c)
  have kall : Kept w W_z := (by (repeat (first | with_reducible exact Kept.refl _ | with_reducible apply Kept.drew | with_reducible apply Kept.alloc | ((with_reducible apply Kept.set); focus (simp <;> omega)) | ((with_reducible apply Kept.via); focus with_reducible assumption))))
  obtain ⟨q_a0, q_a1, q_a2, q_a3, q_a4, q_a5, q_a6⟩ := kwn7 B_a
  obtain ⟨q_b0, q_b1, q_b2, q_b3, q_b4, q_b5, q_b6⟩ := kwn7 B_b
  obtain ⟨q_x0, q_x1, q_x2, q_x3, q_x4, q_x5, q_x6⟩ := kwn7 B_x
  obtain ⟨q_y0, q_y1, q_y2, q_y3, q_y4, q_y5, q_y6⟩ := kwn7 B_y
  obtain ⟨q_z0, q_z1, q_z2, q_z3, q_z4, q_z5, q_z6⟩ := kwn7 B_z
  obtain ⟨q_c0, q_c1, q_c2, q_c3, q_c4, q_c5, q_c6⟩ := kwn7 B_c
  clear B_a B_b B_x B_y B_z B_c
  refine wp_region_kept (by kernel_rfl) (by as_aux_lemma => kernel_rfl) ?_
  repeat (go_big_quiet_step (first | (with_reducible exact kept_of (QA.out _)) | (with_reducible exact kept_of (QB.out _)) | (with_reducible exact kept_of (QX.out _)) | (with_reducible exact kept_of (QY.out _)) | (with_reducible exact kept_of (QZ.out _)) | (with_reducible exact kept_of (QF.out _))))
  refine wpQuiet_nil ?_
  intro wq hw'
  have kq : Kept W_z wq := by obtain ⟨p, rfl⟩ := hw'; exact p.k
  clear hw'
  clear kall
  go_wp2
  go_ret
  exact ⟨rfl, Kept.trans (Kept.trans (Kept.trans (Kept.trans (Kept.trans (Kept.trans (Kept.trans (Kept.trans (K_c) k20) k21) K_a) K_b) K_x) K_y) K_z) kq⟩
theorem guideChecks_walk (GC : GdCheckC) (FC : GdFirstC) (IC : GdIdleC) (PC : GdPauseC) (UC : GdUsedC) (YC : GdPartsC) (EC : ECheckC) (BC : EBeginC) (sg mx fi gn ls gt bu first most : Int) (w : World) (T_ : Tens w) (isg : In64 sg) (imx : In64 mx) (ifi : In64 fi) (ign : In64 gn) (ils : In64 ls) (igt : In64 gt) (ibu : In64 bu) (hf : In64 first) (hm : In64 most) : Calls Tryd.prog 7 #[.agg #[.int .i64 sg, .int .i64 mx, .int .i64 fi, .int .i64 gn, .int .i64 ls, .int .i64 gt, .int .i64 bu], .int .i64 first, .int .i64 most] w fun e w' => e = .returned (.bool true) ∧ Kept w w' := by
  by_cases m : MayCf (⟨sg, mx, fi, gn, ls, gt, bu⟩ : Cf)
  · have mm := m
    unfold MayCf at mm
    dsimp only at mm
    have fw : firstW (⟨sg, mx, fi, gn, ls, gt, bu⟩ : Cf) = 65536 * fi := by unfold firstW; rw [if_pos m]
    have r0 := Int.emod_nonneg (if first < 0 then 0 else first) (show fi - 1 ≠ 0 by omega)
    have r1 := Int.emod_lt_of_pos (if first < 0 then 0 else first) (show 0 < fi - 1 by omega)
    unfold In64 at hf hm
    exact checks19_y GC FC IC PC UC YC EC BC isg imx ifi ign ils igt ibu m rfl (by split <;> omega) (by split <;> omega) rfl r0 r1 rfl rfl (by split <;> split <;> omega) (by split <;> split <;> omega) (by split <;> split <;> omega) fw (by omega) (by omega) w T_
  · exact checks19_no GC FC IC PC UC YC EC BC isg imx ifi ign ils igt ibu m w T_
end Go.Proofs.YtdbikeehoildlaaDoor
