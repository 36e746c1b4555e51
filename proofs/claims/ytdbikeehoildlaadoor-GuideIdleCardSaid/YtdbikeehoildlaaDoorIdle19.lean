/-
  The walk of GuideIdle: it answers true, if the calls do what they are to do.
-/
import Derived.Test.YtdbikeehoildlaaDoorAwake19
import Derived.Deep.RegionHeld3
import Derived.Deep.DeepCutAuto
namespace Go.Proofs.YtdbikeehoildlaaDoor
open Go.RowKit Go.BigFrame
set_option linter.unusedVariables false

set_option maxRecDepth 100000 in
set_option maxHeartbeats 1600000 in
theorem idle19_s (GC : GdCheckC) (FC : GdFirstC) (IC : GdIdleC) (PC : GdPauseC) (UC : GdUsedC) (YC : GdPartsC) (EC : ECheckC) (BC : EBeginC) {v a b tmo lo hi n sh lg f sg mx fi gn ls gt bu : Int} (isg : In64 sg) (imx : In64 mx) (ifi : In64 fi) (ign : In64 gn) (ils : In64 ls) (igt : In64 gt) (ibu : In64 bu) (v0 : 0 ≤ v) (v1 : v ≤ 4294967295) (a0 : 0 ≤ a) (a1 : a ≤ 4294967295) (b0 : 0 ≤ b) (b1 : b ≤ 4294967295) (tmo0 : 0 ≤ tmo) (tmo1 : tmo ≤ 4294967295) (l0 : 0 ≤ lo) (l1 : lo ≤ 4294967295) (h0 : 0 ≤ hi) (h1 : hi ≤ 4294967295) (e1 : (if b < a then b else a) = lo) (e2 : (if a < b then b else a) = hi) (q1 : idleN (131072 + v) 0 a tmo (⟨sg, mx, fi, gn, ls, gt, bu⟩ : Cf) = n) (q2 : idleN (131072 + v) 0 lo tmo (⟨sg, mx, fi, gn, ls, gt, bu⟩ : Cf) = sh) (q3 : idleN (131072 + v) 0 hi tmo (⟨sg, mx, fi, gn, ls, gt, bu⟩ : Cf) = lg) (o1 : n ≤ 131072 + v) (o2 : 131072 ≤ n) (o3 : lg ≤ sh) (o4 : a ≤ tmo) (en : n = 131072 + v)  (w : World) (T_ : Tens w) : Calls Tryd.prog 4 #[.int .u32 v, .int .u32 a, .int .u32 b, .int .u32 tmo, .agg #[.int .i64 sg, .int .i64 mx, .int .i64 fi, .int .i64 gn, .int .i64 ls, .int .i64 gt, .int .i64 bu]] w fun e w' => e = .returned (.bool true) ∧ Kept w w' := by
  have GC' := Lib.hid GC
  have FC' := Lib.hid FC
  have IC' := Lib.hid IC
  have PC' := Lib.hid PC
  have UC' := Lib.hid UC
  have YC' := Lib.hid YC
  have EC' := Lib.hid EC
  have BC' := Lib.hid BC
  have AW' := Lib.hid (fun w TT_ => awake19 GC FC IC PC UC YC EC BC w TT_)
  clear GC FC IC PC UC YC EC BC
  have T := Lib.hid T_
  clear T_
  have Q1 := Lib.hid (fun w_ => IC'.out (131072 + v) 0 a tmo n (⟨sg, mx, fi, gn, ls, gt, bu⟩ : Cf) (by unfold In64; omega) (by unfold In64; omega) (by unfold In64; omega) (by unfold In64; omega) (by unfold CfIn; exact ⟨isg, imx, ifi, ign, ils, igt, ibu⟩) q1 w_)
  have Q2 := Lib.hid (fun w_ => IC'.out (131072 + v) 0 lo tmo sh (⟨sg, mx, fi, gn, ls, gt, bu⟩ : Cf) (by unfold In64; omega) (by unfold In64; omega) (by unfold In64; omega) (by unfold In64; omega) (by unfold CfIn; exact ⟨isg, imx, ifi, ign, ils, igt, ibu⟩) q2 w_)
  have Q3 := Lib.hid (fun w_ => IC'.out (131072 + v) 0 hi tmo lg (⟨sg, mx, fi, gn, ls, gt, bu⟩ : Cf) (by unfold In64; omega) (by unfold In64; omega) (by unfold In64; omega) (by unfold In64; omega) (by unfold CfIn; exact ⟨isg, imx, ifi, ign, ils, igt, ibu⟩) q3 w_)
  have g1 : min a b = lo := by rw [← e1]; split <;> omega
  have g2 : max a b = hi := by rw [← e2]; split <;> omega
  have d0 : decide (n ≤ 131072 + v) = true := by simp [o1]
  have d1 : decide (131072 ≤ n) = true := by simp [o2]
  have d2 : decide (lg ≤ sh) = true := by simp [o3]
  have d3 : decide (tmo < a) = false := by simp; omega
  have d4 : decide (a ≤ tmo) = true := by simp [o4]
  have d5 : (n == 131072 + v) = true := by simp [en]
  clear q1 q2 q3 isg imx ifi ign ils igt ibu
  go_enter Tryd.func4, Tryd.ntmps4
  go_upto_region 1 with fail
  generalize hW : World.alloc w (.cells #[.int .i64 sg, .int .i64 mx, .int .i64 fi, .int .i64 gn, .int .i64 ls, .int .i64 gt, .int .i64 bu] 23) = W_c
  have K_c : Kept w W_c := by subst hW; exact (Kept.refl _).alloc _ _
  have H_c := Lib.hid (show W_c.cell? ⟨w.heap.size, 0, none⟩ = some (.int .i64 sg) ∧ W_c.cell? ⟨w.heap.size, 1, none⟩ = some (.int .i64 mx) ∧ W_c.cell? ⟨w.heap.size, 2, none⟩ = some (.int .i64 fi) ∧ W_c.cell? ⟨w.heap.size, 3, none⟩ = some (.int .i64 gn) ∧ W_c.cell? ⟨w.heap.size, 4, none⟩ = some (.int .i64 ls) ∧ W_c.cell? ⟨w.heap.size, 5, none⟩ = some (.int .i64 gt) ∧ W_c.cell? ⟨w.heap.size, 6, none⟩ = some (.int .i64 bu) from by subst hW; simp [go_sem])
  clear hW
  generalize w.heap.size = g_c at *
  go_wp2_with fail
  refine (AW'.out _ (Tens.kept T.out (by (repeat (first | with_reducible exact Kept.refl _ | with_reducible apply Kept.drew | with_reducible apply Kept.alloc | ((with_reducible apply Kept.set); focus (simp <;> omega)) | ((with_reducible apply Kept.via); focus with_reducible assumption)))))).mono ?_
  rintro e w20 ⟨rfl, k20⟩
  obtain ⟨cc0, cc1, cc2, cc3, cc4, cc5, cc6⟩ := Kept.alln7 (show Kept W_c w20 from (by (repeat (first | with_reducible exact Kept.refl _ | with_reducible apply Kept.drew | with_reducible apply Kept.alloc | ((with_reducible apply Kept.set); focus (simp <;> omega)) | ((with_reducible apply Kept.via); focus with_reducible assumption))))) H_c
  go_wp2_with fail
  refine (Q1.out _).mono ?_
  rintro e w21 ⟨rfl, k21⟩
  clear cc0 cc1 cc2 cc3 cc4 cc5 cc6
  obtain ⟨cc0, cc1, cc2, cc3, cc4, cc5, cc6⟩ := Kept.alln7 (show Kept W_c w21 from (by (repeat (first | with_reducible exact Kept.refl _ | with_reducible apply Kept.drew | with_reducible apply Kept.alloc | ((with_reducible apply Kept.set); focus (simp <;> omega)) | ((with_reducible apply Kept.via); focus with_reducible assumption))))) H_c
  go_wp2_with fail
  refine (Q2.out _).mono ?_
  rintro e w22 ⟨rfl, k22⟩
  clear cc0 cc1 cc2 cc3 cc4 cc5 cc6
  obtain ⟨cc0, cc1, cc2, cc3, cc4, cc5, cc6⟩ := Kept.alln7 (show Kept W_c w22 from (by (repeat (first | with_reducible exact Kept.refl _ | with_reducible apply Kept.drew | with_reducible apply Kept.alloc | ((with_reducible apply Kept.set); focus (simp <;> omega)) | ((with_reducible apply Kept.via); focus with_reducible assumption))))) H_c
  go_wp2_with fail
  refine (Q3.out _).mono ?_
  rintro e w23 ⟨rfl, k23⟩
  clear cc0 cc1 cc2 cc3 cc4 cc5 cc6
  go_wp2
  go_ret
  exact ⟨rfl, (by (repeat (first | with_reducible exact Kept.refl _ | with_reducible apply Kept.drew | with_reducible apply Kept.alloc | ((with_reducible apply Kept.set); focus (simp <;> omega)) | ((with_reducible apply Kept.via); focus with_reducible assumption))))⟩
set_option maxRecDepth 100000 in
set_option maxHeartbeats 1600000 in
theorem idle19_l (GC : GdCheckC) (FC : GdFirstC) (IC : GdIdleC) (PC : GdPauseC) (UC : GdUsedC) (YC : GdPartsC) (EC : ECheckC) (BC : EBeginC) {v a b tmo lo hi n sh lg f sg mx fi gn ls gt bu : Int} (isg : In64 sg) (imx : In64 mx) (ifi : In64 fi) (ign : In64 gn) (ils : In64 ls) (igt : In64 gt) (ibu : In64 bu) (v0 : 0 ≤ v) (v1 : v ≤ 4294967295) (a0 : 0 ≤ a) (a1 : a ≤ 4294967295) (b0 : 0 ≤ b) (b1 : b ≤ 4294967295) (tmo0 : 0 ≤ tmo) (tmo1 : tmo ≤ 4294967295) (l0 : 0 ≤ lo) (l1 : lo ≤ 4294967295) (h0 : 0 ≤ hi) (h1 : hi ≤ 4294967295) (e1 : (if b < a then b else a) = lo) (e2 : (if a < b then b else a) = hi) (q1 : idleN (131072 + v) 0 a tmo (⟨sg, mx, fi, gn, ls, gt, bu⟩ : Cf) = n) (q2 : idleN (131072 + v) 0 lo tmo (⟨sg, mx, fi, gn, ls, gt, bu⟩ : Cf) = sh) (q3 : idleN (131072 + v) 0 hi tmo (⟨sg, mx, fi, gn, ls, gt, bu⟩ : Cf) = lg) (o1 : n ≤ 131072 + v) (o2 : 131072 ≤ n) (o3 : lg ≤ sh) (o4 : tmo < a) (qf : firstW (⟨sg, mx, fi, gn, ls, gt, bu⟩ : Cf) = f) (en : (if f < 131072 + v then f else 131072 + v) = n)  (w : World) (T_ : Tens w) : Calls Tryd.prog 4 #[.int .u32 v, .int .u32 a, .int .u32 b, .int .u32 tmo, .agg #[.int .i64 sg, .int .i64 mx, .int .i64 fi, .int .i64 gn, .int .i64 ls, .int .i64 gt, .int .i64 bu]] w fun e w' => e = .returned (.bool true) ∧ Kept w w' := by
  have GC' := Lib.hid GC
  have FC' := Lib.hid FC
  have IC' := Lib.hid IC
  have PC' := Lib.hid PC
  have UC' := Lib.hid UC
  have YC' := Lib.hid YC
  have EC' := Lib.hid EC
  have BC' := Lib.hid BC
  have AW' := Lib.hid (fun w TT_ => awake19 GC FC IC PC UC YC EC BC w TT_)
  clear GC FC IC PC UC YC EC BC
  have T := Lib.hid T_
  clear T_
  have Q1 := Lib.hid (fun w_ => IC'.out (131072 + v) 0 a tmo n (⟨sg, mx, fi, gn, ls, gt, bu⟩ : Cf) (by unfold In64; omega) (by unfold In64; omega) (by unfold In64; omega) (by unfold In64; omega) (by unfold CfIn; exact ⟨isg, imx, ifi, ign, ils, igt, ibu⟩) q1 w_)
  have Q2 := Lib.hid (fun w_ => IC'.out (131072 + v) 0 lo tmo sh (⟨sg, mx, fi, gn, ls, gt, bu⟩ : Cf) (by unfold In64; omega) (by unfold In64; omega) (by unfold In64; omega) (by unfold In64; omega) (by unfold CfIn; exact ⟨isg, imx, ifi, ign, ils, igt, ibu⟩) q2 w_)
  have Q3 := Lib.hid (fun w_ => IC'.out (131072 + v) 0 hi tmo lg (⟨sg, mx, fi, gn, ls, gt, bu⟩ : Cf) (by unfold In64; omega) (by unfold In64; omega) (by unfold In64; omega) (by unfold In64; omega) (by unfold CfIn; exact ⟨isg, imx, ifi, ign, ils, igt, ibu⟩) q3 w_)
  have g1 : min a b = lo := by rw [← e1]; split <;> omega
  have g2 : max a b = hi := by rw [← e2]; split <;> omega
  have d0 : decide (n ≤ 131072 + v) = true := by simp [o1]
  have d1 : decide (131072 ≤ n) = true := by simp [o2]
  have d2 : decide (lg ≤ sh) = true := by simp [o3]
  have d3 : decide (tmo < a) = true := by simp [o4]
  have d4 : decide (a ≤ tmo) = false := by simp; omega
  have QF := Lib.hid (fun w_ => FC'.out (⟨sg, mx, fi, gn, ls, gt, bu⟩ : Cf) f (by unfold CfIn; exact ⟨isg, imx, ifi, ign, ils, igt, ibu⟩) qf w_)
  have g3 : min (131072 + v) f = n := by rw [← en]; split <;> omega
  clear qf
  clear q1 q2 q3 isg imx ifi ign ils igt ibu
  go_enter Tryd.func4, Tryd.ntmps4
  go_upto_region 1 with fail
  generalize hW : World.alloc w (.cells #[.int .i64 sg, .int .i64 mx, .int .i64 fi, .int .i64 gn, .int .i64 ls, .int .i64 gt, .int .i64 bu] 23) = W_c
  have K_c : Kept w W_c := by subst hW; exact (Kept.refl _).alloc _ _
  have H_c := Lib.hid (show W_c.cell? ⟨w.heap.size, 0, none⟩ = some (.int .i64 sg) ∧ W_c.cell? ⟨w.heap.size, 1, none⟩ = some (.int .i64 mx) ∧ W_c.cell? ⟨w.heap.size, 2, none⟩ = some (.int .i64 fi) ∧ W_c.cell? ⟨w.heap.size, 3, none⟩ = some (.int .i64 gn) ∧ W_c.cell? ⟨w.heap.size, 4, none⟩ = some (.int .i64 ls) ∧ W_c.cell? ⟨w.heap.size, 5, none⟩ = some (.int .i64 gt) ∧ W_c.cell? ⟨w.heap.size, 6, none⟩ = some (.int .i64 bu) from by subst hW; simp [go_sem])
  clear hW
  generalize w.heap.size = g_c at *
  go_wp2_with fail
  refine (AW'.out _ (Tens.kept T.out (by (repeat (first | with_reducible exact Kept.refl _ | with_reducible apply Kept.drew | with_reducible apply Kept.alloc | ((with_reducible apply Kept.set); focus (simp <;> omega)) | ((with_reducible apply Kept.via); focus with_reducible assumption)))))).mono ?_
  rintro e w20 ⟨rfl, k20⟩
  obtain ⟨cc0, cc1, cc2, cc3, cc4, cc5, cc6⟩ := Kept.alln7 (show Kept W_c w20 from (by (repeat (first | with_reducible exact Kept.refl _ | with_reducible apply Kept.drew | with_reducible apply Kept.alloc | ((with_reducible apply Kept.set); focus (simp <;> omega)) | ((with_reducible apply Kept.via); focus with_reducible assumption))))) H_c
  go_wp2_with fail
  refine (Q1.out _).mono ?_
  rintro e w21 ⟨rfl, k21⟩
  clear cc0 cc1 cc2 cc3 cc4 cc5 cc6
  obtain ⟨cc0, cc1, cc2, cc3, cc4, cc5, cc6⟩ := Kept.alln7 (show Kept W_c w21 from (by (repeat (first | with_reducible exact Kept.refl _ | with_reducible apply Kept.drew | with_reducible apply Kept.alloc | ((with_reducible apply Kept.set); focus (simp <;> omega)) | ((with_reducible apply Kept.via); focus with_reducible assumption))))) H_c
  go_wp2_with fail
  refine (Q2.out _).mono ?_
  rintro e w22 ⟨rfl, k22⟩
  clear cc0 cc1 cc2 cc3 cc4 cc5 cc6
  obtain ⟨cc0, cc1, cc2, cc3, cc4, cc5, cc6⟩ := Kept.alln7 (show Kept W_c w22 from (by (repeat (first | with_reducible exact Kept.refl _ | with_reducible apply Kept.drew | with_reducible apply Kept.alloc | ((with_reducible apply Kept.set); focus (simp <;> omega)) | ((with_reducible apply Kept.via); focus with_reducible assumption))))) H_c
  go_wp2_with fail
  refine (Q3.out _).mono ?_
  rintro e w23 ⟨rfl, k23⟩
  clear cc0 cc1 cc2 cc3 cc4 cc5 cc6
  obtain ⟨cc0, cc1, cc2, cc3, cc4, cc5, cc6⟩ := Kept.alln7 (show Kept W_c w23 from (by (repeat (first | with_reducible exact Kept.refl _ | with_reducible apply Kept.drew | with_reducible apply Kept.alloc | ((with_reducible apply Kept.set); focus (simp <;> omega)) | ((with_reducible apply Kept.via); focus with_reducible assumption))))) H_c
  go_wp2_with fail
  refine (QF.out _).mono ?_
  rintro e w24 ⟨rfl, k24⟩
  clear cc0 cc1 cc2 cc3 cc4 cc5 cc6
  go_wp2
  go_ret
  exact ⟨rfl, (by (repeat (first | with_reducible exact Kept.refl _ | with_reducible apply Kept.drew | with_reducible apply Kept.alloc | ((with_reducible apply Kept.set); focus (simp <;> omega)) | ((with_reducible apply Kept.via); focus with_reducible assumption))))⟩
theorem guideIdle_walk (GC : GdCheckC) (FC : GdFirstC) (IC : GdIdleC) (PC : GdPauseC) (UC : GdUsedC) (YC : GdPartsC) (EC : ECheckC) (BC : EBeginC) (v a b tmo sg mx fi gn ls gt bu : Int) (w : World) (T_ : Tens w) (isg : In64 sg) (imx : In64 mx) (ifi : In64 fi) (ign : In64 gn) (ils : In64 ls) (igt : In64 gt) (ibu : In64 bu) (v0 : 0 ≤ v) (v1 : v ≤ 4294967295) (a0 : 0 ≤ a) (a1 : a ≤ 4294967295) (b0 : 0 ≤ b) (b1 : b ≤ 4294967295) (tmo0 : 0 ≤ tmo) (tmo1 : tmo ≤ 4294967295) : Calls Tryd.prog 4 #[.int .u32 v, .int .u32 a, .int .u32 b, .int .u32 tmo, .agg #[.int .i64 sg, .int .i64 mx, .int .i64 fi, .int .i64 gn, .int .i64 ls, .int .i64 gt, .int .i64 bu]] w fun e w' => e = .returned (.bool true) ∧ Kept w w' := by
  have fr := firstW_range (⟨sg, mx, fi, gn, ls, gt, bu⟩ : Cf)
  have id : ∀ x : Int, 0 ≤ x → x ≤ 4294967295 → idleN (131072 + v) 0 x tmo (⟨sg, mx, fi, gn, ls, gt, bu⟩ : Cf) = if tmo < x then (if firstW (⟨sg, mx, fi, gn, ls, gt, bu⟩ : Cf) < 131072 + v then firstW (⟨sg, mx, fi, gn, ls, gt, bu⟩ : Cf) else 131072 + v) else 131072 + v := fun x x0 x1 => by
    have e : heldAt (x - 0) = x := by rw [heldAt_of (by unfold In64; omega)]; omega
    unfold idleN
    rw [e]
    split
    · rw [if_neg (by split <;> omega)]
    · rfl
  have lo : 0 ≤ (if b < a then b else a) ∧ (if b < a then b else a) ≤ 4294967295 := by split <;> omega
  have hi : 0 ≤ (if a < b then b else a) ∧ (if a < b then b else a) ≤ 4294967295 := by split <;> omega
  have i1 := id a a0 a1
  have i2 := id _ lo.1 lo.2
  have i3 := id _ hi.1 hi.2
  have o3 : idleN (131072 + v) 0 (if a < b then b else a) tmo (⟨sg, mx, fi, gn, ls, gt, bu⟩ : Cf) ≤ idleN (131072 + v) 0 (if b < a then b else a) tmo (⟨sg, mx, fi, gn, ls, gt, bu⟩ : Cf) := by
    rw [i2, i3]
    repeat' split
    all_goals omega
  by_cases o : tmo < a
  · rw [if_pos o] at i1
    exact idle19_l GC FC IC PC UC YC EC BC isg imx ifi ign ils igt ibu v0 v1 a0 a1 b0 b1 tmo0 tmo1 lo.1 lo.2 hi.1 hi.2 rfl rfl rfl rfl rfl (by rw [i1]; split <;> omega) (by rw [i1]; split <;> omega) o3 o rfl i1.symm w T_
  · rw [if_neg o] at i1
    exact idle19_s (f := 0) GC FC IC PC UC YC EC BC isg imx ifi ign ils igt ibu v0 v1 a0 a1 b0 b1 tmo0 tmo1 lo.1 lo.2 hi.1 hi.2 rfl rfl rfl rfl rfl (by rw [i1]; omega) (by rw [i1]; omega) o3 (by omega) i1 w T_
end Go.Proofs.YtdbikeehoildlaaDoor
