/-
  The walk of FlightTurns: it answers true, if the calls do what they are to do.
-/
import Derived.Test.YtbaifhgjalaphaaAwake16
import Derived.Deep.RegionHeld3
import Derived.Deep.DeepCutAuto
namespace Go.Proofs.Ytbaifhgjalaphaa
open Go.RowKit Go.BigFrame
set_option linter.unusedVariables false

set_option maxRecDepth 100000 in
set_option maxHeartbeats 1600000 in
theorem turns16_aan (CC : FlCheckC) (SC : FlSendC) (AC : FlAckC) (LC : FlLoseC) (RC_ : FlRoomC) (DC : FlDoC) {s t o n k x0 x1 x2 y0 y1 y2 u0 u1 u2 v0 v1 v2 e1 g1 h1 i1 : Int} (hs : In64 s) (ht : In64 t) (ho : In64 o) (n0 : 0 ≤ n) (n1 : n ≤ 4294967295) (k0 : 0 ≤ k) (k1 : k ≤ 4294967295) (f1 : LessIs s t o (1 + n) (1 + n) x0 x1 x2 e1) (ix : In64 x0 ∧ In64 x1 ∧ In64 x2) (f2 : LessIs x0 x1 x2 (1 + k) 0 y0 y1 y2 g1) (f3 : LessIs s t o (1 + k) 0 u0 u1 u2 h1) (iu : In64 u0 ∧ In64 u1 ∧ In64 u2) (f4 : LessIs u0 u1 u2 (1 + n) (1 + n) v0 v1 v2 i1) (m : ¬ MayF s t o) (z1 : (e1 == 0) = false) (z1' : ¬ e1 = 0) (z2 : (h1 == 0) = false) (z2' : ¬ h1 = 0)  (w : World) : Calls Try.prog 8 #[.agg #[.int .i64 s, .int .i64 t, .int .i64 o], .int .u32 n, .int .u32 k] w fun e w' => e = .returned (.bool true) ∧ Kept w w' := by
  have CC' := Lib.hid CC
  have SC' := Lib.hid SC
  have AC' := Lib.hid AC
  have LC' := Lib.hid LC
  have RC_' := Lib.hid RC_
  have DC' := Lib.hid DC
  have AW' := Lib.hid (fun w => awake16 CC SC AC LC RC_ DC w)
  clear CC SC AC LC RC_ DC
  have Q1 := Lib.hid (fun w_ => AC'.out s t o (1 + n) x0 x1 x2 e1 hs ht ho (by unfold In64; omega) f1 w_)
  have Q2 := Lib.hid (fun w_ => LC'.out x0 x1 x2 (1 + k) y0 y1 y2 g1 ix.1 ix.2.1 ix.2.2 (by unfold In64; omega) f2 w_)
  have Q3 := Lib.hid (fun w_ => LC'.out s t o (1 + k) u0 u1 u2 h1 hs ht ho (by unfold In64; omega) f3 w_)
  have Q4 := Lib.hid (fun w_ => AC'.out u0 u1 u2 (1 + n) v0 v1 v2 i1 iu.1 iu.2.1 iu.2.2 (by unfold In64; omega) f4 w_)
  have Q0 := Lib.hid (fun w_ => CC'.out s t o false hs ht ho (by simp [m]) w_)
  clear hs ht ho f1 f2 f3 f4 ix iu m
  go_enter Try.func8, Try.ntmps8
  go_upto_region 1 with fail
  generalize hW : World.alloc w (.cells #[.int .i64 s, .int .i64 t, .int .i64 o] 23) = W_f
  have K_f : Kept w W_f := by subst hW; exact (Kept.refl _).alloc _ _
  have H_f := Lib.hid (show W_f.cell? ⟨w.heap.size, 0, none⟩ = some (.int .i64 s) ∧ W_f.cell? ⟨w.heap.size, 1, none⟩ = some (.int .i64 t) ∧ W_f.cell? ⟨w.heap.size, 2, none⟩ = some (.int .i64 o) from by subst hW; simp [go_sem])
  clear hW
  generalize w.heap.size = g_f at *
  go_wp2_with fail
  refine (AW'.out _).mono ?_
  rintro e w20 ⟨rfl, k20⟩
  obtain ⟨cf0, cf1, cf2⟩ := Kept.all3 (show Kept W_f w20 from (by (repeat (first | with_reducible exact Kept.refl _ | with_reducible apply Kept.drew | with_reducible apply Kept.alloc | ((with_reducible apply Kept.set); focus (simp <;> omega)) | ((with_reducible apply Kept.via); focus with_reducible assumption))))) H_f
  go_wp2_with fail
  refine (Q1.out _).mono ?_
  rintro e w21 ⟨rfl, k21⟩
  clear cf0 cf1 cf2
  go_upto_region 5 with fail
  generalize hW : World.alloc w21 (.cells #[.int .i64 x0, .int .i64 x1, .int .i64 x2] 23) = W_x
  have K_x : Kept w21 W_x := by subst hW; exact (Kept.refl _).alloc _ _
  have H_x := Lib.hid (show W_x.cell? ⟨w21.heap.size, 0, none⟩ = some (.int .i64 x0) ∧ W_x.cell? ⟨w21.heap.size, 1, none⟩ = some (.int .i64 x1) ∧ W_x.cell? ⟨w21.heap.size, 2, none⟩ = some (.int .i64 x2) from by subst hW; simp [go_sem])
  clear hW
  generalize w21.heap.size = g_x at *
  obtain ⟨cx0, cx1, cx2⟩ := Kept.all3 (show Kept W_x W_x from (by (repeat (first | with_reducible exact Kept.refl _ | with_reducible apply Kept.drew | with_reducible apply Kept.alloc | ((with_reducible apply Kept.set); focus (simp <;> omega)) | ((with_reducible apply Kept.via); focus with_reducible assumption))))) H_x
  go_wp2_with fail
  refine (Q2.out _).mono ?_
  rintro e w22 ⟨rfl, k22⟩
  clear cx0 cx1 cx2
  go_upto_region 6 with fail
  generalize hW : World.alloc w22 (.cells #[.int .i64 y0, .int .i64 y1, .int .i64 y2] 23) = W_y
  have K_y : Kept w22 W_y := by subst hW; exact (Kept.refl _).alloc _ _
  have H_y := Lib.hid (show W_y.cell? ⟨w22.heap.size, 0, none⟩ = some (.int .i64 y0) ∧ W_y.cell? ⟨w22.heap.size, 1, none⟩ = some (.int .i64 y1) ∧ W_y.cell? ⟨w22.heap.size, 2, none⟩ = some (.int .i64 y2) from by subst hW; simp [go_sem])
  clear hW
  generalize w22.heap.size = g_y at *
  obtain ⟨cf0, cf1, cf2⟩ := Kept.all3 (show Kept W_f W_y from (by (repeat (first | with_reducible exact Kept.refl _ | with_reducible apply Kept.drew | with_reducible apply Kept.alloc | ((with_reducible apply Kept.set); focus (simp <;> omega)) | ((with_reducible apply Kept.via); focus with_reducible assumption))))) H_f
  go_wp2_with fail
  refine (Q3.out _).mono ?_
  rintro e w23 ⟨rfl, k23⟩
  clear cf0 cf1 cf2
  go_upto_region 7 with fail
  generalize hW : World.alloc w23 (.cells #[.int .i64 u0, .int .i64 u1, .int .i64 u2] 23) = W_u
  have K_u : Kept w23 W_u := by subst hW; exact (Kept.refl _).alloc _ _
  have H_u := Lib.hid (show W_u.cell? ⟨w23.heap.size, 0, none⟩ = some (.int .i64 u0) ∧ W_u.cell? ⟨w23.heap.size, 1, none⟩ = some (.int .i64 u1) ∧ W_u.cell? ⟨w23.heap.size, 2, none⟩ = some (.int .i64 u2) from by subst hW; simp [go_sem])
  clear hW
  generalize w23.heap.size = g_u at *
  obtain ⟨cu0, cu1, cu2⟩ := Kept.all3 (show Kept W_u W_u from (by (repeat (first | with_reducible exact Kept.refl _ | with_reducible apply Kept.drew | with_reducible apply Kept.alloc | ((with_reducible apply Kept.set); focus (simp <;> omega)) | ((with_reducible apply Kept.via); focus with_reducible assumption))))) H_u
  go_wp2_with fail
  refine (Q4.out _).mono ?_
  rintro e w24 ⟨rfl, k24⟩
  clear cu0 cu1 cu2
  go_upto_region 8 with fail
  generalize hW : World.alloc w24 (.cells #[.int .i64 v0, .int .i64 v1, .int .i64 v2] 23) = W_v
  have K_v : Kept w24 W_v := by subst hW; exact (Kept.refl _).alloc _ _
  have H_v := Lib.hid (show W_v.cell? ⟨w24.heap.size, 0, none⟩ = some (.int .i64 v0) ∧ W_v.cell? ⟨w24.heap.size, 1, none⟩ = some (.int .i64 v1) ∧ W_v.cell? ⟨w24.heap.size, 2, none⟩ = some (.int .i64 v2) from by subst hW; simp [go_sem])
  clear hW
  generalize w24.heap.size = g_v at *
  obtain ⟨cf0, cf1, cf2⟩ := Kept.all3 (show Kept W_f W_v from (by (repeat (first | with_reducible exact Kept.refl _ | with_reducible apply Kept.drew | with_reducible apply Kept.alloc | ((with_reducible apply Kept.set); focus (simp <;> omega)) | ((with_reducible apply Kept.via); focus with_reducible assumption))))) H_f
  go_upto_region 10 with fail
  clear cf0 cf1 cf2
  obtain ⟨cf0, cf1, cf2⟩ := Kept.all3 (show Kept W_f W_v from (by (repeat (first | with_reducible exact Kept.refl _ | with_reducible apply Kept.drew | with_reducible apply Kept.alloc | ((with_reducible apply Kept.set); focus (simp <;> omega)) | ((with_reducible apply Kept.via); focus with_reducible assumption))))) H_f
  obtain ⟨cy0, cy1, cy2⟩ := Kept.all3 (show Kept W_y W_v from (by (repeat (first | with_reducible exact Kept.refl _ | with_reducible apply Kept.drew | with_reducible apply Kept.alloc | ((with_reducible apply Kept.set); focus (simp <;> omega)) | ((with_reducible apply Kept.via); focus with_reducible assumption))))) H_y
  obtain ⟨cv0, cv1, cv2⟩ := Kept.all3 (show Kept W_v W_v from (by (repeat (first | with_reducible exact Kept.refl _ | with_reducible apply Kept.drew | with_reducible apply Kept.alloc | ((with_reducible apply Kept.set); focus (simp <;> omega)) | ((with_reducible apply Kept.via); focus with_reducible assumption))))) H_v
  go_wp2_with fail
  refine (Q0.out _).mono ?_
  rintro e w25 ⟨rfl, k25⟩
  clear cf0 cf1 cf2
  clear cy0 cy1 cy2
  clear cv0 cv1 cv2
  obtain ⟨cf0, cf1, cf2⟩ := Kept.all3 (show Kept W_f w25 from (by (repeat (first | with_reducible exact Kept.refl _ | with_reducible apply Kept.drew | with_reducible apply Kept.alloc | ((with_reducible apply Kept.set); focus (simp <;> omega)) | ((with_reducible apply Kept.via); focus with_reducible assumption))))) H_f
  obtain ⟨cy0, cy1, cy2⟩ := Kept.all3 (show Kept W_y w25 from (by (repeat (first | with_reducible exact Kept.refl _ | with_reducible apply Kept.drew | with_reducible apply Kept.alloc | ((with_reducible apply Kept.set); focus (simp <;> omega)) | ((with_reducible apply Kept.via); focus with_reducible assumption))))) H_y
  obtain ⟨cv0, cv1, cv2⟩ := Kept.all3 (show Kept W_v w25 from (by (repeat (first | with_reducible exact Kept.refl _ | with_reducible apply Kept.drew | with_reducible apply Kept.alloc | ((with_reducible apply Kept.set); focus (simp <;> omega)) | ((with_reducible apply Kept.via); focus with_reducible assumption))))) H_v
  go_wp2
  go_ret
  exact ⟨rfl, (by (repeat (first | with_reducible exact Kept.refl _ | with_reducible apply Kept.drew | with_reducible apply Kept.alloc | ((with_reducible apply Kept.set); focus (simp <;> omega)) | ((with_reducible apply Kept.via); focus with_reducible assumption))))⟩
set_option maxRecDepth 100000 in
set_option maxHeartbeats 1600000 in
theorem turns16_aam (CC : FlCheckC) (SC : FlSendC) (AC : FlAckC) (LC : FlLoseC) (RC_ : FlRoomC) (DC : FlDoC) {s t o n k x0 x1 x2 y0 y1 y2 u0 u1 u2 v0 v1 v2 e1 g1 h1 i1 : Int} (hs : In64 s) (ht : In64 t) (ho : In64 o) (n0 : 0 ≤ n) (n1 : n ≤ 4294967295) (k0 : 0 ≤ k) (k1 : k ≤ 4294967295) (f1 : LessIs s t o (1 + n) (1 + n) x0 x1 x2 e1) (ix : In64 x0 ∧ In64 x1 ∧ In64 x2) (f2 : LessIs x0 x1 x2 (1 + k) 0 y0 y1 y2 g1) (f3 : LessIs s t o (1 + k) 0 u0 u1 u2 h1) (iu : In64 u0 ∧ In64 u1 ∧ In64 u2) (f4 : LessIs u0 u1 u2 (1 + n) (1 + n) v0 v1 v2 i1) (m : MayF s t o) (z1 : (e1 == 0) = false) (z1' : ¬ e1 = 0) (z2 : (h1 == 0) = false) (z2' : ¬ h1 = 0) (l : o < 1 + n + (1 + k)) (w : World) : Calls Try.prog 8 #[.agg #[.int .i64 s, .int .i64 t, .int .i64 o], .int .u32 n, .int .u32 k] w fun e w' => e = .returned (.bool true) ∧ Kept w w' := by
  have CC' := Lib.hid CC
  have SC' := Lib.hid SC
  have AC' := Lib.hid AC
  have LC' := Lib.hid LC
  have RC_' := Lib.hid RC_
  have DC' := Lib.hid DC
  have AW' := Lib.hid (fun w => awake16 CC SC AC LC RC_ DC w)
  clear CC SC AC LC RC_ DC
  have Q1 := Lib.hid (fun w_ => AC'.out s t o (1 + n) x0 x1 x2 e1 hs ht ho (by unfold In64; omega) f1 w_)
  have Q2 := Lib.hid (fun w_ => LC'.out x0 x1 x2 (1 + k) y0 y1 y2 g1 ix.1 ix.2.1 ix.2.2 (by unfold In64; omega) f2 w_)
  have Q3 := Lib.hid (fun w_ => LC'.out s t o (1 + k) u0 u1 u2 h1 hs ht ho (by unfold In64; omega) f3 w_)
  have Q4 := Lib.hid (fun w_ => AC'.out u0 u1 u2 (1 + n) v0 v1 v2 i1 iu.1 iu.2.1 iu.2.2 (by unfold In64; omega) f4 w_)
  have Q0 := Lib.hid (fun w_ => CC'.out s t o true hs ht ho (by simp [m]) w_)
  have d0 : decide ((1 + n) + (1 + k) ≤ o) = false := by simp; omega
  clear hs ht ho f1 f2 f3 f4 ix iu m
  go_enter Try.func8, Try.ntmps8
  go_upto_region 1 with fail
  generalize hW : World.alloc w (.cells #[.int .i64 s, .int .i64 t, .int .i64 o] 23) = W_f
  have K_f : Kept w W_f := by subst hW; exact (Kept.refl _).alloc _ _
  have H_f := Lib.hid (show W_f.cell? ⟨w.heap.size, 0, none⟩ = some (.int .i64 s) ∧ W_f.cell? ⟨w.heap.size, 1, none⟩ = some (.int .i64 t) ∧ W_f.cell? ⟨w.heap.size, 2, none⟩ = some (.int .i64 o) from by subst hW; simp [go_sem])
  clear hW
  generalize w.heap.size = g_f at *
  go_wp2_with fail
  refine (AW'.out _).mono ?_
  rintro e w20 ⟨rfl, k20⟩
  obtain ⟨cf0, cf1, cf2⟩ := Kept.all3 (show Kept W_f w20 from (by (repeat (first | with_reducible exact Kept.refl _ | with_reducible apply Kept.drew | with_reducible apply Kept.alloc | ((with_reducible apply Kept.set); focus (simp <;> omega)) | ((with_reducible apply Kept.via); focus with_reducible assumption))))) H_f
  go_wp2_with fail
  refine (Q1.out _).mono ?_
  rintro e w21 ⟨rfl, k21⟩
  clear cf0 cf1 cf2
  go_upto_region 5 with fail
  generalize hW : World.alloc w21 (.cells #[.int .i64 x0, .int .i64 x1, .int .i64 x2] 23) = W_x
  have K_x : Kept w21 W_x := by subst hW; exact (Kept.refl _).alloc _ _
  have H_x := Lib.hid (show W_x.cell? ⟨w21.heap.size, 0, none⟩ = some (.int .i64 x0) ∧ W_x.cell? ⟨w21.heap.size, 1, none⟩ = some (.int .i64 x1) ∧ W_x.cell? ⟨w21.heap.size, 2, none⟩ = some (.int .i64 x2) from by subst hW; simp [go_sem])
  clear hW
  generalize w21.heap.size = g_x at *
  obtain ⟨cx0, cx1, cx2⟩ := Kept.all3 (show Kept W_x W_x from (by (repeat (first | with_reducible exact Kept.refl _ | with_reducible apply Kept.drew | with_reducible apply Kept.alloc | ((with_reducible apply Kept.set); focus (simp <;> omega)) | ((with_reducible apply Kept.via); focus with_reducible assumption))))) H_x
  go_wp2_with fail
  refine (Q2.out _).mono ?_
  rintro e w22 ⟨rfl, k22⟩
  clear cx0 cx1 cx2
  go_upto_region 6 with fail
  generalize hW : World.alloc w22 (.cells #[.int .i64 y0, .int .i64 y1, .int .i64 y2] 23) = W_y
  have K_y : Kept w22 W_y := by subst hW; exact (Kept.refl _).alloc _ _
  have H_y := Lib.hid (show W_y.cell? ⟨w22.heap.size, 0, none⟩ = some (.int .i64 y0) ∧ W_y.cell? ⟨w22.heap.size, 1, none⟩ = some (.int .i64 y1) ∧ W_y.cell? ⟨w22.heap.size, 2, none⟩ = some (.int .i64 y2) from by subst hW; simp [go_sem])
  clear hW
  generalize w22.heap.size = g_y at *
  obtain ⟨cf0, cf1, cf2⟩ := Kept.all3 (show Kept W_f W_y from (by (repeat (first | with_reducible exact Kept.refl _ | with_reducible apply Kept.drew | with_reducible apply Kept.alloc | ((with_reducible apply Kept.set); focus (simp <;> omega)) | ((with_reducible apply Kept.via); focus with_reducible assumption))))) H_f
  go_wp2_with fail
  refine (Q3.out _).mono ?_
  rintro e w23 ⟨rfl, k23⟩
  clear cf0 cf1 cf2
  go_upto_region 7 with fail
  generalize hW : World.alloc w23 (.cells #[.int .i64 u0, .int .i64 u1, .int .i64 u2] 23) = W_u
  have K_u : Kept w23 W_u := by subst hW; exact (Kept.refl _).alloc _ _
  have H_u := Lib.hid (show W_u.cell? ⟨w23.heap.size, 0, none⟩ = some (.int .i64 u0) ∧ W_u.cell? ⟨w23.heap.size, 1, none⟩ = some (.int .i64 u1) ∧ W_u.cell? ⟨w23.heap.size, 2, none⟩ = some (.int .i64 u2) from by subst hW; simp [go_sem])
  clear hW
  generalize w23.heap.size = g_u at *
  obtain ⟨cu0, cu1, cu2⟩ := Kept.all3 (show Kept W_u W_u from (by (repeat (first | with_reducible exact Kept.refl _ | with_reducible apply Kept.drew | with_reducible apply Kept.alloc | ((with_reducible apply Kept.set); focus (simp <;> omega)) | ((with_reducible apply Kept.via); focus with_reducible assumption))))) H_u
  go_wp2_with fail
  refine (Q4.out _).mono ?_
  rintro e w24 ⟨rfl, k24⟩
  clear cu0 cu1 cu2
  go_upto_region 8 with fail
  generalize hW : World.alloc w24 (.cells #[.int .i64 v0, .int .i64 v1, .int .i64 v2] 23) = W_v
  have K_v : Kept w24 W_v := by subst hW; exact (Kept.refl _).alloc _ _
  have H_v := Lib.hid (show W_v.cell? ⟨w24.heap.size, 0, none⟩ = some (.int .i64 v0) ∧ W_v.cell? ⟨w24.heap.size, 1, none⟩ = some (.int .i64 v1) ∧ W_v.cell? ⟨w24.heap.size, 2, none⟩ = some (.int .i64 v2) from by subst hW; simp [go_sem])
  clear hW
  generalize w24.heap.size = g_v at *
  obtain ⟨cf0, cf1, cf2⟩ := Kept.all3 (show Kept W_f W_v from (by (repeat (first | with_reducible exact Kept.refl _ | with_reducible apply Kept.drew | with_reducible apply Kept.alloc | ((with_reducible apply Kept.set); focus (simp <;> omega)) | ((with_reducible apply Kept.via); focus with_reducible assumption))))) H_f
  go_upto_region 10 with fail
  clear cf0 cf1 cf2
  obtain ⟨cf0, cf1, cf2⟩ := Kept.all3 (show Kept W_f W_v from (by (repeat (first | with_reducible exact Kept.refl _ | with_reducible apply Kept.drew | with_reducible apply Kept.alloc | ((with_reducible apply Kept.set); focus (simp <;> omega)) | ((with_reducible apply Kept.via); focus with_reducible assumption))))) H_f
  obtain ⟨cy0, cy1, cy2⟩ := Kept.all3 (show Kept W_y W_v from (by (repeat (first | with_reducible exact Kept.refl _ | with_reducible apply Kept.drew | with_reducible apply Kept.alloc | ((with_reducible apply Kept.set); focus (simp <;> omega)) | ((with_reducible apply Kept.via); focus with_reducible assumption))))) H_y
  obtain ⟨cv0, cv1, cv2⟩ := Kept.all3 (show Kept W_v W_v from (by (repeat (first | with_reducible exact Kept.refl _ | with_reducible apply Kept.drew | with_reducible apply Kept.alloc | ((with_reducible apply Kept.set); focus (simp <;> omega)) | ((with_reducible apply Kept.via); focus with_reducible assumption))))) H_v
  go_wp2_with fail
  refine (Q0.out _).mono ?_
  rintro e w25 ⟨rfl, k25⟩
  clear cf0 cf1 cf2
  clear cy0 cy1 cy2
  clear cv0 cv1 cv2
  obtain ⟨cf0, cf1, cf2⟩ := Kept.all3 (show Kept W_f w25 from (by (repeat (first | with_reducible exact Kept.refl _ | with_reducible apply Kept.drew | with_reducible apply Kept.alloc | ((with_reducible apply Kept.set); focus (simp <;> omega)) | ((with_reducible apply Kept.via); focus with_reducible assumption))))) H_f
  obtain ⟨cy0, cy1, cy2⟩ := Kept.all3 (show Kept W_y w25 from (by (repeat (first | with_reducible exact Kept.refl _ | with_reducible apply Kept.drew | with_reducible apply Kept.alloc | ((with_reducible apply Kept.set); focus (simp <;> omega)) | ((with_reducible apply Kept.via); focus with_reducible assumption))))) H_y
  obtain ⟨cv0, cv1, cv2⟩ := Kept.all3 (show Kept W_v w25 from (by (repeat (first | with_reducible exact Kept.refl _ | with_reducible apply Kept.drew | with_reducible apply Kept.alloc | ((with_reducible apply Kept.set); focus (simp <;> omega)) | ((with_reducible apply Kept.via); focus with_reducible assumption))))) H_v
  go_wp2
  go_ret
  exact ⟨rfl, (by (repeat (first | with_reducible exact Kept.refl _ | with_reducible apply Kept.drew | with_reducible apply Kept.alloc | ((with_reducible apply Kept.set); focus (simp <;> omega)) | ((with_reducible apply Kept.via); focus with_reducible assumption))))⟩
set_option maxRecDepth 100000 in
set_option maxHeartbeats 1600000 in
theorem turns16_abn (CC : FlCheckC) (SC : FlSendC) (AC : FlAckC) (LC : FlLoseC) (RC_ : FlRoomC) (DC : FlDoC) {s t o n k x0 x1 x2 y0 y1 y2 u0 u1 u2 v0 v1 v2 e1 g1 i1 : Int} (hs : In64 s) (ht : In64 t) (ho : In64 o) (n0 : 0 ≤ n) (n1 : n ≤ 4294967295) (k0 : 0 ≤ k) (k1 : k ≤ 4294967295) (f1 : LessIs s t o (1 + n) (1 + n) x0 x1 x2 e1) (ix : In64 x0 ∧ In64 x1 ∧ In64 x2) (f2 : LessIs x0 x1 x2 (1 + k) 0 y0 y1 y2 g1) (f3 : LessIs s t o (1 + k) 0 u0 u1 u2 0) (iu : In64 u0 ∧ In64 u1 ∧ In64 u2) (f4 : LessIs u0 u1 u2 (1 + n) (1 + n) v0 v1 v2 i1) (m : ¬ MayF s t o) (z1 : (e1 == 0) = false) (z1' : ¬ e1 = 0) (z2 : (i1 == 0) = false) (z2' : ¬ i1 = 0)  (w : World) : Calls Try.prog 8 #[.agg #[.int .i64 s, .int .i64 t, .int .i64 o], .int .u32 n, .int .u32 k] w fun e w' => e = .returned (.bool true) ∧ Kept w w' := by
  have CC' := Lib.hid CC
  have SC' := Lib.hid SC
  have AC' := Lib.hid AC
  have LC' := Lib.hid LC
  have RC_' := Lib.hid RC_
  have DC' := Lib.hid DC
  have AW' := Lib.hid (fun w => awake16 CC SC AC LC RC_ DC w)
  clear CC SC AC LC RC_ DC
  have Q1 := Lib.hid (fun w_ => AC'.out s t o (1 + n) x0 x1 x2 e1 hs ht ho (by unfold In64; omega) f1 w_)
  have Q2 := Lib.hid (fun w_ => LC'.out x0 x1 x2 (1 + k) y0 y1 y2 g1 ix.1 ix.2.1 ix.2.2 (by unfold In64; omega) f2 w_)
  have Q3 := Lib.hid (fun w_ => LC'.out s t o (1 + k) u0 u1 u2 0 hs ht ho (by unfold In64; omega) f3 w_)
  have Q4 := Lib.hid (fun w_ => AC'.out u0 u1 u2 (1 + n) v0 v1 v2 i1 iu.1 iu.2.1 iu.2.2 (by unfold In64; omega) f4 w_)
  have Q0 := Lib.hid (fun w_ => CC'.out s t o false hs ht ho (by simp [m]) w_)
  clear hs ht ho f1 f2 f3 f4 ix iu m
  go_enter Try.func8, Try.ntmps8
  go_upto_region 1 with fail
  generalize hW : World.alloc w (.cells #[.int .i64 s, .int .i64 t, .int .i64 o] 23) = W_f
  have K_f : Kept w W_f := by subst hW; exact (Kept.refl _).alloc _ _
  have H_f := Lib.hid (show W_f.cell? ⟨w.heap.size, 0, none⟩ = some (.int .i64 s) ∧ W_f.cell? ⟨w.heap.size, 1, none⟩ = some (.int .i64 t) ∧ W_f.cell? ⟨w.heap.size, 2, none⟩ = some (.int .i64 o) from by subst hW; simp [go_sem])
  clear hW
  generalize w.heap.size = g_f at *
  go_wp2_with fail
  refine (AW'.out _).mono ?_
  rintro e w20 ⟨rfl, k20⟩
  obtain ⟨cf0, cf1, cf2⟩ := Kept.all3 (show Kept W_f w20 from (by (repeat (first | with_reducible exact Kept.refl _ | with_reducible apply Kept.drew | with_reducible apply Kept.alloc | ((with_reducible apply Kept.set); focus (simp <;> omega)) | ((with_reducible apply Kept.via); focus with_reducible assumption))))) H_f
  go_wp2_with fail
  refine (Q1.out _).mono ?_
  rintro e w21 ⟨rfl, k21⟩
  clear cf0 cf1 cf2
  go_upto_region 5 with fail
  generalize hW : World.alloc w21 (.cells #[.int .i64 x0, .int .i64 x1, .int .i64 x2] 23) = W_x
  have K_x : Kept w21 W_x := by subst hW; exact (Kept.refl _).alloc _ _
  have H_x := Lib.hid (show W_x.cell? ⟨w21.heap.size, 0, none⟩ = some (.int .i64 x0) ∧ W_x.cell? ⟨w21.heap.size, 1, none⟩ = some (.int .i64 x1) ∧ W_x.cell? ⟨w21.heap.size, 2, none⟩ = some (.int .i64 x2) from by subst hW; simp [go_sem])
  clear hW
  generalize w21.heap.size = g_x at *
  obtain ⟨cx0, cx1, cx2⟩ := Kept.all3 (show Kept W_x W_x from (by (repeat (first | with_reducible exact Kept.refl _ | with_reducible apply Kept.drew | with_reducible apply Kept.alloc | ((with_reducible apply Kept.set); focus (simp <;> omega)) | ((with_reducible apply Kept.via); focus with_reducible assumption))))) H_x
  go_wp2_with fail
  refine (Q2.out _).mono ?_
  rintro e w22 ⟨rfl, k22⟩
  clear cx0 cx1 cx2
  go_upto_region 6 with fail
  generalize hW : World.alloc w22 (.cells #[.int .i64 y0, .int .i64 y1, .int .i64 y2] 23) = W_y
  have K_y : Kept w22 W_y := by subst hW; exact (Kept.refl _).alloc _ _
  have H_y := Lib.hid (show W_y.cell? ⟨w22.heap.size, 0, none⟩ = some (.int .i64 y0) ∧ W_y.cell? ⟨w22.heap.size, 1, none⟩ = some (.int .i64 y1) ∧ W_y.cell? ⟨w22.heap.size, 2, none⟩ = some (.int .i64 y2) from by subst hW; simp [go_sem])
  clear hW
  generalize w22.heap.size = g_y at *
  obtain ⟨cf0, cf1, cf2⟩ := Kept.all3 (show Kept W_f W_y from (by (repeat (first | with_reducible exact Kept.refl _ | with_reducible apply Kept.drew | with_reducible apply Kept.alloc | ((with_reducible apply Kept.set); focus (simp <;> omega)) | ((with_reducible apply Kept.via); focus with_reducible assumption))))) H_f
  go_wp2_with fail
  refine (Q3.out _).mono ?_
  rintro e w23 ⟨rfl, k23⟩
  clear cf0 cf1 cf2
  go_upto_region 7 with fail
  generalize hW : World.alloc w23 (.cells #[.int .i64 u0, .int .i64 u1, .int .i64 u2] 23) = W_u
  have K_u : Kept w23 W_u := by subst hW; exact (Kept.refl _).alloc _ _
  have H_u := Lib.hid (show W_u.cell? ⟨w23.heap.size, 0, none⟩ = some (.int .i64 u0) ∧ W_u.cell? ⟨w23.heap.size, 1, none⟩ = some (.int .i64 u1) ∧ W_u.cell? ⟨w23.heap.size, 2, none⟩ = some (.int .i64 u2) from by subst hW; simp [go_sem])
  clear hW
  generalize w23.heap.size = g_u at *
  obtain ⟨cu0, cu1, cu2⟩ := Kept.all3 (show Kept W_u W_u from (by (repeat (first | with_reducible exact Kept.refl _ | with_reducible apply Kept.drew | with_reducible apply Kept.alloc | ((with_reducible apply Kept.set); focus (simp <;> omega)) | ((with_reducible apply Kept.via); focus with_reducible assumption))))) H_u
  go_wp2_with fail
  refine (Q4.out _).mono ?_
  rintro e w24 ⟨rfl, k24⟩
  clear cu0 cu1 cu2
  go_upto_region 8 with fail
  generalize hW : World.alloc w24 (.cells #[.int .i64 v0, .int .i64 v1, .int .i64 v2] 23) = W_v
  have K_v : Kept w24 W_v := by subst hW; exact (Kept.refl _).alloc _ _
  have H_v := Lib.hid (show W_v.cell? ⟨w24.heap.size, 0, none⟩ = some (.int .i64 v0) ∧ W_v.cell? ⟨w24.heap.size, 1, none⟩ = some (.int .i64 v1) ∧ W_v.cell? ⟨w24.heap.size, 2, none⟩ = some (.int .i64 v2) from by subst hW; simp [go_sem])
  clear hW
  generalize w24.heap.size = g_v at *
  obtain ⟨cf0, cf1, cf2⟩ := Kept.all3 (show Kept W_f W_v from (by (repeat (first | with_reducible exact Kept.refl _ | with_reducible apply Kept.drew | with_reducible apply Kept.alloc | ((with_reducible apply Kept.set); focus (simp <;> omega)) | ((with_reducible apply Kept.via); focus with_reducible assumption))))) H_f
  go_upto_region 10 with fail
  clear cf0 cf1 cf2
  obtain ⟨cf0, cf1, cf2⟩ := Kept.all3 (show Kept W_f W_v from (by (repeat (first | with_reducible exact Kept.refl _ | with_reducible apply Kept.drew | with_reducible apply Kept.alloc | ((with_reducible apply Kept.set); focus (simp <;> omega)) | ((with_reducible apply Kept.via); focus with_reducible assumption))))) H_f
  obtain ⟨cy0, cy1, cy2⟩ := Kept.all3 (show Kept W_y W_v from (by (repeat (first | with_reducible exact Kept.refl _ | with_reducible apply Kept.drew | with_reducible apply Kept.alloc | ((with_reducible apply Kept.set); focus (simp <;> omega)) | ((with_reducible apply Kept.via); focus with_reducible assumption))))) H_y
  obtain ⟨cv0, cv1, cv2⟩ := Kept.all3 (show Kept W_v W_v from (by (repeat (first | with_reducible exact Kept.refl _ | with_reducible apply Kept.drew | with_reducible apply Kept.alloc | ((with_reducible apply Kept.set); focus (simp <;> omega)) | ((with_reducible apply Kept.via); focus with_reducible assumption))))) H_v
  go_wp2_with fail
  refine (Q0.out _).mono ?_
  rintro e w25 ⟨rfl, k25⟩
  clear cf0 cf1 cf2
  clear cy0 cy1 cy2
  clear cv0 cv1 cv2
  obtain ⟨cf0, cf1, cf2⟩ := Kept.all3 (show Kept W_f w25 from (by (repeat (first | with_reducible exact Kept.refl _ | with_reducible apply Kept.drew | with_reducible apply Kept.alloc | ((with_reducible apply Kept.set); focus (simp <;> omega)) | ((with_reducible apply Kept.via); focus with_reducible assumption))))) H_f
  obtain ⟨cy0, cy1, cy2⟩ := Kept.all3 (show Kept W_y w25 from (by (repeat (first | with_reducible exact Kept.refl _ | with_reducible apply Kept.drew | with_reducible apply Kept.alloc | ((with_reducible apply Kept.set); focus (simp <;> omega)) | ((with_reducible apply Kept.via); focus with_reducible assumption))))) H_y
  obtain ⟨cv0, cv1, cv2⟩ := Kept.all3 (show Kept W_v w25 from (by (repeat (first | with_reducible exact Kept.refl _ | with_reducible apply Kept.drew | with_reducible apply Kept.alloc | ((with_reducible apply Kept.set); focus (simp <;> omega)) | ((with_reducible apply Kept.via); focus with_reducible assumption))))) H_v
  go_wp2
  go_ret
  exact ⟨rfl, (by (repeat (first | with_reducible exact Kept.refl _ | with_reducible apply Kept.drew | with_reducible apply Kept.alloc | ((with_reducible apply Kept.set); focus (simp <;> omega)) | ((with_reducible apply Kept.via); focus with_reducible assumption))))⟩
set_option maxRecDepth 100000 in
set_option maxHeartbeats 1600000 in
theorem turns16_abm (CC : FlCheckC) (SC : FlSendC) (AC : FlAckC) (LC : FlLoseC) (RC_ : FlRoomC) (DC : FlDoC) {s t o n k x0 x1 x2 y0 y1 y2 u0 u1 u2 v0 v1 v2 e1 g1 i1 : Int} (hs : In64 s) (ht : In64 t) (ho : In64 o) (n0 : 0 ≤ n) (n1 : n ≤ 4294967295) (k0 : 0 ≤ k) (k1 : k ≤ 4294967295) (f1 : LessIs s t o (1 + n) (1 + n) x0 x1 x2 e1) (ix : In64 x0 ∧ In64 x1 ∧ In64 x2) (f2 : LessIs x0 x1 x2 (1 + k) 0 y0 y1 y2 g1) (f3 : LessIs s t o (1 + k) 0 u0 u1 u2 0) (iu : In64 u0 ∧ In64 u1 ∧ In64 u2) (f4 : LessIs u0 u1 u2 (1 + n) (1 + n) v0 v1 v2 i1) (m : MayF s t o) (z1 : (e1 == 0) = false) (z1' : ¬ e1 = 0) (z2 : (i1 == 0) = false) (z2' : ¬ i1 = 0) (l : o < 1 + n + (1 + k)) (w : World) : Calls Try.prog 8 #[.agg #[.int .i64 s, .int .i64 t, .int .i64 o], .int .u32 n, .int .u32 k] w fun e w' => e = .returned (.bool true) ∧ Kept w w' := by
  have CC' := Lib.hid CC
  have SC' := Lib.hid SC
  have AC' := Lib.hid AC
  have LC' := Lib.hid LC
  have RC_' := Lib.hid RC_
  have DC' := Lib.hid DC
  have AW' := Lib.hid (fun w => awake16 CC SC AC LC RC_ DC w)
  clear CC SC AC LC RC_ DC
  have Q1 := Lib.hid (fun w_ => AC'.out s t o (1 + n) x0 x1 x2 e1 hs ht ho (by unfold In64; omega) f1 w_)
  have Q2 := Lib.hid (fun w_ => LC'.out x0 x1 x2 (1 + k) y0 y1 y2 g1 ix.1 ix.2.1 ix.2.2 (by unfold In64; omega) f2 w_)
  have Q3 := Lib.hid (fun w_ => LC'.out s t o (1 + k) u0 u1 u2 0 hs ht ho (by unfold In64; omega) f3 w_)
  have Q4 := Lib.hid (fun w_ => AC'.out u0 u1 u2 (1 + n) v0 v1 v2 i1 iu.1 iu.2.1 iu.2.2 (by unfold In64; omega) f4 w_)
  have Q0 := Lib.hid (fun w_ => CC'.out s t o true hs ht ho (by simp [m]) w_)
  have d0 : decide ((1 + n) + (1 + k) ≤ o) = false := by simp; omega
  clear hs ht ho f1 f2 f3 f4 ix iu m
  go_enter Try.func8, Try.ntmps8
  go_upto_region 1 with fail
  generalize hW : World.alloc w (.cells #[.int .i64 s, .int .i64 t, .int .i64 o] 23) = W_f
  have K_f : Kept w W_f := by subst hW; exact (Kept.refl _).alloc _ _
  have H_f := Lib.hid (show W_f.cell? ⟨w.heap.size, 0, none⟩ = some (.int .i64 s) ∧ W_f.cell? ⟨w.heap.size, 1, none⟩ = some (.int .i64 t) ∧ W_f.cell? ⟨w.heap.size, 2, none⟩ = some (.int .i64 o) from by subst hW; simp [go_sem])
  clear hW
  generalize w.heap.size = g_f at *
  go_wp2_with fail
  refine (AW'.out _).mono ?_
  rintro e w20 ⟨rfl, k20⟩
  obtain ⟨cf0, cf1, cf2⟩ := Kept.all3 (show Kept W_f w20 from (by (repeat (first | with_reducible exact Kept.refl _ | with_reducible apply Kept.drew | with_reducible apply Kept.alloc | ((with_reducible apply Kept.set); focus (simp <;> omega)) | ((with_reducible apply Kept.via); focus with_reducible assumption))))) H_f
  go_wp2_with fail
  refine (Q1.out _).mono ?_
  rintro e w21 ⟨rfl, k21⟩
  clear cf0 cf1 cf2
  go_upto_region 5 with fail
  generalize hW : World.alloc w21 (.cells #[.int .i64 x0, .int .i64 x1, .int .i64 x2] 23) = W_x
  have K_x : Kept w21 W_x := by subst hW; exact (Kept.refl _).alloc _ _
  have H_x := Lib.hid (show W_x.cell? ⟨w21.heap.size, 0, none⟩ = some (.int .i64 x0) ∧ W_x.cell? ⟨w21.heap.size, 1, none⟩ = some (.int .i64 x1) ∧ W_x.cell? ⟨w21.heap.size, 2, none⟩ = some (.int .i64 x2) from by subst hW; simp [go_sem])
  clear hW
  generalize w21.heap.size = g_x at *
  obtain ⟨cx0, cx1, cx2⟩ := Kept.all3 (show Kept W_x W_x from (by (repeat (first | with_reducible exact Kept.refl _ | with_reducible apply Kept.drew | with_reducible apply Kept.alloc | ((with_reducible apply Kept.set); focus (simp <;> omega)) | ((with_reducible apply Kept.via); focus with_reducible assumption))))) H_x
  go_wp2_with fail
  refine (Q2.out _).mono ?_
  rintro e w22 ⟨rfl, k22⟩
  clear cx0 cx1 cx2
  go_upto_region 6 with fail
  generalize hW : World.alloc w22 (.cells #[.int .i64 y0, .int .i64 y1, .int .i64 y2] 23) = W_y
  have K_y : Kept w22 W_y := by subst hW; exact (Kept.refl _).alloc _ _
  have H_y := Lib.hid (show W_y.cell? ⟨w22.heap.size, 0, none⟩ = some (.int .i64 y0) ∧ W_y.cell? ⟨w22.heap.size, 1, none⟩ = some (.int .i64 y1) ∧ W_y.cell? ⟨w22.heap.size, 2, none⟩ = some (.int .i64 y2) from by subst hW; simp [go_sem])
  clear hW
  generalize w22.heap.size = g_y at *
  obtain ⟨cf0, cf1, cf2⟩ := Kept.all3 (show Kept W_f W_y from (by (repeat (first | with_reducible exact Kept.refl _ | with_reducible apply Kept.drew | with_reducible apply Kept.alloc | ((with_reducible apply Kept.set); focus (simp <;> omega)) | ((with_reducible apply Kept.via); focus with_reducible assumption))))) H_f
  go_wp2_with fail
  refine (Q3.out _).mono ?_
  rintro e w23 ⟨rfl, k23⟩
  clear cf0 cf1 cf2
  go_upto_region 7 with fail
  generalize hW : World.alloc w23 (.cells #[.int .i64 u0, .int .i64 u1, .int .i64 u2] 23) = W_u
  have K_u : Kept w23 W_u := by subst hW; exact (Kept.refl _).alloc _ _
  have H_u := Lib.hid (show W_u.cell? ⟨w23.heap.size, 0, none⟩ = some (.int .i64 u0) ∧ W_u.cell? ⟨w23.heap.size, 1, none⟩ = some (.int .i64 u1) ∧ W_u.cell? ⟨w23.heap.size, 2, none⟩ = some (.int .i64 u2) from by subst hW; simp [go_sem])
  clear hW
  generalize w23.heap.size = g_u at *
  obtain ⟨cu0, cu1, cu2⟩ := Kept.all3 (show Kept W_u W_u from (by (repeat (first | with_reducible exact Kept.refl _ | with_reducible apply Kept.drew | with_reducible apply Kept.alloc | ((with_reducible apply Kept.set); focus (simp <;> omega)) | ((with_reducible apply Kept.via); focus with_reducible assumption))))) H_u
  go_wp2_with fail
  refine (Q4.out _).mono ?_
  rintro e w24 ⟨rfl, k24⟩
  clear cu0 cu1 cu2
  go_upto_region 8 with fail
  generalize hW : World.alloc w24 (.cells #[.int .i64 v0, .int .i64 v1, .int .i64 v2] 23) = W_v
  have K_v : Kept w24 W_v := by subst hW; exact (Kept.refl _).alloc _ _
  have H_v := Lib.hid (show W_v.cell? ⟨w24.heap.size, 0, none⟩ = some (.int .i64 v0) ∧ W_v.cell? ⟨w24.heap.size, 1, none⟩ = some (.int .i64 v1) ∧ W_v.cell? ⟨w24.heap.size, 2, none⟩ = some (.int .i64 v2) from by subst hW; simp [go_sem])
  clear hW
  generalize w24.heap.size = g_v at *
  obtain ⟨cf0, cf1, cf2⟩ := Kept.all3 (show Kept W_f W_v from (by (repeat (first | with_reducible exact Kept.refl _ | with_reducible apply Kept.drew | with_reducible apply Kept.alloc | ((with_reducible apply Kept.set); focus (simp <;> omega)) | ((with_reducible apply Kept.via); focus with_reducible assumption))))) H_f
  go_upto_region 10 with fail
  clear cf0 cf1 cf2
  obtain ⟨cf0, cf1, cf2⟩ := Kept.all3 (show Kept W_f W_v from (by (repeat (first | with_reducible exact Kept.refl _ | with_reducible apply Kept.drew | with_reducible apply Kept.alloc | ((with_reducible apply Kept.set); focus (simp <;> omega)) | ((with_reducible apply Kept.via); focus with_reducible assumption))))) H_f
  obtain ⟨cy0, cy1, cy2⟩ := Kept.all3 (show Kept W_y W_v from (by (repeat (first | with_reducible exact Kept.refl _ | with_reducible apply Kept.drew | with_reducible apply Kept.alloc | ((with_reducible apply Kept.set); focus (simp <;> omega)) | ((with_reducible apply Kept.via); focus with_reducible assumption))))) H_y
  obtain ⟨cv0, cv1, cv2⟩ := Kept.all3 (show Kept W_v W_v from (by (repeat (first | with_reducible exact Kept.refl _ | with_reducible apply Kept.drew | with_reducible apply Kept.alloc | ((with_reducible apply Kept.set); focus (simp <;> omega)) | ((with_reducible apply Kept.via); focus with_reducible assumption))))) H_v
  go_wp2_with fail
  refine (Q0.out _).mono ?_
  rintro e w25 ⟨rfl, k25⟩
  clear cf0 cf1 cf2
  clear cy0 cy1 cy2
  clear cv0 cv1 cv2
  obtain ⟨cf0, cf1, cf2⟩ := Kept.all3 (show Kept W_f w25 from (by (repeat (first | with_reducible exact Kept.refl _ | with_reducible apply Kept.drew | with_reducible apply Kept.alloc | ((with_reducible apply Kept.set); focus (simp <;> omega)) | ((with_reducible apply Kept.via); focus with_reducible assumption))))) H_f
  obtain ⟨cy0, cy1, cy2⟩ := Kept.all3 (show Kept W_y w25 from (by (repeat (first | with_reducible exact Kept.refl _ | with_reducible apply Kept.drew | with_reducible apply Kept.alloc | ((with_reducible apply Kept.set); focus (simp <;> omega)) | ((with_reducible apply Kept.via); focus with_reducible assumption))))) H_y
  obtain ⟨cv0, cv1, cv2⟩ := Kept.all3 (show Kept W_v w25 from (by (repeat (first | with_reducible exact Kept.refl _ | with_reducible apply Kept.drew | with_reducible apply Kept.alloc | ((with_reducible apply Kept.set); focus (simp <;> omega)) | ((with_reducible apply Kept.via); focus with_reducible assumption))))) H_v
  go_wp2
  go_ret
  exact ⟨rfl, (by (repeat (first | with_reducible exact Kept.refl _ | with_reducible apply Kept.drew | with_reducible apply Kept.alloc | ((with_reducible apply Kept.set); focus (simp <;> omega)) | ((with_reducible apply Kept.via); focus with_reducible assumption))))⟩
set_option maxRecDepth 100000 in
set_option maxHeartbeats 1600000 in
theorem turns16_ban (CC : FlCheckC) (SC : FlSendC) (AC : FlAckC) (LC : FlLoseC) (RC_ : FlRoomC) (DC : FlDoC) {s t o n k x0 x1 x2 y0 y1 y2 u0 u1 u2 v0 v1 v2 g1 h1 i1 : Int} (hs : In64 s) (ht : In64 t) (ho : In64 o) (n0 : 0 ≤ n) (n1 : n ≤ 4294967295) (k0 : 0 ≤ k) (k1 : k ≤ 4294967295) (f1 : LessIs s t o (1 + n) (1 + n) x0 x1 x2 0) (ix : In64 x0 ∧ In64 x1 ∧ In64 x2) (f2 : LessIs x0 x1 x2 (1 + k) 0 y0 y1 y2 g1) (f3 : LessIs s t o (1 + k) 0 u0 u1 u2 h1) (iu : In64 u0 ∧ In64 u1 ∧ In64 u2) (f4 : LessIs u0 u1 u2 (1 + n) (1 + n) v0 v1 v2 i1) (m : ¬ MayF s t o) (z1 : (g1 == 0) = false) (z1' : ¬ g1 = 0) (z2 : (h1 == 0) = false) (z2' : ¬ h1 = 0)  (w : World) : Calls Try.prog 8 #[.agg #[.int .i64 s, .int .i64 t, .int .i64 o], .int .u32 n, .int .u32 k] w fun e w' => e = .returned (.bool true) ∧ Kept w w' := by
  have CC' := Lib.hid CC
  have SC' := Lib.hid SC
  have AC' := Lib.hid AC
  have LC' := Lib.hid LC
  have RC_' := Lib.hid RC_
  have DC' := Lib.hid DC
  have AW' := Lib.hid (fun w => awake16 CC SC AC LC RC_ DC w)
  clear CC SC AC LC RC_ DC
  have Q1 := Lib.hid (fun w_ => AC'.out s t o (1 + n) x0 x1 x2 0 hs ht ho (by unfold In64; omega) f1 w_)
  have Q2 := Lib.hid (fun w_ => LC'.out x0 x1 x2 (1 + k) y0 y1 y2 g1 ix.1 ix.2.1 ix.2.2 (by unfold In64; omega) f2 w_)
  have Q3 := Lib.hid (fun w_ => LC'.out s t o (1 + k) u0 u1 u2 h1 hs ht ho (by unfold In64; omega) f3 w_)
  have Q4 := Lib.hid (fun w_ => AC'.out u0 u1 u2 (1 + n) v0 v1 v2 i1 iu.1 iu.2.1 iu.2.2 (by unfold In64; omega) f4 w_)
  have Q0 := Lib.hid (fun w_ => CC'.out s t o false hs ht ho (by simp [m]) w_)
  clear hs ht ho f1 f2 f3 f4 ix iu m
  go_enter Try.func8, Try.ntmps8
  go_upto_region 1 with fail
  generalize hW : World.alloc w (.cells #[.int .i64 s, .int .i64 t, .int .i64 o] 23) = W_f
  have K_f : Kept w W_f := by subst hW; exact (Kept.refl _).alloc _ _
  have H_f := Lib.hid (show W_f.cell? ⟨w.heap.size, 0, none⟩ = some (.int .i64 s) ∧ W_f.cell? ⟨w.heap.size, 1, none⟩ = some (.int .i64 t) ∧ W_f.cell? ⟨w.heap.size, 2, none⟩ = some (.int .i64 o) from by subst hW; simp [go_sem])
  clear hW
  generalize w.heap.size = g_f at *
  go_wp2_with fail
  refine (AW'.out _).mono ?_
  rintro e w20 ⟨rfl, k20⟩
  obtain ⟨cf0, cf1, cf2⟩ := Kept.all3 (show Kept W_f w20 from (by (repeat (first | with_reducible exact Kept.refl _ | with_reducible apply Kept.drew | with_reducible apply Kept.alloc | ((with_reducible apply Kept.set); focus (simp <;> omega)) | ((with_reducible apply Kept.via); focus with_reducible assumption))))) H_f
  go_wp2_with fail
  refine (Q1.out _).mono ?_
  rintro e w21 ⟨rfl, k21⟩
  clear cf0 cf1 cf2
  go_upto_region 5 with fail
  generalize hW : World.alloc w21 (.cells #[.int .i64 x0, .int .i64 x1, .int .i64 x2] 23) = W_x
  have K_x : Kept w21 W_x := by subst hW; exact (Kept.refl _).alloc _ _
  have H_x := Lib.hid (show W_x.cell? ⟨w21.heap.size, 0, none⟩ = some (.int .i64 x0) ∧ W_x.cell? ⟨w21.heap.size, 1, none⟩ = some (.int .i64 x1) ∧ W_x.cell? ⟨w21.heap.size, 2, none⟩ = some (.int .i64 x2) from by subst hW; simp [go_sem])
  clear hW
  generalize w21.heap.size = g_x at *
  obtain ⟨cx0, cx1, cx2⟩ := Kept.all3 (show Kept W_x W_x from (by (repeat (first | with_reducible exact Kept.refl _ | with_reducible apply Kept.drew | with_reducible apply Kept.alloc | ((with_reducible apply Kept.set); focus (simp <;> omega)) | ((with_reducible apply Kept.via); focus with_reducible assumption))))) H_x
  go_wp2_with fail
  refine (Q2.out _).mono ?_
  rintro e w22 ⟨rfl, k22⟩
  clear cx0 cx1 cx2
  go_upto_region 6 with fail
  generalize hW : World.alloc w22 (.cells #[.int .i64 y0, .int .i64 y1, .int .i64 y2] 23) = W_y
  have K_y : Kept w22 W_y := by subst hW; exact (Kept.refl _).alloc _ _
  have H_y := Lib.hid (show W_y.cell? ⟨w22.heap.size, 0, none⟩ = some (.int .i64 y0) ∧ W_y.cell? ⟨w22.heap.size, 1, none⟩ = some (.int .i64 y1) ∧ W_y.cell? ⟨w22.heap.size, 2, none⟩ = some (.int .i64 y2) from by subst hW; simp [go_sem])
  clear hW
  generalize w22.heap.size = g_y at *
  obtain ⟨cf0, cf1, cf2⟩ := Kept.all3 (show Kept W_f W_y from (by (repeat (first | with_reducible exact Kept.refl _ | with_reducible apply Kept.drew | with_reducible apply Kept.alloc | ((with_reducible apply Kept.set); focus (simp <;> omega)) | ((with_reducible apply Kept.via); focus with_reducible assumption))))) H_f
  go_wp2_with fail
  refine (Q3.out _).mono ?_
  rintro e w23 ⟨rfl, k23⟩
  clear cf0 cf1 cf2
  go_upto_region 7 with fail
  generalize hW : World.alloc w23 (.cells #[.int .i64 u0, .int .i64 u1, .int .i64 u2] 23) = W_u
  have K_u : Kept w23 W_u := by subst hW; exact (Kept.refl _).alloc _ _
  have H_u := Lib.hid (show W_u.cell? ⟨w23.heap.size, 0, none⟩ = some (.int .i64 u0) ∧ W_u.cell? ⟨w23.heap.size, 1, none⟩ = some (.int .i64 u1) ∧ W_u.cell? ⟨w23.heap.size, 2, none⟩ = some (.int .i64 u2) from by subst hW; simp [go_sem])
  clear hW
  generalize w23.heap.size = g_u at *
  obtain ⟨cu0, cu1, cu2⟩ := Kept.all3 (show Kept W_u W_u from (by (repeat (first | with_reducible exact Kept.refl _ | with_reducible apply Kept.drew | with_reducible apply Kept.alloc | ((with_reducible apply Kept.set); focus (simp <;> omega)) | ((with_reducible apply Kept.via); focus with_reducible assumption))))) H_u
  go_wp2_with fail
  refine (Q4.out _).mono ?_
  rintro e w24 ⟨rfl, k24⟩
  clear cu0 cu1 cu2
  go_upto_region 8 with fail
  generalize hW : World.alloc w24 (.cells #[.int .i64 v0, .int .i64 v1, .int .i64 v2] 23) = W_v
  have K_v : Kept w24 W_v := by subst hW; exact (Kept.refl _).alloc _ _
  have H_v := Lib.hid (show W_v.cell? ⟨w24.heap.size, 0, none⟩ = some (.int .i64 v0) ∧ W_v.cell? ⟨w24.heap.size, 1, none⟩ = some (.int .i64 v1) ∧ W_v.cell? ⟨w24.heap.size, 2, none⟩ = some (.int .i64 v2) from by subst hW; simp [go_sem])
  clear hW
  generalize w24.heap.size = g_v at *
  obtain ⟨cf0, cf1, cf2⟩ := Kept.all3 (show Kept W_f W_v from (by (repeat (first | with_reducible exact Kept.refl _ | with_reducible apply Kept.drew | with_reducible apply Kept.alloc | ((with_reducible apply Kept.set); focus (simp <;> omega)) | ((with_reducible apply Kept.via); focus with_reducible assumption))))) H_f
  go_upto_region 10 with fail
  clear cf0 cf1 cf2
  obtain ⟨cf0, cf1, cf2⟩ := Kept.all3 (show Kept W_f W_v from (by (repeat (first | with_reducible exact Kept.refl _ | with_reducible apply Kept.drew | with_reducible apply Kept.alloc | ((with_reducible apply Kept.set); focus (simp <;> omega)) | ((with_reducible apply Kept.via); focus with_reducible assumption))))) H_f
  obtain ⟨cy0, cy1, cy2⟩ := Kept.all3 (show Kept W_y W_v from (by (repeat (first | with_reducible exact Kept.refl _ | with_reducible apply Kept.drew | with_reducible apply Kept.alloc | ((with_reducible apply Kept.set); focus (simp <;> omega)) | ((with_reducible apply Kept.via); focus with_reducible assumption))))) H_y
  obtain ⟨cv0, cv1, cv2⟩ := Kept.all3 (show Kept W_v W_v from (by (repeat (first | with_reducible exact Kept.refl _ | with_reducible apply Kept.drew | with_reducible apply Kept.alloc | ((with_reducible apply Kept.set); focus (simp <;> omega)) | ((with_reducible apply Kept.via); focus with_reducible assumption))))) H_v
  go_wp2_with fail
  refine (Q0.out _).mono ?_
  rintro e w25 ⟨rfl, k25⟩
  clear cf0 cf1 cf2
  clear cy0 cy1 cy2
  clear cv0 cv1 cv2
  obtain ⟨cf0, cf1, cf2⟩ := Kept.all3 (show Kept W_f w25 from (by (repeat (first | with_reducible exact Kept.refl _ | with_reducible apply Kept.drew | with_reducible apply Kept.alloc | ((with_reducible apply Kept.set); focus (simp <;> omega)) | ((with_reducible apply Kept.via); focus with_reducible assumption))))) H_f
  obtain ⟨cy0, cy1, cy2⟩ := Kept.all3 (show Kept W_y w25 from (by (repeat (first | with_reducible exact Kept.refl _ | with_reducible apply Kept.drew | with_reducible apply Kept.alloc | ((with_reducible apply Kept.set); focus (simp <;> omega)) | ((with_reducible apply Kept.via); focus with_reducible assumption))))) H_y
  obtain ⟨cv0, cv1, cv2⟩ := Kept.all3 (show Kept W_v w25 from (by (repeat (first | with_reducible exact Kept.refl _ | with_reducible apply Kept.drew | with_reducible apply Kept.alloc | ((with_reducible apply Kept.set); focus (simp <;> omega)) | ((with_reducible apply Kept.via); focus with_reducible assumption))))) H_v
  go_wp2
  go_ret
  exact ⟨rfl, (by (repeat (first | with_reducible exact Kept.refl _ | with_reducible apply Kept.drew | with_reducible apply Kept.alloc | ((with_reducible apply Kept.set); focus (simp <;> omega)) | ((with_reducible apply Kept.via); focus with_reducible assumption))))⟩
set_option maxRecDepth 100000 in
set_option maxHeartbeats 1600000 in
theorem turns16_bam (CC : FlCheckC) (SC : FlSendC) (AC : FlAckC) (LC : FlLoseC) (RC_ : FlRoomC) (DC : FlDoC) {s t o n k x0 x1 x2 y0 y1 y2 u0 u1 u2 v0 v1 v2 g1 h1 i1 : Int} (hs : In64 s) (ht : In64 t) (ho : In64 o) (n0 : 0 ≤ n) (n1 : n ≤ 4294967295) (k0 : 0 ≤ k) (k1 : k ≤ 4294967295) (f1 : LessIs s t o (1 + n) (1 + n) x0 x1 x2 0) (ix : In64 x0 ∧ In64 x1 ∧ In64 x2) (f2 : LessIs x0 x1 x2 (1 + k) 0 y0 y1 y2 g1) (f3 : LessIs s t o (1 + k) 0 u0 u1 u2 h1) (iu : In64 u0 ∧ In64 u1 ∧ In64 u2) (f4 : LessIs u0 u1 u2 (1 + n) (1 + n) v0 v1 v2 i1) (m : MayF s t o) (z1 : (g1 == 0) = false) (z1' : ¬ g1 = 0) (z2 : (h1 == 0) = false) (z2' : ¬ h1 = 0) (l : o < 1 + n + (1 + k)) (w : World) : Calls Try.prog 8 #[.agg #[.int .i64 s, .int .i64 t, .int .i64 o], .int .u32 n, .int .u32 k] w fun e w' => e = .returned (.bool true) ∧ Kept w w' := by
  have CC' := Lib.hid CC
  have SC' := Lib.hid SC
  have AC' := Lib.hid AC
  have LC' := Lib.hid LC
  have RC_' := Lib.hid RC_
  have DC' := Lib.hid DC
  have AW' := Lib.hid (fun w => awake16 CC SC AC LC RC_ DC w)
  clear CC SC AC LC RC_ DC
  have Q1 := Lib.hid (fun w_ => AC'.out s t o (1 + n) x0 x1 x2 0 hs ht ho (by unfold In64; omega) f1 w_)
  have Q2 := Lib.hid (fun w_ => LC'.out x0 x1 x2 (1 + k) y0 y1 y2 g1 ix.1 ix.2.1 ix.2.2 (by unfold In64; omega) f2 w_)
  have Q3 := Lib.hid (fun w_ => LC'.out s t o (1 + k) u0 u1 u2 h1 hs ht ho (by unfold In64; omega) f3 w_)
  have Q4 := Lib.hid (fun w_ => AC'.out u0 u1 u2 (1 + n) v0 v1 v2 i1 iu.1 iu.2.1 iu.2.2 (by unfold In64; omega) f4 w_)
  have Q0 := Lib.hid (fun w_ => CC'.out s t o true hs ht ho (by simp [m]) w_)
  have d0 : decide ((1 + n) + (1 + k) ≤ o) = false := by simp; omega
  clear hs ht ho f1 f2 f3 f4 ix iu m
  go_enter Try.func8, Try.ntmps8
  go_upto_region 1 with fail
  generalize hW : World.alloc w (.cells #[.int .i64 s, .int .i64 t, .int .i64 o] 23) = W_f
  have K_f : Kept w W_f := by subst hW; exact (Kept.refl _).alloc _ _
  have H_f := Lib.hid (show W_f.cell? ⟨w.heap.size, 0, none⟩ = some (.int .i64 s) ∧ W_f.cell? ⟨w.heap.size, 1, none⟩ = some (.int .i64 t) ∧ W_f.cell? ⟨w.heap.size, 2, none⟩ = some (.int .i64 o) from by subst hW; simp [go_sem])
  clear hW
  generalize w.heap.size = g_f at *
  go_wp2_with fail
  refine (AW'.out _).mono ?_
  rintro e w20 ⟨rfl, k20⟩
  obtain ⟨cf0, cf1, cf2⟩ := Kept.all3 (show Kept W_f w20 from (by (repeat (first | with_reducible exact Kept.refl _ | with_reducible apply Kept.drew | with_reducible apply Kept.alloc | ((with_reducible apply Kept.set); focus (simp <;> omega)) | ((with_reducible apply Kept.via); focus with_reducible assumption))))) H_f
  go_wp2_with fail
  refine (Q1.out _).mono ?_
  rintro e w21 ⟨rfl, k21⟩
  clear cf0 cf1 cf2
  go_upto_region 5 with fail
  generalize hW : World.alloc w21 (.cells #[.int .i64 x0, .int .i64 x1, .int .i64 x2] 23) = W_x
  have K_x : Kept w21 W_x := by subst hW; exact (Kept.refl _).alloc _ _
  have H_x := Lib.hid (show W_x.cell? ⟨w21.heap.size, 0, none⟩ = some (.int .i64 x0) ∧ W_x.cell? ⟨w21.heap.size, 1, none⟩ = some (.int .i64 x1) ∧ W_x.cell? ⟨w21.heap.size, 2, none⟩ = some (.int .i64 x2) from by subst hW; simp [go_sem])
  clear hW
  generalize w21.heap.size = g_x at *
  obtain ⟨cx0, cx1, cx2⟩ := Kept.all3 (show Kept W_x W_x from (by (repeat (first | with_reducible exact Kept.refl _ | with_reducible apply Kept.drew | with_reducible apply Kept.alloc | ((with_reducible apply Kept.set); focus (simp <;> omega)) | ((with_reducible apply Kept.via); focus with_reducible assumption))))) H_x
  go_wp2_with fail
  refine (Q2.out _).mono ?_
  rintro e w22 ⟨rfl, k22⟩
  clear cx0 cx1 cx2
  go_upto_region 6 with fail
  generalize hW : World.alloc w22 (.cells #[.int .i64 y0, .int .i64 y1, .int .i64 y2] 23) = W_y
  have K_y : Kept w22 W_y := by subst hW; exact (Kept.refl _).alloc _ _
  have H_y := Lib.hid (show W_y.cell? ⟨w22.heap.size, 0, none⟩ = some (.int .i64 y0) ∧ W_y.cell? ⟨w22.heap.size, 1, none⟩ = some (.int .i64 y1) ∧ W_y.cell? ⟨w22.heap.size, 2, none⟩ = some (.int .i64 y2) from by subst hW; simp [go_sem])
  clear hW
  generalize w22.heap.size = g_y at *
  obtain ⟨cf0, cf1, cf2⟩ := Kept.all3 (show Kept W_f W_y from (by (repeat (first | with_reducible exact Kept.refl _ | with_reducible apply Kept.drew | with_reducible apply Kept.alloc | ((with_reducible apply Kept.set); focus (simp <;> omega)) | ((with_reducible apply Kept.via); focus with_reducible assumption))))) H_f
  go_wp2_with fail
  refine (Q3.out _).mono ?_
  rintro e w23 ⟨rfl, k23⟩
  clear cf0 cf1 cf2
  go_upto_region 7 with fail
  generalize hW : World.alloc w23 (.cells #[.int .i64 u0, .int .i64 u1, .int .i64 u2] 23) = W_u
  have K_u : Kept w23 W_u := by subst hW; exact (Kept.refl _).alloc _ _
  have H_u := Lib.hid (show W_u.cell? ⟨w23.heap.size, 0, none⟩ = some (.int .i64 u0) ∧ W_u.cell? ⟨w23.heap.size, 1, none⟩ = some (.int .i64 u1) ∧ W_u.cell? ⟨w23.heap.size, 2, none⟩ = some (.int .i64 u2) from by subst hW; simp [go_sem])
  clear hW
  generalize w23.heap.size = g_u at *
  obtain ⟨cu0, cu1, cu2⟩ := Kept.all3 (show Kept W_u W_u from (by (repeat (first | with_reducible exact Kept.refl _ | with_reducible apply Kept.drew | with_reducible apply Kept.alloc | ((with_reducible apply Kept.set); focus (simp <;> omega)) | ((with_reducible apply Kept.via); focus with_reducible assumption))))) H_u
  go_wp2_with fail
  refine (Q4.out _).mono ?_
  rintro e w24 ⟨rfl, k24⟩
  clear cu0 cu1 cu2
  go_upto_region 8 with fail
  generalize hW : World.alloc w24 (.cells #[.int .i64 v0, .int .i64 v1, .int .i64 v2] 23) = W_v
  have K_v : Kept w24 W_v := by subst hW; exact (Kept.refl _).alloc _ _
  have H_v := Lib.hid (show W_v.cell? ⟨w24.heap.size, 0, none⟩ = some (.int .i64 v0) ∧ W_v.cell? ⟨w24.heap.size, 1, none⟩ = some (.int .i64 v1) ∧ W_v.cell? ⟨w24.heap.size, 2, none⟩ = some (.int .i64 v2) from by subst hW; simp [go_sem])
  clear hW
  generalize w24.heap.size = g_v at *
  obtain ⟨cf0, cf1, cf2⟩ := Kept.all3 (show Kept W_f W_v from (by (repeat (first | with_reducible exact Kept.refl _ | with_reducible apply Kept.drew | with_reducible apply Kept.alloc | ((with_reducible apply Kept.set); focus (simp <;> omega)) | ((with_reducible apply Kept.via); focus with_reducible assumption))))) H_f
  go_upto_region 10 with fail
  clear cf0 cf1 cf2
  obtain ⟨cf0, cf1, cf2⟩ := Kept.all3 (show Kept W_f W_v from (by (repeat (first | with_reducible exact Kept.refl _ | with_reducible apply Kept.drew | with_reducible apply Kept.alloc | ((with_reducible apply Kept.set); focus (simp <;> omega)) | ((with_reducible apply Kept.via); focus with_reducible assumption))))) H_f
  obtain ⟨cy0, cy1, cy2⟩ := Kept.all3 (show Kept W_y W_v from (by (repeat (first | with_reducible exact Kept.refl _ | with_reducible apply Kept.drew | with_reducible apply Kept.alloc | ((with_reducible apply Kept.set); focus (simp <;> omega)) | ((with_reducible apply Kept.via); focus with_reducible assumption))))) H_y
  obtain ⟨cv0, cv1, cv2⟩ := Kept.all3 (show Kept W_v W_v from (by (repeat (first | with_reducible exact Kept.refl _ | with_reducible apply Kept.drew | with_reducible apply Kept.alloc | ((with_reducible apply Kept.set); focus (simp <;> omega)) | ((with_reducible apply Kept.via); focus with_reducible assumption))))) H_v
  go_wp2_with fail
  refine (Q0.out _).mono ?_
  rintro e w25 ⟨rfl, k25⟩
  clear cf0 cf1 cf2
  clear cy0 cy1 cy2
  clear cv0 cv1 cv2
  obtain ⟨cf0, cf1, cf2⟩ := Kept.all3 (show Kept W_f w25 from (by (repeat (first | with_reducible exact Kept.refl _ | with_reducible apply Kept.drew | with_reducible apply Kept.alloc | ((with_reducible apply Kept.set); focus (simp <;> omega)) | ((with_reducible apply Kept.via); focus with_reducible assumption))))) H_f
  obtain ⟨cy0, cy1, cy2⟩ := Kept.all3 (show Kept W_y w25 from (by (repeat (first | with_reducible exact Kept.refl _ | with_reducible apply Kept.drew | with_reducible apply Kept.alloc | ((with_reducible apply Kept.set); focus (simp <;> omega)) | ((with_reducible apply Kept.via); focus with_reducible assumption))))) H_y
  obtain ⟨cv0, cv1, cv2⟩ := Kept.all3 (show Kept W_v w25 from (by (repeat (first | with_reducible exact Kept.refl _ | with_reducible apply Kept.drew | with_reducible apply Kept.alloc | ((with_reducible apply Kept.set); focus (simp <;> omega)) | ((with_reducible apply Kept.via); focus with_reducible assumption))))) H_v
  go_wp2
  go_ret
  exact ⟨rfl, (by (repeat (first | with_reducible exact Kept.refl _ | with_reducible apply Kept.drew | with_reducible apply Kept.alloc | ((with_reducible apply Kept.set); focus (simp <;> omega)) | ((with_reducible apply Kept.via); focus with_reducible assumption))))⟩
set_option maxRecDepth 100000 in
set_option maxHeartbeats 1600000 in
theorem turns16_bbn (CC : FlCheckC) (SC : FlSendC) (AC : FlAckC) (LC : FlLoseC) (RC_ : FlRoomC) (DC : FlDoC) {s t o n k x0 x1 x2 y0 y1 y2 u0 u1 u2 v0 v1 v2 g1 i1 : Int} (hs : In64 s) (ht : In64 t) (ho : In64 o) (n0 : 0 ≤ n) (n1 : n ≤ 4294967295) (k0 : 0 ≤ k) (k1 : k ≤ 4294967295) (f1 : LessIs s t o (1 + n) (1 + n) x0 x1 x2 0) (ix : In64 x0 ∧ In64 x1 ∧ In64 x2) (f2 : LessIs x0 x1 x2 (1 + k) 0 y0 y1 y2 g1) (f3 : LessIs s t o (1 + k) 0 u0 u1 u2 0) (iu : In64 u0 ∧ In64 u1 ∧ In64 u2) (f4 : LessIs u0 u1 u2 (1 + n) (1 + n) v0 v1 v2 i1) (m : ¬ MayF s t o) (z1 : (g1 == 0) = false) (z1' : ¬ g1 = 0) (z2 : (i1 == 0) = false) (z2' : ¬ i1 = 0)  (w : World) : Calls Try.prog 8 #[.agg #[.int .i64 s, .int .i64 t, .int .i64 o], .int .u32 n, .int .u32 k] w fun e w' => e = .returned (.bool true) ∧ Kept w w' := by
  have CC' := Lib.hid CC
  have SC' := Lib.hid SC
  have AC' := Lib.hid AC
  have LC' := Lib.hid LC
  have RC_' := Lib.hid RC_
  have DC' := Lib.hid DC
  have AW' := Lib.hid (fun w => awake16 CC SC AC LC RC_ DC w)
  clear CC SC AC LC RC_ DC
  have Q1 := Lib.hid (fun w_ => AC'.out s t o (1 + n) x0 x1 x2 0 hs ht ho (by unfold In64; omega) f1 w_)
  have Q2 := Lib.hid (fun w_ => LC'.out x0 x1 x2 (1 + k) y0 y1 y2 g1 ix.1 ix.2.1 ix.2.2 (by unfold In64; omega) f2 w_)
  have Q3 := Lib.hid (fun w_ => LC'.out s t o (1 + k) u0 u1 u2 0 hs ht ho (by unfold In64; omega) f3 w_)
  have Q4 := Lib.hid (fun w_ => AC'.out u0 u1 u2 (1 + n) v0 v1 v2 i1 iu.1 iu.2.1 iu.2.2 (by unfold In64; omega) f4 w_)
  have Q0 := Lib.hid (fun w_ => CC'.out s t o false hs ht ho (by simp [m]) w_)
  clear hs ht ho f1 f2 f3 f4 ix iu m
  go_enter Try.func8, Try.ntmps8
  go_upto_region 1 with fail
  generalize hW : World.alloc w (.cells #[.int .i64 s, .int .i64 t, .int .i64 o] 23) = W_f
  have K_f : Kept w W_f := by subst hW; exact (Kept.refl _).alloc _ _
  have H_f := Lib.hid (show W_f.cell? ⟨w.heap.size, 0, none⟩ = some (.int .i64 s) ∧ W_f.cell? ⟨w.heap.size, 1, none⟩ = some (.int .i64 t) ∧ W_f.cell? ⟨w.heap.size, 2, none⟩ = some (.int .i64 o) from by subst hW; simp [go_sem])
  clear hW
  generalize w.heap.size = g_f at *
  go_wp2_with fail
  refine (AW'.out _).mono ?_
  rintro e w20 ⟨rfl, k20⟩
  obtain ⟨cf0, cf1, cf2⟩ := Kept.all3 (show Kept W_f w20 from (by (repeat (first | with_reducible exact Kept.refl _ | with_reducible apply Kept.drew | with_reducible apply Kept.alloc | ((with_reducible apply Kept.set); focus (simp <;> omega)) | ((with_reducible apply Kept.via); focus with_reducible assumption))))) H_f
  go_wp2_with fail
  refine (Q1.out _).mono ?_
  rintro e w21 ⟨rfl, k21⟩
  clear cf0 cf1 cf2
  go_upto_region 5 with fail
  generalize hW : World.alloc w21 (.cells #[.int .i64 x0, .int .i64 x1, .int .i64 x2] 23) = W_x
  have K_x : Kept w21 W_x := by subst hW; exact (Kept.refl _).alloc _ _
  have H_x := Lib.hid (show W_x.cell? ⟨w21.heap.size, 0, none⟩ = some (.int .i64 x0) ∧ W_x.cell? ⟨w21.heap.size, 1, none⟩ = some (.int .i64 x1) ∧ W_x.cell? ⟨w21.heap.size, 2, none⟩ = some (.int .i64 x2) from by subst hW; simp [go_sem])
  clear hW
  generalize w21.heap.size = g_x at *
  obtain ⟨cx0, cx1, cx2⟩ := Kept.all3 (show Kept W_x W_x from (by (repeat (first | with_reducible exact Kept.refl _ | with_reducible apply Kept.drew | with_reducible apply Kept.alloc | ((with_reducible apply Kept.set); focus (simp <;> omega)) | ((with_reducible apply Kept.via); focus with_reducible assumption))))) H_x
  go_wp2_with fail
  refine (Q2.out _).mono ?_
  rintro e w22 ⟨rfl, k22⟩
  clear cx0 cx1 cx2
  go_upto_region 6 with fail
  generalize hW : World.alloc w22 (.cells #[.int .i64 y0, .int .i64 y1, .int .i64 y2] 23) = W_y
  have K_y : Kept w22 W_y := by subst hW; exact (Kept.refl _).alloc _ _
  have H_y := Lib.hid (show W_y.cell? ⟨w22.heap.size, 0, none⟩ = some (.int .i64 y0) ∧ W_y.cell? ⟨w22.heap.size, 1, none⟩ = some (.int .i64 y1) ∧ W_y.cell? ⟨w22.heap.size, 2, none⟩ = some (.int .i64 y2) from by subst hW; simp [go_sem])
  clear hW
  generalize w22.heap.size = g_y at *
  obtain ⟨cf0, cf1, cf2⟩ := Kept.all3 (show Kept W_f W_y from (by (repeat (first | with_reducible exact Kept.refl _ | with_reducible apply Kept.drew | with_reducible apply Kept.alloc | ((with_reducible apply Kept.set); focus (simp <;> omega)) | ((with_reducible apply Kept.via); focus with_reducible assumption))))) H_f
  go_wp2_with fail
  refine (Q3.out _).mono ?_
  rintro e w23 ⟨rfl, k23⟩
  clear cf0 cf1 cf2
  go_upto_region 7 with fail
  generalize hW : World.alloc w23 (.cells #[.int .i64 u0, .int .i64 u1, .int .i64 u2] 23) = W_u
  have K_u : Kept w23 W_u := by subst hW; exact (Kept.refl _).alloc _ _
  have H_u := Lib.hid (show W_u.cell? ⟨w23.heap.size, 0, none⟩ = some (.int .i64 u0) ∧ W_u.cell? ⟨w23.heap.size, 1, none⟩ = some (.int .i64 u1) ∧ W_u.cell? ⟨w23.heap.size, 2, none⟩ = some (.int .i64 u2) from by subst hW; simp [go_sem])
  clear hW
  generalize w23.heap.size = g_u at *
  obtain ⟨cu0, cu1, cu2⟩ := Kept.all3 (show Kept W_u W_u from (by (repeat (first | with_reducible exact Kept.refl _ | with_reducible apply Kept.drew | with_reducible apply Kept.alloc | ((with_reducible apply Kept.set); focus (simp <;> omega)) | ((with_reducible apply Kept.via); focus with_reducible assumption))))) H_u
  go_wp2_with fail
  refine (Q4.out _).mono ?_
  rintro e w24 ⟨rfl, k24⟩
  clear cu0 cu1 cu2
  go_upto_region 8 with fail
  generalize hW : World.alloc w24 (.cells #[.int .i64 v0, .int .i64 v1, .int .i64 v2] 23) = W_v
  have K_v : Kept w24 W_v := by subst hW; exact (Kept.refl _).alloc _ _
  have H_v := Lib.hid (show W_v.cell? ⟨w24.heap.size, 0, none⟩ = some (.int .i64 v0) ∧ W_v.cell? ⟨w24.heap.size, 1, none⟩ = some (.int .i64 v1) ∧ W_v.cell? ⟨w24.heap.size, 2, none⟩ = some (.int .i64 v2) from by subst hW; simp [go_sem])
  clear hW
  generalize w24.heap.size = g_v at *
  obtain ⟨cf0, cf1, cf2⟩ := Kept.all3 (show Kept W_f W_v from (by (repeat (first | with_reducible exact Kept.refl _ | with_reducible apply Kept.drew | with_reducible apply Kept.alloc | ((with_reducible apply Kept.set); focus (simp <;> omega)) | ((with_reducible apply Kept.via); focus with_reducible assumption))))) H_f
  go_upto_region 10 with fail
  clear cf0 cf1 cf2
  obtain ⟨cf0, cf1, cf2⟩ := Kept.all3 (show Kept W_f W_v from (by (repeat (first | with_reducible exact Kept.refl _ | with_reducible apply Kept.drew | with_reducible apply Kept.alloc | ((with_reducible apply Kept.set); focus (simp <;> omega)) | ((with_reducible apply Kept.via); focus with_reducible assumption))))) H_f
  obtain ⟨cy0, cy1, cy2⟩ := Kept.all3 (show Kept W_y W_v from (by (repeat (first | with_reducible exact Kept.refl _ | with_reducible apply Kept.drew | with_reducible apply Kept.alloc | ((with_reducible apply Kept.set); focus (simp <;> omega)) | ((with_reducible apply Kept.via); focus with_reducible assumption))))) H_y
  obtain ⟨cv0, cv1, cv2⟩ := Kept.all3 (show Kept W_v W_v from (by (repeat (first | with_reducible exact Kept.refl _ | with_reducible apply Kept.drew | with_reducible apply Kept.alloc | ((with_reducible apply Kept.set); focus (simp <;> omega)) | ((with_reducible apply Kept.via); focus with_reducible assumption))))) H_v
  go_wp2_with fail
  refine (Q0.out _).mono ?_
  rintro e w25 ⟨rfl, k25⟩
  clear cf0 cf1 cf2
  clear cy0 cy1 cy2
  clear cv0 cv1 cv2
  obtain ⟨cf0, cf1, cf2⟩ := Kept.all3 (show Kept W_f w25 from (by (repeat (first | with_reducible exact Kept.refl _ | with_reducible apply Kept.drew | with_reducible apply Kept.alloc | ((with_reducible apply Kept.set); focus (simp <;> omega)) | ((with_reducible apply Kept.via); focus with_reducible assumption))))) H_f
  obtain ⟨cy0, cy1, cy2⟩ := Kept.all3 (show Kept W_y w25 from (by (repeat (first | with_reducible exact Kept.refl _ | with_reducible apply Kept.drew | with_reducible apply Kept.alloc | ((with_reducible apply Kept.set); focus (simp <;> omega)) | ((with_reducible apply Kept.via); focus with_reducible assumption))))) H_y
  obtain ⟨cv0, cv1, cv2⟩ := Kept.all3 (show Kept W_v w25 from (by (repeat (first | with_reducible exact Kept.refl _ | with_reducible apply Kept.drew | with_reducible apply Kept.alloc | ((with_reducible apply Kept.set); focus (simp <;> omega)) | ((with_reducible apply Kept.via); focus with_reducible assumption))))) H_v
  go_wp2
  go_ret
  exact ⟨rfl, (by (repeat (first | with_reducible exact Kept.refl _ | with_reducible apply Kept.drew | with_reducible apply Kept.alloc | ((with_reducible apply Kept.set); focus (simp <;> omega)) | ((with_reducible apply Kept.via); focus with_reducible assumption))))⟩
set_option maxRecDepth 100000 in
set_option maxHeartbeats 1600000 in
theorem turns16_bbm (CC : FlCheckC) (SC : FlSendC) (AC : FlAckC) (LC : FlLoseC) (RC_ : FlRoomC) (DC : FlDoC) {s t o n k x0 x1 x2 y0 y1 y2 u0 u1 u2 v0 v1 v2 g1 i1 : Int} (hs : In64 s) (ht : In64 t) (ho : In64 o) (n0 : 0 ≤ n) (n1 : n ≤ 4294967295) (k0 : 0 ≤ k) (k1 : k ≤ 4294967295) (f1 : LessIs s t o (1 + n) (1 + n) x0 x1 x2 0) (ix : In64 x0 ∧ In64 x1 ∧ In64 x2) (f2 : LessIs x0 x1 x2 (1 + k) 0 y0 y1 y2 g1) (f3 : LessIs s t o (1 + k) 0 u0 u1 u2 0) (iu : In64 u0 ∧ In64 u1 ∧ In64 u2) (f4 : LessIs u0 u1 u2 (1 + n) (1 + n) v0 v1 v2 i1) (m : MayF s t o) (z1 : (g1 == 0) = false) (z1' : ¬ g1 = 0) (z2 : (i1 == 0) = false) (z2' : ¬ i1 = 0) (l : o < 1 + n + (1 + k)) (w : World) : Calls Try.prog 8 #[.agg #[.int .i64 s, .int .i64 t, .int .i64 o], .int .u32 n, .int .u32 k] w fun e w' => e = .returned (.bool true) ∧ Kept w w' := by
  have CC' := Lib.hid CC
  have SC' := Lib.hid SC
  have AC' := Lib.hid AC
  have LC' := Lib.hid LC
  have RC_' := Lib.hid RC_
  have DC' := Lib.hid DC
  have AW' := Lib.hid (fun w => awake16 CC SC AC LC RC_ DC w)
  clear CC SC AC LC RC_ DC
  have Q1 := Lib.hid (fun w_ => AC'.out s t o (1 + n) x0 x1 x2 0 hs ht ho (by unfold In64; omega) f1 w_)
  have Q2 := Lib.hid (fun w_ => LC'.out x0 x1 x2 (1 + k) y0 y1 y2 g1 ix.1 ix.2.1 ix.2.2 (by unfold In64; omega) f2 w_)
  have Q3 := Lib.hid (fun w_ => LC'.out s t o (1 + k) u0 u1 u2 0 hs ht ho (by unfold In64; omega) f3 w_)
  have Q4 := Lib.hid (fun w_ => AC'.out u0 u1 u2 (1 + n) v0 v1 v2 i1 iu.1 iu.2.1 iu.2.2 (by unfold In64; omega) f4 w_)
  have Q0 := Lib.hid (fun w_ => CC'.out s t o true hs ht ho (by simp [m]) w_)
  have d0 : decide ((1 + n) + (1 + k) ≤ o) = false := by simp; omega
  clear hs ht ho f1 f2 f3 f4 ix iu m
  go_enter Try.func8, Try.ntmps8
  go_upto_region 1 with fail
  generalize hW : World.alloc w (.cells #[.int .i64 s, .int .i64 t, .int .i64 o] 23) = W_f
  have K_f : Kept w W_f := by subst hW; exact (Kept.refl _).alloc _ _
  have H_f := Lib.hid (show W_f.cell? ⟨w.heap.size, 0, none⟩ = some (.int .i64 s) ∧ W_f.cell? ⟨w.heap.size, 1, none⟩ = some (.int .i64 t) ∧ W_f.cell? ⟨w.heap.size, 2, none⟩ = some (.int .i64 o) from by subst hW; simp [go_sem])
  clear hW
  generalize w.heap.size = g_f at *
  go_wp2_with fail
  refine (AW'.out _).mono ?_
  rintro e w20 ⟨rfl, k20⟩
  obtain ⟨cf0, cf1, cf2⟩ := Kept.all3 (show Kept W_f w20 from (by (repeat (first | with_reducible exact Kept.refl _ | with_reducible apply Kept.drew | with_reducible apply Kept.alloc | ((with_reducible apply Kept.set); focus (simp <;> omega)) | ((with_reducible apply Kept.via); focus with_reducible assumption))))) H_f
  go_wp2_with fail
  refine (Q1.out _).mono ?_
  rintro e w21 ⟨rfl, k21⟩
  clear cf0 cf1 cf2
  go_upto_region 5 with fail
  generalize hW : World.alloc w21 (.cells #[.int .i64 x0, .int .i64 x1, .int .i64 x2] 23) = W_x
  have K_x : Kept w21 W_x := by subst hW; exact (Kept.refl _).alloc _ _
  have H_x := Lib.hid (show W_x.cell? ⟨w21.heap.size, 0, none⟩ = some (.int .i64 x0) ∧ W_x.cell? ⟨w21.heap.size, 1, none⟩ = some (.int .i64 x1) ∧ W_x.cell? ⟨w21.heap.size, 2, none⟩ = some (.int .i64 x2) from by subst hW; simp [go_sem])
  clear hW
  generalize w21.heap.size = g_x at *
  obtain ⟨cx0, cx1, cx2⟩ := Kept.all3 (show Kept W_x W_x from (by (repeat (first | with_reducible exact Kept.refl _ | with_reducible apply Kept.drew | with_reducible apply Kept.alloc | ((with_reducible apply Kept.set); focus (simp <;> omega)) | ((with_reducible apply Kept.via); focus with_reducible assumption))))) H_x
  go_wp2_with fail
  refine (Q2.out _).mono ?_
  rintro e w22 ⟨rfl, k22⟩
  clear cx0 cx1 cx2
  go_upto_region 6 with fail
  generalize hW : World.alloc w22 (.cells #[.int .i64 y0, .int .i64 y1, .int .i64 y2] 23) = W_y
  have K_y : Kept w22 W_y := by subst hW; exact (Kept.refl _).alloc _ _
  have H_y := Lib.hid (show W_y.cell? ⟨w22.heap.size, 0, none⟩ = some (.int .i64 y0) ∧ W_y.cell? ⟨w22.heap.size, 1, none⟩ = some (.int .i64 y1) ∧ W_y.cell? ⟨w22.heap.size, 2, none⟩ = some (.int .i64 y2) from by subst hW; simp [go_sem])
  clear hW
  generalize w22.heap.size = g_y at *
  obtain ⟨cf0, cf1, cf2⟩ := Kept.all3 (show Kept W_f W_y from (by (repeat (first | with_reducible exact Kept.refl _ | with_reducible apply Kept.drew | with_reducible apply Kept.alloc | ((with_reducible apply Kept.set); focus (simp <;> omega)) | ((with_reducible apply Kept.via); focus with_reducible assumption))))) H_f
  go_wp2_with fail
  refine (Q3.out _).mono ?_
  rintro e w23 ⟨rfl, k23⟩
  clear cf0 cf1 cf2
  go_upto_region 7 with fail
  generalize hW : World.alloc w23 (.cells #[.int .i64 u0, .int .i64 u1, .int .i64 u2] 23) = W_u
  have K_u : Kept w23 W_u := by subst hW; exact (Kept.refl _).alloc _ _
  have H_u := Lib.hid (show W_u.cell? ⟨w23.heap.size, 0, none⟩ = some (.int .i64 u0) ∧ W_u.cell? ⟨w23.heap.size, 1, none⟩ = some (.int .i64 u1) ∧ W_u.cell? ⟨w23.heap.size, 2, none⟩ = some (.int .i64 u2) from by subst hW; simp [go_sem])
  clear hW
  generalize w23.heap.size = g_u at *
  obtain ⟨cu0, cu1, cu2⟩ := Kept.all3 (show Kept W_u W_u from (by (repeat (first | with_reducible exact Kept.refl _ | with_reducible apply Kept.drew | with_reducible apply Kept.alloc | ((with_reducible apply Kept.set); focus (simp <;> omega)) | ((with_reducible apply Kept.via); focus with_reducible assumption))))) H_u
  go_wp2_with fail
  refine (Q4.out _).mono ?_
  rintro e w24 ⟨rfl, k24⟩
  clear cu0 cu1 cu2
  go_upto_region 8 with fail
  generalize hW : World.alloc w24 (.cells #[.int .i64 v0, .int .i64 v1, .int .i64 v2] 23) = W_v
  have K_v : Kept w24 W_v := by subst hW; exact (Kept.refl _).alloc _ _
  have H_v := Lib.hid (show W_v.cell? ⟨w24.heap.size, 0, none⟩ = some (.int .i64 v0) ∧ W_v.cell? ⟨w24.heap.size, 1, none⟩ = some (.int .i64 v1) ∧ W_v.cell? ⟨w24.heap.size, 2, none⟩ = some (.int .i64 v2) from by subst hW; simp [go_sem])
  clear hW
  generalize w24.heap.size = g_v at *
  obtain ⟨cf0, cf1, cf2⟩ := Kept.all3 (show Kept W_f W_v from (by (repeat (first | with_reducible exact Kept.refl _ | with_reducible apply Kept.drew | with_reducible apply Kept.alloc | ((with_reducible apply Kept.set); focus (simp <;> omega)) | ((with_reducible apply Kept.via); focus with_reducible assumption))))) H_f
  go_upto_region 10 with fail
  clear cf0 cf1 cf2
  obtain ⟨cf0, cf1, cf2⟩ := Kept.all3 (show Kept W_f W_v from (by (repeat (first | with_reducible exact Kept.refl _ | with_reducible apply Kept.drew | with_reducible apply Kept.alloc | ((with_reducible apply Kept.set); focus (simp <;> omega)) | ((with_reducible apply Kept.via); focus with_reducible assumption))))) H_f
  obtain ⟨cy0, cy1, cy2⟩ := Kept.all3 (show Kept W_y W_v from (by (repeat (first | with_reducible exact Kept.refl _ | with_reducible apply Kept.drew | with_reducible apply Kept.alloc | ((with_reducible apply Kept.set); focus (simp <;> omega)) | ((with_reducible apply Kept.via); focus with_reducible assumption))))) H_y
  obtain ⟨cv0, cv1, cv2⟩ := Kept.all3 (show Kept W_v W_v from (by (repeat (first | with_reducible exact Kept.refl _ | with_reducible apply Kept.drew | with_reducible apply Kept.alloc | ((with_reducible apply Kept.set); focus (simp <;> omega)) | ((with_reducible apply Kept.via); focus with_reducible assumption))))) H_v
  go_wp2_with fail
  refine (Q0.out _).mono ?_
  rintro e w25 ⟨rfl, k25⟩
  clear cf0 cf1 cf2
  clear cy0 cy1 cy2
  clear cv0 cv1 cv2
  obtain ⟨cf0, cf1, cf2⟩ := Kept.all3 (show Kept W_f w25 from (by (repeat (first | with_reducible exact Kept.refl _ | with_reducible apply Kept.drew | with_reducible apply Kept.alloc | ((with_reducible apply Kept.set); focus (simp <;> omega)) | ((with_reducible apply Kept.via); focus with_reducible assumption))))) H_f
  obtain ⟨cy0, cy1, cy2⟩ := Kept.all3 (show Kept W_y w25 from (by (repeat (first | with_reducible exact Kept.refl _ | with_reducible apply Kept.drew | with_reducible apply Kept.alloc | ((with_reducible apply Kept.set); focus (simp <;> omega)) | ((with_reducible apply Kept.via); focus with_reducible assumption))))) H_y
  obtain ⟨cv0, cv1, cv2⟩ := Kept.all3 (show Kept W_v w25 from (by (repeat (first | with_reducible exact Kept.refl _ | with_reducible apply Kept.drew | with_reducible apply Kept.alloc | ((with_reducible apply Kept.set); focus (simp <;> omega)) | ((with_reducible apply Kept.via); focus with_reducible assumption))))) H_v
  go_wp2
  go_ret
  exact ⟨rfl, (by (repeat (first | with_reducible exact Kept.refl _ | with_reducible apply Kept.drew | with_reducible apply Kept.alloc | ((with_reducible apply Kept.set); focus (simp <;> omega)) | ((with_reducible apply Kept.via); focus with_reducible assumption))))⟩
set_option maxRecDepth 100000 in
set_option maxHeartbeats 1600000 in
theorem turns16_yes (CC : FlCheckC) (SC : FlSendC) (AC : FlAckC) (LC : FlLoseC) (RC_ : FlRoomC) (DC : FlDoC) {s t o n k : Int} (hs : In64 s) (ht : In64 t) (ho : In64 o) (n0 : 0 ≤ n) (n1 : n ≤ 4294967295) (k0 : 0 ≤ k) (k1 : k ≤ 4294967295) (f1 : LessIs s t o (1 + n) (1 + n) s (t + (1 + n)) (o - (1 + n)) 0) (ix : In64 s ∧ In64 (t + (1 + n)) ∧ In64 (o - (1 + n))) (f2 : LessIs s (t + (1 + n)) (o - (1 + n)) (1 + k) 0 s (t + (1 + n)) (o - (1 + n) - (1 + k)) 0) (f3 : LessIs s t o (1 + k) 0 s t (o - (1 + k)) 0) (iu : In64 s ∧ In64 t ∧ In64 (o - (1 + k))) (f4 : LessIs s t (o - (1 + k)) (1 + n) (1 + n) s (t + (1 + n)) (o - (1 + n) - (1 + k)) 0) (m : MayF s t o) (l : 1 + n + (1 + k) ≤ o) (o0 : 0 ≤ o) (t0 : 0 ≤ t)  (w : World) : Calls Try.prog 8 #[.agg #[.int .i64 s, .int .i64 t, .int .i64 o], .int .u32 n, .int .u32 k] w fun e w' => e = .returned (.bool true) ∧ Kept w w' := by
  have CC' := Lib.hid CC
  have SC' := Lib.hid SC
  have AC' := Lib.hid AC
  have LC' := Lib.hid LC
  have RC_' := Lib.hid RC_
  have DC' := Lib.hid DC
  have AW' := Lib.hid (fun w => awake16 CC SC AC LC RC_ DC w)
  clear CC SC AC LC RC_ DC
  have Q1 := Lib.hid (fun w_ => AC'.out s t o (1 + n) s (t + (1 + n)) (o - (1 + n)) 0 hs ht ho (by unfold In64; omega) f1 w_)
  have Q2 := Lib.hid (fun w_ => LC'.out s (t + (1 + n)) (o - (1 + n)) (1 + k) s (t + (1 + n)) (o - (1 + n) - (1 + k)) 0 ix.1 ix.2.1 ix.2.2 (by unfold In64; omega) f2 w_)
  have Q3 := Lib.hid (fun w_ => LC'.out s t o (1 + k) s t (o - (1 + k)) 0 hs ht ho (by unfold In64; omega) f3 w_)
  have Q4 := Lib.hid (fun w_ => AC'.out s t (o - (1 + k)) (1 + n) s (t + (1 + n)) (o - (1 + n) - (1 + k)) 0 iu.1 iu.2.1 iu.2.2 (by unfold In64; omega) f4 w_)
  have Q0 := Lib.hid (fun w_ => CC'.out s t o true hs ht ho (by simp [m]) w_)
  have d0 : decide ((1 + n) + (1 + k) ≤ o) = true := by simp [l]
  clear hs ht ho f1 f2 f3 f4 ix iu m
  go_enter Try.func8, Try.ntmps8
  go_upto_region 1 with fail
  generalize hW : World.alloc w (.cells #[.int .i64 s, .int .i64 t, .int .i64 o] 23) = W_f
  have K_f : Kept w W_f := by subst hW; exact (Kept.refl _).alloc _ _
  have H_f := Lib.hid (show W_f.cell? ⟨w.heap.size, 0, none⟩ = some (.int .i64 s) ∧ W_f.cell? ⟨w.heap.size, 1, none⟩ = some (.int .i64 t) ∧ W_f.cell? ⟨w.heap.size, 2, none⟩ = some (.int .i64 o) from by subst hW; simp [go_sem])
  clear hW
  generalize w.heap.size = g_f at *
  go_wp2_with fail
  refine (AW'.out _).mono ?_
  rintro e w20 ⟨rfl, k20⟩
  obtain ⟨cf0, cf1, cf2⟩ := Kept.all3 (show Kept W_f w20 from (by (repeat (first | with_reducible exact Kept.refl _ | with_reducible apply Kept.drew | with_reducible apply Kept.alloc | ((with_reducible apply Kept.set); focus (simp <;> omega)) | ((with_reducible apply Kept.via); focus with_reducible assumption))))) H_f
  go_wp2_with fail
  refine (Q1.out _).mono ?_
  rintro e w21 ⟨rfl, k21⟩
  clear cf0 cf1 cf2
  go_upto_region 5 with fail
  generalize hW : World.alloc w21 (.cells #[.int .i64 s, .int .i64 (t + (1 + n)), .int .i64 (o - (1 + n))] 23) = W_x
  have K_x : Kept w21 W_x := by subst hW; exact (Kept.refl _).alloc _ _
  have H_x := Lib.hid (show W_x.cell? ⟨w21.heap.size, 0, none⟩ = some (.int .i64 s) ∧ W_x.cell? ⟨w21.heap.size, 1, none⟩ = some (.int .i64 (t + (1 + n))) ∧ W_x.cell? ⟨w21.heap.size, 2, none⟩ = some (.int .i64 (o - (1 + n))) from by subst hW; simp [go_sem])
  clear hW
  generalize w21.heap.size = g_x at *
  obtain ⟨cx0, cx1, cx2⟩ := Kept.all3 (show Kept W_x W_x from (by (repeat (first | with_reducible exact Kept.refl _ | with_reducible apply Kept.drew | with_reducible apply Kept.alloc | ((with_reducible apply Kept.set); focus (simp <;> omega)) | ((with_reducible apply Kept.via); focus with_reducible assumption))))) H_x
  go_wp2_with fail
  refine (Q2.out _).mono ?_
  rintro e w22 ⟨rfl, k22⟩
  clear cx0 cx1 cx2
  go_upto_region 6 with fail
  generalize hW : World.alloc w22 (.cells #[.int .i64 s, .int .i64 (t + (1 + n)), .int .i64 (o - (1 + n) - (1 + k))] 23) = W_y
  have K_y : Kept w22 W_y := by subst hW; exact (Kept.refl _).alloc _ _
  have H_y := Lib.hid (show W_y.cell? ⟨w22.heap.size, 0, none⟩ = some (.int .i64 s) ∧ W_y.cell? ⟨w22.heap.size, 1, none⟩ = some (.int .i64 (t + (1 + n))) ∧ W_y.cell? ⟨w22.heap.size, 2, none⟩ = some (.int .i64 (o - (1 + n) - (1 + k))) from by subst hW; simp [go_sem])
  clear hW
  generalize w22.heap.size = g_y at *
  obtain ⟨cf0, cf1, cf2⟩ := Kept.all3 (show Kept W_f W_y from (by (repeat (first | with_reducible exact Kept.refl _ | with_reducible apply Kept.drew | with_reducible apply Kept.alloc | ((with_reducible apply Kept.set); focus (simp <;> omega)) | ((with_reducible apply Kept.via); focus with_reducible assumption))))) H_f
  go_wp2_with fail
  refine (Q3.out _).mono ?_
  rintro e w23 ⟨rfl, k23⟩
  clear cf0 cf1 cf2
  go_upto_region 7 with fail
  generalize hW : World.alloc w23 (.cells #[.int .i64 s, .int .i64 t, .int .i64 (o - (1 + k))] 23) = W_u
  have K_u : Kept w23 W_u := by subst hW; exact (Kept.refl _).alloc _ _
  have H_u := Lib.hid (show W_u.cell? ⟨w23.heap.size, 0, none⟩ = some (.int .i64 s) ∧ W_u.cell? ⟨w23.heap.size, 1, none⟩ = some (.int .i64 t) ∧ W_u.cell? ⟨w23.heap.size, 2, none⟩ = some (.int .i64 (o - (1 + k))) from by subst hW; simp [go_sem])
  clear hW
  generalize w23.heap.size = g_u at *
  obtain ⟨cu0, cu1, cu2⟩ := Kept.all3 (show Kept W_u W_u from (by (repeat (first | with_reducible exact Kept.refl _ | with_reducible apply Kept.drew | with_reducible apply Kept.alloc | ((with_reducible apply Kept.set); focus (simp <;> omega)) | ((with_reducible apply Kept.via); focus with_reducible assumption))))) H_u
  go_wp2_with fail
  refine (Q4.out _).mono ?_
  rintro e w24 ⟨rfl, k24⟩
  clear cu0 cu1 cu2
  go_upto_region 8 with fail
  generalize hW : World.alloc w24 (.cells #[.int .i64 s, .int .i64 (t + (1 + n)), .int .i64 (o - (1 + n) - (1 + k))] 23) = W_v
  have K_v : Kept w24 W_v := by subst hW; exact (Kept.refl _).alloc _ _
  have H_v := Lib.hid (show W_v.cell? ⟨w24.heap.size, 0, none⟩ = some (.int .i64 s) ∧ W_v.cell? ⟨w24.heap.size, 1, none⟩ = some (.int .i64 (t + (1 + n))) ∧ W_v.cell? ⟨w24.heap.size, 2, none⟩ = some (.int .i64 (o - (1 + n) - (1 + k))) from by subst hW; simp [go_sem])
  clear hW
  generalize w24.heap.size = g_v at *
  obtain ⟨cf0, cf1, cf2⟩ := Kept.all3 (show Kept W_f W_v from (by (repeat (first | with_reducible exact Kept.refl _ | with_reducible apply Kept.drew | with_reducible apply Kept.alloc | ((with_reducible apply Kept.set); focus (simp <;> omega)) | ((with_reducible apply Kept.via); focus with_reducible assumption))))) H_f
  go_upto_region 10 with fail
  clear cf0 cf1 cf2
  obtain ⟨cf0, cf1, cf2⟩ := Kept.all3 (show Kept W_f W_v from (by (repeat (first | with_reducible exact Kept.refl _ | with_reducible apply Kept.drew | with_reducible apply Kept.alloc | ((with_reducible apply Kept.set); focus (simp <;> omega)) | ((with_reducible apply Kept.via); focus with_reducible assumption))))) H_f
  obtain ⟨cy0, cy1, cy2⟩ := Kept.all3 (show Kept W_y W_v from (by (repeat (first | with_reducible exact Kept.refl _ | with_reducible apply Kept.drew | with_reducible apply Kept.alloc | ((with_reducible apply Kept.set); focus (simp <;> omega)) | ((with_reducible apply Kept.via); focus with_reducible assumption))))) H_y
  obtain ⟨cv0, cv1, cv2⟩ := Kept.all3 (show Kept W_v W_v from (by (repeat (first | with_reducible exact Kept.refl _ | with_reducible apply Kept.drew | with_reducible apply Kept.alloc | ((with_reducible apply Kept.set); focus (simp <;> omega)) | ((with_reducible apply Kept.via); focus with_reducible assumption))))) H_v
  go_wp2_with fail
  refine (Q0.out _).mono ?_
  rintro e w25 ⟨rfl, k25⟩
  clear cf0 cf1 cf2
  clear cy0 cy1 cy2
  clear cv0 cv1 cv2
  obtain ⟨cf0, cf1, cf2⟩ := Kept.all3 (show Kept W_f w25 from (by (repeat (first | with_reducible exact Kept.refl _ | with_reducible apply Kept.drew | with_reducible apply Kept.alloc | ((with_reducible apply Kept.set); focus (simp <;> omega)) | ((with_reducible apply Kept.via); focus with_reducible assumption))))) H_f
  obtain ⟨cy0, cy1, cy2⟩ := Kept.all3 (show Kept W_y w25 from (by (repeat (first | with_reducible exact Kept.refl _ | with_reducible apply Kept.drew | with_reducible apply Kept.alloc | ((with_reducible apply Kept.set); focus (simp <;> omega)) | ((with_reducible apply Kept.via); focus with_reducible assumption))))) H_y
  obtain ⟨cv0, cv1, cv2⟩ := Kept.all3 (show Kept W_v w25 from (by (repeat (first | with_reducible exact Kept.refl _ | with_reducible apply Kept.drew | with_reducible apply Kept.alloc | ((with_reducible apply Kept.set); focus (simp <;> omega)) | ((with_reducible apply Kept.via); focus with_reducible assumption))))) H_v
  go_wp2
  go_ret
  exact ⟨rfl, (by (repeat (first | with_reducible exact Kept.refl _ | with_reducible apply Kept.drew | with_reducible apply Kept.alloc | ((with_reducible apply Kept.set); focus (simp <;> omega)) | ((with_reducible apply Kept.via); focus with_reducible assumption))))⟩
theorem flightTurns_walk (CC : FlCheckC) (SC : FlSendC) (AC : FlAckC) (LC : FlLoseC) (RC_ : FlRoomC) (DC : FlDoC) (s t o n k : Int) (w : World) (hs : In64 s) (ht : In64 t) (ho : In64 o) (n0 : 0 ≤ n) (n1 : n ≤ 4294967295) (k0 : 0 ≤ k) (k1 : k ≤ 4294967295) : Calls Try.prog 8 #[.agg #[.int .i64 s, .int .i64 t, .int .i64 o], .int .u32 n, .int .u32 k] w fun e w' => e = .returned (.bool true) ∧ Kept w w' := by
  obtain ⟨x0, x1, x2, e, f1⟩ := less_ex s t o (1 + n) (1 + n)
  obtain ⟨y0, y1, y2, g, f2⟩ := less_ex x0 x1 x2 (1 + k) 0
  obtain ⟨u0, u1, u2, h, f3⟩ := less_ex s t o (1 + k) 0
  obtain ⟨v0, v1, v2, i, f4⟩ := less_ex u0 u1 u2 (1 + n) (1 + n)
  have ix := less_in64 hs ht ho (Or.inr rfl) f1
  have iu := less_in64 hs ht ho (Or.inl rfl) f3
  by_cases m : MayF s t o
  · have q := m
    unfold MayF at q
    by_cases l : 1 + n + (1 + k) ≤ o
    · have m2 : MayF s (t + (1 + n)) (o - (1 + n)) := by unfold MayF; omega
      have m3 : MayF s t (o - (1 + k)) := by unfold MayF; omega
      have b1 := hs.2
      exact turns16_yes CC SC AC LC RC_ DC hs ht ho n0 n1 k0 k1 (Or.inr (Or.inr ⟨m, by omega, by omega, rfl, rfl, rfl, rfl⟩)) ⟨hs, by unfold In64; omega, by unfold In64; omega⟩ (Or.inr (Or.inr ⟨m2, by omega, by omega, rfl, by omega, rfl, rfl⟩)) (Or.inr (Or.inr ⟨m, by omega, by omega, rfl, by omega, rfl, rfl⟩)) ⟨hs, ht, by unfold In64; omega⟩ (Or.inr (Or.inr ⟨m3, by omega, by omega, rfl, rfl, by omega, rfl⟩)) m l q.2.2.1 q.2.1 w
    · have one : ¬ e = 0 ∨ (e = 0 ∧ ¬ g = 0) := by
        unfold LessIs at f1 f2
        by_cases z : e = 0
        · right
          refine ⟨z, fun y => ?_⟩
          have a1 : 1 + n ≤ o ∧ x2 = o - (1 + n) := by simp only [m, true_and] at f1; omega
          by_cases mx : MayF x0 x1 x2
          · simp only [mx, true_and] at f2; omega
          · simp only [mx, false_and, not_false_iff, true_and, or_false] at f2; omega
        · exact Or.inl z
      have two : ¬ h = 0 ∨ (h = 0 ∧ ¬ i = 0) := by
        unfold LessIs at f3 f4
        by_cases z : h = 0
        · right
          refine ⟨z, fun y => ?_⟩
          have a1 : 1 + k ≤ o ∧ u2 = o - (1 + k) := by simp only [m, true_and] at f3; omega
          by_cases mx : MayF u0 u1 u2
          · simp only [mx, true_and] at f4; omega
          · simp only [mx, false_and, not_false_iff, true_and, or_false] at f4; omega
        · exact Or.inl z
      rcases one with z | ⟨rfl, z⟩ <;> rcases two with y | ⟨rfl, y⟩
      · exact turns16_aam CC SC AC LC RC_ DC hs ht ho n0 n1 k0 k1 f1 ix f2 f3 iu f4 m (by simp [z]) z (by simp [y]) y (by omega) w
      · exact turns16_abm CC SC AC LC RC_ DC hs ht ho n0 n1 k0 k1 f1 ix f2 f3 iu f4 m (by simp [z]) z (by simp [y]) y (by omega) w
      · exact turns16_bam CC SC AC LC RC_ DC hs ht ho n0 n1 k0 k1 f1 ix f2 f3 iu f4 m (by simp [z]) z (by simp [y]) y (by omega) w
      · exact turns16_bbm CC SC AC LC RC_ DC hs ht ho n0 n1 k0 k1 f1 ix f2 f3 iu f4 m (by simp [z]) z (by simp [y]) y (by omega) w
  · have z : e = 201 := by unfold LessIs at f1; simp only [m, false_and, not_false_iff, true_and, or_false] at f1; omega
    have y : h = 201 := by unfold LessIs at f3; simp only [m, false_and, not_false_iff, true_and, or_false] at f3; omega
    exact turns16_aan CC SC AC LC RC_ DC hs ht ho n0 n1 k0 k1 f1 ix f2 f3 iu f4 m (by simp [z]) (by omega) (by simp [y]) (by omega) w
end Go.Proofs.Ytbaifhgjalaphaa
