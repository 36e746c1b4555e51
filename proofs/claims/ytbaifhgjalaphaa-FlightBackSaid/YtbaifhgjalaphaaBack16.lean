/-
  The walk of FlightBack: it answers true, if the calls do what they are to do.
-/
import Derived.Test.YtbaifhgjalaphaaAwake16
import Derived.Deep.RegionHeld3
import Derived.Deep.DeepCutAuto
namespace Go.Proofs.Ytbaifhgjalaphaa
open Go.RowKit Go.BigFrame
set_option linter.unusedVariables false

set_option maxRecDepth 100000 in
set_option maxHeartbeats 1600000 in
theorem back16_no (CC : FlCheckC) (SC : FlSendC) (AC : FlAckC) (LC : FlLoseC) (RC_ : FlRoomC) (DC : FlDoC) {s t o n room er : Int} (hs : In64 s) (ht : In64 t) (ho : In64 o) (hr : In64 room) (n0 : 0 ≤ n) (n1 : n ≤ 4294967295) (f1 : SendIs s t o (1 + n) room s t o er) (z : (er == 0) = false) (z2 : ¬ er = 0) (w : World) : Calls Try.prog 6 #[.agg #[.int .i64 s, .int .i64 t, .int .i64 o], .int .u32 n, .int .i64 room] w fun e w' => e = .returned (.bool true) ∧ Kept w w' := by
  have CC' := Lib.hid CC
  have SC' := Lib.hid SC
  have AC' := Lib.hid AC
  have LC' := Lib.hid LC
  have RC_' := Lib.hid RC_
  have DC' := Lib.hid DC
  have AW' := Lib.hid (fun w => awake16 CC SC AC LC RC_ DC w)
  clear CC SC AC LC RC_ DC
  have Q1 := Lib.hid (fun w_ => SC'.out s t o (1 + n) room s t o er hs ht ho (by unfold In64; omega) hr f1 w_)
  clear hs ht ho hr f1
  go_enter Try.func6, Try.ntmps6
  go_upto_region 1 with fail
  generalize hW : World.alloc w (.cells #[.int .i64 s, .int .i64 t, .int .i64 o] 23) = W_f
  have K_f : Kept w W_f := by subst hW; exact (Kept.refl _).alloc _ _
  have H_f := Lib.hid (show W_f.cell? ⟨w.heap.size, 0, none⟩ = some (.int .i64 s) ∧ W_f.cell? ⟨w.heap.size, 1, none⟩ = some (.int .i64 t) ∧ W_f.cell? ⟨w.heap.size, 2, none⟩ = some (.int .i64 o) from by subst hW; simp [go_sem])
  clear hW
  generalize w.heap.size = g_f at *
  go_wp2_with fail
  refine (AW'.out _).mono ?_
  rintro e w20 ⟨rfl, k20⟩
  obtain ⟨cf0, cf1, cf2⟩ := Kept.all3 (show Kept W_f w20 from (by (repeat (first | with_reducible exact Kept.refl _ | with_reducible apply Kept.drew | with_reducible apply Kept.alloc | ((with_reducible apply Kept.set); focus (simp <;> omega)) | ((with_reducible apply Kept.via); focus with_reducible assumption))))) H_f
  go_wp2_with fail
  refine (Q1.out _).mono ?_
  rintro e w21 ⟨rfl, k21⟩
  clear cf0 cf1 cf2
  go_upto_region 4 with fail
  generalize hW : World.alloc w21 (.cells #[.int .i64 s, .int .i64 t, .int .i64 o] 23) = W_g
  have K_g : Kept w21 W_g := by subst hW; exact (Kept.refl _).alloc _ _
  have H_g := Lib.hid (show W_g.cell? ⟨w21.heap.size, 0, none⟩ = some (.int .i64 s) ∧ W_g.cell? ⟨w21.heap.size, 1, none⟩ = some (.int .i64 t) ∧ W_g.cell? ⟨w21.heap.size, 2, none⟩ = some (.int .i64 o) from by subst hW; simp [go_sem])
  clear hW
  generalize w21.heap.size = g_g at *
  obtain ⟨cg0, cg1, cg2⟩ := Kept.all3 (show Kept W_g W_g from (by (repeat (first | with_reducible exact Kept.refl _ | with_reducible apply Kept.drew | with_reducible apply Kept.alloc | ((with_reducible apply Kept.set); focus (simp <;> omega)) | ((with_reducible apply Kept.via); focus with_reducible assumption))))) H_g
  obtain ⟨cf0, cf1, cf2⟩ := Kept.all3 (show Kept W_f W_g from (by (repeat (first | with_reducible exact Kept.refl _ | with_reducible apply Kept.drew | with_reducible apply Kept.alloc | ((with_reducible apply Kept.set); focus (simp <;> omega)) | ((with_reducible apply Kept.via); focus with_reducible assumption))))) H_f
  go_wp2
  go_ret
  exact ⟨rfl, (by (repeat (first | with_reducible exact Kept.refl _ | with_reducible apply Kept.drew | with_reducible apply Kept.alloc | ((with_reducible apply Kept.set); focus (simp <;> omega)) | ((with_reducible apply Kept.via); focus with_reducible assumption))))⟩
set_option maxRecDepth 100000 in
set_option maxHeartbeats 1600000 in
theorem back16_over (CC : FlCheckC) (SC : FlSendC) (AC : FlAckC) (LC : FlLoseC) (RC_ : FlRoomC) (DC : FlDoC) {s t o n room : Int} (hs : In64 s) (ht : In64 t) (ho : In64 o) (hr : In64 room) (n0 : 0 ≤ n) (n1 : n ≤ 4294967295) (m : MayF s t o) (l : s + (1 + n) ≤ 9223372036854775807) (l2 : o + (1 + n) ≤ 9223372036854775807) (f1 : SendIs s t o (1 + n) room (s + (1 + n)) t (o + (1 + n)) 0) (f2 : LessIs (s + (1 + n)) t (o + (1 + n)) (1 + n) (1 + n) (s + (1 + n)) (t + (1 + n)) o 0) (f3 : LessIs (s + (1 + n)) t (o + (1 + n)) (1 + n) 0 (s + (1 + n)) t o 0) (f4 : LessIs (s + (1 + n)) t o (o + 1) (o + 1) (s + (1 + n)) t o 202) (f5 : SendIs (s + (1 + n)) t o (1 + n) room (s + (1 + n)) t o 10) (w : World) : Calls Try.prog 6 #[.agg #[.int .i64 s, .int .i64 t, .int .i64 o], .int .u32 n, .int .i64 room] w fun e w' => e = .returned (.bool true) ∧ Kept w w' := by
  have CC' := Lib.hid CC
  have SC' := Lib.hid SC
  have AC' := Lib.hid AC
  have LC' := Lib.hid LC
  have RC_' := Lib.hid RC_
  have DC' := Lib.hid DC
  have AW' := Lib.hid (fun w => awake16 CC SC AC LC RC_ DC w)
  clear CC SC AC LC RC_ DC
  have ms := m.1
  have mt := m.2.1
  have mo := m.2.2.1
  have ml := m.2.2.2
  have i0 : In64 (1 + n) := by unfold In64; omega
  have i1 : In64 (s + (1 + n)) := by unfold In64; omega
  have i2 : In64 (o + (1 + n)) := by unfold In64; omega
  have i3 : In64 (o + 1) := by unfold In64; omega
  have Q1 := Lib.hid (fun w_ => SC'.out s t o (1 + n) room (s + (1 + n)) t (o + (1 + n)) 0 hs ht ho i0 hr f1 w_)
  have Q2 := Lib.hid (fun w_ => AC'.out (s + (1 + n)) t (o + (1 + n)) (1 + n) (s + (1 + n)) (t + (1 + n)) o 0 i1 ht i2 i0 f2 w_)
  have Q3 := Lib.hid (fun w_ => LC'.out (s + (1 + n)) t (o + (1 + n)) (1 + n) (s + (1 + n)) t o 0 i1 ht i2 i0 f3 w_)
  have Q4 := Lib.hid (fun w_ => AC'.out (s + (1 + n)) t o (o + 1) (s + (1 + n)) t o 202 i1 ht ho i3 f4 w_)
  have Q5 := Lib.hid (fun w_ => SC'.out (s + (1 + n)) t o (1 + n) room (s + (1 + n)) t o 10 i1 ht ho i0 hr f5 w_)
  clear hs ht ho hr f1 f2 f3 f4 f5 i0 i1 i2 i3 m
  go_enter Try.func6, Try.ntmps6
  go_upto_region 1 with fail
  generalize hW : World.alloc w (.cells #[.int .i64 s, .int .i64 t, .int .i64 o] 23) = W_f
  have K_f : Kept w W_f := by subst hW; exact (Kept.refl _).alloc _ _
  have H_f := Lib.hid (show W_f.cell? ⟨w.heap.size, 0, none⟩ = some (.int .i64 s) ∧ W_f.cell? ⟨w.heap.size, 1, none⟩ = some (.int .i64 t) ∧ W_f.cell? ⟨w.heap.size, 2, none⟩ = some (.int .i64 o) from by subst hW; simp [go_sem])
  clear hW
  generalize w.heap.size = g_f at *
  go_wp2_with fail
  refine (AW'.out _).mono ?_
  rintro e w20 ⟨rfl, k20⟩
  obtain ⟨cf0, cf1, cf2⟩ := Kept.all3 (show Kept W_f w20 from (by (repeat (first | with_reducible exact Kept.refl _ | with_reducible apply Kept.drew | with_reducible apply Kept.alloc | ((with_reducible apply Kept.set); focus (simp <;> omega)) | ((with_reducible apply Kept.via); focus with_reducible assumption))))) H_f
  go_wp2_with fail
  refine (Q1.out _).mono ?_
  rintro e w21 ⟨rfl, k21⟩
  clear cf0 cf1 cf2
  go_upto_region 4 with fail
  generalize hW : World.alloc w21 (.cells #[.int .i64 (s + (1 + n)), .int .i64 t, .int .i64 (o + (1 + n))] 23) = W_g
  have K_g : Kept w21 W_g := by subst hW; exact (Kept.refl _).alloc _ _
  have H_g := Lib.hid (show W_g.cell? ⟨w21.heap.size, 0, none⟩ = some (.int .i64 (s + (1 + n))) ∧ W_g.cell? ⟨w21.heap.size, 1, none⟩ = some (.int .i64 t) ∧ W_g.cell? ⟨w21.heap.size, 2, none⟩ = some (.int .i64 (o + (1 + n))) from by subst hW; simp [go_sem])
  clear hW
  generalize w21.heap.size = g_g at *
  obtain ⟨cg0, cg1, cg2⟩ := Kept.all3 (show Kept W_g W_g from (by (repeat (first | with_reducible exact Kept.refl _ | with_reducible apply Kept.drew | with_reducible apply Kept.alloc | ((with_reducible apply Kept.set); focus (simp <;> omega)) | ((with_reducible apply Kept.via); focus with_reducible assumption))))) H_g
  obtain ⟨cf0, cf1, cf2⟩ := Kept.all3 (show Kept W_f W_g from (by (repeat (first | with_reducible exact Kept.refl _ | with_reducible apply Kept.drew | with_reducible apply Kept.alloc | ((with_reducible apply Kept.set); focus (simp <;> omega)) | ((with_reducible apply Kept.via); focus with_reducible assumption))))) H_f
  go_upto_region 6 with fail
  clear cg0 cg1 cg2
  clear cf0 cf1 cf2
  obtain ⟨cg0, cg1, cg2⟩ := Kept.all3 (show Kept W_g W_g from (by (repeat (first | with_reducible exact Kept.refl _ | with_reducible apply Kept.drew | with_reducible apply Kept.alloc | ((with_reducible apply Kept.set); focus (simp <;> omega)) | ((with_reducible apply Kept.via); focus with_reducible assumption))))) H_g
  go_wp2_with fail
  refine (Q2.out _).mono ?_
  rintro e w22 ⟨rfl, k22⟩
  clear cg0 cg1 cg2
  go_upto_region 7 with fail
  generalize hW : World.alloc w22 (.cells #[.int .i64 (s + (1 + n)), .int .i64 (t + (1 + n)), .int .i64 o] 23) = W_a
  have K_a : Kept w22 W_a := by subst hW; exact (Kept.refl _).alloc _ _
  have H_a := Lib.hid (show W_a.cell? ⟨w22.heap.size, 0, none⟩ = some (.int .i64 (s + (1 + n))) ∧ W_a.cell? ⟨w22.heap.size, 1, none⟩ = some (.int .i64 (t + (1 + n))) ∧ W_a.cell? ⟨w22.heap.size, 2, none⟩ = some (.int .i64 o) from by subst hW; simp [go_sem])
  clear hW
  generalize w22.heap.size = g_a at *
  obtain ⟨cg0, cg1, cg2⟩ := Kept.all3 (show Kept W_g W_a from (by (repeat (first | with_reducible exact Kept.refl _ | with_reducible apply Kept.drew | with_reducible apply Kept.alloc | ((with_reducible apply Kept.set); focus (simp <;> omega)) | ((with_reducible apply Kept.via); focus with_reducible assumption))))) H_g
  go_wp2_with fail
  refine (Q3.out _).mono ?_
  rintro e w23 ⟨rfl, k23⟩
  clear cg0 cg1 cg2
  go_upto_region 8 with fail
  generalize hW : World.alloc w23 (.cells #[.int .i64 (s + (1 + n)), .int .i64 t, .int .i64 o] 23) = W_l
  have K_l : Kept w23 W_l := by subst hW; exact (Kept.refl _).alloc _ _
  have H_l := Lib.hid (show W_l.cell? ⟨w23.heap.size, 0, none⟩ = some (.int .i64 (s + (1 + n))) ∧ W_l.cell? ⟨w23.heap.size, 1, none⟩ = some (.int .i64 t) ∧ W_l.cell? ⟨w23.heap.size, 2, none⟩ = some (.int .i64 o) from by subst hW; simp [go_sem])
  clear hW
  generalize w23.heap.size = g_l at *
  obtain ⟨cl0, cl1, cl2⟩ := Kept.all3 (show Kept W_l W_l from (by (repeat (first | with_reducible exact Kept.refl _ | with_reducible apply Kept.drew | with_reducible apply Kept.alloc | ((with_reducible apply Kept.set); focus (simp <;> omega)) | ((with_reducible apply Kept.via); focus with_reducible assumption))))) H_l
  go_wp2_with fail
  refine (Q4.out _).mono ?_
  rintro e w24 ⟨rfl, k24⟩
  clear cl0 cl1 cl2
  go_upto_region 9 with fail
  generalize hW : World.alloc w24 (.cells #[.int .i64 (s + (1 + n)), .int .i64 t, .int .i64 o] 23) = W_j
  have K_j : Kept w24 W_j := by subst hW; exact (Kept.refl _).alloc _ _
  have H_j := Lib.hid (show W_j.cell? ⟨w24.heap.size, 0, none⟩ = some (.int .i64 (s + (1 + n))) ∧ W_j.cell? ⟨w24.heap.size, 1, none⟩ = some (.int .i64 t) ∧ W_j.cell? ⟨w24.heap.size, 2, none⟩ = some (.int .i64 o) from by subst hW; simp [go_sem])
  clear hW
  generalize w24.heap.size = g_j at *
  obtain ⟨cl0, cl1, cl2⟩ := Kept.all3 (show Kept W_l W_j from (by (repeat (first | with_reducible exact Kept.refl _ | with_reducible apply Kept.drew | with_reducible apply Kept.alloc | ((with_reducible apply Kept.set); focus (simp <;> omega)) | ((with_reducible apply Kept.via); focus with_reducible assumption))))) H_l
  go_wp2_with fail
  refine (Q5.out _).mono ?_
  rintro e w25 ⟨rfl, k25⟩
  clear cl0 cl1 cl2
  go_upto_region 10 with fail
  generalize hW : World.alloc w25 (.cells #[.int .i64 (s + (1 + n)), .int .i64 t, .int .i64 o] 23) = W_m
  have K_m : Kept w25 W_m := by subst hW; exact (Kept.refl _).alloc _ _
  have H_m := Lib.hid (show W_m.cell? ⟨w25.heap.size, 0, none⟩ = some (.int .i64 (s + (1 + n))) ∧ W_m.cell? ⟨w25.heap.size, 1, none⟩ = some (.int .i64 t) ∧ W_m.cell? ⟨w25.heap.size, 2, none⟩ = some (.int .i64 o) from by subst hW; simp [go_sem])
  clear hW
  generalize w25.heap.size = g_m at *
  obtain ⟨ca0, ca1, ca2⟩ := Kept.all3 (show Kept W_a W_m from (by (repeat (first | with_reducible exact Kept.refl _ | with_reducible apply Kept.drew | with_reducible apply Kept.alloc | ((with_reducible apply Kept.set); focus (simp <;> omega)) | ((with_reducible apply Kept.via); focus with_reducible assumption))))) H_a
  obtain ⟨cl0, cl1, cl2⟩ := Kept.all3 (show Kept W_l W_m from (by (repeat (first | with_reducible exact Kept.refl _ | with_reducible apply Kept.drew | with_reducible apply Kept.alloc | ((with_reducible apply Kept.set); focus (simp <;> omega)) | ((with_reducible apply Kept.via); focus with_reducible assumption))))) H_l
  obtain ⟨cm0, cm1, cm2⟩ := Kept.all3 (show Kept W_m W_m from (by (repeat (first | with_reducible exact Kept.refl _ | with_reducible apply Kept.drew | with_reducible apply Kept.alloc | ((with_reducible apply Kept.set); focus (simp <;> omega)) | ((with_reducible apply Kept.via); focus with_reducible assumption))))) H_m
  obtain ⟨cf0, cf1, cf2⟩ := Kept.all3 (show Kept W_f W_m from (by (repeat (first | with_reducible exact Kept.refl _ | with_reducible apply Kept.drew | with_reducible apply Kept.alloc | ((with_reducible apply Kept.set); focus (simp <;> omega)) | ((with_reducible apply Kept.via); focus with_reducible assumption))))) H_f
  obtain ⟨cg0, cg1, cg2⟩ := Kept.all3 (show Kept W_g W_m from (by (repeat (first | with_reducible exact Kept.refl _ | with_reducible apply Kept.drew | with_reducible apply Kept.alloc | ((with_reducible apply Kept.set); focus (simp <;> omega)) | ((with_reducible apply Kept.via); focus with_reducible assumption))))) H_g
  go_wp2
  go_ret
  exact ⟨rfl, (by (repeat (first | with_reducible exact Kept.refl _ | with_reducible apply Kept.drew | with_reducible apply Kept.alloc | ((with_reducible apply Kept.set); focus (simp <;> omega)) | ((with_reducible apply Kept.via); focus with_reducible assumption))))⟩
set_option maxRecDepth 100000 in
set_option maxHeartbeats 1600000 in
theorem back16_yes (CC : FlCheckC) (SC : FlSendC) (AC : FlAckC) (LC : FlLoseC) (RC_ : FlRoomC) (DC : FlDoC) {s t o n room : Int} (hs : In64 s) (ht : In64 t) (ho : In64 o) (hr : In64 room) (n0 : 0 ≤ n) (n1 : n ≤ 4294967295) (m : MayF s t o) (l : s + (1 + n) ≤ 9223372036854775807) (l2 : o + (1 + n) ≤ 9223372036854775807) (f1 : SendIs s t o (1 + n) room (s + (1 + n)) t (o + (1 + n)) 0) (f2 : LessIs (s + (1 + n)) t (o + (1 + n)) (1 + n) (1 + n) (s + (1 + n)) (t + (1 + n)) o 0) (f3 : LessIs (s + (1 + n)) t (o + (1 + n)) (1 + n) 0 (s + (1 + n)) t o 0) (f4 : LessIs (s + (1 + n)) t o (o + 1) (o + 1) (s + (1 + n)) t o 202) (f5 : SendIs (s + (1 + n)) t o (1 + n) room (s + (1 + n) + (1 + n)) t (o + (1 + n)) 0) (w : World) : Calls Try.prog 6 #[.agg #[.int .i64 s, .int .i64 t, .int .i64 o], .int .u32 n, .int .i64 room] w fun e w' => e = .returned (.bool true) ∧ Kept w w' := by
  have CC' := Lib.hid CC
  have SC' := Lib.hid SC
  have AC' := Lib.hid AC
  have LC' := Lib.hid LC
  have RC_' := Lib.hid RC_
  have DC' := Lib.hid DC
  have AW' := Lib.hid (fun w => awake16 CC SC AC LC RC_ DC w)
  clear CC SC AC LC RC_ DC
  have ms := m.1
  have mt := m.2.1
  have mo := m.2.2.1
  have ml := m.2.2.2
  have i0 : In64 (1 + n) := by unfold In64; omega
  have i1 : In64 (s + (1 + n)) := by unfold In64; omega
  have i2 : In64 (o + (1 + n)) := by unfold In64; omega
  have i3 : In64 (o + 1) := by unfold In64; omega
  have Q1 := Lib.hid (fun w_ => SC'.out s t o (1 + n) room (s + (1 + n)) t (o + (1 + n)) 0 hs ht ho i0 hr f1 w_)
  have Q2 := Lib.hid (fun w_ => AC'.out (s + (1 + n)) t (o + (1 + n)) (1 + n) (s + (1 + n)) (t + (1 + n)) o 0 i1 ht i2 i0 f2 w_)
  have Q3 := Lib.hid (fun w_ => LC'.out (s + (1 + n)) t (o + (1 + n)) (1 + n) (s + (1 + n)) t o 0 i1 ht i2 i0 f3 w_)
  have Q4 := Lib.hid (fun w_ => AC'.out (s + (1 + n)) t o (o + 1) (s + (1 + n)) t o 202 i1 ht ho i3 f4 w_)
  have Q5 := Lib.hid (fun w_ => SC'.out (s + (1 + n)) t o (1 + n) room (s + (1 + n) + (1 + n)) t (o + (1 + n)) 0 i1 ht ho i0 hr f5 w_)
  clear hs ht ho hr f1 f2 f3 f4 f5 i0 i1 i2 i3 m
  go_enter Try.func6, Try.ntmps6
  go_upto_region 1 with fail
  generalize hW : World.alloc w (.cells #[.int .i64 s, .int .i64 t, .int .i64 o] 23) = W_f
  have K_f : Kept w W_f := by subst hW; exact (Kept.refl _).alloc _ _
  have H_f := Lib.hid (show W_f.cell? ⟨w.heap.size, 0, none⟩ = some (.int .i64 s) ∧ W_f.cell? ⟨w.heap.size, 1, none⟩ = some (.int .i64 t) ∧ W_f.cell? ⟨w.heap.size, 2, none⟩ = some (.int .i64 o) from by subst hW; simp [go_sem])
  clear hW
  generalize w.heap.size = g_f at *
  go_wp2_with fail
  refine (AW'.out _).mono ?_
  rintro e w20 ⟨rfl, k20⟩
  obtain ⟨cf0, cf1, cf2⟩ := Kept.all3 (show Kept W_f w20 from (by (repeat (first | with_reducible exact Kept.refl _ | with_reducible apply Kept.drew | with_reducible apply Kept.alloc | ((with_reducible apply Kept.set); focus (simp <;> omega)) | ((with_reducible apply Kept.via); focus with_reducible assumption))))) H_f
  go_wp2_with fail
  refine (Q1.out _).mono ?_
  rintro e w21 ⟨rfl, k21⟩
  clear cf0 cf1 cf2
  go_upto_region 4 with fail
  generalize hW : World.alloc w21 (.cells #[.int .i64 (s + (1 + n)), .int .i64 t, .int .i64 (o + (1 + n))] 23) = W_g
  have K_g : Kept w21 W_g := by subst hW; exact (Kept.refl _).alloc _ _
  have H_g := Lib.hid (show W_g.cell? ⟨w21.heap.size, 0, none⟩ = some (.int .i64 (s + (1 + n))) ∧ W_g.cell? ⟨w21.heap.size, 1, none⟩ = some (.int .i64 t) ∧ W_g.cell? ⟨w21.heap.size, 2, none⟩ = some (.int .i64 (o + (1 + n))) from by subst hW; simp [go_sem])
  clear hW
  generalize w21.heap.size = g_g at *
  obtain ⟨cg0, cg1, cg2⟩ := Kept.all3 (show Kept W_g W_g from (by (repeat (first | with_reducible exact Kept.refl _ | with_reducible apply Kept.drew | with_reducible apply Kept.alloc | ((with_reducible apply Kept.set); focus (simp <;> omega)) | ((with_reducible apply Kept.via); focus with_reducible assumption))))) H_g
  obtain ⟨cf0, cf1, cf2⟩ := Kept.all3 (show Kept W_f W_g from (by (repeat (first | with_reducible exact Kept.refl _ | with_reducible apply Kept.drew | with_reducible apply Kept.alloc | ((with_reducible apply Kept.set); focus (simp <;> omega)) | ((with_reducible apply Kept.via); focus with_reducible assumption))))) H_f
  go_upto_region 6 with fail
  clear cg0 cg1 cg2
  clear cf0 cf1 cf2
  obtain ⟨cg0, cg1, cg2⟩ := Kept.all3 (show Kept W_g W_g from (by (repeat (first | with_reducible exact Kept.refl _ | with_reducible apply Kept.drew | with_reducible apply Kept.alloc | ((with_reducible apply Kept.set); focus (simp <;> omega)) | ((with_reducible apply Kept.via); focus with_reducible assumption))))) H_g
  go_wp2_with fail
  refine (Q2.out _).mono ?_
  rintro e w22 ⟨rfl, k22⟩
  clear cg0 cg1 cg2
  go_upto_region 7 with fail
  generalize hW : World.alloc w22 (.cells #[.int .i64 (s + (1 + n)), .int .i64 (t + (1 + n)), .int .i64 o] 23) = W_a
  have K_a : Kept w22 W_a := by subst hW; exact (Kept.refl _).alloc _ _
  have H_a := Lib.hid (show W_a.cell? ⟨w22.heap.size, 0, none⟩ = some (.int .i64 (s + (1 + n))) ∧ W_a.cell? ⟨w22.heap.size, 1, none⟩ = some (.int .i64 (t + (1 + n))) ∧ W_a.cell? ⟨w22.heap.size, 2, none⟩ = some (.int .i64 o) from by subst hW; simp [go_sem])
  clear hW
  generalize w22.heap.size = g_a at *
  obtain ⟨cg0, cg1, cg2⟩ := Kept.all3 (show Kept W_g W_a from (by (repeat (first | with_reducible exact Kept.refl _ | with_reducible apply Kept.drew | with_reducible apply Kept.alloc | ((with_reducible apply Kept.set); focus (simp <;> omega)) | ((with_reducible apply Kept.via); focus with_reducible assumption))))) H_g
  go_wp2_with fail
  refine (Q3.out _).mono ?_
  rintro e w23 ⟨rfl, k23⟩
  clear cg0 cg1 cg2
  go_upto_region 8 with fail
  generalize hW : World.alloc w23 (.cells #[.int .i64 (s + (1 + n)), .int .i64 t, .int .i64 o] 23) = W_l
  have K_l : Kept w23 W_l := by subst hW; exact (Kept.refl _).alloc _ _
  have H_l := Lib.hid (show W_l.cell? ⟨w23.heap.size, 0, none⟩ = some (.int .i64 (s + (1 + n))) ∧ W_l.cell? ⟨w23.heap.size, 1, none⟩ = some (.int .i64 t) ∧ W_l.cell? ⟨w23.heap.size, 2, none⟩ = some (.int .i64 o) from by subst hW; simp [go_sem])
  clear hW
  generalize w23.heap.size = g_l at *
  obtain ⟨cl0, cl1, cl2⟩ := Kept.all3 (show Kept W_l W_l from (by (repeat (first | with_reducible exact Kept.refl _ | with_reducible apply Kept.drew | with_reducible apply Kept.alloc | ((with_reducible apply Kept.set); focus (simp <;> omega)) | ((with_reducible apply Kept.via); focus with_reducible assumption))))) H_l
  go_wp2_with fail
  refine (Q4.out _).mono ?_
  rintro e w24 ⟨rfl, k24⟩
  clear cl0 cl1 cl2
  go_upto_region 9 with fail
  generalize hW : World.alloc w24 (.cells #[.int .i64 (s + (1 + n)), .int .i64 t, .int .i64 o] 23) = W_j
  have K_j : Kept w24 W_j := by subst hW; exact (Kept.refl _).alloc _ _
  have H_j := Lib.hid (show W_j.cell? ⟨w24.heap.size, 0, none⟩ = some (.int .i64 (s + (1 + n))) ∧ W_j.cell? ⟨w24.heap.size, 1, none⟩ = some (.int .i64 t) ∧ W_j.cell? ⟨w24.heap.size, 2, none⟩ = some (.int .i64 o) from by subst hW; simp [go_sem])
  clear hW
  generalize w24.heap.size = g_j at *
  obtain ⟨cl0, cl1, cl2⟩ := Kept.all3 (show Kept W_l W_j from (by (repeat (first | with_reducible exact Kept.refl _ | with_reducible apply Kept.drew | with_reducible apply Kept.alloc | ((with_reducible apply Kept.set); focus (simp <;> omega)) | ((with_reducible apply Kept.via); focus with_reducible assumption))))) H_l
  go_wp2_with fail
  refine (Q5.out _).mono ?_
  rintro e w25 ⟨rfl, k25⟩
  clear cl0 cl1 cl2
  go_upto_region 10 with fail
  generalize hW : World.alloc w25 (.cells #[.int .i64 (s + (1 + n) + (1 + n)), .int .i64 t, .int .i64 (o + (1 + n))] 23) = W_m
  have K_m : Kept w25 W_m := by subst hW; exact (Kept.refl _).alloc _ _
  have H_m := Lib.hid (show W_m.cell? ⟨w25.heap.size, 0, none⟩ = some (.int .i64 (s + (1 + n) + (1 + n))) ∧ W_m.cell? ⟨w25.heap.size, 1, none⟩ = some (.int .i64 t) ∧ W_m.cell? ⟨w25.heap.size, 2, none⟩ = some (.int .i64 (o + (1 + n))) from by subst hW; simp [go_sem])
  clear hW
  generalize w25.heap.size = g_m at *
  obtain ⟨ca0, ca1, ca2⟩ := Kept.all3 (show Kept W_a W_m from (by (repeat (first | with_reducible exact Kept.refl _ | with_reducible apply Kept.drew | with_reducible apply Kept.alloc | ((with_reducible apply Kept.set); focus (simp <;> omega)) | ((with_reducible apply Kept.via); focus with_reducible assumption))))) H_a
  obtain ⟨cl0, cl1, cl2⟩ := Kept.all3 (show Kept W_l W_m from (by (repeat (first | with_reducible exact Kept.refl _ | with_reducible apply Kept.drew | with_reducible apply Kept.alloc | ((with_reducible apply Kept.set); focus (simp <;> omega)) | ((with_reducible apply Kept.via); focus with_reducible assumption))))) H_l
  obtain ⟨cm0, cm1, cm2⟩ := Kept.all3 (show Kept W_m W_m from (by (repeat (first | with_reducible exact Kept.refl _ | with_reducible apply Kept.drew | with_reducible apply Kept.alloc | ((with_reducible apply Kept.set); focus (simp <;> omega)) | ((with_reducible apply Kept.via); focus with_reducible assumption))))) H_m
  obtain ⟨cf0, cf1, cf2⟩ := Kept.all3 (show Kept W_f W_m from (by (repeat (first | with_reducible exact Kept.refl _ | with_reducible apply Kept.drew | with_reducible apply Kept.alloc | ((with_reducible apply Kept.set); focus (simp <;> omega)) | ((with_reducible apply Kept.via); focus with_reducible assumption))))) H_f
  obtain ⟨cg0, cg1, cg2⟩ := Kept.all3 (show Kept W_g W_m from (by (repeat (first | with_reducible exact Kept.refl _ | with_reducible apply Kept.drew | with_reducible apply Kept.alloc | ((with_reducible apply Kept.set); focus (simp <;> omega)) | ((with_reducible apply Kept.via); focus with_reducible assumption))))) H_g
  go_wp2
  go_ret
  exact ⟨rfl, (by (repeat (first | with_reducible exact Kept.refl _ | with_reducible apply Kept.drew | with_reducible apply Kept.alloc | ((with_reducible apply Kept.set); focus (simp <;> omega)) | ((with_reducible apply Kept.via); focus with_reducible assumption))))⟩
theorem flightBack_walk (CC : FlCheckC) (SC : FlSendC) (AC : FlAckC) (LC : FlLoseC) (RC_ : FlRoomC) (DC : FlDoC) (s t o n room : Int) (w : World) (hs : In64 s) (ht : In64 t) (ho : In64 o) (hr : In64 room) (n0 : 0 ≤ n) (n1 : n ≤ 4294967295) : Calls Try.prog 6 #[.agg #[.int .i64 s, .int .i64 t, .int .i64 o], .int .u32 n, .int .i64 room] w fun e w' => e = .returned (.bool true) ∧ Kept w w' := by
  obtain ⟨s', t', o', er, h⟩ := send_ex s t o (1 + n) room
  have h9 := h
  rcases h with ⟨f, rfl, rfl, rfl, rfl⟩ | ⟨m, k0, l, rfl, rfl, rfl, rfl⟩ | ⟨m, k0, l, d, rfl, rfl, rfl, rfl⟩ | ⟨m, k0, l, d, rfl, rfl, rfl, rfl⟩
  · exact back16_no CC SC AC LC RC_ DC hs ht ho hr n0 n1 h9 (by decide) (by decide) w
  · exact back16_no CC SC AC LC RC_ DC hs ht ho hr n0 n1 h9 (by decide) (by decide) w
  · exact back16_no CC SC AC LC RC_ DC hs ht ho hr n0 n1 h9 (by decide) (by decide) w
  · have q := m
    unfold MayF at q
    have r : roomF s t' o room = room - o := by
      unfold roomF at d ⊢
      split at d
      · omega
      · rw [if_neg (by assumption)]
    have l2 : o + (1 + n) ≤ 9223372036854775807 := by unfold In64 at hr; omega
    have m2 : MayF (s + (1 + n)) t' (o + (1 + n)) := by unfold MayF; omega
    have m3 : MayF (s + (1 + n)) t' o := by unfold MayF; omega
    have f2 : LessIs (s + (1 + n)) t' (o + (1 + n)) (1 + n) (1 + n) (s + (1 + n)) (t' + (1 + n)) o 0 := Or.inr (Or.inr ⟨m2, k0, by omega, rfl, rfl, by omega, rfl⟩)
    have f3 : LessIs (s + (1 + n)) t' (o + (1 + n)) (1 + n) 0 (s + (1 + n)) t' o 0 := Or.inr (Or.inr ⟨m2, k0, by omega, rfl, by omega, by omega, rfl⟩)
    have f4 : LessIs (s + (1 + n)) t' o (o + 1) (o + 1) (s + (1 + n)) t' o 202 := Or.inr (Or.inl ⟨m3, by omega, by omega, rfl, rfl, rfl, rfl⟩)
    by_cases c : 9223372036854775807 < s + (1 + n) + (1 + n)
    · exact back16_over CC SC AC LC RC_ DC hs ht ho hr n0 n1 m l l2 h9 f2 f3 f4 (Or.inr (Or.inl ⟨m3, k0, c, rfl, rfl, rfl, rfl⟩)) w
    · have r3 : roomF (s + (1 + n)) t' o room = room - o := by
        unfold roomF
        rw [if_neg (by intro y; rcases y with y | y; exact y m3; omega)]
      exact back16_yes CC SC AC LC RC_ DC hs ht ho hr n0 n1 m l l2 h9 f2 f3 f4 (Or.inr (Or.inr (Or.inr ⟨m3, k0, by omega, by omega, rfl, rfl, rfl, rfl⟩))) w
end Go.Proofs.Ytbaifhgjalaphaa
