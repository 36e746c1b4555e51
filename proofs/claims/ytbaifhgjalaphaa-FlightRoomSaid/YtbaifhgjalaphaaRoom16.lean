/-
  The walk of FlightRoom: it answers true, if the calls do what they are to do.
-/
import Derived.Test.YtbaifhgjalaphaaAwake16
import Derived.Deep.RegionHeld3
import Derived.Deep.DeepCutAuto
namespace Go.Proofs.Ytbaifhgjalaphaa
open Go.RowKit Go.BigFrame
set_option linter.unusedVariables false

set_option maxRecDepth 100000 in
set_option maxHeartbeats 1600000 in
theorem room16_no (CC : FlCheckC) (SC : FlSendC) (AC : FlAckC) (LC : FlLoseC) (RC_ : FlRoomC) (DC : FlDoC) {s t o n room : Int} (hs : In64 s) (ht : In64 t) (ho : In64 o) (m : ¬ MayF s t o) (w : World) : Calls Try.prog 5 #[.agg #[.int .i64 s, .int .i64 t, .int .i64 o], .int .u32 n, .int .i64 room] w fun e w' => e = .returned (.bool true) ∧ Kept w w' := by
  have CC' := Lib.hid CC
  have SC' := Lib.hid SC
  have AC' := Lib.hid AC
  have LC' := Lib.hid LC
  have RC_' := Lib.hid RC_
  have DC' := Lib.hid DC
  have AW' := Lib.hid (fun w => awake16 CC SC AC LC RC_ DC w)
  clear CC SC AC LC RC_ DC
  have Q0 := Lib.hid (fun w_ => CC'.out s t o false hs ht ho (by simp [m]) w_)
  clear hs ht ho m
  go_enter Try.func5, Try.ntmps5
  go_upto_region 1 with fail
  generalize hW : World.alloc w (.cells #[.int .i64 s, .int .i64 t, .int .i64 o] 23) = W_f
  have K_f : Kept w W_f := by subst hW; exact (Kept.refl _).alloc _ _
  have H_f := Lib.hid (show W_f.cell? ⟨w.heap.size, 0, none⟩ = some (.int .i64 s) ∧ W_f.cell? ⟨w.heap.size, 1, none⟩ = some (.int .i64 t) ∧ W_f.cell? ⟨w.heap.size, 2, none⟩ = some (.int .i64 o) from by subst hW; simp [go_sem])
  clear hW
  generalize w.heap.size = g_f at *
  go_wp2_with fail
  refine (AW'.out _).mono ?_
  rintro e w20 ⟨rfl, k20⟩
  obtain ⟨cf0, cf1, cf2⟩ := Kept.all3 (show Kept W_f w20 from (by (repeat (first | with_reducible exact Kept.refl _ | with_reducible apply Kept.drew | with_reducible apply Kept.alloc | ((with_reducible apply Kept.set); focus (simp <;> omega)) | ((with_reducible apply Kept.via); focus with_reducible assumption))))) H_f
  go_wp2_with fail
  refine (Q0.out _).mono ?_
  rintro e w21 ⟨rfl, k21⟩
  clear cf0 cf1 cf2
  go_wp2
  go_ret
  exact ⟨rfl, (by (repeat (first | with_reducible exact Kept.refl _ | with_reducible apply Kept.drew | with_reducible apply Kept.alloc | ((with_reducible apply Kept.set); focus (simp <;> omega)) | ((with_reducible apply Kept.via); focus with_reducible assumption))))⟩
set_option maxRecDepth 100000 in
set_option maxHeartbeats 1600000 in
theorem room16_far (CC : FlCheckC) (SC : FlSendC) (AC : FlAckC) (LC : FlLoseC) (RC_ : FlRoomC) (DC : FlDoC) {s t o n room : Int} (hs : In64 s) (ht : In64 t) (ho : In64 o) (m : MayF s t o) (l : 4611686018427387904 < s) (w : World) : Calls Try.prog 5 #[.agg #[.int .i64 s, .int .i64 t, .int .i64 o], .int .u32 n, .int .i64 room] w fun e w' => e = .returned (.bool true) ∧ Kept w w' := by
  have CC' := Lib.hid CC
  have SC' := Lib.hid SC
  have AC' := Lib.hid AC
  have LC' := Lib.hid LC
  have RC_' := Lib.hid RC_
  have DC' := Lib.hid DC
  have AW' := Lib.hid (fun w => awake16 CC SC AC LC RC_ DC w)
  clear CC SC AC LC RC_ DC
  have Q0 := Lib.hid (fun w_ => CC'.out s t o true hs ht ho (by simp [m]) w_)
  clear hs ht ho m
  have d0 : decide (4611686018427387904 < s) = true := by simp [l]
  go_enter Try.func5, Try.ntmps5
  go_upto_region 1 with fail
  generalize hW : World.alloc w (.cells #[.int .i64 s, .int .i64 t, .int .i64 o] 23) = W_f
  have K_f : Kept w W_f := by subst hW; exact (Kept.refl _).alloc _ _
  have H_f := Lib.hid (show W_f.cell? ⟨w.heap.size, 0, none⟩ = some (.int .i64 s) ∧ W_f.cell? ⟨w.heap.size, 1, none⟩ = some (.int .i64 t) ∧ W_f.cell? ⟨w.heap.size, 2, none⟩ = some (.int .i64 o) from by subst hW; simp [go_sem])
  clear hW
  generalize w.heap.size = g_f at *
  go_wp2_with fail
  refine (AW'.out _).mono ?_
  rintro e w20 ⟨rfl, k20⟩
  obtain ⟨cf0, cf1, cf2⟩ := Kept.all3 (show Kept W_f w20 from (by (repeat (first | with_reducible exact Kept.refl _ | with_reducible apply Kept.drew | with_reducible apply Kept.alloc | ((with_reducible apply Kept.set); focus (simp <;> omega)) | ((with_reducible apply Kept.via); focus with_reducible assumption))))) H_f
  go_wp2_with fail
  refine (Q0.out _).mono ?_
  rintro e w21 ⟨rfl, k21⟩
  clear cf0 cf1 cf2
  obtain ⟨cf0, cf1, cf2⟩ := Kept.all3 (show Kept W_f w21 from (by (repeat (first | with_reducible exact Kept.refl _ | with_reducible apply Kept.drew | with_reducible apply Kept.alloc | ((with_reducible apply Kept.set); focus (simp <;> omega)) | ((with_reducible apply Kept.via); focus with_reducible assumption))))) H_f
  go_wp2
  go_ret
  exact ⟨rfl, (by (repeat (first | with_reducible exact Kept.refl _ | with_reducible apply Kept.drew | with_reducible apply Kept.alloc | ((with_reducible apply Kept.set); focus (simp <;> omega)) | ((with_reducible apply Kept.via); focus with_reducible assumption))))⟩
set_option maxRecDepth 100000 in
set_option maxHeartbeats 1600000 in
theorem room16_go (CC : FlCheckC) (SC : FlSendC) (AC : FlAckC) (LC : FlLoseC) (RC_ : FlRoomC) (DC : FlDoC) {s t o n room r : Int} (hs : In64 s) (ht : In64 t) (ho : In64 o) (hr : In64 room) (n0 : 0 ≤ n) (n1 : n ≤ 4294967295) (m : MayF s t o) (l : s ≤ 4611686018427387904) (f1 : SendIs s t o (1 + n) room (s + (1 + n)) t (o + (1 + n)) 0) (f2 : roomF s t o room = r) (r0 : 0 ≤ r) (r1 : r ≤ 9223372036854775807) (k : 1 + n ≤ r) (l2 : o + (1 + n) ≤ room) (f3 : roomF (s + (1 + n)) t (o + (1 + n)) room = r - (1 + n)) (w : World) : Calls Try.prog 5 #[.agg #[.int .i64 s, .int .i64 t, .int .i64 o], .int .u32 n, .int .i64 room] w fun e w' => e = .returned (.bool true) ∧ Kept w w' := by
  have CC' := Lib.hid CC
  have SC' := Lib.hid SC
  have AC' := Lib.hid AC
  have LC' := Lib.hid LC
  have RC_' := Lib.hid RC_
  have DC' := Lib.hid DC
  have AW' := Lib.hid (fun w => awake16 CC SC AC LC RC_ DC w)
  clear CC SC AC LC RC_ DC
  have ms := m.1
  have mt := m.2.1
  have mo := m.2.2.1
  have ml := m.2.2.2
  have Q0 := Lib.hid (fun w_ => CC'.out s t o true hs ht ho (by simp [m]) w_)
  have Q1 := Lib.hid (fun w_ => SC'.out s t o (1 + n) room (s + (1 + n)) t (o + (1 + n)) 0 hs ht ho (by unfold In64; omega) hr f1 w_)
  have Q2 := Lib.hid (fun w_ => RC_'.out s t o room r hs ht ho hr f2 w_)
  have Q3 := Lib.hid (fun w_ => RC_'.out (s + (1 + n)) t (o + (1 + n)) room (r - (1 + n)) (by unfold In64; omega) ht (by unfold In64 at *; omega) hr f3 w_)
  have rm : room ≤ 9223372036854775807 := hr.2
  have d1 : decide (1 + n ≤ r) = true := by simp [k]
  have d2 : decide (o + (1 + n) ≤ room) = true := by simp [l2]
  clear hs ht ho hr f1 f2 m f3
  have d0 : decide (4611686018427387904 < s) = false := by simp; omega
  go_enter Try.func5, Try.ntmps5
  go_upto_region 1 with fail
  generalize hW : World.alloc w (.cells #[.int .i64 s, .int .i64 t, .int .i64 o] 23) = W_f
  have K_f : Kept w W_f := by subst hW; exact (Kept.refl _).alloc _ _
  have H_f := Lib.hid (show W_f.cell? ⟨w.heap.size, 0, none⟩ = some (.int .i64 s) ∧ W_f.cell? ⟨w.heap.size, 1, none⟩ = some (.int .i64 t) ∧ W_f.cell? ⟨w.heap.size, 2, none⟩ = some (.int .i64 o) from by subst hW; simp [go_sem])
  clear hW
  generalize w.heap.size = g_f at *
  go_wp2_with fail
  refine (AW'.out _).mono ?_
  rintro e w20 ⟨rfl, k20⟩
  obtain ⟨cf0, cf1, cf2⟩ := Kept.all3 (show Kept W_f w20 from (by (repeat (first | with_reducible exact Kept.refl _ | with_reducible apply Kept.drew | with_reducible apply Kept.alloc | ((with_reducible apply Kept.set); focus (simp <;> omega)) | ((with_reducible apply Kept.via); focus with_reducible assumption))))) H_f
  go_wp2_with fail
  refine (Q0.out _).mono ?_
  rintro e w21 ⟨rfl, k21⟩
  clear cf0 cf1 cf2
  obtain ⟨cf0, cf1, cf2⟩ := Kept.all3 (show Kept W_f w21 from (by (repeat (first | with_reducible exact Kept.refl _ | with_reducible apply Kept.drew | with_reducible apply Kept.alloc | ((with_reducible apply Kept.set); focus (simp <;> omega)) | ((with_reducible apply Kept.via); focus with_reducible assumption))))) H_f
  go_upto_region 5 with fail
  clear cf0 cf1 cf2
  obtain ⟨cf0, cf1, cf2⟩ := Kept.all3 (show Kept W_f w21 from (by (repeat (first | with_reducible exact Kept.refl _ | with_reducible apply Kept.drew | with_reducible apply Kept.alloc | ((with_reducible apply Kept.set); focus (simp <;> omega)) | ((with_reducible apply Kept.via); focus with_reducible assumption))))) H_f
  go_wp2_with fail
  refine (Q1.out _).mono ?_
  rintro e w22 ⟨rfl, k22⟩
  clear cf0 cf1 cf2
  go_upto_region 6 with fail
  generalize hW : World.alloc w22 (.cells #[.int .i64 (s + (1 + n)), .int .i64 t, .int .i64 (o + (1 + n))] 23) = W_g
  have K_g : Kept w22 W_g := by subst hW; exact (Kept.refl _).alloc _ _
  have H_g := Lib.hid (show W_g.cell? ⟨w22.heap.size, 0, none⟩ = some (.int .i64 (s + (1 + n))) ∧ W_g.cell? ⟨w22.heap.size, 1, none⟩ = some (.int .i64 t) ∧ W_g.cell? ⟨w22.heap.size, 2, none⟩ = some (.int .i64 (o + (1 + n))) from by subst hW; simp [go_sem])
  clear hW
  generalize w22.heap.size = g_g at *
  obtain ⟨cf0, cf1, cf2⟩ := Kept.all3 (show Kept W_f W_g from (by (repeat (first | with_reducible exact Kept.refl _ | with_reducible apply Kept.drew | with_reducible apply Kept.alloc | ((with_reducible apply Kept.set); focus (simp <;> omega)) | ((with_reducible apply Kept.via); focus with_reducible assumption))))) H_f
  go_wp2_with fail
  refine (Q2.out _).mono ?_
  rintro e w23 ⟨rfl, k23⟩
  clear cf0 cf1 cf2
  obtain ⟨cg0, cg1, cg2⟩ := Kept.all3 (show Kept W_g w23 from (by (repeat (first | with_reducible exact Kept.refl _ | with_reducible apply Kept.drew | with_reducible apply Kept.alloc | ((with_reducible apply Kept.set); focus (simp <;> omega)) | ((with_reducible apply Kept.via); focus with_reducible assumption))))) H_g
  obtain ⟨cf0, cf1, cf2⟩ := Kept.all3 (show Kept W_f w23 from (by (repeat (first | with_reducible exact Kept.refl _ | with_reducible apply Kept.drew | with_reducible apply Kept.alloc | ((with_reducible apply Kept.set); focus (simp <;> omega)) | ((with_reducible apply Kept.via); focus with_reducible assumption))))) H_f
  go_wp2_with fail
  refine (Q3.out _).mono ?_
  rintro e w24 ⟨rfl, k24⟩
  clear cg0 cg1 cg2
  clear cf0 cf1 cf2
  obtain ⟨cg0, cg1, cg2⟩ := Kept.all3 (show Kept W_g w24 from (by (repeat (first | with_reducible exact Kept.refl _ | with_reducible apply Kept.drew | with_reducible apply Kept.alloc | ((with_reducible apply Kept.set); focus (simp <;> omega)) | ((with_reducible apply Kept.via); focus with_reducible assumption))))) H_g
  obtain ⟨cf0, cf1, cf2⟩ := Kept.all3 (show Kept W_f w24 from (by (repeat (first | with_reducible exact Kept.refl _ | with_reducible apply Kept.drew | with_reducible apply Kept.alloc | ((with_reducible apply Kept.set); focus (simp <;> omega)) | ((with_reducible apply Kept.via); focus with_reducible assumption))))) H_f
  go_wp2
  go_ret
  exact ⟨rfl, (by (repeat (first | with_reducible exact Kept.refl _ | with_reducible apply Kept.drew | with_reducible apply Kept.alloc | ((with_reducible apply Kept.set); focus (simp <;> omega)) | ((with_reducible apply Kept.via); focus with_reducible assumption))))⟩
set_option maxRecDepth 100000 in
set_option maxHeartbeats 1600000 in
theorem room16_stay (CC : FlCheckC) (SC : FlSendC) (AC : FlAckC) (LC : FlLoseC) (RC_ : FlRoomC) (DC : FlDoC) {s t o n room r : Int} (hs : In64 s) (ht : In64 t) (ho : In64 o) (hr : In64 room) (n0 : 0 ≤ n) (n1 : n ≤ 4294967295) (m : MayF s t o) (l : s ≤ 4611686018427387904) (f1 : SendIs s t o (1 + n) room s t o 203) (f2 : roomF s t o room = r) (r0 : 0 ≤ r) (r1 : r ≤ 9223372036854775807) (k : r < 1 + n) (w : World) : Calls Try.prog 5 #[.agg #[.int .i64 s, .int .i64 t, .int .i64 o], .int .u32 n, .int .i64 room] w fun e w' => e = .returned (.bool true) ∧ Kept w w' := by
  have CC' := Lib.hid CC
  have SC' := Lib.hid SC
  have AC' := Lib.hid AC
  have LC' := Lib.hid LC
  have RC_' := Lib.hid RC_
  have DC' := Lib.hid DC
  have AW' := Lib.hid (fun w => awake16 CC SC AC LC RC_ DC w)
  clear CC SC AC LC RC_ DC
  have ms := m.1
  have mt := m.2.1
  have mo := m.2.2.1
  have ml := m.2.2.2
  have Q0 := Lib.hid (fun w_ => CC'.out s t o true hs ht ho (by simp [m]) w_)
  have Q1 := Lib.hid (fun w_ => SC'.out s t o (1 + n) room s t o 203 hs ht ho (by unfold In64; omega) hr f1 w_)
  have Q2 := Lib.hid (fun w_ => RC_'.out s t o room r hs ht ho hr f2 w_)
  have d1 : decide (1 + n ≤ r) = false := by simp; omega
  clear hs ht ho hr f1 f2 m
  have d0 : decide (4611686018427387904 < s) = false := by simp; omega
  go_enter Try.func5, Try.ntmps5
  go_upto_region 1 with fail
  generalize hW : World.alloc w (.cells #[.int .i64 s, .int .i64 t, .int .i64 o] 23) = W_f
  have K_f : Kept w W_f := by subst hW; exact (Kept.refl _).alloc _ _
  have H_f := Lib.hid (show W_f.cell? ⟨w.heap.size, 0, none⟩ = some (.int .i64 s) ∧ W_f.cell? ⟨w.heap.size, 1, none⟩ = some (.int .i64 t) ∧ W_f.cell? ⟨w.heap.size, 2, none⟩ = some (.int .i64 o) from by subst hW; simp [go_sem])
  clear hW
  generalize w.heap.size = g_f at *
  go_wp2_with fail
  refine (AW'.out _).mono ?_
  rintro e w20 ⟨rfl, k20⟩
  obtain ⟨cf0, cf1, cf2⟩ := Kept.all3 (show Kept W_f w20 from (by (repeat (first | with_reducible exact Kept.refl _ | with_reducible apply Kept.drew | with_reducible apply Kept.alloc | ((with_reducible apply Kept.set); focus (simp <;> omega)) | ((with_reducible apply Kept.via); focus with_reducible assumption))))) H_f
  go_wp2_with fail
  refine (Q0.out _).mono ?_
  rintro e w21 ⟨rfl, k21⟩
  clear cf0 cf1 cf2
  obtain ⟨cf0, cf1, cf2⟩ := Kept.all3 (show Kept W_f w21 from (by (repeat (first | with_reducible exact Kept.refl _ | with_reducible apply Kept.drew | with_reducible apply Kept.alloc | ((with_reducible apply Kept.set); focus (simp <;> omega)) | ((with_reducible apply Kept.via); focus with_reducible assumption))))) H_f
  go_upto_region 5 with fail
  clear cf0 cf1 cf2
  obtain ⟨cf0, cf1, cf2⟩ := Kept.all3 (show Kept W_f w21 from (by (repeat (first | with_reducible exact Kept.refl _ | with_reducible apply Kept.drew | with_reducible apply Kept.alloc | ((with_reducible apply Kept.set); focus (simp <;> omega)) | ((with_reducible apply Kept.via); focus with_reducible assumption))))) H_f
  go_wp2_with fail
  refine (Q1.out _).mono ?_
  rintro e w22 ⟨rfl, k22⟩
  clear cf0 cf1 cf2
  go_upto_region 6 with fail
  generalize hW : World.alloc w22 (.cells #[.int .i64 s, .int .i64 t, .int .i64 o] 23) = W_g
  have K_g : Kept w22 W_g := by subst hW; exact (Kept.refl _).alloc _ _
  have H_g := Lib.hid (show W_g.cell? ⟨w22.heap.size, 0, none⟩ = some (.int .i64 s) ∧ W_g.cell? ⟨w22.heap.size, 1, none⟩ = some (.int .i64 t) ∧ W_g.cell? ⟨w22.heap.size, 2, none⟩ = some (.int .i64 o) from by subst hW; simp [go_sem])
  clear hW
  generalize w22.heap.size = g_g at *
  obtain ⟨cf0, cf1, cf2⟩ := Kept.all3 (show Kept W_f W_g from (by (repeat (first | with_reducible exact Kept.refl _ | with_reducible apply Kept.drew | with_reducible apply Kept.alloc | ((with_reducible apply Kept.set); focus (simp <;> omega)) | ((with_reducible apply Kept.via); focus with_reducible assumption))))) H_f
  go_wp2_with fail
  refine (Q2.out _).mono ?_
  rintro e w23 ⟨rfl, k23⟩
  clear cf0 cf1 cf2
  obtain ⟨cg0, cg1, cg2⟩ := Kept.all3 (show Kept W_g w23 from (by (repeat (first | with_reducible exact Kept.refl _ | with_reducible apply Kept.drew | with_reducible apply Kept.alloc | ((with_reducible apply Kept.set); focus (simp <;> omega)) | ((with_reducible apply Kept.via); focus with_reducible assumption))))) H_g
  obtain ⟨cf0, cf1, cf2⟩ := Kept.all3 (show Kept W_f w23 from (by (repeat (first | with_reducible exact Kept.refl _ | with_reducible apply Kept.drew | with_reducible apply Kept.alloc | ((with_reducible apply Kept.set); focus (simp <;> omega)) | ((with_reducible apply Kept.via); focus with_reducible assumption))))) H_f
  go_wp2
  go_ret
  exact ⟨rfl, (by (repeat (first | with_reducible exact Kept.refl _ | with_reducible apply Kept.drew | with_reducible apply Kept.alloc | ((with_reducible apply Kept.set); focus (simp <;> omega)) | ((with_reducible apply Kept.via); focus with_reducible assumption))))⟩
theorem flightRoom_walk (CC : FlCheckC) (SC : FlSendC) (AC : FlAckC) (LC : FlLoseC) (RC_ : FlRoomC) (DC : FlDoC) (s t o n room : Int) (w : World) (hs : In64 s) (ht : In64 t) (ho : In64 o) (hr : In64 room) (n0 : 0 ≤ n) (n1 : n ≤ 4294967295) : Calls Try.prog 5 #[.agg #[.int .i64 s, .int .i64 t, .int .i64 o], .int .u32 n, .int .i64 room] w fun e w' => e = .returned (.bool true) ∧ Kept w w' := by
  by_cases m : MayF s t o
  · by_cases l : 4611686018427387904 < s
    · exact room16_far CC SC AC LC RC_ DC hs ht ho m l w
    · have rr := room_range (s := s) (t := t) (o := o) hr.2
      have q := m
      unfold MayF at q
      by_cases k : 1 + n ≤ roomF s t o room
      · have e : roomF s t o room = room - o := by
          unfold roomF at k ⊢
          split at k
          · omega
          · rw [if_neg (by assumption)]
        have m2 : MayF (s + (1 + n)) t (o + (1 + n)) := by unfold MayF; omega
        refine room16_go CC SC AC LC RC_ DC hs ht ho hr n0 n1 m (by omega) (Or.inr (Or.inr (Or.inr ⟨m, by omega, by omega, k, rfl, rfl, rfl, rfl⟩))) rfl rr.1 rr.2 k (by omega) ?_ w
        rw [e]; unfold roomF
        by_cases z : room ≤ o + (1 + n)
        · rw [if_pos (Or.inr z)]; omega
        · rw [if_neg (by intro y; rcases y with y | y; exact y m2; exact z y)]; omega
      · exact room16_stay CC SC AC LC RC_ DC hs ht ho hr n0 n1 m (by omega) (Or.inr (Or.inr (Or.inl ⟨m, by omega, by omega, by omega, rfl, rfl, rfl, rfl⟩))) rfl rr.1 rr.2 (by omega) w
  · exact room16_no CC SC AC LC RC_ DC hs ht ho m w
end Go.Proofs.Ytbaifhgjalaphaa
