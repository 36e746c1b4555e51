/-
  What the calls of package flight do.
-/
import Derived.Test.YtbaifhgjalaphaaCon16
import Derived.Test.YtbaifhgjalaphaaMapOf
import Derived.Test.YtbaifhgjalaphaaCopyN
import Derived.Test.YtbaifhgjalaphaaRoom
import Derived.OwnWalk
import Derived.Laws.EntriesVeiled
import Derived.Deep.RegionHeld3
import Derived.Deep.RegionWith
import Derived.Deep.DeepCutAuto
namespace Go.Proofs.Ytbaifhgjalaphaa
open Go.RowKit Go.BigFrame
set_option linter.unusedVariables false

set_option maxRecDepth 100000 in
set_option maxHeartbeats 1600000 in
theorem fck_a {s t o : Int} (d0 : decide (0 ≤ t) = false)  (w : World) : Calls Try.prog 18 #[.agg #[.int .i64 s, .int .i64 t, .int .i64 o]] w fun e w' => e = .returned (.bool false) ∧ Kept w w' := by
  go_enter Try.func18, Try.ntmps18
  go_upto_region 1 with fail
  generalize hW : World.alloc w (.cells #[.int .i64 s, .int .i64 t, .int .i64 o] 23) = W_f
  have K_f : Kept w W_f := by subst hW; exact (Kept.refl _).alloc _ _
  have H_f := Lib.hid (show W_f.cell? ⟨w.heap.size, 0, none⟩ = some (.int .i64 s) ∧ W_f.cell? ⟨w.heap.size, 1, none⟩ = some (.int .i64 t) ∧ W_f.cell? ⟨w.heap.size, 2, none⟩ = some (.int .i64 o) from by subst hW; simp [go_sem])
  clear hW
  generalize w.heap.size = g_f at *
  obtain ⟨cf0, cf1, cf2⟩ := Kept.all3 (show Kept W_f W_f from (by (repeat (first | with_reducible exact Kept.refl _ | with_reducible apply Kept.drew | with_reducible apply Kept.alloc | ((with_reducible apply Kept.set); focus (simp <;> omega)) | ((with_reducible apply Kept.via); focus with_reducible assumption))))) H_f
  go_wp2
  go_ret
  exact ⟨rfl, (by (repeat (first | with_reducible exact Kept.refl _ | with_reducible apply Kept.drew | with_reducible apply Kept.alloc | ((with_reducible apply Kept.set); focus (simp <;> omega)) | ((with_reducible apply Kept.via); focus with_reducible assumption))))⟩
set_option maxRecDepth 100000 in
set_option maxHeartbeats 1600000 in
theorem fck_b {s t o : Int} (d0 : decide (0 ≤ t) = true) (d1 : decide (0 ≤ o) = false)  (w : World) : Calls Try.prog 18 #[.agg #[.int .i64 s, .int .i64 t, .int .i64 o]] w fun e w' => e = .returned (.bool false) ∧ Kept w w' := by
  go_enter Try.func18, Try.ntmps18
  go_upto_region 1 with fail
  generalize hW : World.alloc w (.cells #[.int .i64 s, .int .i64 t, .int .i64 o] 23) = W_f
  have K_f : Kept w W_f := by subst hW; exact (Kept.refl _).alloc _ _
  have H_f := Lib.hid (show W_f.cell? ⟨w.heap.size, 0, none⟩ = some (.int .i64 s) ∧ W_f.cell? ⟨w.heap.size, 1, none⟩ = some (.int .i64 t) ∧ W_f.cell? ⟨w.heap.size, 2, none⟩ = some (.int .i64 o) from by subst hW; simp [go_sem])
  clear hW
  generalize w.heap.size = g_f at *
  obtain ⟨cf0, cf1, cf2⟩ := Kept.all3 (show Kept W_f W_f from (by (repeat (first | with_reducible exact Kept.refl _ | with_reducible apply Kept.drew | with_reducible apply Kept.alloc | ((with_reducible apply Kept.set); focus (simp <;> omega)) | ((with_reducible apply Kept.via); focus with_reducible assumption))))) H_f
  go_wp2
  go_ret
  exact ⟨rfl, (by (repeat (first | with_reducible exact Kept.refl _ | with_reducible apply Kept.drew | with_reducible apply Kept.alloc | ((with_reducible apply Kept.set); focus (simp <;> omega)) | ((with_reducible apply Kept.via); focus with_reducible assumption))))⟩
set_option maxRecDepth 100000 in
set_option maxHeartbeats 1600000 in
theorem fck_c {s t o : Int} (d0 : decide (0 ≤ t) = true) (d1 : decide (0 ≤ o) = true) (d2 : decide (t ≤ s) = false)  (w : World) : Calls Try.prog 18 #[.agg #[.int .i64 s, .int .i64 t, .int .i64 o]] w fun e w' => e = .returned (.bool false) ∧ Kept w w' := by
  go_enter Try.func18, Try.ntmps18
  go_upto_region 1 with fail
  generalize hW : World.alloc w (.cells #[.int .i64 s, .int .i64 t, .int .i64 o] 23) = W_f
  have K_f : Kept w W_f := by subst hW; exact (Kept.refl _).alloc _ _
  have H_f := Lib.hid (show W_f.cell? ⟨w.heap.size, 0, none⟩ = some (.int .i64 s) ∧ W_f.cell? ⟨w.heap.size, 1, none⟩ = some (.int .i64 t) ∧ W_f.cell? ⟨w.heap.size, 2, none⟩ = some (.int .i64 o) from by subst hW; simp [go_sem])
  clear hW
  generalize w.heap.size = g_f at *
  obtain ⟨cf0, cf1, cf2⟩ := Kept.all3 (show Kept W_f W_f from (by (repeat (first | with_reducible exact Kept.refl _ | with_reducible apply Kept.drew | with_reducible apply Kept.alloc | ((with_reducible apply Kept.set); focus (simp <;> omega)) | ((with_reducible apply Kept.via); focus with_reducible assumption))))) H_f
  go_wp2
  go_ret
  exact ⟨rfl, (by (repeat (first | with_reducible exact Kept.refl _ | with_reducible apply Kept.drew | with_reducible apply Kept.alloc | ((with_reducible apply Kept.set); focus (simp <;> omega)) | ((with_reducible apply Kept.via); focus with_reducible assumption))))⟩
set_option maxRecDepth 100000 in
set_option maxHeartbeats 1600000 in
theorem fck_f {s t o : Int} (d0 : decide (0 ≤ t) = true) (d1 : decide (0 ≤ o) = true) (d2 : decide (t ≤ s) = true) (t0 : 0 ≤ t) (t1 : t ≤ s) (s1 : s ≤ 9223372036854775807) (ew : IntKind.i64.wrap (s - t) = s - t) (d3 : decide (o ≤ s - t) = false)  (w : World) : Calls Try.prog 18 #[.agg #[.int .i64 s, .int .i64 t, .int .i64 o]] w fun e w' => e = .returned (.bool false) ∧ Kept w w' := by
  go_enter Try.func18, Try.ntmps18
  go_upto_region 1 with fail
  generalize hW : World.alloc w (.cells #[.int .i64 s, .int .i64 t, .int .i64 o] 23) = W_f
  have K_f : Kept w W_f := by subst hW; exact (Kept.refl _).alloc _ _
  have H_f := Lib.hid (show W_f.cell? ⟨w.heap.size, 0, none⟩ = some (.int .i64 s) ∧ W_f.cell? ⟨w.heap.size, 1, none⟩ = some (.int .i64 t) ∧ W_f.cell? ⟨w.heap.size, 2, none⟩ = some (.int .i64 o) from by subst hW; simp [go_sem])
  clear hW
  generalize w.heap.size = g_f at *
  obtain ⟨cf0, cf1, cf2⟩ := Kept.all3 (show Kept W_f W_f from (by (repeat (first | with_reducible exact Kept.refl _ | with_reducible apply Kept.drew | with_reducible apply Kept.alloc | ((with_reducible apply Kept.set); focus (simp <;> omega)) | ((with_reducible apply Kept.via); focus with_reducible assumption))))) H_f
  go_wp2
  go_ret
  exact ⟨rfl, (by (repeat (first | with_reducible exact Kept.refl _ | with_reducible apply Kept.drew | with_reducible apply Kept.alloc | ((with_reducible apply Kept.set); focus (simp <;> omega)) | ((with_reducible apply Kept.via); focus with_reducible assumption))))⟩
set_option maxRecDepth 100000 in
set_option maxHeartbeats 1600000 in
theorem fck_t {s t o : Int} (d0 : decide (0 ≤ t) = true) (d1 : decide (0 ≤ o) = true) (d2 : decide (t ≤ s) = true) (t0 : 0 ≤ t) (t1 : t ≤ s) (s1 : s ≤ 9223372036854775807) (ew : IntKind.i64.wrap (s - t) = s - t) (d3 : decide (o ≤ s - t) = true)  (w : World) : Calls Try.prog 18 #[.agg #[.int .i64 s, .int .i64 t, .int .i64 o]] w fun e w' => e = .returned (.bool true) ∧ Kept w w' := by
  go_enter Try.func18, Try.ntmps18
  go_upto_region 1 with fail
  generalize hW : World.alloc w (.cells #[.int .i64 s, .int .i64 t, .int .i64 o] 23) = W_f
  have K_f : Kept w W_f := by subst hW; exact (Kept.refl _).alloc _ _
  have H_f := Lib.hid (show W_f.cell? ⟨w.heap.size, 0, none⟩ = some (.int .i64 s) ∧ W_f.cell? ⟨w.heap.size, 1, none⟩ = some (.int .i64 t) ∧ W_f.cell? ⟨w.heap.size, 2, none⟩ = some (.int .i64 o) from by subst hW; simp [go_sem])
  clear hW
  generalize w.heap.size = g_f at *
  obtain ⟨cf0, cf1, cf2⟩ := Kept.all3 (show Kept W_f W_f from (by (repeat (first | with_reducible exact Kept.refl _ | with_reducible apply Kept.drew | with_reducible apply Kept.alloc | ((with_reducible apply Kept.set); focus (simp <;> omega)) | ((with_reducible apply Kept.via); focus with_reducible assumption))))) H_f
  go_wp2
  go_ret
  exact ⟨rfl, (by (repeat (first | with_reducible exact Kept.refl _ | with_reducible apply Kept.drew | with_reducible apply Kept.alloc | ((with_reducible apply Kept.set); focus (simp <;> omega)) | ((with_reducible apply Kept.via); focus with_reducible assumption))))⟩
theorem fcheck {s t o : Int} (v : Bool) (hs : In64 s) (hv : v = true ↔ MayF s t o) (w : World) : Calls Try.prog 18 #[.agg #[.int .i64 s, .int .i64 t, .int .i64 o]] w fun e w' => e = .returned (.bool v) ∧ Kept w w' := by
  have no : ¬ MayF s t o → v = false := fun m => by
    cases v with
    | false => rfl
    | true => exact absurd (hv.1 rfl) m
  unfold In64 at hs
  by_cases a : 0 ≤ t
  · by_cases b : 0 ≤ o
    · by_cases c : t ≤ s
      · have ew : IntKind.i64.wrap (s - t) = s - t := by rw [IntKind.wrap_i64]; omega
        by_cases d : o ≤ s - t
        · rw [hv.2 (by unfold MayF; omega)]; exact fck_t (by simp [a]) (by simp [b]) (by simp [c]) a c hs.2 ew (by simp; omega) w
        · rw [no (by unfold MayF; omega)]; exact fck_f (by simp [a]) (by simp [b]) (by simp [c]) a c hs.2 ew (by simp; omega) w
      · rw [no (by unfold MayF; omega)]; exact fck_c (by simp [a]) (by simp [b]) (by simp; omega) w
    · rw [no (by unfold MayF; omega)]; exact fck_b (by simp [a]) (by simp; omega) w
  · rw [no (by unfold MayF; omega)]; exact fck_a (by simp; omega) w
theorem fcheck_c : FlCheckC := fun s t o v hs _ _ hv w => fcheck v hs hv w
set_option maxRecDepth 100000 in
set_option maxHeartbeats 1600000 in
theorem frm_n {s t o room : Int} (CK : ∀ w, Calls Try.prog 18 #[.agg #[.int .i64 s, .int .i64 t, .int .i64 o]] w fun e w' => e = .returned (.bool false) ∧ Kept w w') (w : World) : Calls Try.prog 20 #[.agg #[.int .i64 s, .int .i64 t, .int .i64 o], .int .i64 room] w fun e w' => e = .returned (.int .i64 0) ∧ Kept w w' := by
  have CK' := Lib.hid CK
  clear CK
  go_enter Try.func20, Try.ntmps20
  go_upto_region 1 with fail
  generalize hW : World.alloc w (.cells #[.int .i64 s, .int .i64 t, .int .i64 o] 23) = W_f
  have K_f : Kept w W_f := by subst hW; exact (Kept.refl _).alloc _ _
  have H_f := Lib.hid (show W_f.cell? ⟨w.heap.size, 0, none⟩ = some (.int .i64 s) ∧ W_f.cell? ⟨w.heap.size, 1, none⟩ = some (.int .i64 t) ∧ W_f.cell? ⟨w.heap.size, 2, none⟩ = some (.int .i64 o) from by subst hW; simp [go_sem])
  clear hW
  generalize w.heap.size = g_f at *
  obtain ⟨cf0, cf1, cf2⟩ := Kept.all3 (show Kept W_f W_f from (by (repeat (first | with_reducible exact Kept.refl _ | with_reducible apply Kept.drew | with_reducible apply Kept.alloc | ((with_reducible apply Kept.set); focus (simp <;> omega)) | ((with_reducible apply Kept.via); focus with_reducible assumption))))) H_f
  go_wp2_with fail
  refine (CK'.out _).mono ?_
  rintro e w20 ⟨rfl, k20⟩
  clear cf0 cf1 cf2
  obtain ⟨cf0, cf1, cf2⟩ := Kept.all3 (show Kept W_f w20 from (by (repeat (first | with_reducible exact Kept.refl _ | with_reducible apply Kept.drew | with_reducible apply Kept.alloc | ((with_reducible apply Kept.set); focus (simp <;> omega)) | ((with_reducible apply Kept.via); focus with_reducible assumption))))) H_f
  go_wp2
  go_ret
  exact ⟨rfl, (by (repeat (first | with_reducible exact Kept.refl _ | with_reducible apply Kept.drew | with_reducible apply Kept.alloc | ((with_reducible apply Kept.set); focus (simp <;> omega)) | ((with_reducible apply Kept.via); focus with_reducible assumption))))⟩
set_option maxRecDepth 100000 in
set_option maxHeartbeats 1600000 in
theorem frm_z {s t o room : Int} (d0 : decide (room ≤ o) = true) (CK : ∀ w, Calls Try.prog 18 #[.agg #[.int .i64 s, .int .i64 t, .int .i64 o]] w fun e w' => e = .returned (.bool true) ∧ Kept w w') (w : World) : Calls Try.prog 20 #[.agg #[.int .i64 s, .int .i64 t, .int .i64 o], .int .i64 room] w fun e w' => e = .returned (.int .i64 0) ∧ Kept w w' := by
  have CK' := Lib.hid CK
  clear CK
  go_enter Try.func20, Try.ntmps20
  go_upto_region 1 with fail
  generalize hW : World.alloc w (.cells #[.int .i64 s, .int .i64 t, .int .i64 o] 23) = W_f
  have K_f : Kept w W_f := by subst hW; exact (Kept.refl _).alloc _ _
  have H_f := Lib.hid (show W_f.cell? ⟨w.heap.size, 0, none⟩ = some (.int .i64 s) ∧ W_f.cell? ⟨w.heap.size, 1, none⟩ = some (.int .i64 t) ∧ W_f.cell? ⟨w.heap.size, 2, none⟩ = some (.int .i64 o) from by subst hW; simp [go_sem])
  clear hW
  generalize w.heap.size = g_f at *
  obtain ⟨cf0, cf1, cf2⟩ := Kept.all3 (show Kept W_f W_f from (by (repeat (first | with_reducible exact Kept.refl _ | with_reducible apply Kept.drew | with_reducible apply Kept.alloc | ((with_reducible apply Kept.set); focus (simp <;> omega)) | ((with_reducible apply Kept.via); focus with_reducible assumption))))) H_f
  go_wp2_with fail
  refine (CK'.out _).mono ?_
  rintro e w20 ⟨rfl, k20⟩
  clear cf0 cf1 cf2
  obtain ⟨cf0, cf1, cf2⟩ := Kept.all3 (show Kept W_f w20 from (by (repeat (first | with_reducible exact Kept.refl _ | with_reducible apply Kept.drew | with_reducible apply Kept.alloc | ((with_reducible apply Kept.set); focus (simp <;> omega)) | ((with_reducible apply Kept.via); focus with_reducible assumption))))) H_f
  go_wp2
  go_ret
  exact ⟨rfl, (by (repeat (first | with_reducible exact Kept.refl _ | with_reducible apply Kept.drew | with_reducible apply Kept.alloc | ((with_reducible apply Kept.set); focus (simp <;> omega)) | ((with_reducible apply Kept.via); focus with_reducible assumption))))⟩
set_option maxRecDepth 100000 in
set_option maxHeartbeats 1600000 in
theorem frm_y {s t o room : Int} (d0 : decide (room ≤ o) = false) (ew : IntKind.i64.wrap (room - o) = room - o) (o0 : 0 ≤ o) (r1 : room ≤ 9223372036854775807) (l : o < room) (CK : ∀ w, Calls Try.prog 18 #[.agg #[.int .i64 s, .int .i64 t, .int .i64 o]] w fun e w' => e = .returned (.bool true) ∧ Kept w w') (w : World) : Calls Try.prog 20 #[.agg #[.int .i64 s, .int .i64 t, .int .i64 o], .int .i64 room] w fun e w' => e = .returned (.int .i64 (room - o)) ∧ Kept w w' := by
  have CK' := Lib.hid CK
  clear CK
  go_enter Try.func20, Try.ntmps20
  go_upto_region 1 with fail
  generalize hW : World.alloc w (.cells #[.int .i64 s, .int .i64 t, .int .i64 o] 23) = W_f
  have K_f : Kept w W_f := by subst hW; exact (Kept.refl _).alloc _ _
  have H_f := Lib.hid (show W_f.cell? ⟨w.heap.size, 0, none⟩ = some (.int .i64 s) ∧ W_f.cell? ⟨w.heap.size, 1, none⟩ = some (.int .i64 t) ∧ W_f.cell? ⟨w.heap.size, 2, none⟩ = some (.int .i64 o) from by subst hW; simp [go_sem])
  clear hW
  generalize w.heap.size = g_f at *
  obtain ⟨cf0, cf1, cf2⟩ := Kept.all3 (show Kept W_f W_f from (by (repeat (first | with_reducible exact Kept.refl _ | with_reducible apply Kept.drew | with_reducible apply Kept.alloc | ((with_reducible apply Kept.set); focus (simp <;> omega)) | ((with_reducible apply Kept.via); focus with_reducible assumption))))) H_f
  go_wp2_with fail
  refine (CK'.out _).mono ?_
  rintro e w20 ⟨rfl, k20⟩
  clear cf0 cf1 cf2
  obtain ⟨cf0, cf1, cf2⟩ := Kept.all3 (show Kept W_f w20 from (by (repeat (first | with_reducible exact Kept.refl _ | with_reducible apply Kept.drew | with_reducible apply Kept.alloc | ((with_reducible apply Kept.set); focus (simp <;> omega)) | ((with_reducible apply Kept.via); focus with_reducible assumption))))) H_f
  go_wp2
  go_ret
  exact ⟨rfl, (by (repeat (first | with_reducible exact Kept.refl _ | with_reducible apply Kept.drew | with_reducible apply Kept.alloc | ((with_reducible apply Kept.set); focus (simp <;> omega)) | ((with_reducible apply Kept.via); focus with_reducible assumption))))⟩
theorem froom {s t o room v : Int} (hs : In64 s) (hr : In64 room) (hv : roomF s t o room = v) (w : World) : Calls Try.prog 20 #[.agg #[.int .i64 s, .int .i64 t, .int .i64 o], .int .i64 room] w fun e w' => e = .returned (.int .i64 v) ∧ Kept w w' := by
  unfold roomF at hv
  by_cases m : MayF s t o
  · have CK := fun w => fcheck (t := t) (o := o) true hs (by simp [m]) w
    by_cases l : room ≤ o
    · rw [if_pos (Or.inr l)] at hv; subst hv; exact frm_z (by simp [l]) CK w
    · rw [if_neg (by intro z; rcases z with z | z; exact z m; exact l z)] at hv; subst hv
      have := m.2.2.1
      unfold In64 at hr
      exact frm_y (by simp; omega) (by rw [IntKind.wrap_i64]; omega) this (by omega) (by omega) CK w
  · rw [if_pos (Or.inl m)] at hv; subst hv
    exact frm_n (fun w => fcheck false hs (by simp [m]) w) w
theorem froom_c : FlRoomC := fun s t o room v hs _ _ hr hv w => froom hs hr hv w
set_option maxRecDepth 100000 in
set_option maxHeartbeats 1600000 in
theorem frs_m {s t o n : Int}  (CK : ∀ w, Calls Try.prog 18 #[.agg #[.int .i64 s, .int .i64 t, .int .i64 o]] w fun e w' => e = .returned (.bool false) ∧ Kept w w') (w : World) : Calls Try.prog 26 #[.agg #[.int .i64 s, .int .i64 t, .int .i64 o], .int .i64 n] w fun e w' => e = .returned (.tuple #[.agg #[.int .i64 s, .int .i64 t, .int .i64 o], .int .i64 201]) ∧ Kept w w' := by
  have CK' := Lib.hid CK
  clear CK
  go_enter Try.func26, Try.ntmps26
  go_upto_region 1 with fail
  generalize hW : (World.alloc (World.alloc w (.cells #[.int .i64 s, .int .i64 t, .int .i64 o] 23)) (.cells #[.int .i64 0, .int .i64 0, .int .i64 0] 23)) = W0
  have R0_0 := Lib.hid (show RF W0 (w.heap.size) s t o from by subst hW; exact ⟨⟨by simp [go_sem], by simp [go_sem], by simp [go_sem]⟩, by simp [go_sem], by simp [go_sem], by simp [go_sem]⟩)
  have R1_0 := Lib.hid (show RF W0 (w.heap.size + 1) 0 0 0 from by subst hW; exact ⟨⟨by simp [go_sem], by simp [go_sem], by simp [go_sem]⟩, by simp [go_sem], by simp [go_sem], by simp [go_sem]⟩)
  have kz0 : Kept w W0 := by subst hW; exact (((Kept.refl _).alloc _ _).alloc _ _)
  clear hW
  generalize hg : w.heap.size = g at *
  have gw0 : w.heap.size ≤ g + 0 := by omega
  have gw1 : w.heap.size ≤ g + 1 := by omega
  obtain ⟨b00, b01, b02⟩ := R0_0.out.1
  go_wp2_with fail
  refine (CK'.out _).mono ?_
  rintro e v0 ⟨rfl, k0⟩
  clear b00 b01 b02
  have R0_1 := Lib.hid (R0_0.out.kept k0)
  have R1_1 := Lib.hid (R1_0.out.kept k0)
  have kz1 := Kept.trans kz0 k0
  clear kz0 R0_0 R1_0
  have ne0 := R0_1.out.ne
  have ne1 := R1_1.out.ne
  obtain ⟨⟨b00, b01, b02⟩, f00, f01, f02⟩ := R0_1.out
  obtain ⟨⟨b10, b11, b12⟩, f10, f11, f12⟩ := R1_1.out
  go_wp2
  simp [bodyPost, results, Try.results26, go_sem, *]
  exact (by (repeat (first | with_reducible exact Kept.refl _ | with_reducible apply Kept.drew | with_reducible apply Kept.alloc | ((with_reducible apply Kept.set); focus (simp <;> omega)) | ((with_reducible apply Kept.via); focus with_reducible assumption))))
set_option maxRecDepth 100000 in
set_option maxHeartbeats 1600000 in
theorem frs_n {s t o n : Int} (d0 : decide (n < 1) = true) (CK : ∀ w, Calls Try.prog 18 #[.agg #[.int .i64 s, .int .i64 t, .int .i64 o]] w fun e w' => e = .returned (.bool true) ∧ Kept w w') (w : World) : Calls Try.prog 26 #[.agg #[.int .i64 s, .int .i64 t, .int .i64 o], .int .i64 n] w fun e w' => e = .returned (.tuple #[.agg #[.int .i64 s, .int .i64 t, .int .i64 o], .int .i64 201]) ∧ Kept w w' := by
  have CK' := Lib.hid CK
  clear CK
  go_enter Try.func26, Try.ntmps26
  go_upto_region 1 with fail
  generalize hW : (World.alloc (World.alloc w (.cells #[.int .i64 s, .int .i64 t, .int .i64 o] 23)) (.cells #[.int .i64 0, .int .i64 0, .int .i64 0] 23)) = W0
  have R0_0 := Lib.hid (show RF W0 (w.heap.size) s t o from by subst hW; exact ⟨⟨by simp [go_sem], by simp [go_sem], by simp [go_sem]⟩, by simp [go_sem], by simp [go_sem], by simp [go_sem]⟩)
  have R1_0 := Lib.hid (show RF W0 (w.heap.size + 1) 0 0 0 from by subst hW; exact ⟨⟨by simp [go_sem], by simp [go_sem], by simp [go_sem]⟩, by simp [go_sem], by simp [go_sem], by simp [go_sem]⟩)
  have kz0 : Kept w W0 := by subst hW; exact (((Kept.refl _).alloc _ _).alloc _ _)
  clear hW
  generalize hg : w.heap.size = g at *
  have gw0 : w.heap.size ≤ g + 0 := by omega
  have gw1 : w.heap.size ≤ g + 1 := by omega
  obtain ⟨b00, b01, b02⟩ := R0_0.out.1
  go_wp2_with fail
  refine (CK'.out _).mono ?_
  rintro e v0 ⟨rfl, k0⟩
  clear b00 b01 b02
  have R0_1 := Lib.hid (R0_0.out.kept k0)
  have R1_1 := Lib.hid (R1_0.out.kept k0)
  have kz1 := Kept.trans kz0 k0
  clear kz0 R0_0 R1_0
  have ne0 := R0_1.out.ne
  have ne1 := R1_1.out.ne
  obtain ⟨⟨b00, b01, b02⟩, f00, f01, f02⟩ := R0_1.out
  obtain ⟨⟨b10, b11, b12⟩, f10, f11, f12⟩ := R1_1.out
  go_wp2
  simp [bodyPost, results, Try.results26, go_sem, *]
  exact (by (repeat (first | with_reducible exact Kept.refl _ | with_reducible apply Kept.drew | with_reducible apply Kept.alloc | ((with_reducible apply Kept.set); focus (simp <;> omega)) | ((with_reducible apply Kept.via); focus with_reducible assumption))))
set_option maxRecDepth 100000 in
set_option maxHeartbeats 1600000 in
theorem frs_f {s t o n : Int} (d0 : decide (n < 1) = false) (d1 : decide (o < n) = true) (CK : ∀ w, Calls Try.prog 18 #[.agg #[.int .i64 s, .int .i64 t, .int .i64 o]] w fun e w' => e = .returned (.bool true) ∧ Kept w w') (w : World) : Calls Try.prog 26 #[.agg #[.int .i64 s, .int .i64 t, .int .i64 o], .int .i64 n] w fun e w' => e = .returned (.tuple #[.agg #[.int .i64 s, .int .i64 t, .int .i64 o], .int .i64 202]) ∧ Kept w w' := by
  have CK' := Lib.hid CK
  clear CK
  go_enter Try.func26, Try.ntmps26
  go_upto_region 1 with fail
  generalize hW : (World.alloc (World.alloc w (.cells #[.int .i64 s, .int .i64 t, .int .i64 o] 23)) (.cells #[.int .i64 0, .int .i64 0, .int .i64 0] 23)) = W0
  have R0_0 := Lib.hid (show RF W0 (w.heap.size) s t o from by subst hW; exact ⟨⟨by simp [go_sem], by simp [go_sem], by simp [go_sem]⟩, by simp [go_sem], by simp [go_sem], by simp [go_sem]⟩)
  have R1_0 := Lib.hid (show RF W0 (w.heap.size + 1) 0 0 0 from by subst hW; exact ⟨⟨by simp [go_sem], by simp [go_sem], by simp [go_sem]⟩, by simp [go_sem], by simp [go_sem], by simp [go_sem]⟩)
  have kz0 : Kept w W0 := by subst hW; exact (((Kept.refl _).alloc _ _).alloc _ _)
  clear hW
  generalize hg : w.heap.size = g at *
  have gw0 : w.heap.size ≤ g + 0 := by omega
  have gw1 : w.heap.size ≤ g + 1 := by omega
  obtain ⟨b00, b01, b02⟩ := R0_0.out.1
  go_wp2_with fail
  refine (CK'.out _).mono ?_
  rintro e v0 ⟨rfl, k0⟩
  clear b00 b01 b02
  have R0_1 := Lib.hid (R0_0.out.kept k0)
  have R1_1 := Lib.hid (R1_0.out.kept k0)
  have kz1 := Kept.trans kz0 k0
  clear kz0 R0_0 R1_0
  have ne0 := R0_1.out.ne
  have ne1 := R1_1.out.ne
  obtain ⟨⟨b00, b01, b02⟩, f00, f01, f02⟩ := R0_1.out
  obtain ⟨⟨b10, b11, b12⟩, f10, f11, f12⟩ := R1_1.out
  go_wp2
  simp [bodyPost, results, Try.results26, go_sem, *]
  exact (by (repeat (first | with_reducible exact Kept.refl _ | with_reducible apply Kept.drew | with_reducible apply Kept.alloc | ((with_reducible apply Kept.set); focus (simp <;> omega)) | ((with_reducible apply Kept.via); focus with_reducible assumption))))
set_option maxRecDepth 100000 in
set_option maxHeartbeats 1600000 in
theorem frs_y {s t o n : Int} (d0 : decide (n < 1) = false) (d1 : decide (o < n) = false) (n0 : 1 ≤ n) (l : n ≤ o) (o1 : o ≤ 9223372036854775807) (CK : ∀ w, Calls Try.prog 18 #[.agg #[.int .i64 s, .int .i64 t, .int .i64 o]] w fun e w' => e = .returned (.bool true) ∧ Kept w w') (w : World) : Calls Try.prog 26 #[.agg #[.int .i64 s, .int .i64 t, .int .i64 o], .int .i64 n] w fun e w' => e = .returned (.tuple #[.agg #[.int .i64 s, .int .i64 t, .int .i64 (o - n)], .int .i64 0]) ∧ Kept w w' := by
  have CK' := Lib.hid CK
  clear CK
  go_enter Try.func26, Try.ntmps26
  go_upto_region 1 with fail
  generalize hW : (World.alloc (World.alloc w (.cells #[.int .i64 s, .int .i64 t, .int .i64 o] 23)) (.cells #[.int .i64 0, .int .i64 0, .int .i64 0] 23)) = W0
  have R0_0 := Lib.hid (show RF W0 (w.heap.size) s t o from by subst hW; exact ⟨⟨by simp [go_sem], by simp [go_sem], by simp [go_sem]⟩, by simp [go_sem], by simp [go_sem], by simp [go_sem]⟩)
  have R1_0 := Lib.hid (show RF W0 (w.heap.size + 1) 0 0 0 from by subst hW; exact ⟨⟨by simp [go_sem], by simp [go_sem], by simp [go_sem]⟩, by simp [go_sem], by simp [go_sem], by simp [go_sem]⟩)
  have kz0 : Kept w W0 := by subst hW; exact (((Kept.refl _).alloc _ _).alloc _ _)
  clear hW
  generalize hg : w.heap.size = g at *
  have gw0 : w.heap.size ≤ g + 0 := by omega
  have gw1 : w.heap.size ≤ g + 1 := by omega
  obtain ⟨b00, b01, b02⟩ := R0_0.out.1
  go_wp2_with fail
  refine (CK'.out _).mono ?_
  rintro e v0 ⟨rfl, k0⟩
  clear b00 b01 b02
  have R0_1 := Lib.hid (R0_0.out.kept k0)
  have R1_1 := Lib.hid (R1_0.out.kept k0)
  have kz1 := Kept.trans kz0 k0
  clear kz0 R0_0 R1_0
  have ne0 := R0_1.out.ne
  have ne1 := R1_1.out.ne
  obtain ⟨⟨b00, b01, b02⟩, f00, f01, f02⟩ := R0_1.out
  obtain ⟨⟨b10, b11, b12⟩, f10, f11, f12⟩ := R1_1.out
  go_wp2
  simp [bodyPost, results, Try.results26, go_sem, *]
  exact (by (repeat (first | with_reducible exact Kept.refl _ | with_reducible apply Kept.drew | with_reducible apply Kept.alloc | ((with_reducible apply Kept.set); focus (simp <;> omega)) | ((with_reducible apply Kept.via); focus with_reducible assumption))))
theorem fresolve {s t o n s' t' o' er : Int} (hs : In64 s) (ho : In64 o) (f : LessIs s t o n 0 s' t' o' er) (w : World) : Calls Try.prog 26 #[.agg #[.int .i64 s, .int .i64 t, .int .i64 o], .int .i64 n] w fun e w' => e = .returned (.tuple #[.agg #[.int .i64 s', .int .i64 t', .int .i64 o'], .int .i64 er]) ∧ Kept w w' := by
  rcases f with ⟨f, rfl, rfl, rfl, rfl⟩ | ⟨m, n0, l, rfl, rfl, rfl, rfl⟩ | ⟨m, n0, l, rfl, rfl, rfl, rfl⟩
  · by_cases m : MayF s' t' o'
    · exact frs_n (by simp; rcases (show n < 1 ∨ 1 ≤ n by omega) with z | z; omega; exact absurd ⟨m, z⟩ f) (fun w => fcheck true hs (by simp [m]) w) w
    · exact frs_m (fun w => fcheck false hs (by simp [m]) w) w
  · exact frs_f (by simp; omega) (by simp [l]) (fun w => fcheck true hs (by simp [m]) w) w
  · unfold In64 at ho
    rw [show t + 0 = t by omega]
    exact frs_y (by simp; omega) (by simp; omega) n0 l (by omega) (fun w => fcheck true hs (by simp [m]) w) w
set_option maxRecDepth 100000 in
set_option maxHeartbeats 1600000 in
theorem flo {s t o n a b c er : Int} (RS : ∀ w, Calls Try.prog 26 #[.agg #[.int .i64 s, .int .i64 t, .int .i64 o], .int .i64 n] w fun e w' => e = .returned (.tuple #[.agg #[.int .i64 a, .int .i64 b, .int .i64 c], .int .i64 er]) ∧ Kept w w') (w : World) : Calls Try.prog 16 #[.agg #[.int .i64 s, .int .i64 t, .int .i64 o], .int .i64 n] w fun e w' => e = .returned (.tuple #[.agg #[.int .i64 a, .int .i64 b, .int .i64 c], .int .i64 er]) ∧ Kept w w' := by
  have RS' := Lib.hid RS
  clear RS
  go_enter Try.func16, Try.ntmps16
  go_upto_region 1 with fail
  generalize hW : (World.alloc (World.alloc w (.cells #[.int .i64 s, .int .i64 t, .int .i64 o] 23)) (.cells #[.int .i64 0, .int .i64 0, .int .i64 0] 23)) = W0
  have R0_0 := Lib.hid (show RF W0 (w.heap.size) s t o from by subst hW; exact ⟨⟨by simp [go_sem], by simp [go_sem], by simp [go_sem]⟩, by simp [go_sem], by simp [go_sem], by simp [go_sem]⟩)
  have R1_0 := Lib.hid (show RF W0 (w.heap.size + 1) 0 0 0 from by subst hW; exact ⟨⟨by simp [go_sem], by simp [go_sem], by simp [go_sem]⟩, by simp [go_sem], by simp [go_sem], by simp [go_sem]⟩)
  have kz0 : Kept w W0 := by subst hW; exact (((Kept.refl _).alloc _ _).alloc _ _)
  clear hW
  generalize hg : w.heap.size = g at *
  have gw0 : w.heap.size ≤ g + 0 := by omega
  have gw1 : w.heap.size ≤ g + 1 := by omega
  obtain ⟨b00, b01, b02⟩ := R0_0.out.1
  go_wp2_with fail
  refine (RS'.out _).mono ?_
  rintro e v0 ⟨rfl, k0⟩
  clear b00 b01 b02
  have R0_1 := Lib.hid (R0_0.out.kept k0)
  have R1_1 := Lib.hid (R1_0.out.kept k0)
  have kz1 := Kept.trans kz0 k0
  clear kz0 R0_0 R1_0
  have ne0 := R0_1.out.ne
  have ne1 := R1_1.out.ne
  obtain ⟨⟨b00, b01, b02⟩, f00, f01, f02⟩ := R0_1.out
  obtain ⟨⟨b10, b11, b12⟩, f10, f11, f12⟩ := R1_1.out
  go_wp2
  simp [bodyPost, results, Try.results16, go_sem, *]
  exact (by (repeat (first | with_reducible exact Kept.refl _ | with_reducible apply Kept.drew | with_reducible apply Kept.alloc | ((with_reducible apply Kept.set); focus (simp <;> omega)) | ((with_reducible apply Kept.via); focus with_reducible assumption))))
set_option maxRecDepth 100000 in
set_option maxHeartbeats 1600000 in
theorem fac_e {s t o n a b c er : Int} (e0 : (er == 0) = false) (RS : ∀ w, Calls Try.prog 26 #[.agg #[.int .i64 s, .int .i64 t, .int .i64 o], .int .i64 n] w fun e w' => e = .returned (.tuple #[.agg #[.int .i64 a, .int .i64 b, .int .i64 c], .int .i64 er]) ∧ Kept w w') (w : World) : Calls Try.prog 14 #[.agg #[.int .i64 s, .int .i64 t, .int .i64 o], .int .i64 n] w fun e w' => e = .returned (.tuple #[.agg #[.int .i64 a, .int .i64 b, .int .i64 c], .int .i64 er]) ∧ Kept w w' := by
  have RS' := Lib.hid RS
  clear RS
  go_enter Try.func14, Try.ntmps14
  go_upto_region 1 with fail
  generalize hW : (World.alloc (World.alloc w (.cells #[.int .i64 s, .int .i64 t, .int .i64 o] 23)) (.cells #[.int .i64 0, .int .i64 0, .int .i64 0] 23)) = W0
  have R0_0 := Lib.hid (show RF W0 (w.heap.size) s t o from by subst hW; exact ⟨⟨by simp [go_sem], by simp [go_sem], by simp [go_sem]⟩, by simp [go_sem], by simp [go_sem], by simp [go_sem]⟩)
  have R1_0 := Lib.hid (show RF W0 (w.heap.size + 1) 0 0 0 from by subst hW; exact ⟨⟨by simp [go_sem], by simp [go_sem], by simp [go_sem]⟩, by simp [go_sem], by simp [go_sem], by simp [go_sem]⟩)
  have kz0 : Kept w W0 := by subst hW; exact (((Kept.refl _).alloc _ _).alloc _ _)
  clear hW
  generalize hg : w.heap.size = g at *
  have gw0 : w.heap.size ≤ g + 0 := by omega
  have gw1 : w.heap.size ≤ g + 1 := by omega
  obtain ⟨b00, b01, b02⟩ := R0_0.out.1
  go_wp2_with fail
  refine (RS'.out _).mono ?_
  rintro e v0 ⟨rfl, k0⟩
  clear b00 b01 b02
  have R0_1 := Lib.hid (R0_0.out.kept k0)
  have R1_1 := Lib.hid (R1_0.out.kept k0)
  have kz1 := Kept.trans kz0 k0
  clear kz0 R0_0 R1_0
  have ne0 := R0_1.out.ne
  have ne1 := R1_1.out.ne
  obtain ⟨⟨b00, b01, b02⟩, f00, f01, f02⟩ := R0_1.out
  obtain ⟨⟨b10, b11, b12⟩, f10, f11, f12⟩ := R1_1.out
  go_wp2
  simp [bodyPost, results, Try.results14, go_sem, *]
  exact (by (repeat (first | with_reducible exact Kept.refl _ | with_reducible apply Kept.drew | with_reducible apply Kept.alloc | ((with_reducible apply Kept.set); focus (simp <;> omega)) | ((with_reducible apply Kept.via); focus with_reducible assumption))))
set_option maxRecDepth 100000 in
set_option maxHeartbeats 1600000 in
theorem fac_y {s t o n a b c : Int} (n0 : 1 ≤ n) (b0 : 0 ≤ b) (b1 : b + n ≤ 9223372036854775807) (RS : ∀ w, Calls Try.prog 26 #[.agg #[.int .i64 s, .int .i64 t, .int .i64 o], .int .i64 n] w fun e w' => e = .returned (.tuple #[.agg #[.int .i64 a, .int .i64 b, .int .i64 c], .int .i64 0]) ∧ Kept w w') (w : World) : Calls Try.prog 14 #[.agg #[.int .i64 s, .int .i64 t, .int .i64 o], .int .i64 n] w fun e w' => e = .returned (.tuple #[.agg #[.int .i64 a, .int .i64 (b + n), .int .i64 c], .int .i64 0]) ∧ Kept w w' := by
  have RS' := Lib.hid RS
  clear RS
  go_enter Try.func14, Try.ntmps14
  go_upto_region 1 with fail
  generalize hW : (World.alloc (World.alloc w (.cells #[.int .i64 s, .int .i64 t, .int .i64 o] 23)) (.cells #[.int .i64 0, .int .i64 0, .int .i64 0] 23)) = W0
  have R0_0 := Lib.hid (show RF W0 (w.heap.size) s t o from by subst hW; exact ⟨⟨by simp [go_sem], by simp [go_sem], by simp [go_sem]⟩, by simp [go_sem], by simp [go_sem], by simp [go_sem]⟩)
  have R1_0 := Lib.hid (show RF W0 (w.heap.size + 1) 0 0 0 from by subst hW; exact ⟨⟨by simp [go_sem], by simp [go_sem], by simp [go_sem]⟩, by simp [go_sem], by simp [go_sem], by simp [go_sem]⟩)
  have kz0 : Kept w W0 := by subst hW; exact (((Kept.refl _).alloc _ _).alloc _ _)
  clear hW
  generalize hg : w.heap.size = g at *
  have gw0 : w.heap.size ≤ g + 0 := by omega
  have gw1 : w.heap.size ≤ g + 1 := by omega
  obtain ⟨b00, b01, b02⟩ := R0_0.out.1
  go_wp2_with fail
  refine (RS'.out _).mono ?_
  rintro e v0 ⟨rfl, k0⟩
  clear b00 b01 b02
  have R0_1 := Lib.hid (R0_0.out.kept k0)
  have R1_1 := Lib.hid (R1_0.out.kept k0)
  have kz1 := Kept.trans kz0 k0
  clear kz0 R0_0 R1_0
  obtain ⟨⟨b00, b01, b02⟩, f00, f01, f02⟩ := R0_1.out
  obtain ⟨⟨b10, b11, b12⟩, f10, f11, f12⟩ := R1_1.out
  have gg : g < v0.heap.size := R0_1.out.ne
  go_upto_region 3 with fail
  generalize hW : World.setCell (World.setCell (World.setCell v0 ⟨g, 0, none⟩ (.int .i64 a)) ⟨g, 1, none⟩ (.int .i64 b)) ⟨g, 2, none⟩ (.int .i64 c) = W_z
  have R0_2 := Lib.hid (show RF W_z g a b c from by subst hW; exact ⟨⟨by simp [*, go_sem], by simp [*, go_sem], by simp [*, go_sem]⟩, by simp [*, go_sem], by simp [*, go_sem], by simp [*, go_sem]⟩)
  have R1_2 := Lib.hid (show RF W_z (g + 1) 0 0 0 from by subst hW; exact ⟨⟨by simp [*, go_sem], by simp [*, go_sem], by simp [*, go_sem]⟩, by simp [*, go_sem], by simp [*, go_sem], by simp [*, go_sem]⟩)
  have kz2 : Kept w W_z := by subst hW; exact (by (repeat (first | with_reducible exact Kept.refl _ | with_reducible apply Kept.drew | with_reducible apply Kept.alloc | ((with_reducible apply Kept.set); focus (simp <;> omega)) | ((with_reducible apply Kept.via); focus with_reducible assumption))))
  clear hW kz1 R0_1 R1_1 b00 b01 b02 f00 f01 f02 b10 b11 b12 f10 f11 f12
  have ne0 := R0_2.out.ne
  have ne1 := R1_2.out.ne
  obtain ⟨⟨b00, b01, b02⟩, f00, f01, f02⟩ := R0_2.out
  obtain ⟨⟨b10, b11, b12⟩, f10, f11, f12⟩ := R1_2.out
  go_wp2
  simp [bodyPost, results, Try.results14, go_sem, *]
  exact (by (repeat (first | with_reducible exact Kept.refl _ | with_reducible apply Kept.drew | with_reducible apply Kept.alloc | ((with_reducible apply Kept.set); focus (simp <;> omega)) | ((with_reducible apply Kept.via); focus with_reducible assumption))))
theorem flose {s t o n s' t' o' er : Int} (hs : In64 s) (ho : In64 o) (f : LessIs s t o n 0 s' t' o' er) (w : World) : Calls Try.prog 16 #[.agg #[.int .i64 s, .int .i64 t, .int .i64 o], .int .i64 n] w fun e w' => e = .returned (.tuple #[.agg #[.int .i64 s', .int .i64 t', .int .i64 o'], .int .i64 er]) ∧ Kept w w' := flo (fun w => fresolve hs ho f w) w
theorem flose_c : FlLoseC := fun s t o n s' t' o' er hs _ ho _ f w => flose hs ho f w
theorem fack {s t o n s' t' o' er : Int} (hs : In64 s) (ho : In64 o) (f : LessIs s t o n n s' t' o' er) (w : World) : Calls Try.prog 14 #[.agg #[.int .i64 s, .int .i64 t, .int .i64 o], .int .i64 n] w fun e w' => e = .returned (.tuple #[.agg #[.int .i64 s', .int .i64 t', .int .i64 o'], .int .i64 er]) ∧ Kept w w' := by
  rcases f with ⟨f, rfl, rfl, rfl, rfl⟩ | ⟨m, n0, l, rfl, rfl, rfl, rfl⟩ | ⟨m, n0, l, rfl, rfl, rfl, rfl⟩
  · exact fac_e (by decide) (fun w => fresolve hs ho (Or.inl ⟨f, rfl, rfl, rfl, rfl⟩) w) w
  · exact fac_e (by decide) (fun w => fresolve hs ho (Or.inr (Or.inl ⟨m, n0, l, rfl, rfl, rfl, rfl⟩)) w) w
  · have q := m
    unfold MayF at q
    unfold In64 at hs
    exact fac_y n0 q.2.1 (by omega) (fun w => fresolve hs ho (Or.inr (Or.inr ⟨m, n0, l, rfl, by omega, rfl, rfl⟩)) w) w
theorem fack_c : FlAckC := fun s t o n s' t' o' er hs _ ho _ f w => fack hs ho f w
set_option maxRecDepth 100000 in
set_option maxHeartbeats 1600000 in
theorem fsn_m {s t o n room : Int}  (CK : ∀ w, Calls Try.prog 18 #[.agg #[.int .i64 s, .int .i64 t, .int .i64 o]] w fun e w' => e = .returned (.bool false) ∧ Kept w w') (w : World) : Calls Try.prog 12 #[.agg #[.int .i64 s, .int .i64 t, .int .i64 o], .int .i64 n, .int .i64 room] w fun e w' => e = .returned (.tuple #[.agg #[.int .i64 s, .int .i64 t, .int .i64 o], .int .i64 201]) ∧ Kept w w' := by
  have CK' := Lib.hid CK
  clear CK
  go_enter Try.func12, Try.ntmps12
  go_upto_region 1 with fail
  generalize hW : (World.alloc (World.alloc w (.cells #[.int .i64 s, .int .i64 t, .int .i64 o] 23)) (.cells #[.int .i64 0, .int .i64 0, .int .i64 0] 23)) = W0
  have R0_0 := Lib.hid (show RF W0 (w.heap.size) s t o from by subst hW; exact ⟨⟨by simp [go_sem], by simp [go_sem], by simp [go_sem]⟩, by simp [go_sem], by simp [go_sem], by simp [go_sem]⟩)
  have R1_0 := Lib.hid (show RF W0 (w.heap.size + 1) 0 0 0 from by subst hW; exact ⟨⟨by simp [go_sem], by simp [go_sem], by simp [go_sem]⟩, by simp [go_sem], by simp [go_sem], by simp [go_sem]⟩)
  have kz0 : Kept w W0 := by subst hW; exact (((Kept.refl _).alloc _ _).alloc _ _)
  clear hW
  generalize hg : w.heap.size = g at *
  have gw0 : w.heap.size ≤ g + 0 := by omega
  have gw1 : w.heap.size ≤ g + 1 := by omega
  obtain ⟨b00, b01, b02⟩ := R0_0.out.1
  go_wp2_with fail
  refine (CK'.out _).mono ?_
  rintro e v0 ⟨rfl, k0⟩
  clear b00 b01 b02
  have R0_1 := Lib.hid (R0_0.out.kept k0)
  have R1_1 := Lib.hid (R1_0.out.kept k0)
  have kz1 := Kept.trans kz0 k0
  clear kz0 R0_0 R1_0
  have ne0 := R0_1.out.ne
  have ne1 := R1_1.out.ne
  obtain ⟨⟨b00, b01, b02⟩, f00, f01, f02⟩ := R0_1.out
  obtain ⟨⟨b10, b11, b12⟩, f10, f11, f12⟩ := R1_1.out
  go_wp2
  simp [bodyPost, results, Try.results12, go_sem, *]
  exact (by (repeat (first | with_reducible exact Kept.refl _ | with_reducible apply Kept.drew | with_reducible apply Kept.alloc | ((with_reducible apply Kept.set); focus (simp <;> omega)) | ((with_reducible apply Kept.via); focus with_reducible assumption))))
set_option maxRecDepth 100000 in
set_option maxHeartbeats 1600000 in
theorem fsn_n {s t o n room : Int} (d0 : decide (n < 1) = true) (CK : ∀ w, Calls Try.prog 18 #[.agg #[.int .i64 s, .int .i64 t, .int .i64 o]] w fun e w' => e = .returned (.bool true) ∧ Kept w w') (w : World) : Calls Try.prog 12 #[.agg #[.int .i64 s, .int .i64 t, .int .i64 o], .int .i64 n, .int .i64 room] w fun e w' => e = .returned (.tuple #[.agg #[.int .i64 s, .int .i64 t, .int .i64 o], .int .i64 201]) ∧ Kept w w' := by
  have CK' := Lib.hid CK
  clear CK
  go_enter Try.func12, Try.ntmps12
  go_upto_region 1 with fail
  generalize hW : (World.alloc (World.alloc w (.cells #[.int .i64 s, .int .i64 t, .int .i64 o] 23)) (.cells #[.int .i64 0, .int .i64 0, .int .i64 0] 23)) = W0
  have R0_0 := Lib.hid (show RF W0 (w.heap.size) s t o from by subst hW; exact ⟨⟨by simp [go_sem], by simp [go_sem], by simp [go_sem]⟩, by simp [go_sem], by simp [go_sem], by simp [go_sem]⟩)
  have R1_0 := Lib.hid (show RF W0 (w.heap.size + 1) 0 0 0 from by subst hW; exact ⟨⟨by simp [go_sem], by simp [go_sem], by simp [go_sem]⟩, by simp [go_sem], by simp [go_sem], by simp [go_sem]⟩)
  have kz0 : Kept w W0 := by subst hW; exact (((Kept.refl _).alloc _ _).alloc _ _)
  clear hW
  generalize hg : w.heap.size = g at *
  have gw0 : w.heap.size ≤ g + 0 := by omega
  have gw1 : w.heap.size ≤ g + 1 := by omega
  obtain ⟨b00, b01, b02⟩ := R0_0.out.1
  go_wp2_with fail
  refine (CK'.out _).mono ?_
  rintro e v0 ⟨rfl, k0⟩
  clear b00 b01 b02
  have R0_1 := Lib.hid (R0_0.out.kept k0)
  have R1_1 := Lib.hid (R1_0.out.kept k0)
  have kz1 := Kept.trans kz0 k0
  clear kz0 R0_0 R1_0
  have ne0 := R0_1.out.ne
  have ne1 := R1_1.out.ne
  obtain ⟨⟨b00, b01, b02⟩, f00, f01, f02⟩ := R0_1.out
  obtain ⟨⟨b10, b11, b12⟩, f10, f11, f12⟩ := R1_1.out
  go_wp2
  simp [bodyPost, results, Try.results12, go_sem, *]
  exact (by (repeat (first | with_reducible exact Kept.refl _ | with_reducible apply Kept.drew | with_reducible apply Kept.alloc | ((with_reducible apply Kept.set); focus (simp <;> omega)) | ((with_reducible apply Kept.via); focus with_reducible assumption))))
set_option maxRecDepth 100000 in
set_option maxHeartbeats 1600000 in
theorem fsn_o {s t o n room : Int} (d0 : decide (n < 1) = false) (s0 : 0 ≤ s) (s1 : s ≤ 9223372036854775807) (ew : IntKind.i64.wrap (9223372036854775807 - s) = 9223372036854775807 - s) (d1 : decide (9223372036854775807 - s < n) = true)  (CK : ∀ w, Calls Try.prog 18 #[.agg #[.int .i64 s, .int .i64 t, .int .i64 o]] w fun e w' => e = .returned (.bool true) ∧ Kept w w') (w : World) : Calls Try.prog 12 #[.agg #[.int .i64 s, .int .i64 t, .int .i64 o], .int .i64 n, .int .i64 room] w fun e w' => e = .returned (.tuple #[.agg #[.int .i64 s, .int .i64 t, .int .i64 o], .int .i64 10]) ∧ Kept w w' := by
  have CK' := Lib.hid CK
  clear CK
  go_enter Try.func12, Try.ntmps12
  go_upto_region 1 with fail
  generalize hW : (World.alloc (World.alloc w (.cells #[.int .i64 s, .int .i64 t, .int .i64 o] 23)) (.cells #[.int .i64 0, .int .i64 0, .int .i64 0] 23)) = W0
  have R0_0 := Lib.hid (show RF W0 (w.heap.size) s t o from by subst hW; exact ⟨⟨by simp [go_sem], by simp [go_sem], by simp [go_sem]⟩, by simp [go_sem], by simp [go_sem], by simp [go_sem]⟩)
  have R1_0 := Lib.hid (show RF W0 (w.heap.size + 1) 0 0 0 from by subst hW; exact ⟨⟨by simp [go_sem], by simp [go_sem], by simp [go_sem]⟩, by simp [go_sem], by simp [go_sem], by simp [go_sem]⟩)
  have kz0 : Kept w W0 := by subst hW; exact (((Kept.refl _).alloc _ _).alloc _ _)
  clear hW
  generalize hg : w.heap.size = g at *
  have gw0 : w.heap.size ≤ g + 0 := by omega
  have gw1 : w.heap.size ≤ g + 1 := by omega
  obtain ⟨b00, b01, b02⟩ := R0_0.out.1
  go_wp2_with fail
  refine (CK'.out _).mono ?_
  rintro e v0 ⟨rfl, k0⟩
  clear b00 b01 b02
  have R0_1 := Lib.hid (R0_0.out.kept k0)
  have R1_1 := Lib.hid (R1_0.out.kept k0)
  have kz1 := Kept.trans kz0 k0
  clear kz0 R0_0 R1_0
  have ne0 := R0_1.out.ne
  have ne1 := R1_1.out.ne
  obtain ⟨⟨b00, b01, b02⟩, f00, f01, f02⟩ := R0_1.out
  obtain ⟨⟨b10, b11, b12⟩, f10, f11, f12⟩ := R1_1.out
  go_wp2
  simp [bodyPost, results, Try.results12, go_sem, *]
  exact (by (repeat (first | with_reducible exact Kept.refl _ | with_reducible apply Kept.drew | with_reducible apply Kept.alloc | ((with_reducible apply Kept.set); focus (simp <;> omega)) | ((with_reducible apply Kept.via); focus with_reducible assumption))))
set_option maxRecDepth 100000 in
set_option maxHeartbeats 1600000 in
theorem fsn_w {s t o n room r : Int} (d0 : decide (n < 1) = false) (s0 : 0 ≤ s) (s1 : s ≤ 9223372036854775807) (ew : IntKind.i64.wrap (9223372036854775807 - s) = 9223372036854775807 - s) (d1 : decide (9223372036854775807 - s < n) = false) (d2 : decide (r < n) = true) (CK : ∀ w, Calls Try.prog 18 #[.agg #[.int .i64 s, .int .i64 t, .int .i64 o]] w fun e w' => e = .returned (.bool true) ∧ Kept w w') (RM : ∀ w, Calls Try.prog 20 #[.agg #[.int .i64 s, .int .i64 t, .int .i64 o], .int .i64 room] w fun e w' => e = .returned (.int .i64 r) ∧ Kept w w') (w : World) : Calls Try.prog 12 #[.agg #[.int .i64 s, .int .i64 t, .int .i64 o], .int .i64 n, .int .i64 room] w fun e w' => e = .returned (.tuple #[.agg #[.int .i64 s, .int .i64 t, .int .i64 o], .int .i64 203]) ∧ Kept w w' := by
  have CK' := Lib.hid CK
  have RM' := Lib.hid RM
  clear CK RM
  go_enter Try.func12, Try.ntmps12
  go_upto_region 1 with fail
  generalize hW : (World.alloc (World.alloc w (.cells #[.int .i64 s, .int .i64 t, .int .i64 o] 23)) (.cells #[.int .i64 0, .int .i64 0, .int .i64 0] 23)) = W0
  have R0_0 := Lib.hid (show RF W0 (w.heap.size) s t o from by subst hW; exact ⟨⟨by simp [go_sem], by simp [go_sem], by simp [go_sem]⟩, by simp [go_sem], by simp [go_sem], by simp [go_sem]⟩)
  have R1_0 := Lib.hid (show RF W0 (w.heap.size + 1) 0 0 0 from by subst hW; exact ⟨⟨by simp [go_sem], by simp [go_sem], by simp [go_sem]⟩, by simp [go_sem], by simp [go_sem], by simp [go_sem]⟩)
  have kz0 : Kept w W0 := by subst hW; exact (((Kept.refl _).alloc _ _).alloc _ _)
  clear hW
  generalize hg : w.heap.size = g at *
  have gw0 : w.heap.size ≤ g + 0 := by omega
  have gw1 : w.heap.size ≤ g + 1 := by omega
  obtain ⟨b00, b01, b02⟩ := R0_0.out.1
  go_wp2_with fail
  refine (CK'.out _).mono ?_
  rintro e v0 ⟨rfl, k0⟩
  clear b00 b01 b02
  have R0_1 := Lib.hid (R0_0.out.kept k0)
  have R1_1 := Lib.hid (R1_0.out.kept k0)
  have kz1 := Kept.trans kz0 k0
  clear kz0 R0_0 R1_0
  obtain ⟨b00, b01, b02⟩ := R0_1.out.1
  go_wp2_with fail
  refine (RM'.out _).mono ?_
  rintro e v1 ⟨rfl, k1⟩
  clear b00 b01 b02
  have R0_2 := Lib.hid (R0_1.out.kept k1)
  have R1_2 := Lib.hid (R1_1.out.kept k1)
  have kz2 := Kept.trans kz1 k1
  clear kz1 R0_1 R1_1
  have ne0 := R0_2.out.ne
  have ne1 := R1_2.out.ne
  obtain ⟨⟨b00, b01, b02⟩, f00, f01, f02⟩ := R0_2.out
  obtain ⟨⟨b10, b11, b12⟩, f10, f11, f12⟩ := R1_2.out
  go_wp2
  simp [bodyPost, results, Try.results12, go_sem, *]
  exact (by (repeat (first | with_reducible exact Kept.refl _ | with_reducible apply Kept.drew | with_reducible apply Kept.alloc | ((with_reducible apply Kept.set); focus (simp <;> omega)) | ((with_reducible apply Kept.via); focus with_reducible assumption))))
set_option maxRecDepth 100000 in
set_option maxHeartbeats 1600000 in
theorem fsn_y {s t o n room r : Int} (d0 : decide (n < 1) = false) (s0 : 0 ≤ s) (s1 : s ≤ 9223372036854775807) (ew : IntKind.i64.wrap (9223372036854775807 - s) = 9223372036854775807 - s) (d1 : decide (9223372036854775807 - s < n) = false) (d2 : decide (r < n) = false) (n0 : 1 ≤ n) (l1 : s + n ≤ 9223372036854775807) (o0 : 0 ≤ o) (l2 : o + n ≤ 9223372036854775807) (CK : ∀ w, Calls Try.prog 18 #[.agg #[.int .i64 s, .int .i64 t, .int .i64 o]] w fun e w' => e = .returned (.bool true) ∧ Kept w w') (RM : ∀ w, Calls Try.prog 20 #[.agg #[.int .i64 s, .int .i64 t, .int .i64 o], .int .i64 room] w fun e w' => e = .returned (.int .i64 r) ∧ Kept w w') (w : World) : Calls Try.prog 12 #[.agg #[.int .i64 s, .int .i64 t, .int .i64 o], .int .i64 n, .int .i64 room] w fun e w' => e = .returned (.tuple #[.agg #[.int .i64 (s + n), .int .i64 t, .int .i64 (o + n)], .int .i64 0]) ∧ Kept w w' := by
  have CK' := Lib.hid CK
  have RM' := Lib.hid RM
  clear CK RM
  go_enter Try.func12, Try.ntmps12
  go_upto_region 1 with fail
  generalize hW : (World.alloc (World.alloc w (.cells #[.int .i64 s, .int .i64 t, .int .i64 o] 23)) (.cells #[.int .i64 0, .int .i64 0, .int .i64 0] 23)) = W0
  have R0_0 := Lib.hid (show RF W0 (w.heap.size) s t o from by subst hW; exact ⟨⟨by simp [go_sem], by simp [go_sem], by simp [go_sem]⟩, by simp [go_sem], by simp [go_sem], by simp [go_sem]⟩)
  have R1_0 := Lib.hid (show RF W0 (w.heap.size + 1) 0 0 0 from by subst hW; exact ⟨⟨by simp [go_sem], by simp [go_sem], by simp [go_sem]⟩, by simp [go_sem], by simp [go_sem], by simp [go_sem]⟩)
  have kz0 : Kept w W0 := by subst hW; exact (((Kept.refl _).alloc _ _).alloc _ _)
  clear hW
  generalize hg : w.heap.size = g at *
  have gw0 : w.heap.size ≤ g + 0 := by omega
  have gw1 : w.heap.size ≤ g + 1 := by omega
  obtain ⟨b00, b01, b02⟩ := R0_0.out.1
  go_wp2_with fail
  refine (CK'.out _).mono ?_
  rintro e v0 ⟨rfl, k0⟩
  clear b00 b01 b02
  have R0_1 := Lib.hid (R0_0.out.kept k0)
  have R1_1 := Lib.hid (R1_0.out.kept k0)
  have kz1 := Kept.trans kz0 k0
  clear kz0 R0_0 R1_0
  obtain ⟨b00, b01, b02⟩ := R0_1.out.1
  go_wp2_with fail
  refine (RM'.out _).mono ?_
  rintro e v1 ⟨rfl, k1⟩
  clear b00 b01 b02
  have R0_2 := Lib.hid (R0_1.out.kept k1)
  have R1_2 := Lib.hid (R1_1.out.kept k1)
  have kz2 := Kept.trans kz1 k1
  clear kz1 R0_1 R1_1
  have ne0 := R0_2.out.ne
  have ne1 := R1_2.out.ne
  obtain ⟨⟨b00, b01, b02⟩, f00, f01, f02⟩ := R0_2.out
  obtain ⟨⟨b10, b11, b12⟩, f10, f11, f12⟩ := R1_2.out
  go_wp2
  simp [bodyPost, results, Try.results12, go_sem, *]
  exact (by (repeat (first | with_reducible exact Kept.refl _ | with_reducible apply Kept.drew | with_reducible apply Kept.alloc | ((with_reducible apply Kept.set); focus (simp <;> omega)) | ((with_reducible apply Kept.via); focus with_reducible assumption))))
theorem fsend {s t o n room s' t' o' er : Int} (hs : In64 s) (hn : In64 n) (hr : In64 room) (f : SendIs s t o n room s' t' o' er) (w : World) : Calls Try.prog 12 #[.agg #[.int .i64 s, .int .i64 t, .int .i64 o], .int .i64 n, .int .i64 room] w fun e w' => e = .returned (.tuple #[.agg #[.int .i64 s', .int .i64 t', .int .i64 o'], .int .i64 er]) ∧ Kept w w' := by
  have hs0 := hs
  unfold In64 at hs
  rcases f with ⟨f, rfl, rfl, rfl, rfl⟩ | ⟨m, n0, l, rfl, rfl, rfl, rfl⟩ | ⟨m, n0, l, d, rfl, rfl, rfl, rfl⟩ | ⟨m, n0, l, d, rfl, rfl, rfl, rfl⟩
  · by_cases m : MayF s' t' o'
    · exact fsn_n (by simp; rcases (show n < 1 ∨ 1 ≤ n by omega) with z | z; omega; exact absurd ⟨m, z⟩ f) (fun w => fcheck true hs0 (by simp [m]) w) w
    · exact fsn_m (fun w => fcheck false hs0 (by simp [m]) w) w
  · have m0 := m.1
    exact fsn_o (by simp; omega) m0 hs.2 (by rw [IntKind.wrap_i64]; omega) (by simp; omega) (fun w => fcheck true hs0 (by simp [m]) w) w
  · have m0 := m.1
    exact fsn_w (by simp; omega) m0 hs.2 (by rw [IntKind.wrap_i64]; omega) (by simp; omega) (by simp [d]) (fun w => fcheck true hs0 (by simp [m]) w) (fun w => froom hs0 hr rfl w) w
  · have m0 := m.1
    have r : o + n ≤ 9223372036854775807 := by
      unfold roomF at d; unfold In64 at hr
      split at d <;> omega
    exact fsn_y (by simp; omega) m0 hs.2 (by rw [IntKind.wrap_i64]; omega) (by simp; omega) (by simp; omega) n0 l m.2.2.1 r (fun w => fcheck true hs0 (by simp [m]) w) (fun w => froom hs0 hr rfl w) w
theorem fsend_c : FlSendC := fun s t o n room s' t' o' er hs _ _ hn hr f w => fsend hs hn hr f w
set_option maxRecDepth 100000 in
set_option maxHeartbeats 1600000 in
theorem fact_send {s t o x y z a b c er : Int}  (FN : ∀ w, Calls Try.prog 12 #[.agg #[.int .i64 s, .int .i64 t, .int .i64 o], .int .i64 y, .int .i64 z] w fun e w' => e = .returned (.tuple #[.agg #[.int .i64 a, .int .i64 b, .int .i64 c], .int .i64 er]) ∧ Kept w w') (w : World) : Calls Try.prog 27 #[.agg #[.int .i64 x, .int .i64 y, .int .i64 z], .agg #[.int .i64 s, .int .i64 t, .int .i64 o]] w fun e w' => e = .returned (.tuple #[.agg #[.int .i64 a, .int .i64 b, .int .i64 c], .int .i64 er]) ∧ Kept w w' := by
  have FN' := Lib.hid FN
  clear FN
  go_enter Try.func27, Try.ntmps27
  go_upto_region 1 with fail
  generalize hW : (World.alloc (World.alloc (World.alloc w (.cells #[.int .i64 x, .int .i64 y, .int .i64 z] 47)) (.cells #[.int .i64 s, .int .i64 t, .int .i64 o] 23)) (.cells #[.int .i64 0, .int .i64 0, .int .i64 0] 23)) = W0
  have R0_0 := Lib.hid (show RF W0 (w.heap.size) x y z from by subst hW; exact ⟨⟨by simp [go_sem], by simp [go_sem], by simp [go_sem]⟩, by simp [go_sem], by simp [go_sem], by simp [go_sem]⟩)
  have R1_0 := Lib.hid (show RF W0 (w.heap.size + 1) s t o from by subst hW; exact ⟨⟨by simp [go_sem], by simp [go_sem], by simp [go_sem]⟩, by simp [go_sem], by simp [go_sem], by simp [go_sem]⟩)
  have R2_0 := Lib.hid (show RF W0 (w.heap.size + 2) 0 0 0 from by subst hW; exact ⟨⟨by simp [go_sem], by simp [go_sem], by simp [go_sem]⟩, by simp [go_sem], by simp [go_sem], by simp [go_sem]⟩)
  have kz0 : Kept w W0 := by subst hW; exact ((((Kept.refl _).alloc _ _).alloc _ _).alloc _ _)
  clear hW
  generalize hg : w.heap.size = g at *
  have gw0 : w.heap.size ≤ g + 0 := by omega
  have gw1 : w.heap.size ≤ g + 1 := by omega
  have gw2 : w.heap.size ≤ g + 2 := by omega
  obtain ⟨b00, b01, b02⟩ := R0_0.out.1
  obtain ⟨b10, b11, b12⟩ := R1_0.out.1
  go_wp2_with fail
  refine (FN'.out _).mono ?_
  rintro e v0 ⟨rfl, k0⟩
  clear b00 b01 b02
  clear b10 b11 b12
  have R0_1 := Lib.hid (R0_0.out.kept k0)
  have R1_1 := Lib.hid (R1_0.out.kept k0)
  have R2_1 := Lib.hid (R2_0.out.kept k0)
  have kz1 := Kept.trans kz0 k0
  clear kz0 R0_0 R1_0 R2_0
  have ne0 := R0_1.out.ne
  have ne1 := R1_1.out.ne
  have ne2 := R2_1.out.ne
  obtain ⟨⟨b00, b01, b02⟩, f00, f01, f02⟩ := R0_1.out
  obtain ⟨⟨b10, b11, b12⟩, f10, f11, f12⟩ := R1_1.out
  obtain ⟨⟨b20, b21, b22⟩, f20, f21, f22⟩ := R2_1.out
  go_wp2
  simp [bodyPost, results, Try.results27, go_sem, *]
  exact (by (repeat (first | with_reducible exact Kept.refl _ | with_reducible apply Kept.drew | with_reducible apply Kept.alloc | ((with_reducible apply Kept.set); focus (simp <;> omega)) | ((with_reducible apply Kept.via); focus with_reducible assumption))))
set_option maxRecDepth 100000 in
set_option maxHeartbeats 1600000 in
theorem fact_ack {s t o x y z a b c er : Int}  (FN : ∀ w, Calls Try.prog 14 #[.agg #[.int .i64 s, .int .i64 t, .int .i64 o], .int .i64 y] w fun e w' => e = .returned (.tuple #[.agg #[.int .i64 a, .int .i64 b, .int .i64 c], .int .i64 er]) ∧ Kept w w') (w : World) : Calls Try.prog 28 #[.agg #[.int .i64 x, .int .i64 y, .int .i64 z], .agg #[.int .i64 s, .int .i64 t, .int .i64 o]] w fun e w' => e = .returned (.tuple #[.agg #[.int .i64 a, .int .i64 b, .int .i64 c], .int .i64 er]) ∧ Kept w w' := by
  have FN' := Lib.hid FN
  clear FN
  go_enter Try.func28, Try.ntmps28
  go_upto_region 1 with fail
  generalize hW : (World.alloc (World.alloc (World.alloc w (.cells #[.int .i64 x, .int .i64 y, .int .i64 z] 47)) (.cells #[.int .i64 s, .int .i64 t, .int .i64 o] 23)) (.cells #[.int .i64 0, .int .i64 0, .int .i64 0] 23)) = W0
  have R0_0 := Lib.hid (show RF W0 (w.heap.size) x y z from by subst hW; exact ⟨⟨by simp [go_sem], by simp [go_sem], by simp [go_sem]⟩, by simp [go_sem], by simp [go_sem], by simp [go_sem]⟩)
  have R1_0 := Lib.hid (show RF W0 (w.heap.size + 1) s t o from by subst hW; exact ⟨⟨by simp [go_sem], by simp [go_sem], by simp [go_sem]⟩, by simp [go_sem], by simp [go_sem], by simp [go_sem]⟩)
  have R2_0 := Lib.hid (show RF W0 (w.heap.size + 2) 0 0 0 from by subst hW; exact ⟨⟨by simp [go_sem], by simp [go_sem], by simp [go_sem]⟩, by simp [go_sem], by simp [go_sem], by simp [go_sem]⟩)
  have kz0 : Kept w W0 := by subst hW; exact ((((Kept.refl _).alloc _ _).alloc _ _).alloc _ _)
  clear hW
  generalize hg : w.heap.size = g at *
  have gw0 : w.heap.size ≤ g + 0 := by omega
  have gw1 : w.heap.size ≤ g + 1 := by omega
  have gw2 : w.heap.size ≤ g + 2 := by omega
  obtain ⟨b00, b01, b02⟩ := R0_0.out.1
  obtain ⟨b10, b11, b12⟩ := R1_0.out.1
  go_wp2_with fail
  refine (FN'.out _).mono ?_
  rintro e v0 ⟨rfl, k0⟩
  clear b00 b01 b02
  clear b10 b11 b12
  have R0_1 := Lib.hid (R0_0.out.kept k0)
  have R1_1 := Lib.hid (R1_0.out.kept k0)
  have R2_1 := Lib.hid (R2_0.out.kept k0)
  have kz1 := Kept.trans kz0 k0
  clear kz0 R0_0 R1_0 R2_0
  have ne0 := R0_1.out.ne
  have ne1 := R1_1.out.ne
  have ne2 := R2_1.out.ne
  obtain ⟨⟨b00, b01, b02⟩, f00, f01, f02⟩ := R0_1.out
  obtain ⟨⟨b10, b11, b12⟩, f10, f11, f12⟩ := R1_1.out
  obtain ⟨⟨b20, b21, b22⟩, f20, f21, f22⟩ := R2_1.out
  go_wp2
  simp [bodyPost, results, Try.results28, go_sem, *]
  exact (by (repeat (first | with_reducible exact Kept.refl _ | with_reducible apply Kept.drew | with_reducible apply Kept.alloc | ((with_reducible apply Kept.set); focus (simp <;> omega)) | ((with_reducible apply Kept.via); focus with_reducible assumption))))
set_option maxRecDepth 100000 in
set_option maxHeartbeats 1600000 in
theorem fact_lose {s t o x y z a b c er : Int}  (FN : ∀ w, Calls Try.prog 16 #[.agg #[.int .i64 s, .int .i64 t, .int .i64 o], .int .i64 y] w fun e w' => e = .returned (.tuple #[.agg #[.int .i64 a, .int .i64 b, .int .i64 c], .int .i64 er]) ∧ Kept w w') (w : World) : Calls Try.prog 29 #[.agg #[.int .i64 x, .int .i64 y, .int .i64 z], .agg #[.int .i64 s, .int .i64 t, .int .i64 o]] w fun e w' => e = .returned (.tuple #[.agg #[.int .i64 a, .int .i64 b, .int .i64 c], .int .i64 er]) ∧ Kept w w' := by
  have FN' := Lib.hid FN
  clear FN
  go_enter Try.func29, Try.ntmps29
  go_upto_region 1 with fail
  generalize hW : (World.alloc (World.alloc (World.alloc w (.cells #[.int .i64 x, .int .i64 y, .int .i64 z] 47)) (.cells #[.int .i64 s, .int .i64 t, .int .i64 o] 23)) (.cells #[.int .i64 0, .int .i64 0, .int .i64 0] 23)) = W0
  have R0_0 := Lib.hid (show RF W0 (w.heap.size) x y z from by subst hW; exact ⟨⟨by simp [go_sem], by simp [go_sem], by simp [go_sem]⟩, by simp [go_sem], by simp [go_sem], by simp [go_sem]⟩)
  have R1_0 := Lib.hid (show RF W0 (w.heap.size + 1) s t o from by subst hW; exact ⟨⟨by simp [go_sem], by simp [go_sem], by simp [go_sem]⟩, by simp [go_sem], by simp [go_sem], by simp [go_sem]⟩)
  have R2_0 := Lib.hid (show RF W0 (w.heap.size + 2) 0 0 0 from by subst hW; exact ⟨⟨by simp [go_sem], by simp [go_sem], by simp [go_sem]⟩, by simp [go_sem], by simp [go_sem], by simp [go_sem]⟩)
  have kz0 : Kept w W0 := by subst hW; exact ((((Kept.refl _).alloc _ _).alloc _ _).alloc _ _)
  clear hW
  generalize hg : w.heap.size = g at *
  have gw0 : w.heap.size ≤ g + 0 := by omega
  have gw1 : w.heap.size ≤ g + 1 := by omega
  have gw2 : w.heap.size ≤ g + 2 := by omega
  obtain ⟨b00, b01, b02⟩ := R0_0.out.1
  obtain ⟨b10, b11, b12⟩ := R1_0.out.1
  go_wp2_with fail
  refine (FN'.out _).mono ?_
  rintro e v0 ⟨rfl, k0⟩
  clear b00 b01 b02
  clear b10 b11 b12
  have R0_1 := Lib.hid (R0_0.out.kept k0)
  have R1_1 := Lib.hid (R1_0.out.kept k0)
  have R2_1 := Lib.hid (R2_0.out.kept k0)
  have kz1 := Kept.trans kz0 k0
  clear kz0 R0_0 R1_0 R2_0
  have ne0 := R0_1.out.ne
  have ne1 := R1_1.out.ne
  have ne2 := R2_1.out.ne
  obtain ⟨⟨b00, b01, b02⟩, f00, f01, f02⟩ := R0_1.out
  obtain ⟨⟨b10, b11, b12⟩, f10, f11, f12⟩ := R1_1.out
  obtain ⟨⟨b20, b21, b22⟩, f20, f21, f22⟩ := R2_1.out
  go_wp2
  simp [bodyPost, results, Try.results29, go_sem, *]
  exact (by (repeat (first | with_reducible exact Kept.refl _ | with_reducible apply Kept.drew | with_reducible apply Kept.alloc | ((with_reducible apply Kept.set); focus (simp <;> omega)) | ((with_reducible apply Kept.via); focus with_reducible assumption))))
/-- The map of the kinds of acts. -/
def TabF (w : World) (b : Nat) : Prop := ∃ c0 c1 c2 : Nat, MapAt w b #[⟨.int .i64 0, .agg #[.func (.func 27) #[] #[]], c0⟩, ⟨.int .i64 1, .agg #[.func (.func 28) #[] #[]], c1⟩, ⟨.int .i64 2, .agg #[.func (.func 29) #[] #[]], c2⟩]
theorem TabF.kept {w w' : World} {b : Nat} (h : TabF w b) (k : Kept w w') : TabF w' b := by
  obtain ⟨c0, c1, c2, h⟩ := h
  exact ⟨c0, c1, c2, h.kept k⟩
theorem TabF.look0 {w : World} {b : Nat} (h : TabF w b) : (Instr.lookup 45 (.map (some b)) (.int .i64 0) true).run Try.prog w = .ok (.tuple #[.agg #[.func (.func 27) #[] #[]], .bool true]) w := by
  obtain ⟨c0, c1, c2, h⟩ := h
  exact map_look_ok (i := 0) Try.underlying45 Try.underlying3 h (by simp [Instr.findNow, Instr.sameNow])
theorem TabF.look1 {w : World} {b : Nat} (h : TabF w b) : (Instr.lookup 45 (.map (some b)) (.int .i64 1) true).run Try.prog w = .ok (.tuple #[.agg #[.func (.func 28) #[] #[]], .bool true]) w := by
  obtain ⟨c0, c1, c2, h⟩ := h
  exact map_look_ok (i := 1) Try.underlying45 Try.underlying3 h (by simp [Instr.findNow, Instr.sameNow])
theorem TabF.look2 {w : World} {b : Nat} (h : TabF w b) : (Instr.lookup 45 (.map (some b)) (.int .i64 2) true).run Try.prog w = .ok (.tuple #[.agg #[.func (.func 29) #[] #[]], .bool true]) w := by
  obtain ⟨c0, c1, c2, h⟩ := h
  exact map_look_ok (i := 2) Try.underlying45 Try.underlying3 h (by simp [Instr.findNow, Instr.sameNow])
theorem zeroKind16 : (Try.prog.info? 55).map (fun i => i.zero) = some (some (.agg #[.nilFunc])) := by kernel_rfl
theorem TabF.miss {w : World} {b : Nat} {x : Int} (h : TabF w b) (n0 : ¬ x = 0) (n1 : ¬ x = 1) (n2 : ¬ x = 2) : (Instr.lookup 45 (.map (some b)) (.int .i64 x) true).run Try.prog w = .ok (.tuple #[.agg #[.nilFunc], .bool false]) w := by
  obtain ⟨c0, c1, c2, h⟩ := h
  exact map_miss_ok Try.underlying45 Try.underlying3 zeroKind16 h (by simp [Instr.findNow, Instr.sameNow, show (x == 0) = false by simp [n0], show (x == 1) = false by simp [n1], show (x == 2) = false by simp [n2]])
theorem bk16_0 (w : World) : (Instr.build 55 #[(0, .func (.func 27) #[] #[])]).run Try.prog w = .ok (.agg #[.func (.func 27) #[] #[]]) w := run_build w 55 _ _ (by kernel_rfl)
theorem bk16_1 (w : World) : (Instr.build 55 #[(0, .func (.func 28) #[] #[])]).run Try.prog w = .ok (.agg #[.func (.func 28) #[] #[]]) w := run_build w 55 _ _ (by kernel_rfl)
theorem bk16_2 (w : World) : (Instr.build 55 #[(0, .func (.func 29) #[] #[])]).run Try.prog w = .ok (.agg #[.func (.func 29) #[] #[]]) w := run_build w 55 _ _ (by kernel_rfl)
set_option maxRecDepth 100000 in
set_option maxHeartbeats 1600000 in
theorem fkinds (w : World) : Calls Try.prog 22 #[] w fun e w' => ∃ b, e = .returned (.map (some b)) ∧ TabF w' b ∧ Kept w w' := by
  have bk0 := bk16_0
  have bk1 := bk16_1
  have bk2 := bk16_2
  go_enter Try.func22, Try.ntmps22
  go_wp2_with (first
    | (refine wpList_map_kept rfl _ rfl w (Kept.refl _) ?_; intro w1 b hb _ M1 k1)
    | (refine wpList_insert_kept rfl _ _ _ _ rfl _ _ Try.underlying45 Try.underlying3 w b #[] 0 _ rfl rfl rfl M1 (by simp [Instr.findNow]) k1 hb ?_; intro w2 c0 M2 k2 _)
    | (refine wpList_insert_kept rfl _ _ _ _ rfl _ _ Try.underlying45 Try.underlying3 w b #[⟨.int .i64 0, .agg #[.func (.func 27) #[] #[]], c0⟩] 1 _ rfl rfl rfl M2 (by simp [Instr.findNow, Instr.sameNow]) k2 hb ?_; intro w3 c1 M3 k3 _)
    | (refine wpList_insert_kept rfl _ _ _ _ rfl _ _ Try.underlying45 Try.underlying3 w b #[⟨.int .i64 0, .agg #[.func (.func 27) #[] #[]], c0⟩, ⟨.int .i64 1, .agg #[.func (.func 28) #[] #[]], c1⟩] 2 _ rfl rfl rfl M3 (by simp [Instr.findNow, Instr.sameNow]) k3 hb ?_; intro w4 c2 M4 k4 _))
  go_ret
  exact ⟨b, rfl, ⟨_, _, _, M4⟩, k4⟩
set_option maxRecDepth 100000 in
set_option maxHeartbeats 1600000 in
theorem fdn_0 {s t o y z a b c er : Int} {tb : Nat}  (FN : ∀ w, Calls Try.prog 27 #[.agg #[.int .i64 0, .int .i64 y, .int .i64 z], .agg #[.int .i64 s, .int .i64 t, .int .i64 o]] w fun e w' => e = .returned (.tuple #[.agg #[.int .i64 a, .int .i64 b, .int .i64 c], .int .i64 er]) ∧ Kept w w') (w : World) (M_ : TabF w tb) : Calls Try.prog 23 #[.agg #[.int .i64 0, .int .i64 y, .int .i64 z], .agg #[.int .i64 s, .int .i64 t, .int .i64 o], .map (some tb)] w fun e w' => e = .returned (.tuple #[.agg #[.int .i64 a, .int .i64 b, .int .i64 c], .int .i64 er]) ∧ Kept w w' := by
  have FN' := Lib.hid FN
  clear FN
  have MM := Lib.hid M_
  clear M_
  go_enter Try.func23, Try.ntmps23
  go_upto_region 1 with fail
  generalize hW : (World.alloc (World.alloc (World.alloc w (.cells #[.int .i64 0, .int .i64 y, .int .i64 z] 47)) (.cells #[.int .i64 s, .int .i64 t, .int .i64 o] 23)) (.cells #[.int .i64 0, .int .i64 0, .int .i64 0] 23)) = W0
  have R0_0 := Lib.hid (show RF W0 (w.heap.size) 0 y z from by subst hW; exact ⟨⟨by simp [go_sem], by simp [go_sem], by simp [go_sem]⟩, by simp [go_sem], by simp [go_sem], by simp [go_sem]⟩)
  have R1_0 := Lib.hid (show RF W0 (w.heap.size + 1) s t o from by subst hW; exact ⟨⟨by simp [go_sem], by simp [go_sem], by simp [go_sem]⟩, by simp [go_sem], by simp [go_sem], by simp [go_sem]⟩)
  have R2_0 := Lib.hid (show RF W0 (w.heap.size + 2) 0 0 0 from by subst hW; exact ⟨⟨by simp [go_sem], by simp [go_sem], by simp [go_sem]⟩, by simp [go_sem], by simp [go_sem], by simp [go_sem]⟩)
  have kz0 : Kept w W0 := by subst hW; exact ((((Kept.refl _).alloc _ _).alloc _ _).alloc _ _)
  clear hW
  generalize hg : w.heap.size = g at *
  have gw0 : w.heap.size ≤ g + 0 := by omega
  have gw1 : w.heap.size ≤ g + 1 := by omega
  have gw2 : w.heap.size ≤ g + 2 := by omega
  have LK := TabF.look0 (TabF.kept MM.out kz0)
  have ne0 := R0_0.out.ne
  have ne1 := R1_0.out.ne
  have ne2 := R2_0.out.ne
  obtain ⟨b00, b01, b02⟩ := R0_0.out.1
  obtain ⟨b10, b11, b12⟩ := R1_0.out.1
  obtain ⟨b20, b21, b22⟩ := R2_0.out.1
  go_wp2_with fail
  refine (FN'.out _).mono ?_
  rintro e v0 ⟨rfl, k0⟩
  have k0 := Kept.trans ((Kept.refl W0).alloc _ _) k0
  clear ne0 ne1 ne2
  clear b00 b01 b02
  clear b10 b11 b12
  clear b20 b21 b22
  have R0_1 := Lib.hid (R0_0.out.kept k0)
  have R1_1 := Lib.hid (R1_0.out.kept k0)
  have R2_1 := Lib.hid (R2_0.out.kept k0)
  have kz1 := Kept.trans kz0 k0
  clear kz0 R0_0 R1_0 R2_0
  have ne0 := R0_1.out.ne
  have ne1 := R1_1.out.ne
  have ne2 := R2_1.out.ne
  obtain ⟨⟨b00, b01, b02⟩, f00, f01, f02⟩ := R0_1.out
  obtain ⟨⟨b10, b11, b12⟩, f10, f11, f12⟩ := R1_1.out
  obtain ⟨⟨b20, b21, b22⟩, f20, f21, f22⟩ := R2_1.out
  go_wp2
  simp [bodyPost, results, Try.results23, go_sem, *]
  exact (by (repeat (first | with_reducible exact Kept.refl _ | with_reducible apply Kept.drew | with_reducible apply Kept.alloc | ((with_reducible apply Kept.set); focus (simp <;> omega)) | ((with_reducible apply Kept.via); focus with_reducible assumption))))
set_option maxRecDepth 100000 in
set_option maxHeartbeats 1600000 in
theorem fdn_1 {s t o y z a b c er : Int} {tb : Nat}  (FN : ∀ w, Calls Try.prog 28 #[.agg #[.int .i64 1, .int .i64 y, .int .i64 z], .agg #[.int .i64 s, .int .i64 t, .int .i64 o]] w fun e w' => e = .returned (.tuple #[.agg #[.int .i64 a, .int .i64 b, .int .i64 c], .int .i64 er]) ∧ Kept w w') (w : World) (M_ : TabF w tb) : Calls Try.prog 23 #[.agg #[.int .i64 1, .int .i64 y, .int .i64 z], .agg #[.int .i64 s, .int .i64 t, .int .i64 o], .map (some tb)] w fun e w' => e = .returned (.tuple #[.agg #[.int .i64 a, .int .i64 b, .int .i64 c], .int .i64 er]) ∧ Kept w w' := by
  have FN' := Lib.hid FN
  clear FN
  have MM := Lib.hid M_
  clear M_
  go_enter Try.func23, Try.ntmps23
  go_upto_region 1 with fail
  generalize hW : (World.alloc (World.alloc (World.alloc w (.cells #[.int .i64 1, .int .i64 y, .int .i64 z] 47)) (.cells #[.int .i64 s, .int .i64 t, .int .i64 o] 23)) (.cells #[.int .i64 0, .int .i64 0, .int .i64 0] 23)) = W0
  have R0_0 := Lib.hid (show RF W0 (w.heap.size) 1 y z from by subst hW; exact ⟨⟨by simp [go_sem], by simp [go_sem], by simp [go_sem]⟩, by simp [go_sem], by simp [go_sem], by simp [go_sem]⟩)
  have R1_0 := Lib.hid (show RF W0 (w.heap.size + 1) s t o from by subst hW; exact ⟨⟨by simp [go_sem], by simp [go_sem], by simp [go_sem]⟩, by simp [go_sem], by simp [go_sem], by simp [go_sem]⟩)
  have R2_0 := Lib.hid (show RF W0 (w.heap.size + 2) 0 0 0 from by subst hW; exact ⟨⟨by simp [go_sem], by simp [go_sem], by simp [go_sem]⟩, by simp [go_sem], by simp [go_sem], by simp [go_sem]⟩)
  have kz0 : Kept w W0 := by subst hW; exact ((((Kept.refl _).alloc _ _).alloc _ _).alloc _ _)
  clear hW
  generalize hg : w.heap.size = g at *
  have gw0 : w.heap.size ≤ g + 0 := by omega
  have gw1 : w.heap.size ≤ g + 1 := by omega
  have gw2 : w.heap.size ≤ g + 2 := by omega
  have LK := TabF.look1 (TabF.kept MM.out kz0)
  have ne0 := R0_0.out.ne
  have ne1 := R1_0.out.ne
  have ne2 := R2_0.out.ne
  obtain ⟨b00, b01, b02⟩ := R0_0.out.1
  obtain ⟨b10, b11, b12⟩ := R1_0.out.1
  obtain ⟨b20, b21, b22⟩ := R2_0.out.1
  go_wp2_with fail
  refine (FN'.out _).mono ?_
  rintro e v0 ⟨rfl, k0⟩
  have k0 := Kept.trans ((Kept.refl W0).alloc _ _) k0
  clear ne0 ne1 ne2
  clear b00 b01 b02
  clear b10 b11 b12
  clear b20 b21 b22
  have R0_1 := Lib.hid (R0_0.out.kept k0)
  have R1_1 := Lib.hid (R1_0.out.kept k0)
  have R2_1 := Lib.hid (R2_0.out.kept k0)
  have kz1 := Kept.trans kz0 k0
  clear kz0 R0_0 R1_0 R2_0
  have ne0 := R0_1.out.ne
  have ne1 := R1_1.out.ne
  have ne2 := R2_1.out.ne
  obtain ⟨⟨b00, b01, b02⟩, f00, f01, f02⟩ := R0_1.out
  obtain ⟨⟨b10, b11, b12⟩, f10, f11, f12⟩ := R1_1.out
  obtain ⟨⟨b20, b21, b22⟩, f20, f21, f22⟩ := R2_1.out
  go_wp2
  simp [bodyPost, results, Try.results23, go_sem, *]
  exact (by (repeat (first | with_reducible exact Kept.refl _ | with_reducible apply Kept.drew | with_reducible apply Kept.alloc | ((with_reducible apply Kept.set); focus (simp <;> omega)) | ((with_reducible apply Kept.via); focus with_reducible assumption))))
set_option maxRecDepth 100000 in
set_option maxHeartbeats 1600000 in
theorem fdn_2 {s t o y z a b c er : Int} {tb : Nat}  (FN : ∀ w, Calls Try.prog 29 #[.agg #[.int .i64 2, .int .i64 y, .int .i64 z], .agg #[.int .i64 s, .int .i64 t, .int .i64 o]] w fun e w' => e = .returned (.tuple #[.agg #[.int .i64 a, .int .i64 b, .int .i64 c], .int .i64 er]) ∧ Kept w w') (w : World) (M_ : TabF w tb) : Calls Try.prog 23 #[.agg #[.int .i64 2, .int .i64 y, .int .i64 z], .agg #[.int .i64 s, .int .i64 t, .int .i64 o], .map (some tb)] w fun e w' => e = .returned (.tuple #[.agg #[.int .i64 a, .int .i64 b, .int .i64 c], .int .i64 er]) ∧ Kept w w' := by
  have FN' := Lib.hid FN
  clear FN
  have MM := Lib.hid M_
  clear M_
  go_enter Try.func23, Try.ntmps23
  go_upto_region 1 with fail
  generalize hW : (World.alloc (World.alloc (World.alloc w (.cells #[.int .i64 2, .int .i64 y, .int .i64 z] 47)) (.cells #[.int .i64 s, .int .i64 t, .int .i64 o] 23)) (.cells #[.int .i64 0, .int .i64 0, .int .i64 0] 23)) = W0
  have R0_0 := Lib.hid (show RF W0 (w.heap.size) 2 y z from by subst hW; exact ⟨⟨by simp [go_sem], by simp [go_sem], by simp [go_sem]⟩, by simp [go_sem], by simp [go_sem], by simp [go_sem]⟩)
  have R1_0 := Lib.hid (show RF W0 (w.heap.size + 1) s t o from by subst hW; exact ⟨⟨by simp [go_sem], by simp [go_sem], by simp [go_sem]⟩, by simp [go_sem], by simp [go_sem], by simp [go_sem]⟩)
  have R2_0 := Lib.hid (show RF W0 (w.heap.size + 2) 0 0 0 from by subst hW; exact ⟨⟨by simp [go_sem], by simp [go_sem], by simp [go_sem]⟩, by simp [go_sem], by simp [go_sem], by simp [go_sem]⟩)
  have kz0 : Kept w W0 := by subst hW; exact ((((Kept.refl _).alloc _ _).alloc _ _).alloc _ _)
  clear hW
  generalize hg : w.heap.size = g at *
  have gw0 : w.heap.size ≤ g + 0 := by omega
  have gw1 : w.heap.size ≤ g + 1 := by omega
  have gw2 : w.heap.size ≤ g + 2 := by omega
  have LK := TabF.look2 (TabF.kept MM.out kz0)
  have ne0 := R0_0.out.ne
  have ne1 := R1_0.out.ne
  have ne2 := R2_0.out.ne
  obtain ⟨b00, b01, b02⟩ := R0_0.out.1
  obtain ⟨b10, b11, b12⟩ := R1_0.out.1
  obtain ⟨b20, b21, b22⟩ := R2_0.out.1
  go_wp2_with fail
  refine (FN'.out _).mono ?_
  rintro e v0 ⟨rfl, k0⟩
  have k0 := Kept.trans ((Kept.refl W0).alloc _ _) k0
  clear ne0 ne1 ne2
  clear b00 b01 b02
  clear b10 b11 b12
  clear b20 b21 b22
  have R0_1 := Lib.hid (R0_0.out.kept k0)
  have R1_1 := Lib.hid (R1_0.out.kept k0)
  have R2_1 := Lib.hid (R2_0.out.kept k0)
  have kz1 := Kept.trans kz0 k0
  clear kz0 R0_0 R1_0 R2_0
  have ne0 := R0_1.out.ne
  have ne1 := R1_1.out.ne
  have ne2 := R2_1.out.ne
  obtain ⟨⟨b00, b01, b02⟩, f00, f01, f02⟩ := R0_1.out
  obtain ⟨⟨b10, b11, b12⟩, f10, f11, f12⟩ := R1_1.out
  obtain ⟨⟨b20, b21, b22⟩, f20, f21, f22⟩ := R2_1.out
  go_wp2
  simp [bodyPost, results, Try.results23, go_sem, *]
  exact (by (repeat (first | with_reducible exact Kept.refl _ | with_reducible apply Kept.drew | with_reducible apply Kept.alloc | ((with_reducible apply Kept.set); focus (simp <;> omega)) | ((with_reducible apply Kept.via); focus with_reducible assumption))))
set_option maxRecDepth 100000 in
set_option maxHeartbeats 1600000 in
theorem fdn_n {s t o x y z : Int} {tb : Nat} (n0 : ¬ x = 0) (n1 : ¬ x = 1) (n2 : ¬ x = 2)  (w : World) (M_ : TabF w tb) : Calls Try.prog 23 #[.agg #[.int .i64 x, .int .i64 y, .int .i64 z], .agg #[.int .i64 s, .int .i64 t, .int .i64 o], .map (some tb)] w fun e w' => e = .returned (.tuple #[.agg #[.int .i64 s, .int .i64 t, .int .i64 o], .int .i64 201]) ∧ Kept w w' := by
  have MM := Lib.hid M_
  clear M_
  go_enter Try.func23, Try.ntmps23
  go_upto_region 1 with fail
  generalize hW : (World.alloc (World.alloc (World.alloc w (.cells #[.int .i64 x, .int .i64 y, .int .i64 z] 47)) (.cells #[.int .i64 s, .int .i64 t, .int .i64 o] 23)) (.cells #[.int .i64 0, .int .i64 0, .int .i64 0] 23)) = W0
  have R0_0 := Lib.hid (show RF W0 (w.heap.size) x y z from by subst hW; exact ⟨⟨by simp [go_sem], by simp [go_sem], by simp [go_sem]⟩, by simp [go_sem], by simp [go_sem], by simp [go_sem]⟩)
  have R1_0 := Lib.hid (show RF W0 (w.heap.size + 1) s t o from by subst hW; exact ⟨⟨by simp [go_sem], by simp [go_sem], by simp [go_sem]⟩, by simp [go_sem], by simp [go_sem], by simp [go_sem]⟩)
  have R2_0 := Lib.hid (show RF W0 (w.heap.size + 2) 0 0 0 from by subst hW; exact ⟨⟨by simp [go_sem], by simp [go_sem], by simp [go_sem]⟩, by simp [go_sem], by simp [go_sem], by simp [go_sem]⟩)
  have kz0 : Kept w W0 := by subst hW; exact ((((Kept.refl _).alloc _ _).alloc _ _).alloc _ _)
  clear hW
  generalize hg : w.heap.size = g at *
  have gw0 : w.heap.size ≤ g + 0 := by omega
  have gw1 : w.heap.size ≤ g + 1 := by omega
  have gw2 : w.heap.size ≤ g + 2 := by omega
  have nx0 := R0_0.out.ne
  have nx1 := R1_0.out.ne
  have nx2 := R2_0.out.ne
  have LK := TabF.miss (TabF.kept MM.out kz0) n0 n1 n2
  have ne0 := R0_0.out.ne
  have ne1 := R1_0.out.ne
  have ne2 := R2_0.out.ne
  obtain ⟨⟨b00, b01, b02⟩, f00, f01, f02⟩ := R0_0.out
  obtain ⟨⟨b10, b11, b12⟩, f10, f11, f12⟩ := R1_0.out
  obtain ⟨⟨b20, b21, b22⟩, f20, f21, f22⟩ := R2_0.out
  go_wp2
  simp [bodyPost, results, Try.results23, go_sem, *]
  exact (by (repeat (first | with_reducible exact Kept.refl _ | with_reducible apply Kept.drew | with_reducible apply Kept.alloc | ((with_reducible apply Kept.set); focus (simp <;> omega)) | ((with_reducible apply Kept.via); focus with_reducible assumption))))
theorem fdone {f f' : Fl} {x : Ac} {er : Int} {tb : Nat} (i : FlIn f) (j : FlIn x) (h : ActIs f x f' er) (w : World) (M : TabF w tb) : Calls Try.prog 23 #[.agg #[.int .i64 x.1, .int .i64 x.2.1, .int .i64 x.2.2], .agg #[.int .i64 f.1, .int .i64 f.2.1, .int .i64 f.2.2], .map (some tb)] w fun e w' => e = .returned (.tuple #[.agg #[.int .i64 f'.1, .int .i64 f'.2.1, .int .i64 f'.2.2], .int .i64 er]) ∧ Kept w w' := by
  obtain ⟨s, t, o⟩ := f
  obtain ⟨x, y, z⟩ := x
  obtain ⟨a, b, c⟩ := f'
  obtain ⟨hs, ht, ho⟩ := i
  obtain ⟨hx, hy, hz⟩ := j
  simp only [] at hs ht ho hx hy hz ⊢
  rcases h with ⟨h0, h⟩ | ⟨h0, h⟩ | ⟨h0, h⟩ | ⟨h0, h, rfl⟩
  · simp only [] at h0 h
    subst h0
    exact fdn_0 (fun w => fact_send (fun w => fsend hs hy hz h w) w) w M
  · simp only [] at h0 h
    subst h0
    exact fdn_1 (fun w => fact_ack (fun w => fack hs ho h w) w) w M
  · simp only [] at h0 h
    subst h0
    exact fdn_2 (fun w => fact_lose (fun w => flose hs ho h w) w) w M
  · simp only [Prod.mk.injEq] at h0 h
    obtain ⟨rfl, rfl, rfl⟩ := h
    exact fdn_n (by omega) (by omega) (by omega) w M
theorem infoErr16f : (Try.prog.info? 29).map (fun i => (i.zero, i.size, i.bytes)) = some (some (.int .i64 0), 1, 8) := by kernel_rfl
/-- A slice of numbers that the call has made: the first of them are these. -/
def MadeE (w : World) (g n : Nat) (l : List Int) : Prop := (∀ j, j < n → (∃ u, w.cell? ⟨g, j, none⟩ = some u) ∧ w.frozen? ⟨g, j, none⟩ = false) ∧ ∀ j, j < l.length → w.cell? ⟨g, j, none⟩ = some (.int .i64 (l.getD j 0))
theorem MadeE.kept {w w' : World} {g n : Nat} {l : List Int} (h : MadeE w g n l) (k : Kept w w') : MadeE w' g n l :=
  ⟨fun j hj => ⟨by obtain ⟨u, hu⟩ := (h.1 j hj).1; exact ⟨u, k.read hu⟩, k.thaw (h.1 j hj).2⟩, fun j hj => k.read (h.2 j hj)⟩
theorem MadeE.far {w : World} {g n : Nat} {l : List Int} (h : MadeE w g n l) {p : Addr} (u : Value) (hn : g ≠ p.block) : MadeE (w.setCell p u) g n l :=
  ⟨fun j hj => ⟨by obtain ⟨v, hv⟩ := (h.1 j hj).1; exact ⟨v, read_far (q := ⟨g, j, none⟩) hv hn⟩, by rw [World.frozen?_setCell]; exact (h.1 j hj).2⟩, fun j hj => read_far (q := ⟨g, j, none⟩) (h.2 j hj) hn⟩
theorem MadeE.put {w : World} {g n : Nat} {l : List Int} (h : MadeE w g n l) (x : Int) (hl : l.length < n) : MadeE (w.setCell ⟨g, l.length, none⟩ (.int .i64 x)) g n (l ++ [x]) := by
  obtain ⟨u, hu⟩ := (h.1 l.length hl).1
  refine ⟨fun j hj => ⟨?_, by rw [World.frozen?_setCell]; exact (h.1 j hj).2⟩, fun j hj => ?_⟩
  · by_cases e : j = l.length
    · subst e; exact ⟨_, World.cell?_setCell_same _ _ _ hu⟩
    · obtain ⟨v, hv⟩ := (h.1 j hj).1
      exact ⟨v, by rw [World.cell?_setCell_other _ _ _ _ (by intro z; cases z; exact e rfl)]; exact hv⟩
  · by_cases e : j = l.length
    · subst e; rw [World.cell?_setCell_same _ _ _ hu]; simp
    · rw [List.length_append, List.length_singleton] at hj
      have hj2 : j < l.length := by omega
      rw [World.cell?_setCell_other _ _ _ _ (by intro z; cases z; exact e rfl), h.2 j hj2]
      simp [List.getD, List.getElem?_append_left hj2]
theorem made_own {w : World} {base : Nat} {e : TypeId} {g n c : Nat} {xs : List Value} (h : w.ownsRow base e 1 (.slice (some ⟨g, 0, none⟩) n c) n xs) : MadeE w g n [] := by
  rcases h.2 with ⟨h0, _⟩ | ⟨g', cap', cur, hv, hbg, hgg, hnc, hcm, hcs, htake⟩
  · cases h0
  · cases hv
    refine ⟨fun j hj => ⟨?_, ?_⟩, fun j hj => absurd hj (by simp)⟩
    · have hjc : j < cur.size := by rw [hcs]; omega
      exact ⟨cur[j], by simp [World.cell?, hgg, hjc]⟩
    · simp [World.frozen?, hgg]
theorem MadeE.row {w : World} {g n : Nat} {l : List Int} (h : MadeE w g n l) : RowE w (some ⟨g, 0, none⟩) l := fun _ => ⟨g, 0, rfl, fun j hj => by rw [Nat.zero_add]; exact h.2 j hj⟩
theorem TabF.ne {w : World} {b : Nat} (h : TabF w b) {p : Addr} {v : Value} (c : w.cell? p = some v) : ¬ p.block = b := by
  intro e
  obtain ⟨c0, c1, c2, k, h⟩ := h
  rw [← e] at h
  simp [World.cell?, h] at c
theorem TabF.off {w : World} {b : Nat} (h : TabF w b) {p : Addr} (u : Value) (hn : ¬ p.block = b) : TabF (w.setCell p u) b := by
  obtain ⟨c0, c1, c2, k, h⟩ := h
  exact ⟨c0, c1, c2, k, by rw [Go.Deep.blk_setCell_other w p u b (fun e => hn e.symm)]; exact h⟩
theorem RF.off {w : World} {g : Nat} {x y z : Int} (h : RF w g x y z) {p : Addr} (u : Value) (hn : g ≠ p.block) : RF (w.setCell p u) g x y z :=
  ⟨⟨read_far (q := ⟨g, 0, none⟩) h.1.1 hn, read_far (q := ⟨g, 1, none⟩) h.1.2.1 hn, read_far (q := ⟨g, 2, none⟩) h.1.2.2 hn⟩, by rw [World.frozen?_setCell]; exact h.2.1, by rw [World.frozen?_setCell]; exact h.2.2.1, by rw [World.frozen?_setCell]; exact h.2.2.2⟩
theorem RF.put {w : World} {g : Nat} {x y z : Int} (h : RF w g x y z) (a b c : Int) : RF (World.setCell (World.setCell (World.setCell w ⟨g, 0, none⟩ (.int .i64 a)) ⟨g, 1, none⟩ (.int .i64 b)) ⟨g, 2, none⟩ (.int .i64 c)) g a b c := by
  obtain ⟨⟨c0, c1, c2⟩, c3, c4, c5⟩ := h
  exact ⟨⟨by simp [*, go_sem], by simp [*, go_sem], by simp [*, go_sem]⟩, by simp [*, go_sem], by simp [*, go_sem], by simp [*, go_sem]⟩
set_option maxRecDepth 100000 in
set_option maxHeartbeats 6400000 in
theorem fdo (s t o : Int) (A : Option Addr) (len cap : Nat) (E : Nat → Nat → Int) (s' t' o' : Int) (l' : List Int) (hs : In64 s) (ht : In64 t) (ho : In64 o) (hn : len ≤ 1099511627776) (hz : ∀ i, i < len → ∀ j, j < 3 → In64 (E i j)) (hd : doF (s, t, o) (actsL E len) = (s', t', o')) (he : doE (s, t, o) (actsL E len) = l') (w : World) (hr : RowI .i64 w A 3 len E) : Calls Try.prog 10 #[.agg #[.int .i64 s, .int .i64 t, .int .i64 o], .slice A len cap] w fun e w' => ∃ (B : Option Addr) (c : Nat), e = .returned (.tuple #[.agg #[.int .i64 s', .int .i64 t', .int .i64 o'], .slice B len c]) ∧ SliceOk B len c ∧ RowE w' B l' ∧ (∀ a, B = some a → w.heap.size ≤ a.block) ∧ Kept w w' := by
  have HR := Lib.hid hr
  have HZ := Lib.hid hz
  have HD := Lib.hid (And.intro hd he)
  have I0 := Lib.hid (show FlIn (s, t, o) from ⟨hs, ht, ho⟩)
  clear hr hz hd he hs ht ho
  obtain ⟨i0, hi, hz0, hz1, hz2⟩ := info_parts infoErr16f
  obtain ⟨f0, hf0⟩ : ∃ f0 : Fl, (s, t, o) = f0 := ⟨_, rfl⟩
  have HF := Lib.hid hf0
  go_enter Try.func10, Try.ntmps10
  go_upto_region 1 with fail
  generalize hW : World.alloc (World.alloc w (.cells #[.int .i64 s, .int .i64 t, .int .i64 o] 23)) (.cells #[.int .i64 0, .int .i64 0, .int .i64 0] 23) = W0
  have R0 := Lib.hid (show RF W0 w.heap.size s t o from by subst hW; exact ⟨⟨by simp [go_sem], by simp [go_sem], by simp [go_sem]⟩, by simp [go_sem], by simp [go_sem], by simp [go_sem]⟩)
  have Z0 := Lib.hid (show RF W0 (w.heap.size + 1) 0 0 0 from by subst hW; exact ⟨⟨by simp [go_sem], by simp [go_sem], by simp [go_sem]⟩, by simp [go_sem], by simp [go_sem], by simp [go_sem]⟩)
  have k0 : Kept w W0 := by subst hW; exact ((Kept.refl _).alloc _ _).alloc _ _
  clear hW
  obtain ⟨g, hg⟩ : ∃ g, w.heap.size = g := ⟨_, rfl⟩
  rw [hg] at R0 Z0 ⊢
  have gg : w.heap.size ≤ g := by omega
  go_wp2_with fail
  refine (fkinds _).mono ?_
  rintro e w1 ⟨tb, rfl, tab, k1⟩
  have zg := (Z0.out.kept k1).ne
  obtain ⟨G, hG⟩ : ∃ G, w1.heap.size = G := ⟨_, rfl⟩
  rw [hG] at zg
  go_wp2_with (at_make; refine wpList_make_len_kept rfl _ _ 26 rfl w1 G hG 29 i0 (.int .i64 0) 1 Try.underlying26 hi hz0 hz1 (Kept.refl _) _ _ _ _ len len rfl rfl rfl rfl (Nat.le_refl _) (by rw [hz2]; omega) (by unfold maxLen; omega) ?_)
  intro w2 xs own2 k2 _
  have M0 := Lib.hid (made_own own2)
  have kz0 := Kept.trans k0 (Kept.trans k1 k2)
  have R2 := Lib.hid (R0.out.kept (Kept.trans k1 k2))
  have Z2 := Lib.hid (Z0.out.kept (Kept.trans k1 k2))
  have TB0 := Lib.hid (tab.kept k2)
  clear own2 tab k0 k1 k2 R0 Z0
  go_wp2
  go_loopw [16] (fun iv wr => ∃ (k : Nat) (a b c : Int) (l : List Int), k ≤ len ∧ iv = .int .i64 k ∧ doF f0 (actsL E k) = (a, b, c) ∧ doE f0 (actsL E k) = l ∧ RF wr g a b c ∧ RF wr (g + 1) 0 0 0 ∧ MadeE wr G len l ∧ TabF wr tb ∧ Kept w wr) (fun i _ => len - (intOf i).toNat)
  case atStart => exact ⟨0, s, t, o, [], Nat.zero_le _, rfl, HF.out.symm, rfl, R2.out, Z2.out, M0.out, TB0.out, kz0⟩
  case round =>
    clear kz0 R2 Z2 M0 TB0 hf0
    obtain ⟨k, a, b, c, l, hk, rfl, hd1, hd2, hR, hZ2, hM, hT, kw⟩ := hrel
    have D := Lib.hid (And.intro hd1 hd2)
    have RR := Lib.hid hR
    have ZZ := Lib.hid hZ2
    have MD := Lib.hid hM
    have TB := Lib.hid hT
    clear hd1 hd2 hR hZ2 hM hT
    have HL := Lib.hid (show l.length = k from by have := congrArg List.length D.out.2; rw [doE_len, actsL_len] at this; exact this.symm)
    by_cases hlt : k < len
    · have hltI : (k : Int) < (len : Int) := by omega
      obtain ⟨bb, off, eA, hc⟩ := (HR.out.kept kw) (by omega)
      subst eA
      have x0 : wr.cell? ⟨bb, off + k * 3, none⟩ = some (.int .i64 (E k 0)) := hc k hlt 0 (by omega)
      have x1 : wr.cell? ⟨bb, off + k * 3 + 1, none⟩ = some (.int .i64 (E k 1)) := hc k hlt 1 (by omega)
      have x2 : wr.cell? ⟨bb, off + k * 3 + 2, none⟩ = some (.int .i64 (E k 2)) := hc k hlt 2 (by omega)
      have IX := Lib.hid (show FlIn (E k 0, E k 1, E k 2) from ⟨HZ.out k hlt 0 (by omega), HZ.out k hlt 1 (by omega), HZ.out k hlt 2 (by omega)⟩)
      have IF := Lib.hid (show FlIn (a, b, c) from by rw [← D.out.1]; exact do_in64 _ _ (by rw [← HF.out]; exact I0.out))
      have DN := Lib.hid (do_next f0 E k)
      obtain ⟨f', hf'⟩ : ∃ f' : Fl, actF (a, b, c) (E k 0, E k 1, E k 2) = f' := ⟨_, rfl⟩
      obtain ⟨er, her⟩ : ∃ er, actE (a, b, c) (E k 0, E k 1, E k 2) = er := ⟨_, rfl⟩
      have AI := act_is (a, b, c) (E k 0, E k 1, E k 2)
      rw [hf', her] at AI
      obtain ⟨a2, b2, c2⟩ := f'
      have DD := Lib.hid (show doF f0 (actsL E (k + 1)) = (a2, b2, c2) ∧ doE f0 (actsL E (k + 1)) = l ++ [er] from by rw [DN.out.1, DN.out.2, D.out.1, D.out.2, hf', her]; exact ⟨rfl, rfl⟩)
      have QA := Lib.hid (fun w_ m_ => fdone IF.out IX.out AI w_ m_ (tb := tb))
      clear hc hf' her DN AI
      generalize E k 0 = x at *
      generalize E k 1 = y at *
      generalize E k 2 = z at *
      simp only [] at QA
      obtain ⟨b0, b1, b2_⟩ := RR.out.1
      have gne := RR.out.ne
      go_wp2_with fail
      refine (QA.out _ (TB.out.kept (by (repeat (first | with_reducible exact Kept.refl _ | with_reducible apply Kept.drew | with_reducible apply Kept.alloc | ((with_reducible apply Kept.set); focus (simp <;> omega)) | ((with_reducible apply Kept.via); focus with_reducible assumption)))))).mono ?_
      rintro e w3 ⟨rfl, k3⟩
      have k4 := Kept.trans ((Kept.refl wr).alloc _ _) k3
      have RR2 := Lib.hid (RR.out.kept k4)
      have ZZ2 := Lib.hid (ZZ.out.kept k4)
      have MD2 := Lib.hid (MD.out.kept k4)
      have TB2 := Lib.hid (TB.out.kept k4)
      have kx := Kept.trans kw k4
      clear b0 b1 b2_ x0 x1 x2 k3 k4 RR ZZ MD TB kw gne
      obtain ⟨⟨c0, c1, c2_⟩, c3, c4, c5⟩ := RR2.out
      obtain ⟨⟨u, hu⟩, hfz⟩ := MD2.out.1 k hlt
      have gne := RR2.out.ne
      have nG : ¬ G = g := by omega
      have nG2 : ¬ g = G := by omega
      have nG3 : ¬ g + 1 = G := by omega
      have nG4 : ¬ g + 1 = g := by omega
      go_wp2
      generalize hW : World.setCell (World.setCell (World.setCell w3 ⟨g, 0, none⟩ (.int .i64 a2)) ⟨g, 1, none⟩ (.int .i64 b2)) ⟨g, 2, none⟩ (.int .i64 c2) = W_y
      have RZ := Lib.hid (show RF W_y g a2 b2 c2 from by subst hW; exact RR2.out.put a2 b2 c2)
      have ZZ3 := Lib.hid (show RF W_y (g + 1) 0 0 0 from by subst hW; exact ((ZZ2.out.off _ (by exact nG4)).off _ (by exact nG4)).off _ (by exact nG4))
      have MD3 := Lib.hid (show MadeE W_y G len l from by subst hW; exact ((MD2.out.far _ (by exact nG)).far _ (by exact nG)).far _ (by exact nG))
      have nT0 : ¬ g = tb := TB2.out.ne c0
      have TB3 := Lib.hid (show TabF W_y tb from by subst hW; exact ((TB2.out.off _ (by exact nT0)).off _ (by exact nT0)).off _ (by exact nT0))
      have nT : ¬ G = tb := TB2.out.ne hu
      have kz : Kept w W_y := by subst hW; exact (by (repeat (first | with_reducible exact Kept.refl _ | with_reducible apply Kept.drew | with_reducible apply Kept.alloc | ((with_reducible apply Kept.set); focus (simp <;> omega)) | ((with_reducible apply Kept.via); focus with_reducible assumption))))
      go_roundw
      case rel => exact ⟨k + 1, a2, b2, c2, l ++ [er], by omega, by go_num, DD.out.1, DD.out.2, RZ.out.off _ (by exact nG2), ZZ3.out.off _ (by exact nG3), (by have := MD3.out.put er (by rw [HL.out]; exact hlt); rw [HL.out] at this; exact this), TB3.out.off _ (by exact nT), (by (repeat (first | with_reducible exact Kept.refl _ | with_reducible apply Kept.drew | with_reducible apply Kept.alloc | ((with_reducible apply Kept.set); focus (simp <;> omega)) | ((with_reducible apply Kept.via); focus with_reducible assumption))))⟩
      case measure => simp [intOf]; omega
    · obtain rfl : k = len := by omega
      have g2' : decide ((k : Int) < (k : Int)) = false := by simp
      obtain ⟨q1, q2⟩ : (a, b, c) = (s', t', o') ∧ l = l' := by have h1 := HD.out; rw [HF.out, D.out.1, D.out.2] at h1; exact h1
      simp only [Prod.mk.injEq] at q1
      obtain ⟨rfl, rfl, rfl⟩ := q1
      subst q2
      have nG4 : ¬ g + 1 = g := by omega
      have nG3 : ¬ G = g + 1 := by omega
      have gne := RR.out.ne
      have gne2 := ZZ.out.ne
      have gw2 : w.heap.size ≤ g + 1 := by omega
      obtain ⟨⟨c0, c1, c2_⟩, c3, c4, c5⟩ := RR.out
      obtain ⟨⟨e0, e1, e2⟩, e3, e4, e5⟩ := ZZ.out
      go_wp2
      generalize hW : World.setCell (World.setCell (World.setCell wr ⟨g + 1, 0, none⟩ (.int .i64 a)) ⟨g + 1, 1, none⟩ (.int .i64 b)) ⟨g + 1, 2, none⟩ (.int .i64 c) = W_z
      have RZ := Lib.hid (show RF W_z (g + 1) a b c from by subst hW; exact ZZ.out.put a b c)
      have ROW := MadeE.row (show MadeE W_z G k l from by subst hW; exact ((MD.out.far _ (by exact nG3)).far _ (by exact nG3)).far _ (by exact nG3))
      have kz : Kept w W_z := by subst hW; exact (by (repeat (first | with_reducible exact Kept.refl _ | with_reducible apply Kept.drew | with_reducible apply Kept.alloc | ((with_reducible apply Kept.set); focus (simp <;> omega)) | ((with_reducible apply Kept.via); focus with_reducible assumption))))
      clear hW
      obtain ⟨⟨z0, z1, z2⟩, z3, z4, z5⟩ := RZ.out
      simp [bodyPost, results, Try.results10, go_sem, *]
      exact ⟨_, _, ⟨rfl, rfl⟩, ⟨Nat.le_refl _, by omega, fun h => by cases h⟩, ROW, fun a z => by cases z; show g ≤ G; omega⟩
theorem fdo_c : FlDoC := fun s t o A len cap E s' t' o' l hs ht ho _ hn hz hd he w hr => fdo s t o A len cap E s' t' o' l hs ht ho hn hz hd he w hr
end Go.Proofs.Ytbaifhgjalaphaa
