/-
  Contracts of the document's answers of layer 16.
-/
import Derived.Test.YtbaifhgjalaphaaCon16
import Derived.Test.YtbaifhgjalaphaaOne01
import Derived.Test.YtbaifhgjalaphaaRoom
import Derived.Test.YtbaifhgjalaphaaApp
import Derived.Deep.RegionHeld3
import Derived.Deep.DeepCutAuto
namespace Go.Proofs.Ytbaifhgjalaphaa
open Go.RowKit Go.BigFrame
set_option linter.unusedVariables false

theorem plusLift16 {a b v x : Int} (ha : In64 a) (hb : In64 b) (hv : overV (a + b) = v) (hx : overE (a + b) = x) (w : World) : Calls Try.prog 25 #[.int .i64 a, .int .i64 b] w fun e w' => e = .returned (.tuple #[.int .i64 v, .int .i64 x]) ∧ Kept w w' := (refPlus_var_s a b v x w ha hb hv hx).mono (fun _ _ ⟨h, k⟩ => ⟨h, k ▸ Kept.refl _⟩)
set_option maxRecDepth 100000 in
set_option maxHeartbeats 1600000 in
theorem rck16_n0 {s t o : Int} (d0 : decide (s < 0) = true)  (w : World) : Calls Try.prog 19 #[.agg #[.int .i64 s, .int .i64 t, .int .i64 o]] w fun e w' => e = .returned (.bool false) ∧ Kept w w' := by
  go_enter Try.func19, Try.ntmps19
  go_upto_region 1 with fail
  generalize hW : World.alloc w (.cells #[.int .i64 s, .int .i64 t, .int .i64 o] 23) = W_f
  have K_f : Kept w W_f := by subst hW; exact (Kept.refl _).alloc _ _
  have H_f := Lib.hid (show W_f.cell? ⟨w.heap.size, 0, none⟩ = some (.int .i64 s) ∧ W_f.cell? ⟨w.heap.size, 1, none⟩ = some (.int .i64 t) ∧ W_f.cell? ⟨w.heap.size, 2, none⟩ = some (.int .i64 o) from by subst hW; simp [go_sem])
  clear hW
  generalize w.heap.size = g_f at *
  obtain ⟨cf0, cf1, cf2⟩ := Kept.all3 (show Kept W_f W_f from (by (repeat (first | with_reducible exact Kept.refl _ | with_reducible apply Kept.drew | with_reducible apply Kept.alloc | ((with_reducible apply Kept.set); focus (simp <;> omega)) | ((with_reducible apply Kept.via); focus with_reducible assumption))))) H_f
  go_wp2
  go_ret
  exact ⟨rfl, (by (repeat (first | with_reducible exact Kept.refl _ | with_reducible apply Kept.drew | with_reducible apply Kept.alloc | ((with_reducible apply Kept.set); focus (simp <;> omega)) | ((with_reducible apply Kept.via); focus with_reducible assumption))))⟩
set_option maxRecDepth 100000 in
set_option maxHeartbeats 1600000 in
theorem rck16_n1 {s t o : Int} (d0 : decide (s < 0) = false) (d1 : decide (t < 0) = true)  (w : World) : Calls Try.prog 19 #[.agg #[.int .i64 s, .int .i64 t, .int .i64 o]] w fun e w' => e = .returned (.bool false) ∧ Kept w w' := by
  go_enter Try.func19, Try.ntmps19
  go_upto_region 1 with fail
  generalize hW : World.alloc w (.cells #[.int .i64 s, .int .i64 t, .int .i64 o] 23) = W_f
  have K_f : Kept w W_f := by subst hW; exact (Kept.refl _).alloc _ _
  have H_f := Lib.hid (show W_f.cell? ⟨w.heap.size, 0, none⟩ = some (.int .i64 s) ∧ W_f.cell? ⟨w.heap.size, 1, none⟩ = some (.int .i64 t) ∧ W_f.cell? ⟨w.heap.size, 2, none⟩ = some (.int .i64 o) from by subst hW; simp [go_sem])
  clear hW
  generalize w.heap.size = g_f at *
  obtain ⟨cf0, cf1, cf2⟩ := Kept.all3 (show Kept W_f W_f from (by (repeat (first | with_reducible exact Kept.refl _ | with_reducible apply Kept.drew | with_reducible apply Kept.alloc | ((with_reducible apply Kept.set); focus (simp <;> omega)) | ((with_reducible apply Kept.via); focus with_reducible assumption))))) H_f
  go_wp2
  go_ret
  exact ⟨rfl, (by (repeat (first | with_reducible exact Kept.refl _ | with_reducible apply Kept.drew | with_reducible apply Kept.alloc | ((with_reducible apply Kept.set); focus (simp <;> omega)) | ((with_reducible apply Kept.via); focus with_reducible assumption))))⟩
set_option maxRecDepth 100000 in
set_option maxHeartbeats 1600000 in
theorem rck16_n2 {s t o : Int} (d0 : decide (s < 0) = false) (d1 : decide (t < 0) = false) (d2 : decide (o < 0) = true)  (w : World) : Calls Try.prog 19 #[.agg #[.int .i64 s, .int .i64 t, .int .i64 o]] w fun e w' => e = .returned (.bool false) ∧ Kept w w' := by
  go_enter Try.func19, Try.ntmps19
  go_upto_region 1 with fail
  generalize hW : World.alloc w (.cells #[.int .i64 s, .int .i64 t, .int .i64 o] 23) = W_f
  have K_f : Kept w W_f := by subst hW; exact (Kept.refl _).alloc _ _
  have H_f := Lib.hid (show W_f.cell? ⟨w.heap.size, 0, none⟩ = some (.int .i64 s) ∧ W_f.cell? ⟨w.heap.size, 1, none⟩ = some (.int .i64 t) ∧ W_f.cell? ⟨w.heap.size, 2, none⟩ = some (.int .i64 o) from by subst hW; simp [go_sem])
  clear hW
  generalize w.heap.size = g_f at *
  obtain ⟨cf0, cf1, cf2⟩ := Kept.all3 (show Kept W_f W_f from (by (repeat (first | with_reducible exact Kept.refl _ | with_reducible apply Kept.drew | with_reducible apply Kept.alloc | ((with_reducible apply Kept.set); focus (simp <;> omega)) | ((with_reducible apply Kept.via); focus with_reducible assumption))))) H_f
  go_wp2
  go_ret
  exact ⟨rfl, (by (repeat (first | with_reducible exact Kept.refl _ | with_reducible apply Kept.drew | with_reducible apply Kept.alloc | ((with_reducible apply Kept.set); focus (simp <;> omega)) | ((with_reducible apply Kept.via); focus with_reducible assumption))))⟩
set_option maxRecDepth 100000 in
set_option maxHeartbeats 1600000 in
theorem rck16_over {s t o v x : Int} (d0 : decide (s < 0) = false) (d1 : decide (t < 0) = false) (d2 : decide (o < 0) = false) (z : (x == 0) = false) (z2 : ¬ x = 0) (PL : ∀ w, Calls Try.prog 25 #[.int .i64 t, .int .i64 o] w fun e w' => e = .returned (.tuple #[.int .i64 v, .int .i64 x]) ∧ Kept w w') (w : World) : Calls Try.prog 19 #[.agg #[.int .i64 s, .int .i64 t, .int .i64 o]] w fun e w' => e = .returned (.bool false) ∧ Kept w w' := by
  have PL' := Lib.hid PL
  clear PL
  go_enter Try.func19, Try.ntmps19
  go_upto_region 1 with fail
  generalize hW : World.alloc w (.cells #[.int .i64 s, .int .i64 t, .int .i64 o] 23) = W_f
  have K_f : Kept w W_f := by subst hW; exact (Kept.refl _).alloc _ _
  have H_f := Lib.hid (show W_f.cell? ⟨w.heap.size, 0, none⟩ = some (.int .i64 s) ∧ W_f.cell? ⟨w.heap.size, 1, none⟩ = some (.int .i64 t) ∧ W_f.cell? ⟨w.heap.size, 2, none⟩ = some (.int .i64 o) from by subst hW; simp [go_sem])
  clear hW
  generalize w.heap.size = g_f at *
  obtain ⟨cf0, cf1, cf2⟩ := Kept.all3 (show Kept W_f W_f from (by (repeat (first | with_reducible exact Kept.refl _ | with_reducible apply Kept.drew | with_reducible apply Kept.alloc | ((with_reducible apply Kept.set); focus (simp <;> omega)) | ((with_reducible apply Kept.via); focus with_reducible assumption))))) H_f
  go_wp2_with fail
  refine (PL'.out _).mono ?_
  rintro e w20 ⟨rfl, k20⟩
  clear cf0 cf1 cf2
  obtain ⟨cf0, cf1, cf2⟩ := Kept.all3 (show Kept W_f w20 from (by (repeat (first | with_reducible exact Kept.refl _ | with_reducible apply Kept.drew | with_reducible apply Kept.alloc | ((with_reducible apply Kept.set); focus (simp <;> omega)) | ((with_reducible apply Kept.via); focus with_reducible assumption))))) H_f
  go_wp2
  go_ret
  exact ⟨rfl, (by (repeat (first | with_reducible exact Kept.refl _ | with_reducible apply Kept.drew | with_reducible apply Kept.alloc | ((with_reducible apply Kept.set); focus (simp <;> omega)) | ((with_reducible apply Kept.via); focus with_reducible assumption))))⟩
set_option maxRecDepth 100000 in
set_option maxHeartbeats 1600000 in
theorem rck16_t {s t o v : Int} (d0 : decide (s < 0) = false) (d1 : decide (t < 0) = false) (d2 : decide (o < 0) = false) (d3 : decide (v ≤ s) = true) (PL : ∀ w, Calls Try.prog 25 #[.int .i64 t, .int .i64 o] w fun e w' => e = .returned (.tuple #[.int .i64 v, .int .i64 0]) ∧ Kept w w') (w : World) : Calls Try.prog 19 #[.agg #[.int .i64 s, .int .i64 t, .int .i64 o]] w fun e w' => e = .returned (.bool true) ∧ Kept w w' := by
  have PL' := Lib.hid PL
  clear PL
  go_enter Try.func19, Try.ntmps19
  go_upto_region 1 with fail
  generalize hW : World.alloc w (.cells #[.int .i64 s, .int .i64 t, .int .i64 o] 23) = W_f
  have K_f : Kept w W_f := by subst hW; exact (Kept.refl _).alloc _ _
  have H_f := Lib.hid (show W_f.cell? ⟨w.heap.size, 0, none⟩ = some (.int .i64 s) ∧ W_f.cell? ⟨w.heap.size, 1, none⟩ = some (.int .i64 t) ∧ W_f.cell? ⟨w.heap.size, 2, none⟩ = some (.int .i64 o) from by subst hW; simp [go_sem])
  clear hW
  generalize w.heap.size = g_f at *
  obtain ⟨cf0, cf1, cf2⟩ := Kept.all3 (show Kept W_f W_f from (by (repeat (first | with_reducible exact Kept.refl _ | with_reducible apply Kept.drew | with_reducible apply Kept.alloc | ((with_reducible apply Kept.set); focus (simp <;> omega)) | ((with_reducible apply Kept.via); focus with_reducible assumption))))) H_f
  go_wp2_with fail
  refine (PL'.out _).mono ?_
  rintro e w20 ⟨rfl, k20⟩
  clear cf0 cf1 cf2
  obtain ⟨cf0, cf1, cf2⟩ := Kept.all3 (show Kept W_f w20 from (by (repeat (first | with_reducible exact Kept.refl _ | with_reducible apply Kept.drew | with_reducible apply Kept.alloc | ((with_reducible apply Kept.set); focus (simp <;> omega)) | ((with_reducible apply Kept.via); focus with_reducible assumption))))) H_f
  go_wp2
  go_ret
  exact ⟨rfl, (by (repeat (first | with_reducible exact Kept.refl _ | with_reducible apply Kept.drew | with_reducible apply Kept.alloc | ((with_reducible apply Kept.set); focus (simp <;> omega)) | ((with_reducible apply Kept.via); focus with_reducible assumption))))⟩
set_option maxRecDepth 100000 in
set_option maxHeartbeats 1600000 in
theorem rck16_f {s t o v : Int} (d0 : decide (s < 0) = false) (d1 : decide (t < 0) = false) (d2 : decide (o < 0) = false) (d3 : decide (v ≤ s) = false) (PL : ∀ w, Calls Try.prog 25 #[.int .i64 t, .int .i64 o] w fun e w' => e = .returned (.tuple #[.int .i64 v, .int .i64 0]) ∧ Kept w w') (w : World) : Calls Try.prog 19 #[.agg #[.int .i64 s, .int .i64 t, .int .i64 o]] w fun e w' => e = .returned (.bool false) ∧ Kept w w' := by
  have PL' := Lib.hid PL
  clear PL
  go_enter Try.func19, Try.ntmps19
  go_upto_region 1 with fail
  generalize hW : World.alloc w (.cells #[.int .i64 s, .int .i64 t, .int .i64 o] 23) = W_f
  have K_f : Kept w W_f := by subst hW; exact (Kept.refl _).alloc _ _
  have H_f := Lib.hid (show W_f.cell? ⟨w.heap.size, 0, none⟩ = some (.int .i64 s) ∧ W_f.cell? ⟨w.heap.size, 1, none⟩ = some (.int .i64 t) ∧ W_f.cell? ⟨w.heap.size, 2, none⟩ = some (.int .i64 o) from by subst hW; simp [go_sem])
  clear hW
  generalize w.heap.size = g_f at *
  obtain ⟨cf0, cf1, cf2⟩ := Kept.all3 (show Kept W_f W_f from (by (repeat (first | with_reducible exact Kept.refl _ | with_reducible apply Kept.drew | with_reducible apply Kept.alloc | ((with_reducible apply Kept.set); focus (simp <;> omega)) | ((with_reducible apply Kept.via); focus with_reducible assumption))))) H_f
  go_wp2_with fail
  refine (PL'.out _).mono ?_
  rintro e w20 ⟨rfl, k20⟩
  clear cf0 cf1 cf2
  obtain ⟨cf0, cf1, cf2⟩ := Kept.all3 (show Kept W_f w20 from (by (repeat (first | with_reducible exact Kept.refl _ | with_reducible apply Kept.drew | with_reducible apply Kept.alloc | ((with_reducible apply Kept.set); focus (simp <;> omega)) | ((with_reducible apply Kept.via); focus with_reducible assumption))))) H_f
  go_wp2
  go_ret
  exact ⟨rfl, (by (repeat (first | with_reducible exact Kept.refl _ | with_reducible apply Kept.drew | with_reducible apply Kept.alloc | ((with_reducible apply Kept.set); focus (simp <;> omega)) | ((with_reducible apply Kept.via); focus with_reducible assumption))))⟩
theorem refCheck16_ok {s t o : Int} (v : Bool) (hs : In64 s) (ht : In64 t) (ho : In64 o) (hv : v = true ↔ MayF s t o) (w : World) : Calls Try.prog 19 #[.agg #[.int .i64 s, .int .i64 t, .int .i64 o]] w fun e w' => e = .returned (.bool v) ∧ Kept w w' := by
  have no : ¬ MayF s t o → v = false := fun m => by
    cases v with
    | false => rfl
    | true => exact absurd (hv.1 rfl) m
  by_cases a : s < 0
  · rw [no (by unfold MayF; omega)]; exact rck16_n0 (by simp [a]) w
  · by_cases b : t < 0
    · rw [no (by unfold MayF; omega)]; exact rck16_n1 (by simp; omega) (by simp [b]) w
    · by_cases c : o < 0
      · rw [no (by unfold MayF; omega)]; exact rck16_n2 (by simp; omega) (by simp; omega) (by simp [c]) w
      · have PL := fun w => plusLift16 ht ho rfl rfl w
        by_cases i : In64 (t + o)
        · rw [overV_in i, overE_in i] at PL
          by_cases l : t + o ≤ s
          · rw [hv.2 (by unfold MayF; omega)]; exact rck16_t (by simp; omega) (by simp; omega) (by simp; omega) (by simp [l]) PL w
          · rw [no (by unfold MayF; omega)]; exact rck16_f (by simp; omega) (by simp; omega) (by simp; omega) (by simp; omega) PL w
        · rw [overV_no i, overE_no i] at PL
          rw [no (by unfold MayF; unfold In64 at *; omega)]
          exact rck16_over (by simp; omega) (by simp; omega) (by simp; omega) (by decide) (by decide) PL w
set_option maxRecDepth 100000 in
set_option maxHeartbeats 1600000 in
theorem rrm16_n {s t o room : Int} (CK : ∀ w, Calls Try.prog 19 #[.agg #[.int .i64 s, .int .i64 t, .int .i64 o]] w fun e w' => e = .returned (.bool false) ∧ Kept w w') (w : World) : Calls Try.prog 21 #[.agg #[.int .i64 s, .int .i64 t, .int .i64 o], .int .i64 room] w fun e w' => e = .returned (.int .i64 0) ∧ Kept w w' := by
  have CK' := Lib.hid CK
  clear CK
  go_enter Try.func21, Try.ntmps21
  go_upto_region 1 with fail
  generalize hW : World.alloc w (.cells #[.int .i64 s, .int .i64 t, .int .i64 o] 23) = W_f
  have K_f : Kept w W_f := by subst hW; exact (Kept.refl _).alloc _ _
  have H_f := Lib.hid (show W_f.cell? ⟨w.heap.size, 0, none⟩ = some (.int .i64 s) ∧ W_f.cell? ⟨w.heap.size, 1, none⟩ = some (.int .i64 t) ∧ W_f.cell? ⟨w.heap.size, 2, none⟩ = some (.int .i64 o) from by subst hW; simp [go_sem])
  clear hW
  generalize w.heap.size = g_f at *
  obtain ⟨cf0, cf1, cf2⟩ := Kept.all3 (show Kept W_f W_f from (by (repeat (first | with_reducible exact Kept.refl _ | with_reducible apply Kept.drew | with_reducible apply Kept.alloc | ((with_reducible apply Kept.set); focus (simp <;> omega)) | ((with_reducible apply Kept.via); focus with_reducible assumption))))) H_f
  go_wp2_with fail
  refine (CK'.out _).mono ?_
  rintro e w20 ⟨rfl, k20⟩
  clear cf0 cf1 cf2
  obtain ⟨cf0, cf1, cf2⟩ := Kept.all3 (show Kept W_f w20 from (by (repeat (first | with_reducible exact Kept.refl _ | with_reducible apply Kept.drew | with_reducible apply Kept.alloc | ((with_reducible apply Kept.set); focus (simp <;> omega)) | ((with_reducible apply Kept.via); focus with_reducible assumption))))) H_f
  go_wp2
  go_ret
  exact ⟨rfl, (by (repeat (first | with_reducible exact Kept.refl _ | with_reducible apply Kept.drew | with_reducible apply Kept.alloc | ((with_reducible apply Kept.set); focus (simp <;> omega)) | ((with_reducible apply Kept.via); focus with_reducible assumption))))⟩
set_option maxRecDepth 100000 in
set_option maxHeartbeats 1600000 in
theorem rrm16_z {s t o room : Int} (d0 : decide (room ≤ o) = true) (CK : ∀ w, Calls Try.prog 19 #[.agg #[.int .i64 s, .int .i64 t, .int .i64 o]] w fun e w' => e = .returned (.bool true) ∧ Kept w w') (w : World) : Calls Try.prog 21 #[.agg #[.int .i64 s, .int .i64 t, .int .i64 o], .int .i64 room] w fun e w' => e = .returned (.int .i64 0) ∧ Kept w w' := by
  have CK' := Lib.hid CK
  clear CK
  go_enter Try.func21, Try.ntmps21
  go_upto_region 1 with fail
  generalize hW : World.alloc w (.cells #[.int .i64 s, .int .i64 t, .int .i64 o] 23) = W_f
  have K_f : Kept w W_f := by subst hW; exact (Kept.refl _).alloc _ _
  have H_f := Lib.hid (show W_f.cell? ⟨w.heap.size, 0, none⟩ = some (.int .i64 s) ∧ W_f.cell? ⟨w.heap.size, 1, none⟩ = some (.int .i64 t) ∧ W_f.cell? ⟨w.heap.size, 2, none⟩ = some (.int .i64 o) from by subst hW; simp [go_sem])
  clear hW
  generalize w.heap.size = g_f at *
  obtain ⟨cf0, cf1, cf2⟩ := Kept.all3 (show Kept W_f W_f from (by (repeat (first | with_reducible exact Kept.refl _ | with_reducible apply Kept.drew | with_reducible apply Kept.alloc | ((with_reducible apply Kept.set); focus (simp <;> omega)) | ((with_reducible apply Kept.via); focus with_reducible assumption))))) H_f
  go_wp2_with fail
  refine (CK'.out _).mono ?_
  rintro e w20 ⟨rfl, k20⟩
  clear cf0 cf1 cf2
  obtain ⟨cf0, cf1, cf2⟩ := Kept.all3 (show Kept W_f w20 from (by (repeat (first | with_reducible exact Kept.refl _ | with_reducible apply Kept.drew | with_reducible apply Kept.alloc | ((with_reducible apply Kept.set); focus (simp <;> omega)) | ((with_reducible apply Kept.via); focus with_reducible assumption))))) H_f
  go_wp2
  go_ret
  exact ⟨rfl, (by (repeat (first | with_reducible exact Kept.refl _ | with_reducible apply Kept.drew | with_reducible apply Kept.alloc | ((with_reducible apply Kept.set); focus (simp <;> omega)) | ((with_reducible apply Kept.via); focus with_reducible assumption))))⟩
set_option maxRecDepth 100000 in
set_option maxHeartbeats 1600000 in
theorem rrm16_y {s t o room : Int} (d0 : decide (room ≤ o) = false) (ew : IntKind.i64.wrap (room - o) = room - o) (o0 : 0 ≤ o) (r1 : room ≤ 9223372036854775807) (l : o < room) (CK : ∀ w, Calls Try.prog 19 #[.agg #[.int .i64 s, .int .i64 t, .int .i64 o]] w fun e w' => e = .returned (.bool true) ∧ Kept w w') (w : World) : Calls Try.prog 21 #[.agg #[.int .i64 s, .int .i64 t, .int .i64 o], .int .i64 room] w fun e w' => e = .returned (.int .i64 (room - o)) ∧ Kept w w' := by
  have CK' := Lib.hid CK
  clear CK
  go_enter Try.func21, Try.ntmps21
  go_upto_region 1 with fail
  generalize hW : World.alloc w (.cells #[.int .i64 s, .int .i64 t, .int .i64 o] 23) = W_f
  have K_f : Kept w W_f := by subst hW; exact (Kept.refl _).alloc _ _
  have H_f := Lib.hid (show W_f.cell? ⟨w.heap.size, 0, none⟩ = some (.int .i64 s) ∧ W_f.cell? ⟨w.heap.size, 1, none⟩ = some (.int .i64 t) ∧ W_f.cell? ⟨w.heap.size, 2, none⟩ = some (.int .i64 o) from by subst hW; simp [go_sem])
  clear hW
  generalize w.heap.size = g_f at *
  obtain ⟨cf0, cf1, cf2⟩ := Kept.all3 (show Kept W_f W_f from (by (repeat (first | with_reducible exact Kept.refl _ | with_reducible apply Kept.drew | with_reducible apply Kept.alloc | ((with_reducible apply Kept.set); focus (simp <;> omega)) | ((with_reducible apply Kept.via); focus with_reducible assumption))))) H_f
  go_wp2_with fail
  refine (CK'.out _).mono ?_
  rintro e w20 ⟨rfl, k20⟩
  clear cf0 cf1 cf2
  obtain ⟨cf0, cf1, cf2⟩ := Kept.all3 (show Kept W_f w20 from (by (repeat (first | with_reducible exact Kept.refl _ | with_reducible apply Kept.drew | with_reducible apply Kept.alloc | ((with_reducible apply Kept.set); focus (simp <;> omega)) | ((with_reducible apply Kept.via); focus with_reducible assumption))))) H_f
  go_wp2
  go_ret
  exact ⟨rfl, (by (repeat (first | with_reducible exact Kept.refl _ | with_reducible apply Kept.drew | with_reducible apply Kept.alloc | ((with_reducible apply Kept.set); focus (simp <;> omega)) | ((with_reducible apply Kept.via); focus with_reducible assumption))))⟩
theorem refRoom16_ok {s t o room v : Int} (hs : In64 s) (ht : In64 t) (ho : In64 o) (hr : In64 room) (hv : roomF s t o room = v) (w : World) : Calls Try.prog 21 #[.agg #[.int .i64 s, .int .i64 t, .int .i64 o], .int .i64 room] w fun e w' => e = .returned (.int .i64 v) ∧ Kept w w' := by
  unfold roomF at hv
  by_cases m : MayF s t o
  · have CK := fun w => refCheck16_ok true hs ht ho (by simp [m]) w
    by_cases l : room ≤ o
    · rw [if_pos (Or.inr l)] at hv; subst hv; exact rrm16_z (by simp [l]) CK w
    · rw [if_neg (by intro z; rcases z with z | z; exact z m; exact l z)] at hv; subst hv
      have := m.2.2.1
      unfold In64 at hr
      exact rrm16_y (by simp; omega) (by rw [IntKind.wrap_i64]; omega) this (by omega) (by omega) CK w
  · rw [if_pos (Or.inl m)] at hv; subst hv
    exact rrm16_n (fun w => refCheck16_ok false hs ht ho (by simp [m]) w) w
set_option maxRecDepth 100000 in
set_option maxHeartbeats 1600000 in
theorem rsn16_m {s t o n room : Int}  (CK : ∀ w, Calls Try.prog 19 #[.agg #[.int .i64 s, .int .i64 t, .int .i64 o]] w fun e w' => e = .returned (.bool false) ∧ Kept w w') (w : World) : Calls Try.prog 13 #[.agg #[.int .i64 s, .int .i64 t, .int .i64 o], .int .i64 n, .int .i64 room] w fun e w' => e = .returned (.tuple #[.agg #[.int .i64 s, .int .i64 t, .int .i64 o], .int .i64 201]) ∧ Kept w w' := by
  have CK' := Lib.hid CK
  clear CK
  go_enter Try.func13, Try.ntmps13
  go_upto_region 1 with fail
  generalize hW : (World.alloc (World.alloc w (.cells #[.int .i64 s, .int .i64 t, .int .i64 o] 23)) (.cells #[.int .i64 0, .int .i64 0, .int .i64 0] 23)) = W0
  have R0_0 := Lib.hid (show RF W0 (w.heap.size) s t o from by subst hW; exact ⟨⟨by simp [go_sem], by simp [go_sem], by simp [go_sem]⟩, by simp [go_sem], by simp [go_sem], by simp [go_sem]⟩)
  have R1_0 := Lib.hid (show RF W0 (w.heap.size + 1) 0 0 0 from by subst hW; exact ⟨⟨by simp [go_sem], by simp [go_sem], by simp [go_sem]⟩, by simp [go_sem], by simp [go_sem], by simp [go_sem]⟩)
  have kz0 : Kept w W0 := by subst hW; exact (((Kept.refl _).alloc _ _).alloc _ _)
  clear hW
  generalize hg : w.heap.size = g at *
  have gw0 : w.heap.size ≤ g + 0 := by omega
  have gw1 : w.heap.size ≤ g + 1 := by omega
  obtain ⟨b00, b01, b02⟩ := R0_0.out.1
  go_wp2_with fail
  refine (CK'.out _).mono ?_
  rintro e v0 ⟨rfl, k0⟩
  clear b00 b01 b02
  have R0_1 := Lib.hid (R0_0.out.kept k0)
  have R1_1 := Lib.hid (R1_0.out.kept k0)
  have kz1 := Kept.trans kz0 k0
  clear kz0 R0_0 R1_0
  have ne0 := R0_1.out.ne
  have ne1 := R1_1.out.ne
  obtain ⟨⟨b00, b01, b02⟩, f00, f01, f02⟩ := R0_1.out
  obtain ⟨⟨b10, b11, b12⟩, f10, f11, f12⟩ := R1_1.out
  go_wp2
  simp [bodyPost, results, Try.results13, go_sem, *]
  exact (by (repeat (first | with_reducible exact Kept.refl _ | with_reducible apply Kept.drew | with_reducible apply Kept.alloc | ((with_reducible apply Kept.set); focus (simp <;> omega)) | ((with_reducible apply Kept.via); focus with_reducible assumption))))
set_option maxRecDepth 100000 in
set_option maxHeartbeats 1600000 in
theorem rsn16_n {s t o n room : Int} (d0 : decide (n < 1) = true) (CK : ∀ w, Calls Try.prog 19 #[.agg #[.int .i64 s, .int .i64 t, .int .i64 o]] w fun e w' => e = .returned (.bool true) ∧ Kept w w') (w : World) : Calls Try.prog 13 #[.agg #[.int .i64 s, .int .i64 t, .int .i64 o], .int .i64 n, .int .i64 room] w fun e w' => e = .returned (.tuple #[.agg #[.int .i64 s, .int .i64 t, .int .i64 o], .int .i64 201]) ∧ Kept w w' := by
  have CK' := Lib.hid CK
  clear CK
  go_enter Try.func13, Try.ntmps13
  go_upto_region 1 with fail
  generalize hW : (World.alloc (World.alloc w (.cells #[.int .i64 s, .int .i64 t, .int .i64 o] 23)) (.cells #[.int .i64 0, .int .i64 0, .int .i64 0] 23)) = W0
  have R0_0 := Lib.hid (show RF W0 (w.heap.size) s t o from by subst hW; exact ⟨⟨by simp [go_sem], by simp [go_sem], by simp [go_sem]⟩, by simp [go_sem], by simp [go_sem], by simp [go_sem]⟩)
  have R1_0 := Lib.hid (show RF W0 (w.heap.size + 1) 0 0 0 from by subst hW; exact ⟨⟨by simp [go_sem], by simp [go_sem], by simp [go_sem]⟩, by simp [go_sem], by simp [go_sem], by simp [go_sem]⟩)
  have kz0 : Kept w W0 := by subst hW; exact (((Kept.refl _).alloc _ _).alloc _ _)
  clear hW
  generalize hg : w.heap.size = g at *
  have gw0 : w.heap.size ≤ g + 0 := by omega
  have gw1 : w.heap.size ≤ g + 1 := by omega
  obtain ⟨b00, b01, b02⟩ := R0_0.out.1
  go_wp2_with fail
  refine (CK'.out _).mono ?_
  rintro e v0 ⟨rfl, k0⟩
  clear b00 b01 b02
  have R0_1 := Lib.hid (R0_0.out.kept k0)
  have R1_1 := Lib.hid (R1_0.out.kept k0)
  have kz1 := Kept.trans kz0 k0
  clear kz0 R0_0 R1_0
  have ne0 := R0_1.out.ne
  have ne1 := R1_1.out.ne
  obtain ⟨⟨b00, b01, b02⟩, f00, f01, f02⟩ := R0_1.out
  obtain ⟨⟨b10, b11, b12⟩, f10, f11, f12⟩ := R1_1.out
  go_wp2
  simp [bodyPost, results, Try.results13, go_sem, *]
  exact (by (repeat (first | with_reducible exact Kept.refl _ | with_reducible apply Kept.drew | with_reducible apply Kept.alloc | ((with_reducible apply Kept.set); focus (simp <;> omega)) | ((with_reducible apply Kept.via); focus with_reducible assumption))))
set_option maxRecDepth 100000 in
set_option maxHeartbeats 1600000 in
theorem rsn16_o {s t o n room v : Int} (d0 : decide (n < 1) = false) (CK : ∀ w, Calls Try.prog 19 #[.agg #[.int .i64 s, .int .i64 t, .int .i64 o]] w fun e w' => e = .returned (.bool true) ∧ Kept w w') (PN : ∀ w, Calls Try.prog 25 #[.int .i64 s, .int .i64 n] w fun e w' => e = .returned (.tuple #[.int .i64 v, .int .i64 10]) ∧ Kept w w') (w : World) : Calls Try.prog 13 #[.agg #[.int .i64 s, .int .i64 t, .int .i64 o], .int .i64 n, .int .i64 room] w fun e w' => e = .returned (.tuple #[.agg #[.int .i64 s, .int .i64 t, .int .i64 o], .int .i64 10]) ∧ Kept w w' := by
  have CK' := Lib.hid CK
  have PN' := Lib.hid PN
  clear CK PN
  go_enter Try.func13, Try.ntmps13
  go_upto_region 1 with fail
  generalize hW : (World.alloc (World.alloc w (.cells #[.int .i64 s, .int .i64 t, .int .i64 o] 23)) (.cells #[.int .i64 0, .int .i64 0, .int .i64 0] 23)) = W0
  have R0_0 := Lib.hid (show RF W0 (w.heap.size) s t o from by subst hW; exact ⟨⟨by simp [go_sem], by simp [go_sem], by simp [go_sem]⟩, by simp [go_sem], by simp [go_sem], by simp [go_sem]⟩)
  have R1_0 := Lib.hid (show RF W0 (w.heap.size + 1) 0 0 0 from by subst hW; exact ⟨⟨by simp [go_sem], by simp [go_sem], by simp [go_sem]⟩, by simp [go_sem], by simp [go_sem], by simp [go_sem]⟩)
  have kz0 : Kept w W0 := by subst hW; exact (((Kept.refl _).alloc _ _).alloc _ _)
  clear hW
  generalize hg : w.heap.size = g at *
  have gw0 : w.heap.size ≤ g + 0 := by omega
  have gw1 : w.heap.size ≤ g + 1 := by omega
  obtain ⟨b00, b01, b02⟩ := R0_0.out.1
  go_wp2_with fail
  refine (CK'.out _).mono ?_
  rintro e v0 ⟨rfl, k0⟩
  clear b00 b01 b02
  have R0_1 := Lib.hid (R0_0.out.kept k0)
  have R1_1 := Lib.hid (R1_0.out.kept k0)
  have kz1 := Kept.trans kz0 k0
  clear kz0 R0_0 R1_0
  obtain ⟨b00, b01, b02⟩ := R0_1.out.1
  go_wp2_with fail
  refine (PN'.out _).mono ?_
  rintro e v1 ⟨rfl, k1⟩
  clear b00 b01 b02
  have R0_2 := Lib.hid (R0_1.out.kept k1)
  have R1_2 := Lib.hid (R1_1.out.kept k1)
  have kz2 := Kept.trans kz1 k1
  clear kz1 R0_1 R1_1
  have ne0 := R0_2.out.ne
  have ne1 := R1_2.out.ne
  obtain ⟨⟨b00, b01, b02⟩, f00, f01, f02⟩ := R0_2.out
  obtain ⟨⟨b10, b11, b12⟩, f10, f11, f12⟩ := R1_2.out
  go_wp2
  simp [bodyPost, results, Try.results13, go_sem, *]
  exact (by (repeat (first | with_reducible exact Kept.refl _ | with_reducible apply Kept.drew | with_reducible apply Kept.alloc | ((with_reducible apply Kept.set); focus (simp <;> omega)) | ((with_reducible apply Kept.via); focus with_reducible assumption))))
set_option maxRecDepth 100000 in
set_option maxHeartbeats 1600000 in
theorem rsn16_w {s t o n room r : Int} (d0 : decide (n < 1) = false) (d1 : decide (r < n) = true) (CK : ∀ w, Calls Try.prog 19 #[.agg #[.int .i64 s, .int .i64 t, .int .i64 o]] w fun e w' => e = .returned (.bool true) ∧ Kept w w') (PN : ∀ w, Calls Try.prog 25 #[.int .i64 s, .int .i64 n] w fun e w' => e = .returned (.tuple #[.int .i64 (s + n), .int .i64 0]) ∧ Kept w w') (RM : ∀ w, Calls Try.prog 21 #[.agg #[.int .i64 s, .int .i64 t, .int .i64 o], .int .i64 room] w fun e w' => e = .returned (.int .i64 r) ∧ Kept w w') (w : World) : Calls Try.prog 13 #[.agg #[.int .i64 s, .int .i64 t, .int .i64 o], .int .i64 n, .int .i64 room] w fun e w' => e = .returned (.tuple #[.agg #[.int .i64 s, .int .i64 t, .int .i64 o], .int .i64 203]) ∧ Kept w w' := by
  have CK' := Lib.hid CK
  have PN' := Lib.hid PN
  have RM' := Lib.hid RM
  clear CK PN RM
  go_enter Try.func13, Try.ntmps13
  go_upto_region 1 with fail
  generalize hW : (World.alloc (World.alloc w (.cells #[.int .i64 s, .int .i64 t, .int .i64 o] 23)) (.cells #[.int .i64 0, .int .i64 0, .int .i64 0] 23)) = W0
  have R0_0 := Lib.hid (show RF W0 (w.heap.size) s t o from by subst hW; exact ⟨⟨by simp [go_sem], by simp [go_sem], by simp [go_sem]⟩, by simp [go_sem], by simp [go_sem], by simp [go_sem]⟩)
  have R1_0 := Lib.hid (show RF W0 (w.heap.size + 1) 0 0 0 from by subst hW; exact ⟨⟨by simp [go_sem], by simp [go_sem], by simp [go_sem]⟩, by simp [go_sem], by simp [go_sem], by simp [go_sem]⟩)
  have kz0 : Kept w W0 := by subst hW; exact (((Kept.refl _).alloc _ _).alloc _ _)
  clear hW
  generalize hg : w.heap.size = g at *
  have gw0 : w.heap.size ≤ g + 0 := by omega
  have gw1 : w.heap.size ≤ g + 1 := by omega
  obtain ⟨b00, b01, b02⟩ := R0_0.out.1
  go_wp2_with fail
  refine (CK'.out _).mono ?_
  rintro e v0 ⟨rfl, k0⟩
  clear b00 b01 b02
  have R0_1 := Lib.hid (R0_0.out.kept k0)
  have R1_1 := Lib.hid (R1_0.out.kept k0)
  have kz1 := Kept.trans kz0 k0
  clear kz0 R0_0 R1_0
  obtain ⟨b00, b01, b02⟩ := R0_1.out.1
  go_wp2_with fail
  refine (PN'.out _).mono ?_
  rintro e v1 ⟨rfl, k1⟩
  clear b00 b01 b02
  have R0_2 := Lib.hid (R0_1.out.kept k1)
  have R1_2 := Lib.hid (R1_1.out.kept k1)
  have kz2 := Kept.trans kz1 k1
  clear kz1 R0_1 R1_1
  obtain ⟨b00, b01, b02⟩ := R0_2.out.1
  go_wp2_with fail
  refine (RM'.out _).mono ?_
  rintro e v2 ⟨rfl, k2⟩
  clear b00 b01 b02
  have R0_3 := Lib.hid (R0_2.out.kept k2)
  have R1_3 := Lib.hid (R1_2.out.kept k2)
  have kz3 := Kept.trans kz2 k2
  clear kz2 R0_2 R1_2
  have ne0 := R0_3.out.ne
  have ne1 := R1_3.out.ne
  obtain ⟨⟨b00, b01, b02⟩, f00, f01, f02⟩ := R0_3.out
  obtain ⟨⟨b10, b11, b12⟩, f10, f11, f12⟩ := R1_3.out
  go_wp2
  simp [bodyPost, results, Try.results13, go_sem, *]
  exact (by (repeat (first | with_reducible exact Kept.refl _ | with_reducible apply Kept.drew | with_reducible apply Kept.alloc | ((with_reducible apply Kept.set); focus (simp <;> omega)) | ((with_reducible apply Kept.via); focus with_reducible assumption))))
set_option maxRecDepth 100000 in
set_option maxHeartbeats 1600000 in
theorem rsn16_y {s t o n room r : Int} (d0 : decide (n < 1) = false) (d1 : decide (r < n) = false) (ew : IntKind.i64.wrap (o + n) = o + n) (o0 : 0 ≤ o) (n0 : 1 ≤ n) (l : o + n ≤ 9223372036854775807) (CK : ∀ w, Calls Try.prog 19 #[.agg #[.int .i64 s, .int .i64 t, .int .i64 o]] w fun e w' => e = .returned (.bool true) ∧ Kept w w') (PN : ∀ w, Calls Try.prog 25 #[.int .i64 s, .int .i64 n] w fun e w' => e = .returned (.tuple #[.int .i64 (s + n), .int .i64 0]) ∧ Kept w w') (RM : ∀ w, Calls Try.prog 21 #[.agg #[.int .i64 s, .int .i64 t, .int .i64 o], .int .i64 room] w fun e w' => e = .returned (.int .i64 r) ∧ Kept w w') (w : World) : Calls Try.prog 13 #[.agg #[.int .i64 s, .int .i64 t, .int .i64 o], .int .i64 n, .int .i64 room] w fun e w' => e = .returned (.tuple #[.agg #[.int .i64 (s + n), .int .i64 t, .int .i64 (o + n)], .int .i64 0]) ∧ Kept w w' := by
  have CK' := Lib.hid CK
  have PN' := Lib.hid PN
  have RM' := Lib.hid RM
  clear CK PN RM
  go_enter Try.func13, Try.ntmps13
  go_upto_region 1 with fail
  generalize hW : (World.alloc (World.alloc w (.cells #[.int .i64 s, .int .i64 t, .int .i64 o] 23)) (.cells #[.int .i64 0, .int .i64 0, .int .i64 0] 23)) = W0
  have R0_0 := Lib.hid (show RF W0 (w.heap.size) s t o from by subst hW; exact ⟨⟨by simp [go_sem], by simp [go_sem], by simp [go_sem]⟩, by simp [go_sem], by simp [go_sem], by simp [go_sem]⟩)
  have R1_0 := Lib.hid (show RF W0 (w.heap.size + 1) 0 0 0 from by subst hW; exact ⟨⟨by simp [go_sem], by simp [go_sem], by simp [go_sem]⟩, by simp [go_sem], by simp [go_sem], by simp [go_sem]⟩)
  have kz0 : Kept w W0 := by subst hW; exact (((Kept.refl _).alloc _ _).alloc _ _)
  clear hW
  generalize hg : w.heap.size = g at *
  have gw0 : w.heap.size ≤ g + 0 := by omega
  have gw1 : w.heap.size ≤ g + 1 := by omega
  obtain ⟨b00, b01, b02⟩ := R0_0.out.1
  go_wp2_with fail
  refine (CK'.out _).mono ?_
  rintro e v0 ⟨rfl, k0⟩
  clear b00 b01 b02
  have R0_1 := Lib.hid (R0_0.out.kept k0)
  have R1_1 := Lib.hid (R1_0.out.kept k0)
  have kz1 := Kept.trans kz0 k0
  clear kz0 R0_0 R1_0
  obtain ⟨b00, b01, b02⟩ := R0_1.out.1
  go_wp2_with fail
  refine (PN'.out _).mono ?_
  rintro e v1 ⟨rfl, k1⟩
  clear b00 b01 b02
  have R0_2 := Lib.hid (R0_1.out.kept k1)
  have R1_2 := Lib.hid (R1_1.out.kept k1)
  have kz2 := Kept.trans kz1 k1
  clear kz1 R0_1 R1_1
  obtain ⟨b00, b01, b02⟩ := R0_2.out.1
  go_wp2_with fail
  refine (RM'.out _).mono ?_
  rintro e v2 ⟨rfl, k2⟩
  clear b00 b01 b02
  have R0_3 := Lib.hid (R0_2.out.kept k2)
  have R1_3 := Lib.hid (R1_2.out.kept k2)
  have kz3 := Kept.trans kz2 k2
  clear kz2 R0_2 R1_2
  have ne0 := R0_3.out.ne
  have ne1 := R1_3.out.ne
  obtain ⟨⟨b00, b01, b02⟩, f00, f01, f02⟩ := R0_3.out
  obtain ⟨⟨b10, b11, b12⟩, f10, f11, f12⟩ := R1_3.out
  go_wp2
  simp [bodyPost, results, Try.results13, go_sem, *]
  exact (by (repeat (first | with_reducible exact Kept.refl _ | with_reducible apply Kept.drew | with_reducible apply Kept.alloc | ((with_reducible apply Kept.set); focus (simp <;> omega)) | ((with_reducible apply Kept.via); focus with_reducible assumption))))
theorem refSend16_ok {s t o n room s' t' o' er : Int} (hs : In64 s) (ht : In64 t) (ho : In64 o) (hn : In64 n) (hr : In64 room) (f : SendIs s t o n room s' t' o' er) (w : World) : Calls Try.prog 13 #[.agg #[.int .i64 s, .int .i64 t, .int .i64 o], .int .i64 n, .int .i64 room] w fun e w' => e = .returned (.tuple #[.agg #[.int .i64 s', .int .i64 t', .int .i64 o'], .int .i64 er]) ∧ Kept w w' := by
  have PN := fun w => plusLift16 hs hn rfl rfl w
  rcases f with ⟨f, rfl, rfl, rfl, rfl⟩ | ⟨m, n0, l, rfl, rfl, rfl, rfl⟩ | ⟨m, n0, l, d, rfl, rfl, rfl, rfl⟩ | ⟨m, n0, l, d, rfl, rfl, rfl, rfl⟩
  · by_cases m : MayF s' t' o'
    · exact rsn16_n (by simp; rcases (show n < 1 ∨ 1 ≤ n by omega) with z | z; omega; exact absurd ⟨m, z⟩ f) (fun w => refCheck16_ok true hs ht ho (by simp [m]) w) w
    · exact rsn16_m (fun w => refCheck16_ok false hs ht ho (by simp [m]) w) w
  · have i : ¬ In64 (s' + n) := by unfold In64; omega
    rw [overE_no i] at PN
    exact rsn16_o (by simp; omega) (fun w => refCheck16_ok true hs ht ho (by simp [m]) w) PN w
  · have m0 := m.1
    have i : In64 (s' + n) := by unfold In64; omega
    rw [overE_in i, overV_in i] at PN
    exact rsn16_w (by simp; omega) (by simp [d]) (fun w => refCheck16_ok true hs ht ho (by simp [m]) w) PN (fun w => refRoom16_ok hs ht ho hr rfl w) w
  · have m0 := m.1
    have i : In64 (s + n) := by unfold In64; omega
    rw [overE_in i, overV_in i] at PN
    have r : o + n ≤ 9223372036854775807 := by
      unfold roomF at d; unfold In64 at hr
      split at d <;> omega
    have o0 := m.2.2.1
    exact rsn16_y (by simp; omega) (by simp; omega) (by rw [IntKind.wrap_i64]; omega) o0 n0 r (fun w => refCheck16_ok true hs ht ho (by simp [m]) w) PN (fun w => refRoom16_ok hs ht ho hr rfl w) w
set_option maxRecDepth 100000 in
set_option maxHeartbeats 1600000 in
theorem rls16_m {s t o n d : Int}  (CK : ∀ w, Calls Try.prog 19 #[.agg #[.int .i64 s, .int .i64 t, .int .i64 o]] w fun e w' => e = .returned (.bool false) ∧ Kept w w') (w : World) : Calls Try.prog 15 #[.agg #[.int .i64 s, .int .i64 t, .int .i64 o], .int .i64 n, .int .i64 d] w fun e w' => e = .returned (.tuple #[.agg #[.int .i64 s, .int .i64 t, .int .i64 o], .int .i64 201]) ∧ Kept w w' := by
  have CK' := Lib.hid CK
  clear CK
  go_enter Try.func15, Try.ntmps15
  go_upto_region 1 with fail
  generalize hW : (World.alloc (World.alloc w (.cells #[.int .i64 s, .int .i64 t, .int .i64 o] 23)) (.cells #[.int .i64 0, .int .i64 0, .int .i64 0] 23)) = W0
  have R0_0 := Lib.hid (show RF W0 (w.heap.size) s t o from by subst hW; exact ⟨⟨by simp [go_sem], by simp [go_sem], by simp [go_sem]⟩, by simp [go_sem], by simp [go_sem], by simp [go_sem]⟩)
  have R1_0 := Lib.hid (show RF W0 (w.heap.size + 1) 0 0 0 from by subst hW; exact ⟨⟨by simp [go_sem], by simp [go_sem], by simp [go_sem]⟩, by simp [go_sem], by simp [go_sem], by simp [go_sem]⟩)
  have kz0 : Kept w W0 := by subst hW; exact (((Kept.refl _).alloc _ _).alloc _ _)
  clear hW
  generalize hg : w.heap.size = g at *
  have gw0 : w.heap.size ≤ g + 0 := by omega
  have gw1 : w.heap.size ≤ g + 1 := by omega
  obtain ⟨b00, b01, b02⟩ := R0_0.out.1
  go_wp2_with fail
  refine (CK'.out _).mono ?_
  rintro e v0 ⟨rfl, k0⟩
  clear b00 b01 b02
  have R0_1 := Lib.hid (R0_0.out.kept k0)
  have R1_1 := Lib.hid (R1_0.out.kept k0)
  have kz1 := Kept.trans kz0 k0
  clear kz0 R0_0 R1_0
  have ne0 := R0_1.out.ne
  have ne1 := R1_1.out.ne
  obtain ⟨⟨b00, b01, b02⟩, f00, f01, f02⟩ := R0_1.out
  obtain ⟨⟨b10, b11, b12⟩, f10, f11, f12⟩ := R1_1.out
  go_wp2
  simp [bodyPost, results, Try.results15, go_sem, *]
  exact (by (repeat (first | with_reducible exact Kept.refl _ | with_reducible apply Kept.drew | with_reducible apply Kept.alloc | ((with_reducible apply Kept.set); focus (simp <;> omega)) | ((with_reducible apply Kept.via); focus with_reducible assumption))))
set_option maxRecDepth 100000 in
set_option maxHeartbeats 1600000 in
theorem rls16_n {s t o n d : Int} (d0 : decide (n < 1) = true) (CK : ∀ w, Calls Try.prog 19 #[.agg #[.int .i64 s, .int .i64 t, .int .i64 o]] w fun e w' => e = .returned (.bool true) ∧ Kept w w') (w : World) : Calls Try.prog 15 #[.agg #[.int .i64 s, .int .i64 t, .int .i64 o], .int .i64 n, .int .i64 d] w fun e w' => e = .returned (.tuple #[.agg #[.int .i64 s, .int .i64 t, .int .i64 o], .int .i64 201]) ∧ Kept w w' := by
  have CK' := Lib.hid CK
  clear CK
  go_enter Try.func15, Try.ntmps15
  go_upto_region 1 with fail
  generalize hW : (World.alloc (World.alloc w (.cells #[.int .i64 s, .int .i64 t, .int .i64 o] 23)) (.cells #[.int .i64 0, .int .i64 0, .int .i64 0] 23)) = W0
  have R0_0 := Lib.hid (show RF W0 (w.heap.size) s t o from by subst hW; exact ⟨⟨by simp [go_sem], by simp [go_sem], by simp [go_sem]⟩, by simp [go_sem], by simp [go_sem], by simp [go_sem]⟩)
  have R1_0 := Lib.hid (show RF W0 (w.heap.size + 1) 0 0 0 from by subst hW; exact ⟨⟨by simp [go_sem], by simp [go_sem], by simp [go_sem]⟩, by simp [go_sem], by simp [go_sem], by simp [go_sem]⟩)
  have kz0 : Kept w W0 := by subst hW; exact (((Kept.refl _).alloc _ _).alloc _ _)
  clear hW
  generalize hg : w.heap.size = g at *
  have gw0 : w.heap.size ≤ g + 0 := by omega
  have gw1 : w.heap.size ≤ g + 1 := by omega
  obtain ⟨b00, b01, b02⟩ := R0_0.out.1
  go_wp2_with fail
  refine (CK'.out _).mono ?_
  rintro e v0 ⟨rfl, k0⟩
  clear b00 b01 b02
  have R0_1 := Lib.hid (R0_0.out.kept k0)
  have R1_1 := Lib.hid (R1_0.out.kept k0)
  have kz1 := Kept.trans kz0 k0
  clear kz0 R0_0 R1_0
  have ne0 := R0_1.out.ne
  have ne1 := R1_1.out.ne
  obtain ⟨⟨b00, b01, b02⟩, f00, f01, f02⟩ := R0_1.out
  obtain ⟨⟨b10, b11, b12⟩, f10, f11, f12⟩ := R1_1.out
  go_wp2
  simp [bodyPost, results, Try.results15, go_sem, *]
  exact (by (repeat (first | with_reducible exact Kept.refl _ | with_reducible apply Kept.drew | with_reducible apply Kept.alloc | ((with_reducible apply Kept.set); focus (simp <;> omega)) | ((with_reducible apply Kept.via); focus with_reducible assumption))))
set_option maxRecDepth 100000 in
set_option maxHeartbeats 1600000 in
theorem rls16_f {s t o n d : Int} (d0 : decide (n < 1) = false) (d1 : decide (o < n) = true) (CK : ∀ w, Calls Try.prog 19 #[.agg #[.int .i64 s, .int .i64 t, .int .i64 o]] w fun e w' => e = .returned (.bool true) ∧ Kept w w') (w : World) : Calls Try.prog 15 #[.agg #[.int .i64 s, .int .i64 t, .int .i64 o], .int .i64 n, .int .i64 d] w fun e w' => e = .returned (.tuple #[.agg #[.int .i64 s, .int .i64 t, .int .i64 o], .int .i64 202]) ∧ Kept w w' := by
  have CK' := Lib.hid CK
  clear CK
  go_enter Try.func15, Try.ntmps15
  go_upto_region 1 with fail
  generalize hW : (World.alloc (World.alloc w (.cells #[.int .i64 s, .int .i64 t, .int .i64 o] 23)) (.cells #[.int .i64 0, .int .i64 0, .int .i64 0] 23)) = W0
  have R0_0 := Lib.hid (show RF W0 (w.heap.size) s t o from by subst hW; exact ⟨⟨by simp [go_sem], by simp [go_sem], by simp [go_sem]⟩, by simp [go_sem], by simp [go_sem], by simp [go_sem]⟩)
  have R1_0 := Lib.hid (show RF W0 (w.heap.size + 1) 0 0 0 from by subst hW; exact ⟨⟨by simp [go_sem], by simp [go_sem], by simp [go_sem]⟩, by simp [go_sem], by simp [go_sem], by simp [go_sem]⟩)
  have kz0 : Kept w W0 := by subst hW; exact (((Kept.refl _).alloc _ _).alloc _ _)
  clear hW
  generalize hg : w.heap.size = g at *
  have gw0 : w.heap.size ≤ g + 0 := by omega
  have gw1 : w.heap.size ≤ g + 1 := by omega
  obtain ⟨b00, b01, b02⟩ := R0_0.out.1
  go_wp2_with fail
  refine (CK'.out _).mono ?_
  rintro e v0 ⟨rfl, k0⟩
  clear b00 b01 b02
  have R0_1 := Lib.hid (R0_0.out.kept k0)
  have R1_1 := Lib.hid (R1_0.out.kept k0)
  have kz1 := Kept.trans kz0 k0
  clear kz0 R0_0 R1_0
  have ne0 := R0_1.out.ne
  have ne1 := R1_1.out.ne
  obtain ⟨⟨b00, b01, b02⟩, f00, f01, f02⟩ := R0_1.out
  obtain ⟨⟨b10, b11, b12⟩, f10, f11, f12⟩ := R1_1.out
  go_wp2
  simp [bodyPost, results, Try.results15, go_sem, *]
  exact (by (repeat (first | with_reducible exact Kept.refl _ | with_reducible apply Kept.drew | with_reducible apply Kept.alloc | ((with_reducible apply Kept.set); focus (simp <;> omega)) | ((with_reducible apply Kept.via); focus with_reducible assumption))))
set_option maxRecDepth 100000 in
set_option maxHeartbeats 1600000 in
theorem rls16_y {s t o n d : Int} (d0 : decide (n < 1) = false) (d1 : decide (o < n) = false) (n0 : 1 ≤ n) (l : n ≤ o) (o1 : o ≤ 9223372036854775807) (t0 : 0 ≤ t + d) (t1 : t + d ≤ 9223372036854775807) (CK : ∀ w, Calls Try.prog 19 #[.agg #[.int .i64 s, .int .i64 t, .int .i64 o]] w fun e w' => e = .returned (.bool true) ∧ Kept w w') (w : World) : Calls Try.prog 15 #[.agg #[.int .i64 s, .int .i64 t, .int .i64 o], .int .i64 n, .int .i64 d] w fun e w' => e = .returned (.tuple #[.agg #[.int .i64 s, .int .i64 (t + d), .int .i64 (o - n)], .int .i64 0]) ∧ Kept w w' := by
  have CK' := Lib.hid CK
  clear CK
  go_enter Try.func15, Try.ntmps15
  go_upto_region 1 with fail
  generalize hW : (World.alloc (World.alloc w (.cells #[.int .i64 s, .int .i64 t, .int .i64 o] 23)) (.cells #[.int .i64 0, .int .i64 0, .int .i64 0] 23)) = W0
  have R0_0 := Lib.hid (show RF W0 (w.heap.size) s t o from by subst hW; exact ⟨⟨by simp [go_sem], by simp [go_sem], by simp [go_sem]⟩, by simp [go_sem], by simp [go_sem], by simp [go_sem]⟩)
  have R1_0 := Lib.hid (show RF W0 (w.heap.size + 1) 0 0 0 from by subst hW; exact ⟨⟨by simp [go_sem], by simp [go_sem], by simp [go_sem]⟩, by simp [go_sem], by simp [go_sem], by simp [go_sem]⟩)
  have kz0 : Kept w W0 := by subst hW; exact (((Kept.refl _).alloc _ _).alloc _ _)
  clear hW
  generalize hg : w.heap.size = g at *
  have gw0 : w.heap.size ≤ g + 0 := by omega
  have gw1 : w.heap.size ≤ g + 1 := by omega
  obtain ⟨b00, b01, b02⟩ := R0_0.out.1
  go_wp2_with fail
  refine (CK'.out _).mono ?_
  rintro e v0 ⟨rfl, k0⟩
  clear b00 b01 b02
  have R0_1 := Lib.hid (R0_0.out.kept k0)
  have R1_1 := Lib.hid (R1_0.out.kept k0)
  have kz1 := Kept.trans kz0 k0
  clear kz0 R0_0 R1_0
  have ne0 := R0_1.out.ne
  have ne1 := R1_1.out.ne
  obtain ⟨⟨b00, b01, b02⟩, f00, f01, f02⟩ := R0_1.out
  obtain ⟨⟨b10, b11, b12⟩, f10, f11, f12⟩ := R1_1.out
  go_wp2
  simp [bodyPost, results, Try.results15, go_sem, *]
  exact (by (repeat (first | with_reducible exact Kept.refl _ | with_reducible apply Kept.drew | with_reducible apply Kept.alloc | ((with_reducible apply Kept.set); focus (simp <;> omega)) | ((with_reducible apply Kept.via); focus with_reducible assumption))))
theorem refLess16_ok {s t o n d s' t' o' er : Int} (hs : In64 s) (ht : In64 t) (ho : In64 o) (hd : d = 0 ∨ d = n) (f : LessIs s t o n d s' t' o' er) (w : World) : Calls Try.prog 15 #[.agg #[.int .i64 s, .int .i64 t, .int .i64 o], .int .i64 n, .int .i64 d] w fun e w' => e = .returned (.tuple #[.agg #[.int .i64 s', .int .i64 t', .int .i64 o'], .int .i64 er]) ∧ Kept w w' := by
  rcases f with ⟨f, rfl, rfl, rfl, rfl⟩ | ⟨m, n0, l, rfl, rfl, rfl, rfl⟩ | ⟨m, n0, l, rfl, rfl, rfl, rfl⟩
  · by_cases m : MayF s' t' o'
    · exact rls16_n (by simp; rcases (show n < 1 ∨ 1 ≤ n by omega) with z | z; omega; exact absurd ⟨m, z⟩ f) (fun w => refCheck16_ok true hs ht ho (by simp [m]) w) w
    · exact rls16_m (fun w => refCheck16_ok false hs ht ho (by simp [m]) w) w
  · exact rls16_f (by simp; omega) (by simp [l]) (fun w => refCheck16_ok true hs ht ho (by simp [m]) w) w
  · have q := m
    unfold MayF at q
    unfold In64 at *
    exact rls16_y (by simp; omega) (by simp; omega) n0 l (by omega) (by omega) (by omega) (fun w => refCheck16_ok true hs ht ho (by simp [m]) w) w
set_option maxRecDepth 100000 in
set_option maxHeartbeats 1600000 in
theorem rac16_0 {s t o y z a b c er : Int}  (SD : ∀ w, Calls Try.prog 13 #[.agg #[.int .i64 s, .int .i64 t, .int .i64 o], .int .i64 y, .int .i64 z] w fun e w' => e = .returned (.tuple #[.agg #[.int .i64 a, .int .i64 b, .int .i64 c], .int .i64 er]) ∧ Kept w w') (w : World) : Calls Try.prog 24 #[.agg #[.int .i64 s, .int .i64 t, .int .i64 o], .agg #[.int .i64 0, .int .i64 y, .int .i64 z]] w fun e w' => e = .returned (.tuple #[.agg #[.int .i64 a, .int .i64 b, .int .i64 c], .int .i64 er]) ∧ Kept w w' := by
  have SD' := Lib.hid SD
  clear SD
  go_enter Try.func24, Try.ntmps24
  go_upto_region 1 with fail
  generalize hW : (World.alloc (World.alloc (World.alloc w (.cells #[.int .i64 s, .int .i64 t, .int .i64 o] 23)) (.cells #[.int .i64 0, .int .i64 y, .int .i64 z] 38)) (.cells #[.int .i64 0, .int .i64 0, .int .i64 0] 23)) = W0
  have R0_0 := Lib.hid (show RF W0 (w.heap.size) s t o from by subst hW; exact ⟨⟨by simp [go_sem], by simp [go_sem], by simp [go_sem]⟩, by simp [go_sem], by simp [go_sem], by simp [go_sem]⟩)
  have R1_0 := Lib.hid (show RF W0 (w.heap.size + 1) 0 y z from by subst hW; exact ⟨⟨by simp [go_sem], by simp [go_sem], by simp [go_sem]⟩, by simp [go_sem], by simp [go_sem], by simp [go_sem]⟩)
  have R2_0 := Lib.hid (show RF W0 (w.heap.size + 2) 0 0 0 from by subst hW; exact ⟨⟨by simp [go_sem], by simp [go_sem], by simp [go_sem]⟩, by simp [go_sem], by simp [go_sem], by simp [go_sem]⟩)
  have kz0 : Kept w W0 := by subst hW; exact ((((Kept.refl _).alloc _ _).alloc _ _).alloc _ _)
  clear hW
  generalize hg : w.heap.size = g at *
  have gw0 : w.heap.size ≤ g + 0 := by omega
  have gw1 : w.heap.size ≤ g + 1 := by omega
  have gw2 : w.heap.size ≤ g + 2 := by omega
  obtain ⟨b00, b01, b02⟩ := R0_0.out.1
  obtain ⟨b10, b11, b12⟩ := R1_0.out.1
  go_wp2_with fail
  refine (SD'.out _).mono ?_
  rintro e v0 ⟨rfl, k0⟩
  clear b00 b01 b02
  clear b10 b11 b12
  have R0_1 := Lib.hid (R0_0.out.kept k0)
  have R1_1 := Lib.hid (R1_0.out.kept k0)
  have R2_1 := Lib.hid (R2_0.out.kept k0)
  have kz1 := Kept.trans kz0 k0
  clear kz0 R0_0 R1_0 R2_0
  have ne0 := R0_1.out.ne
  have ne1 := R1_1.out.ne
  have ne2 := R2_1.out.ne
  obtain ⟨⟨b00, b01, b02⟩, f00, f01, f02⟩ := R0_1.out
  obtain ⟨⟨b10, b11, b12⟩, f10, f11, f12⟩ := R1_1.out
  obtain ⟨⟨b20, b21, b22⟩, f20, f21, f22⟩ := R2_1.out
  go_wp2
  simp [bodyPost, results, Try.results24, go_sem, *]
  exact (by (repeat (first | with_reducible exact Kept.refl _ | with_reducible apply Kept.drew | with_reducible apply Kept.alloc | ((with_reducible apply Kept.set); focus (simp <;> omega)) | ((with_reducible apply Kept.via); focus with_reducible assumption))))
set_option maxRecDepth 100000 in
set_option maxHeartbeats 1600000 in
theorem rac16_1 {s t o y z a b c er : Int}  (LS : ∀ w, Calls Try.prog 15 #[.agg #[.int .i64 s, .int .i64 t, .int .i64 o], .int .i64 y, .int .i64 y] w fun e w' => e = .returned (.tuple #[.agg #[.int .i64 a, .int .i64 b, .int .i64 c], .int .i64 er]) ∧ Kept w w') (w : World) : Calls Try.prog 24 #[.agg #[.int .i64 s, .int .i64 t, .int .i64 o], .agg #[.int .i64 1, .int .i64 y, .int .i64 z]] w fun e w' => e = .returned (.tuple #[.agg #[.int .i64 a, .int .i64 b, .int .i64 c], .int .i64 er]) ∧ Kept w w' := by
  have LS' := Lib.hid LS
  clear LS
  go_enter Try.func24, Try.ntmps24
  go_upto_region 1 with fail
  generalize hW : (World.alloc (World.alloc (World.alloc w (.cells #[.int .i64 s, .int .i64 t, .int .i64 o] 23)) (.cells #[.int .i64 1, .int .i64 y, .int .i64 z] 38)) (.cells #[.int .i64 0, .int .i64 0, .int .i64 0] 23)) = W0
  have R0_0 := Lib.hid (show RF W0 (w.heap.size) s t o from by subst hW; exact ⟨⟨by simp [go_sem], by simp [go_sem], by simp [go_sem]⟩, by simp [go_sem], by simp [go_sem], by simp [go_sem]⟩)
  have R1_0 := Lib.hid (show RF W0 (w.heap.size + 1) 1 y z from by subst hW; exact ⟨⟨by simp [go_sem], by simp [go_sem], by simp [go_sem]⟩, by simp [go_sem], by simp [go_sem], by simp [go_sem]⟩)
  have R2_0 := Lib.hid (show RF W0 (w.heap.size + 2) 0 0 0 from by subst hW; exact ⟨⟨by simp [go_sem], by simp [go_sem], by simp [go_sem]⟩, by simp [go_sem], by simp [go_sem], by simp [go_sem]⟩)
  have kz0 : Kept w W0 := by subst hW; exact ((((Kept.refl _).alloc _ _).alloc _ _).alloc _ _)
  clear hW
  generalize hg : w.heap.size = g at *
  have gw0 : w.heap.size ≤ g + 0 := by omega
  have gw1 : w.heap.size ≤ g + 1 := by omega
  have gw2 : w.heap.size ≤ g + 2 := by omega
  obtain ⟨b00, b01, b02⟩ := R0_0.out.1
  obtain ⟨b10, b11, b12⟩ := R1_0.out.1
  go_wp2_with fail
  refine (LS'.out _).mono ?_
  rintro e v0 ⟨rfl, k0⟩
  clear b00 b01 b02
  clear b10 b11 b12
  have R0_1 := Lib.hid (R0_0.out.kept k0)
  have R1_1 := Lib.hid (R1_0.out.kept k0)
  have R2_1 := Lib.hid (R2_0.out.kept k0)
  have kz1 := Kept.trans kz0 k0
  clear kz0 R0_0 R1_0 R2_0
  have ne0 := R0_1.out.ne
  have ne1 := R1_1.out.ne
  have ne2 := R2_1.out.ne
  obtain ⟨⟨b00, b01, b02⟩, f00, f01, f02⟩ := R0_1.out
  obtain ⟨⟨b10, b11, b12⟩, f10, f11, f12⟩ := R1_1.out
  obtain ⟨⟨b20, b21, b22⟩, f20, f21, f22⟩ := R2_1.out
  go_wp2
  simp [bodyPost, results, Try.results24, go_sem, *]
  exact (by (repeat (first | with_reducible exact Kept.refl _ | with_reducible apply Kept.drew | with_reducible apply Kept.alloc | ((with_reducible apply Kept.set); focus (simp <;> omega)) | ((with_reducible apply Kept.via); focus with_reducible assumption))))
set_option maxRecDepth 100000 in
set_option maxHeartbeats 1600000 in
theorem rac16_2 {s t o y z a b c er : Int}  (LS : ∀ w, Calls Try.prog 15 #[.agg #[.int .i64 s, .int .i64 t, .int .i64 o], .int .i64 y, .int .i64 0] w fun e w' => e = .returned (.tuple #[.agg #[.int .i64 a, .int .i64 b, .int .i64 c], .int .i64 er]) ∧ Kept w w') (w : World) : Calls Try.prog 24 #[.agg #[.int .i64 s, .int .i64 t, .int .i64 o], .agg #[.int .i64 2, .int .i64 y, .int .i64 z]] w fun e w' => e = .returned (.tuple #[.agg #[.int .i64 a, .int .i64 b, .int .i64 c], .int .i64 er]) ∧ Kept w w' := by
  have LS' := Lib.hid LS
  clear LS
  go_enter Try.func24, Try.ntmps24
  go_upto_region 1 with fail
  generalize hW : (World.alloc (World.alloc (World.alloc w (.cells #[.int .i64 s, .int .i64 t, .int .i64 o] 23)) (.cells #[.int .i64 2, .int .i64 y, .int .i64 z] 38)) (.cells #[.int .i64 0, .int .i64 0, .int .i64 0] 23)) = W0
  have R0_0 := Lib.hid (show RF W0 (w.heap.size) s t o from by subst hW; exact ⟨⟨by simp [go_sem], by simp [go_sem], by simp [go_sem]⟩, by simp [go_sem], by simp [go_sem], by simp [go_sem]⟩)
  have R1_0 := Lib.hid (show RF W0 (w.heap.size + 1) 2 y z from by subst hW; exact ⟨⟨by simp [go_sem], by simp [go_sem], by simp [go_sem]⟩, by simp [go_sem], by simp [go_sem], by simp [go_sem]⟩)
  have R2_0 := Lib.hid (show RF W0 (w.heap.size + 2) 0 0 0 from by subst hW; exact ⟨⟨by simp [go_sem], by simp [go_sem], by simp [go_sem]⟩, by simp [go_sem], by simp [go_sem], by simp [go_sem]⟩)
  have kz0 : Kept w W0 := by subst hW; exact ((((Kept.refl _).alloc _ _).alloc _ _).alloc _ _)
  clear hW
  generalize hg : w.heap.size = g at *
  have gw0 : w.heap.size ≤ g + 0 := by omega
  have gw1 : w.heap.size ≤ g + 1 := by omega
  have gw2 : w.heap.size ≤ g + 2 := by omega
  obtain ⟨b00, b01, b02⟩ := R0_0.out.1
  obtain ⟨b10, b11, b12⟩ := R1_0.out.1
  go_wp2_with fail
  refine (LS'.out _).mono ?_
  rintro e v0 ⟨rfl, k0⟩
  clear b00 b01 b02
  clear b10 b11 b12
  have R0_1 := Lib.hid (R0_0.out.kept k0)
  have R1_1 := Lib.hid (R1_0.out.kept k0)
  have R2_1 := Lib.hid (R2_0.out.kept k0)
  have kz1 := Kept.trans kz0 k0
  clear kz0 R0_0 R1_0 R2_0
  have ne0 := R0_1.out.ne
  have ne1 := R1_1.out.ne
  have ne2 := R2_1.out.ne
  obtain ⟨⟨b00, b01, b02⟩, f00, f01, f02⟩ := R0_1.out
  obtain ⟨⟨b10, b11, b12⟩, f10, f11, f12⟩ := R1_1.out
  obtain ⟨⟨b20, b21, b22⟩, f20, f21, f22⟩ := R2_1.out
  go_wp2
  simp [bodyPost, results, Try.results24, go_sem, *]
  exact (by (repeat (first | with_reducible exact Kept.refl _ | with_reducible apply Kept.drew | with_reducible apply Kept.alloc | ((with_reducible apply Kept.set); focus (simp <;> omega)) | ((with_reducible apply Kept.via); focus with_reducible assumption))))
set_option maxRecDepth 100000 in
set_option maxHeartbeats 1600000 in
theorem rac16_n {s t o x y z : Int} (z0 : (x == 0) = false) (y0 : ¬ x = 0) (z1 : (x == 1) = false) (y1 : ¬ x = 1) (z2 : (x == 2) = false) (y2 : ¬ x = 2)  (w : World) : Calls Try.prog 24 #[.agg #[.int .i64 s, .int .i64 t, .int .i64 o], .agg #[.int .i64 x, .int .i64 y, .int .i64 z]] w fun e w' => e = .returned (.tuple #[.agg #[.int .i64 s, .int .i64 t, .int .i64 o], .int .i64 201]) ∧ Kept w w' := by
  go_enter Try.func24, Try.ntmps24
  go_upto_region 1 with fail
  generalize hW : (World.alloc (World.alloc (World.alloc w (.cells #[.int .i64 s, .int .i64 t, .int .i64 o] 23)) (.cells #[.int .i64 x, .int .i64 y, .int .i64 z] 38)) (.cells #[.int .i64 0, .int .i64 0, .int .i64 0] 23)) = W0
  have R0_0 := Lib.hid (show RF W0 (w.heap.size) s t o from by subst hW; exact ⟨⟨by simp [go_sem], by simp [go_sem], by simp [go_sem]⟩, by simp [go_sem], by simp [go_sem], by simp [go_sem]⟩)
  have R1_0 := Lib.hid (show RF W0 (w.heap.size + 1) x y z from by subst hW; exact ⟨⟨by simp [go_sem], by simp [go_sem], by simp [go_sem]⟩, by simp [go_sem], by simp [go_sem], by simp [go_sem]⟩)
  have R2_0 := Lib.hid (show RF W0 (w.heap.size + 2) 0 0 0 from by subst hW; exact ⟨⟨by simp [go_sem], by simp [go_sem], by simp [go_sem]⟩, by simp [go_sem], by simp [go_sem], by simp [go_sem]⟩)
  have kz0 : Kept w W0 := by subst hW; exact ((((Kept.refl _).alloc _ _).alloc _ _).alloc _ _)
  clear hW
  generalize hg : w.heap.size = g at *
  have gw0 : w.heap.size ≤ g + 0 := by omega
  have gw1 : w.heap.size ≤ g + 1 := by omega
  have gw2 : w.heap.size ≤ g + 2 := by omega
  have ne0 := R0_0.out.ne
  have ne1 := R1_0.out.ne
  have ne2 := R2_0.out.ne
  obtain ⟨⟨b00, b01, b02⟩, f00, f01, f02⟩ := R0_0.out
  obtain ⟨⟨b10, b11, b12⟩, f10, f11, f12⟩ := R1_0.out
  obtain ⟨⟨b20, b21, b22⟩, f20, f21, f22⟩ := R2_0.out
  go_wp2
  simp [bodyPost, results, Try.results24, go_sem, *]
  exact (by (repeat (first | with_reducible exact Kept.refl _ | with_reducible apply Kept.drew | with_reducible apply Kept.alloc | ((with_reducible apply Kept.set); focus (simp <;> omega)) | ((with_reducible apply Kept.via); focus with_reducible assumption))))
theorem refAct16_ok {f f' : Fl} {x : Ac} {er : Int} (i : FlIn f) (j : FlIn x) (h : ActIs f x f' er) (w : World) : Calls Try.prog 24 #[.agg #[.int .i64 f.1, .int .i64 f.2.1, .int .i64 f.2.2], .agg #[.int .i64 x.1, .int .i64 x.2.1, .int .i64 x.2.2]] w fun e w' => e = .returned (.tuple #[.agg #[.int .i64 f'.1, .int .i64 f'.2.1, .int .i64 f'.2.2], .int .i64 er]) ∧ Kept w w' := by
  obtain ⟨s, t, o⟩ := f
  obtain ⟨x, y, z⟩ := x
  obtain ⟨a, b, c⟩ := f'
  obtain ⟨hs, ht, ho⟩ := i
  obtain ⟨hx, hy, hz⟩ := j
  simp only [] at hs ht ho hx hy hz ⊢
  rcases h with ⟨h0, h⟩ | ⟨h0, h⟩ | ⟨h0, h⟩ | ⟨h0, h, rfl⟩
  · simp only [] at h0 h
    subst h0
    exact rac16_0 (fun w => refSend16_ok hs ht ho hy hz h w) w
  · simp only [] at h0 h
    subst h0
    exact rac16_1 (fun w => refLess16_ok hs ht ho (Or.inr rfl) h w) w
  · simp only [] at h0 h
    subst h0
    exact rac16_2 (fun w => refLess16_ok hs ht ho (Or.inl rfl) h w) w
  · simp only [Prod.mk.injEq] at h0 h
    obtain ⟨rfl, rfl, rfl⟩ := h
    exact rac16_n (by simp; omega) (by omega) (by simp; omega) (by omega) (by simp; omega) (by omega) w
end Go.Proofs.Ytbaifhgjalaphaa
