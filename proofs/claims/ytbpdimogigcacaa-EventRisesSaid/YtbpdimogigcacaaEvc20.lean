/-
  What the calls of package event do.
-/
import Derived.Test.YtbpdimogigcacaaRefB20
import Derived.Test.YtbpdimogigcacaaMapOf
import Derived.Test.YtbpdimogigcacaaMade
import Derived.Test.YtbpdimogigcacaaCopyN
import Derived.Test.YtbpdimogigcacaaRoom
import Derived.OwnWalk
import Derived.Laws.StructEq
import Derived.Laws.EntriesVeiled
import Derived.BigRegion
import Derived.Deep.RegionHeld3
import Derived.Deep.RegionWith
import Derived.Deep.DeepCutAuto
namespace Go.Proofs.Ytbpdimogigcacaa
open Go.RowKit Go.BigFrame
set_option linter.unusedVariables false

set_option maxRecDepth 100000 in
set_option maxHeartbeats 1600000 in
theorem es_a {k a b r : Int} (d0 : decide (1 ≤ b) = false)  (w : World) : Calls Try.prog 27 #[.agg #[.int .i64 k, .int .i64 a, .int .i64 b, .int .i64 r]] w fun e w' => e = .returned (.bool false) ∧ Kept w w' := by
  go_enter Try.func27, Try.ntmps27
  go_upto_region 1 with fail
  generalize hW : World.alloc w (.cells #[.int .i64 k, .int .i64 a, .int .i64 b, .int .i64 r] 53) = W_f
  have K_f : Kept w W_f := by subst hW; exact (Kept.refl _).alloc _ _
  have H_f := Lib.hid (show W_f.cell? ⟨w.heap.size, 0, none⟩ = some (.int .i64 k) ∧ W_f.cell? ⟨w.heap.size, 1, none⟩ = some (.int .i64 a) ∧ W_f.cell? ⟨w.heap.size, 2, none⟩ = some (.int .i64 b) ∧ W_f.cell? ⟨w.heap.size, 3, none⟩ = some (.int .i64 r) from by subst hW; simp [go_sem])
  clear hW
  generalize w.heap.size = g_f at *
  obtain ⟨cf0, cf1, cf2, cf3⟩ := Kept.alln4 (show Kept W_f W_f from (by (repeat (first | with_reducible exact Kept.refl _ | with_reducible apply Kept.drew | with_reducible apply Kept.alloc | ((with_reducible apply Kept.set); focus (simp <;> omega)) | ((with_reducible apply Kept.via); focus with_reducible assumption))))) H_f
  go_wp2
  go_ret
  exact ⟨rfl, (by (repeat (first | with_reducible exact Kept.refl _ | with_reducible apply Kept.drew | with_reducible apply Kept.alloc | ((with_reducible apply Kept.set); focus (simp <;> omega)) | ((with_reducible apply Kept.via); focus with_reducible assumption))))⟩
set_option maxRecDepth 100000 in
set_option maxHeartbeats 1600000 in
theorem es_b {k a b r : Int} (d0 : decide (1 ≤ b) = true) (d1 : decide (b ≤ 1073741824) = false)  (w : World) : Calls Try.prog 27 #[.agg #[.int .i64 k, .int .i64 a, .int .i64 b, .int .i64 r]] w fun e w' => e = .returned (.bool false) ∧ Kept w w' := by
  go_enter Try.func27, Try.ntmps27
  go_upto_region 1 with fail
  generalize hW : World.alloc w (.cells #[.int .i64 k, .int .i64 a, .int .i64 b, .int .i64 r] 53) = W_f
  have K_f : Kept w W_f := by subst hW; exact (Kept.refl _).alloc _ _
  have H_f := Lib.hid (show W_f.cell? ⟨w.heap.size, 0, none⟩ = some (.int .i64 k) ∧ W_f.cell? ⟨w.heap.size, 1, none⟩ = some (.int .i64 a) ∧ W_f.cell? ⟨w.heap.size, 2, none⟩ = some (.int .i64 b) ∧ W_f.cell? ⟨w.heap.size, 3, none⟩ = some (.int .i64 r) from by subst hW; simp [go_sem])
  clear hW
  generalize w.heap.size = g_f at *
  obtain ⟨cf0, cf1, cf2, cf3⟩ := Kept.alln4 (show Kept W_f W_f from (by (repeat (first | with_reducible exact Kept.refl _ | with_reducible apply Kept.drew | with_reducible apply Kept.alloc | ((with_reducible apply Kept.set); focus (simp <;> omega)) | ((with_reducible apply Kept.via); focus with_reducible assumption))))) H_f
  go_wp2
  go_ret
  exact ⟨rfl, (by (repeat (first | with_reducible exact Kept.refl _ | with_reducible apply Kept.drew | with_reducible apply Kept.alloc | ((with_reducible apply Kept.set); focus (simp <;> omega)) | ((with_reducible apply Kept.via); focus with_reducible assumption))))⟩
set_option maxRecDepth 100000 in
set_option maxHeartbeats 1600000 in
theorem es_t {k a b r : Int} (d0 : decide (1 ≤ b) = true) (d1 : decide (b ≤ 1073741824) = true)  (w : World) : Calls Try.prog 27 #[.agg #[.int .i64 k, .int .i64 a, .int .i64 b, .int .i64 r]] w fun e w' => e = .returned (.bool true) ∧ Kept w w' := by
  go_enter Try.func27, Try.ntmps27
  go_upto_region 1 with fail
  generalize hW : World.alloc w (.cells #[.int .i64 k, .int .i64 a, .int .i64 b, .int .i64 r] 53) = W_f
  have K_f : Kept w W_f := by subst hW; exact (Kept.refl _).alloc _ _
  have H_f := Lib.hid (show W_f.cell? ⟨w.heap.size, 0, none⟩ = some (.int .i64 k) ∧ W_f.cell? ⟨w.heap.size, 1, none⟩ = some (.int .i64 a) ∧ W_f.cell? ⟨w.heap.size, 2, none⟩ = some (.int .i64 b) ∧ W_f.cell? ⟨w.heap.size, 3, none⟩ = some (.int .i64 r) from by subst hW; simp [go_sem])
  clear hW
  generalize w.heap.size = g_f at *
  obtain ⟨cf0, cf1, cf2, cf3⟩ := Kept.alln4 (show Kept W_f W_f from (by (repeat (first | with_reducible exact Kept.refl _ | with_reducible apply Kept.drew | with_reducible apply Kept.alloc | ((with_reducible apply Kept.set); focus (simp <;> omega)) | ((with_reducible apply Kept.via); focus with_reducible assumption))))) H_f
  go_wp2
  go_ret
  exact ⟨rfl, (by (repeat (first | with_reducible exact Kept.refl _ | with_reducible apply Kept.drew | with_reducible apply Kept.alloc | ((with_reducible apply Kept.set); focus (simp <;> omega)) | ((with_reducible apply Kept.via); focus with_reducible assumption))))⟩
set_option maxRecDepth 100000 in
set_option maxHeartbeats 1600000 in
theorem et_s {k a b r : Int}  (SB : ∀ w, Calls Try.prog 27 #[.agg #[.int .i64 k, .int .i64 a, .int .i64 b, .int .i64 r]] w fun e w' => e = .returned (.bool false) ∧ Kept w w') (w : World) : Calls Try.prog 24 #[.agg #[.int .i64 k, .int .i64 a, .int .i64 b, .int .i64 r]] w fun e w' => e = .returned (.bool false) ∧ Kept w w' := by
  have SB' := Lib.hid SB
  clear SB
  go_enter Try.func24, Try.ntmps24
  go_upto_region 1 with fail
  generalize hW : World.alloc w (.cells #[.int .i64 k, .int .i64 a, .int .i64 b, .int .i64 r] 53) = W_f
  have K_f : Kept w W_f := by subst hW; exact (Kept.refl _).alloc _ _
  have H_f := Lib.hid (show W_f.cell? ⟨w.heap.size, 0, none⟩ = some (.int .i64 k) ∧ W_f.cell? ⟨w.heap.size, 1, none⟩ = some (.int .i64 a) ∧ W_f.cell? ⟨w.heap.size, 2, none⟩ = some (.int .i64 b) ∧ W_f.cell? ⟨w.heap.size, 3, none⟩ = some (.int .i64 r) from by subst hW; simp [go_sem])
  clear hW
  generalize w.heap.size = g_f at *
  obtain ⟨cf0, cf1, cf2, cf3⟩ := Kept.alln4 (show Kept W_f W_f from (by (repeat (first | with_reducible exact Kept.refl _ | with_reducible apply Kept.drew | with_reducible apply Kept.alloc | ((with_reducible apply Kept.set); focus (simp <;> omega)) | ((with_reducible apply Kept.via); focus with_reducible assumption))))) H_f
  go_wp2_with fail
  refine (SB'.out _).mono ?_
  rintro e w20 ⟨rfl, k20⟩
  clear cf0 cf1 cf2 cf3
  obtain ⟨cf0, cf1, cf2, cf3⟩ := Kept.alln4 (show Kept W_f w20 from (by (repeat (first | with_reducible exact Kept.refl _ | with_reducible apply Kept.drew | with_reducible apply Kept.alloc | ((with_reducible apply Kept.set); focus (simp <;> omega)) | ((with_reducible apply Kept.via); focus with_reducible assumption))))) H_f
  go_wp2
  go_ret
  exact ⟨rfl, (by (repeat (first | with_reducible exact Kept.refl _ | with_reducible apply Kept.drew | with_reducible apply Kept.alloc | ((with_reducible apply Kept.set); focus (simp <;> omega)) | ((with_reducible apply Kept.via); focus with_reducible assumption))))⟩
set_option maxRecDepth 100000 in
set_option maxHeartbeats 1600000 in
theorem et_a {k a b r : Int} (d0 : decide (0 ≤ r) = false) (SB : ∀ w, Calls Try.prog 27 #[.agg #[.int .i64 k, .int .i64 a, .int .i64 b, .int .i64 r]] w fun e w' => e = .returned (.bool true) ∧ Kept w w') (w : World) : Calls Try.prog 24 #[.agg #[.int .i64 k, .int .i64 a, .int .i64 b, .int .i64 r]] w fun e w' => e = .returned (.bool false) ∧ Kept w w' := by
  have SB' := Lib.hid SB
  clear SB
  go_enter Try.func24, Try.ntmps24
  go_upto_region 1 with fail
  generalize hW : World.alloc w (.cells #[.int .i64 k, .int .i64 a, .int .i64 b, .int .i64 r] 53) = W_f
  have K_f : Kept w W_f := by subst hW; exact (Kept.refl _).alloc _ _
  have H_f := Lib.hid (show W_f.cell? ⟨w.heap.size, 0, none⟩ = some (.int .i64 k) ∧ W_f.cell? ⟨w.heap.size, 1, none⟩ = some (.int .i64 a) ∧ W_f.cell? ⟨w.heap.size, 2, none⟩ = some (.int .i64 b) ∧ W_f.cell? ⟨w.heap.size, 3, none⟩ = some (.int .i64 r) from by subst hW; simp [go_sem])
  clear hW
  generalize w.heap.size = g_f at *
  obtain ⟨cf0, cf1, cf2, cf3⟩ := Kept.alln4 (show Kept W_f W_f from (by (repeat (first | with_reducible exact Kept.refl _ | with_reducible apply Kept.drew | with_reducible apply Kept.alloc | ((with_reducible apply Kept.set); focus (simp <;> omega)) | ((with_reducible apply Kept.via); focus with_reducible assumption))))) H_f
  go_wp2_with fail
  refine (SB'.out _).mono ?_
  rintro e w20 ⟨rfl, k20⟩
  clear cf0 cf1 cf2 cf3
  obtain ⟨cf0, cf1, cf2, cf3⟩ := Kept.alln4 (show Kept W_f w20 from (by (repeat (first | with_reducible exact Kept.refl _ | with_reducible apply Kept.drew | with_reducible apply Kept.alloc | ((with_reducible apply Kept.set); focus (simp <;> omega)) | ((with_reducible apply Kept.via); focus with_reducible assumption))))) H_f
  go_wp2
  go_ret
  exact ⟨rfl, (by (repeat (first | with_reducible exact Kept.refl _ | with_reducible apply Kept.drew | with_reducible apply Kept.alloc | ((with_reducible apply Kept.set); focus (simp <;> omega)) | ((with_reducible apply Kept.via); focus with_reducible assumption))))⟩
set_option maxRecDepth 100000 in
set_option maxHeartbeats 1600000 in
theorem et_b {k a b r : Int} (d0 : decide (0 ≤ r) = true) (d1 : decide (r ≤ 1073741824) = false) (SB : ∀ w, Calls Try.prog 27 #[.agg #[.int .i64 k, .int .i64 a, .int .i64 b, .int .i64 r]] w fun e w' => e = .returned (.bool true) ∧ Kept w w') (w : World) : Calls Try.prog 24 #[.agg #[.int .i64 k, .int .i64 a, .int .i64 b, .int .i64 r]] w fun e w' => e = .returned (.bool false) ∧ Kept w w' := by
  have SB' := Lib.hid SB
  clear SB
  go_enter Try.func24, Try.ntmps24
  go_upto_region 1 with fail
  generalize hW : World.alloc w (.cells #[.int .i64 k, .int .i64 a, .int .i64 b, .int .i64 r] 53) = W_f
  have K_f : Kept w W_f := by subst hW; exact (Kept.refl _).alloc _ _
  have H_f := Lib.hid (show W_f.cell? ⟨w.heap.size, 0, none⟩ = some (.int .i64 k) ∧ W_f.cell? ⟨w.heap.size, 1, none⟩ = some (.int .i64 a) ∧ W_f.cell? ⟨w.heap.size, 2, none⟩ = some (.int .i64 b) ∧ W_f.cell? ⟨w.heap.size, 3, none⟩ = some (.int .i64 r) from by subst hW; simp [go_sem])
  clear hW
  generalize w.heap.size = g_f at *
  obtain ⟨cf0, cf1, cf2, cf3⟩ := Kept.alln4 (show Kept W_f W_f from (by (repeat (first | with_reducible exact Kept.refl _ | with_reducible apply Kept.drew | with_reducible apply Kept.alloc | ((with_reducible apply Kept.set); focus (simp <;> omega)) | ((with_reducible apply Kept.via); focus with_reducible assumption))))) H_f
  go_wp2_with fail
  refine (SB'.out _).mono ?_
  rintro e w20 ⟨rfl, k20⟩
  clear cf0 cf1 cf2 cf3
  obtain ⟨cf0, cf1, cf2, cf3⟩ := Kept.alln4 (show Kept W_f w20 from (by (repeat (first | with_reducible exact Kept.refl _ | with_reducible apply Kept.drew | with_reducible apply Kept.alloc | ((with_reducible apply Kept.set); focus (simp <;> omega)) | ((with_reducible apply Kept.via); focus with_reducible assumption))))) H_f
  go_wp2
  go_ret
  exact ⟨rfl, (by (repeat (first | with_reducible exact Kept.refl _ | with_reducible apply Kept.drew | with_reducible apply Kept.alloc | ((with_reducible apply Kept.set); focus (simp <;> omega)) | ((with_reducible apply Kept.via); focus with_reducible assumption))))⟩
set_option maxRecDepth 100000 in
set_option maxHeartbeats 1600000 in
theorem et_t {k a b r : Int} (d0 : decide (0 ≤ r) = true) (d1 : decide (r ≤ 1073741824) = true) (SB : ∀ w, Calls Try.prog 27 #[.agg #[.int .i64 k, .int .i64 a, .int .i64 b, .int .i64 r]] w fun e w' => e = .returned (.bool true) ∧ Kept w w') (w : World) : Calls Try.prog 24 #[.agg #[.int .i64 k, .int .i64 a, .int .i64 b, .int .i64 r]] w fun e w' => e = .returned (.bool true) ∧ Kept w w' := by
  have SB' := Lib.hid SB
  clear SB
  go_enter Try.func24, Try.ntmps24
  go_upto_region 1 with fail
  generalize hW : World.alloc w (.cells #[.int .i64 k, .int .i64 a, .int .i64 b, .int .i64 r] 53) = W_f
  have K_f : Kept w W_f := by subst hW; exact (Kept.refl _).alloc _ _
  have H_f := Lib.hid (show W_f.cell? ⟨w.heap.size, 0, none⟩ = some (.int .i64 k) ∧ W_f.cell? ⟨w.heap.size, 1, none⟩ = some (.int .i64 a) ∧ W_f.cell? ⟨w.heap.size, 2, none⟩ = some (.int .i64 b) ∧ W_f.cell? ⟨w.heap.size, 3, none⟩ = some (.int .i64 r) from by subst hW; simp [go_sem])
  clear hW
  generalize w.heap.size = g_f at *
  obtain ⟨cf0, cf1, cf2, cf3⟩ := Kept.alln4 (show Kept W_f W_f from (by (repeat (first | with_reducible exact Kept.refl _ | with_reducible apply Kept.drew | with_reducible apply Kept.alloc | ((with_reducible apply Kept.set); focus (simp <;> omega)) | ((with_reducible apply Kept.via); focus with_reducible assumption))))) H_f
  go_wp2_with fail
  refine (SB'.out _).mono ?_
  rintro e w20 ⟨rfl, k20⟩
  clear cf0 cf1 cf2 cf3
  obtain ⟨cf0, cf1, cf2, cf3⟩ := Kept.alln4 (show Kept W_f w20 from (by (repeat (first | with_reducible exact Kept.refl _ | with_reducible apply Kept.drew | with_reducible apply Kept.alloc | ((with_reducible apply Kept.set); focus (simp <;> omega)) | ((with_reducible apply Kept.via); focus with_reducible assumption))))) H_f
  go_wp2
  go_ret
  exact ⟨rfl, (by (repeat (first | with_reducible exact Kept.refl _ | with_reducible apply Kept.drew | with_reducible apply Kept.alloc | ((with_reducible apply Kept.set); focus (simp <;> omega)) | ((with_reducible apply Kept.via); focus with_reducible assumption))))⟩
set_option maxRecDepth 100000 in
set_option maxHeartbeats 1600000 in
theorem ea_s {k a b r : Int}  (SB : ∀ w, Calls Try.prog 27 #[.agg #[.int .i64 k, .int .i64 a, .int .i64 b, .int .i64 r]] w fun e w' => e = .returned (.bool false) ∧ Kept w w') (w : World) : Calls Try.prog 25 #[.agg #[.int .i64 k, .int .i64 a, .int .i64 b, .int .i64 r]] w fun e w' => e = .returned (.bool false) ∧ Kept w w' := by
  have SB' := Lib.hid SB
  clear SB
  go_enter Try.func25, Try.ntmps25
  go_upto_region 1 with fail
  generalize hW : World.alloc w (.cells #[.int .i64 k, .int .i64 a, .int .i64 b, .int .i64 r] 53) = W_f
  have K_f : Kept w W_f := by subst hW; exact (Kept.refl _).alloc _ _
  have H_f := Lib.hid (show W_f.cell? ⟨w.heap.size, 0, none⟩ = some (.int .i64 k) ∧ W_f.cell? ⟨w.heap.size, 1, none⟩ = some (.int .i64 a) ∧ W_f.cell? ⟨w.heap.size, 2, none⟩ = some (.int .i64 b) ∧ W_f.cell? ⟨w.heap.size, 3, none⟩ = some (.int .i64 r) from by subst hW; simp [go_sem])
  clear hW
  generalize w.heap.size = g_f at *
  obtain ⟨cf0, cf1, cf2, cf3⟩ := Kept.alln4 (show Kept W_f W_f from (by (repeat (first | with_reducible exact Kept.refl _ | with_reducible apply Kept.drew | with_reducible apply Kept.alloc | ((with_reducible apply Kept.set); focus (simp <;> omega)) | ((with_reducible apply Kept.via); focus with_reducible assumption))))) H_f
  go_wp2_with fail
  refine (SB'.out _).mono ?_
  rintro e w20 ⟨rfl, k20⟩
  clear cf0 cf1 cf2 cf3
  obtain ⟨cf0, cf1, cf2, cf3⟩ := Kept.alln4 (show Kept W_f w20 from (by (repeat (first | with_reducible exact Kept.refl _ | with_reducible apply Kept.drew | with_reducible apply Kept.alloc | ((with_reducible apply Kept.set); focus (simp <;> omega)) | ((with_reducible apply Kept.via); focus with_reducible assumption))))) H_f
  go_wp2
  go_ret
  exact ⟨rfl, (by (repeat (first | with_reducible exact Kept.refl _ | with_reducible apply Kept.drew | with_reducible apply Kept.alloc | ((with_reducible apply Kept.set); focus (simp <;> omega)) | ((with_reducible apply Kept.via); focus with_reducible assumption))))⟩
set_option maxRecDepth 100000 in
set_option maxHeartbeats 1600000 in
theorem ea_r {k a b r : Int} (d0 : (r == 0) = false) (d1 : ¬ r = 0) (SB : ∀ w, Calls Try.prog 27 #[.agg #[.int .i64 k, .int .i64 a, .int .i64 b, .int .i64 r]] w fun e w' => e = .returned (.bool true) ∧ Kept w w') (w : World) : Calls Try.prog 25 #[.agg #[.int .i64 k, .int .i64 a, .int .i64 b, .int .i64 r]] w fun e w' => e = .returned (.bool false) ∧ Kept w w' := by
  have SB' := Lib.hid SB
  clear SB
  go_enter Try.func25, Try.ntmps25
  go_upto_region 1 with fail
  generalize hW : World.alloc w (.cells #[.int .i64 k, .int .i64 a, .int .i64 b, .int .i64 r] 53) = W_f
  have K_f : Kept w W_f := by subst hW; exact (Kept.refl _).alloc _ _
  have H_f := Lib.hid (show W_f.cell? ⟨w.heap.size, 0, none⟩ = some (.int .i64 k) ∧ W_f.cell? ⟨w.heap.size, 1, none⟩ = some (.int .i64 a) ∧ W_f.cell? ⟨w.heap.size, 2, none⟩ = some (.int .i64 b) ∧ W_f.cell? ⟨w.heap.size, 3, none⟩ = some (.int .i64 r) from by subst hW; simp [go_sem])
  clear hW
  generalize w.heap.size = g_f at *
  obtain ⟨cf0, cf1, cf2, cf3⟩ := Kept.alln4 (show Kept W_f W_f from (by (repeat (first | with_reducible exact Kept.refl _ | with_reducible apply Kept.drew | with_reducible apply Kept.alloc | ((with_reducible apply Kept.set); focus (simp <;> omega)) | ((with_reducible apply Kept.via); focus with_reducible assumption))))) H_f
  go_wp2_with fail
  refine (SB'.out _).mono ?_
  rintro e w20 ⟨rfl, k20⟩
  clear cf0 cf1 cf2 cf3
  obtain ⟨cf0, cf1, cf2, cf3⟩ := Kept.alln4 (show Kept W_f w20 from (by (repeat (first | with_reducible exact Kept.refl _ | with_reducible apply Kept.drew | with_reducible apply Kept.alloc | ((with_reducible apply Kept.set); focus (simp <;> omega)) | ((with_reducible apply Kept.via); focus with_reducible assumption))))) H_f
  go_wp2
  go_ret
  exact ⟨rfl, (by (repeat (first | with_reducible exact Kept.refl _ | with_reducible apply Kept.drew | with_reducible apply Kept.alloc | ((with_reducible apply Kept.set); focus (simp <;> omega)) | ((with_reducible apply Kept.via); focus with_reducible assumption))))⟩
set_option maxRecDepth 100000 in
set_option maxHeartbeats 1600000 in
theorem ea_t {k a b : Int}  (SB : ∀ w, Calls Try.prog 27 #[.agg #[.int .i64 k, .int .i64 a, .int .i64 b, .int .i64 0]] w fun e w' => e = .returned (.bool true) ∧ Kept w w') (w : World) : Calls Try.prog 25 #[.agg #[.int .i64 k, .int .i64 a, .int .i64 b, .int .i64 0]] w fun e w' => e = .returned (.bool true) ∧ Kept w w' := by
  have SB' := Lib.hid SB
  clear SB
  go_enter Try.func25, Try.ntmps25
  go_upto_region 1 with fail
  generalize hW : World.alloc w (.cells #[.int .i64 k, .int .i64 a, .int .i64 b, .int .i64 0] 53) = W_f
  have K_f : Kept w W_f := by subst hW; exact (Kept.refl _).alloc _ _
  have H_f := Lib.hid (show W_f.cell? ⟨w.heap.size, 0, none⟩ = some (.int .i64 k) ∧ W_f.cell? ⟨w.heap.size, 1, none⟩ = some (.int .i64 a) ∧ W_f.cell? ⟨w.heap.size, 2, none⟩ = some (.int .i64 b) ∧ W_f.cell? ⟨w.heap.size, 3, none⟩ = some (.int .i64 0) from by subst hW; simp [go_sem])
  clear hW
  generalize w.heap.size = g_f at *
  obtain ⟨cf0, cf1, cf2, cf3⟩ := Kept.alln4 (show Kept W_f W_f from (by (repeat (first | with_reducible exact Kept.refl _ | with_reducible apply Kept.drew | with_reducible apply Kept.alloc | ((with_reducible apply Kept.set); focus (simp <;> omega)) | ((with_reducible apply Kept.via); focus with_reducible assumption))))) H_f
  go_wp2_with fail
  refine (SB'.out _).mono ?_
  rintro e w20 ⟨rfl, k20⟩
  clear cf0 cf1 cf2 cf3
  obtain ⟨cf0, cf1, cf2, cf3⟩ := Kept.alln4 (show Kept W_f w20 from (by (repeat (first | with_reducible exact Kept.refl _ | with_reducible apply Kept.drew | with_reducible apply Kept.alloc | ((with_reducible apply Kept.set); focus (simp <;> omega)) | ((with_reducible apply Kept.via); focus with_reducible assumption))))) H_f
  go_wp2
  go_ret
  exact ⟨rfl, (by (repeat (first | with_reducible exact Kept.refl _ | with_reducible apply Kept.drew | with_reducible apply Kept.alloc | ((with_reducible apply Kept.set); focus (simp <;> omega)) | ((with_reducible apply Kept.via); focus with_reducible assumption))))⟩
set_option maxRecDepth 100000 in
set_option maxHeartbeats 1600000 in
theorem en_b {k a b r : Int} (d0 : (b == 0) = false) (d1 : ¬ b = 0)  (w : World) : Calls Try.prog 26 #[.agg #[.int .i64 k, .int .i64 a, .int .i64 b, .int .i64 r]] w fun e w' => e = .returned (.bool false) ∧ Kept w w' := by
  go_enter Try.func26, Try.ntmps26
  go_upto_region 1 with fail
  generalize hW : World.alloc w (.cells #[.int .i64 k, .int .i64 a, .int .i64 b, .int .i64 r] 53) = W_f
  have K_f : Kept w W_f := by subst hW; exact (Kept.refl _).alloc _ _
  have H_f := Lib.hid (show W_f.cell? ⟨w.heap.size, 0, none⟩ = some (.int .i64 k) ∧ W_f.cell? ⟨w.heap.size, 1, none⟩ = some (.int .i64 a) ∧ W_f.cell? ⟨w.heap.size, 2, none⟩ = some (.int .i64 b) ∧ W_f.cell? ⟨w.heap.size, 3, none⟩ = some (.int .i64 r) from by subst hW; simp [go_sem])
  clear hW
  generalize w.heap.size = g_f at *
  obtain ⟨cf0, cf1, cf2, cf3⟩ := Kept.alln4 (show Kept W_f W_f from (by (repeat (first | with_reducible exact Kept.refl _ | with_reducible apply Kept.drew | with_reducible apply Kept.alloc | ((with_reducible apply Kept.set); focus (simp <;> omega)) | ((with_reducible apply Kept.via); focus with_reducible assumption))))) H_f
  go_wp2
  go_ret
  exact ⟨rfl, (by (repeat (first | with_reducible exact Kept.refl _ | with_reducible apply Kept.drew | with_reducible apply Kept.alloc | ((with_reducible apply Kept.set); focus (simp <;> omega)) | ((with_reducible apply Kept.via); focus with_reducible assumption))))⟩
set_option maxRecDepth 100000 in
set_option maxHeartbeats 1600000 in
theorem en_r {k a r : Int} (d0 : (r == 0) = false) (d1 : ¬ r = 0)  (w : World) : Calls Try.prog 26 #[.agg #[.int .i64 k, .int .i64 a, .int .i64 0, .int .i64 r]] w fun e w' => e = .returned (.bool false) ∧ Kept w w' := by
  go_enter Try.func26, Try.ntmps26
  go_upto_region 1 with fail
  generalize hW : World.alloc w (.cells #[.int .i64 k, .int .i64 a, .int .i64 0, .int .i64 r] 53) = W_f
  have K_f : Kept w W_f := by subst hW; exact (Kept.refl _).alloc _ _
  have H_f := Lib.hid (show W_f.cell? ⟨w.heap.size, 0, none⟩ = some (.int .i64 k) ∧ W_f.cell? ⟨w.heap.size, 1, none⟩ = some (.int .i64 a) ∧ W_f.cell? ⟨w.heap.size, 2, none⟩ = some (.int .i64 0) ∧ W_f.cell? ⟨w.heap.size, 3, none⟩ = some (.int .i64 r) from by subst hW; simp [go_sem])
  clear hW
  generalize w.heap.size = g_f at *
  obtain ⟨cf0, cf1, cf2, cf3⟩ := Kept.alln4 (show Kept W_f W_f from (by (repeat (first | with_reducible exact Kept.refl _ | with_reducible apply Kept.drew | with_reducible apply Kept.alloc | ((with_reducible apply Kept.set); focus (simp <;> omega)) | ((with_reducible apply Kept.via); focus with_reducible assumption))))) H_f
  go_wp2
  go_ret
  exact ⟨rfl, (by (repeat (first | with_reducible exact Kept.refl _ | with_reducible apply Kept.drew | with_reducible apply Kept.alloc | ((with_reducible apply Kept.set); focus (simp <;> omega)) | ((with_reducible apply Kept.via); focus with_reducible assumption))))⟩
set_option maxRecDepth 100000 in
set_option maxHeartbeats 1600000 in
theorem en_t {k a : Int}   (w : World) : Calls Try.prog 26 #[.agg #[.int .i64 k, .int .i64 a, .int .i64 0, .int .i64 0]] w fun e w' => e = .returned (.bool true) ∧ Kept w w' := by
  go_enter Try.func26, Try.ntmps26
  go_upto_region 1 with fail
  generalize hW : World.alloc w (.cells #[.int .i64 k, .int .i64 a, .int .i64 0, .int .i64 0] 53) = W_f
  have K_f : Kept w W_f := by subst hW; exact (Kept.refl _).alloc _ _
  have H_f := Lib.hid (show W_f.cell? ⟨w.heap.size, 0, none⟩ = some (.int .i64 k) ∧ W_f.cell? ⟨w.heap.size, 1, none⟩ = some (.int .i64 a) ∧ W_f.cell? ⟨w.heap.size, 2, none⟩ = some (.int .i64 0) ∧ W_f.cell? ⟨w.heap.size, 3, none⟩ = some (.int .i64 0) from by subst hW; simp [go_sem])
  clear hW
  generalize w.heap.size = g_f at *
  obtain ⟨cf0, cf1, cf2, cf3⟩ := Kept.alln4 (show Kept W_f W_f from (by (repeat (first | with_reducible exact Kept.refl _ | with_reducible apply Kept.drew | with_reducible apply Kept.alloc | ((with_reducible apply Kept.set); focus (simp <;> omega)) | ((with_reducible apply Kept.via); focus with_reducible assumption))))) H_f
  go_wp2
  go_ret
  exact ⟨rfl, (by (repeat (first | with_reducible exact Kept.refl _ | with_reducible apply Kept.drew | with_reducible apply Kept.alloc | ((with_reducible apply Kept.set); focus (simp <;> omega)) | ((with_reducible apply Kept.via); focus with_reducible assumption))))⟩
theorem esome {k a b r : Int} {v : Bool} (hv : v = true ↔ 1 ≤ b ∧ b ≤ 1073741824) (w : World) : Calls Try.prog 27 #[.agg #[.int .i64 k, .int .i64 a, .int .i64 b, .int .i64 r]] w fun e w' => e = .returned (.bool v) ∧ Kept w w' := by
  have no : ¬ (1 ≤ b ∧ b ≤ 1073741824) → v = false := fun m => by
    cases v with
    | false => rfl
    | true => exact absurd (hv.1 rfl) m
  by_cases h1 : 1 ≤ b
  · by_cases h2 : b ≤ 1073741824
    · rw [hv.2 ⟨h1, h2⟩]; exact es_t (by simp [h1]) (by simp [h2]) w
    · rw [no (by omega)]; exact es_b (by simp [h1]) (by simp; omega) w
  · rw [no (by omega)]; exact es_a (by simp; omega) w
theorem etime {k a b r : Int} {v : Bool} (hv : v = true ↔ (1 ≤ b ∧ b ≤ 1073741824) ∧ 0 ≤ r ∧ r ≤ 1073741824) (w : World) : Calls Try.prog 24 #[.agg #[.int .i64 k, .int .i64 a, .int .i64 b, .int .i64 r]] w fun e w' => e = .returned (.bool v) ∧ Kept w w' := by
  have no : ¬ ((1 ≤ b ∧ b ≤ 1073741824) ∧ 0 ≤ r ∧ r ≤ 1073741824) → v = false := fun m => by
    cases v with
    | false => rfl
    | true => exact absurd (hv.1 rfl) m
  by_cases h1 : 1 ≤ b ∧ b ≤ 1073741824
  · by_cases h2 : 0 ≤ r
    · by_cases h3 : r ≤ 1073741824
      · rw [hv.2 ⟨h1, h2, h3⟩]; exact et_t (by simp [h2]) (by simp [h3]) (fun w => esome (v := true) (by simp [h1]) w) w
      · rw [no (by omega)]; exact et_b (by simp [h2]) (by simp; omega) (fun w => esome (v := true) (by simp [h1]) w) w
    · rw [no (by omega)]; exact et_a (by simp; omega) (fun w => esome (v := true) (by simp [h1]) w) w
  · rw [no (by omega)]; exact et_s (fun w => esome (v := false) (by simp; omega) w) w
theorem ealone {k a b r : Int} {v : Bool} (hv : v = true ↔ (1 ≤ b ∧ b ≤ 1073741824) ∧ r = 0) (w : World) : Calls Try.prog 25 #[.agg #[.int .i64 k, .int .i64 a, .int .i64 b, .int .i64 r]] w fun e w' => e = .returned (.bool v) ∧ Kept w w' := by
  have no : ¬ ((1 ≤ b ∧ b ≤ 1073741824) ∧ r = 0) → v = false := fun m => by
    cases v with
    | false => rfl
    | true => exact absurd (hv.1 rfl) m
  by_cases h1 : 1 ≤ b ∧ b ≤ 1073741824
  · by_cases h2 : r = 0
    · subst h2; rw [hv.2 ⟨h1, rfl⟩]; exact ea_t (fun w => esome (v := true) (by simp [h1]) w) w
    · rw [no (by omega)]; exact ea_r (by simp [h2]) h2 (fun w => esome (v := true) (by simp [h1]) w) w
  · rw [no (by omega)]; exact ea_s (fun w => esome (v := false) (by simp; omega) w) w
theorem enone {k a b r : Int} {v : Bool} (hv : v = true ↔ b = 0 ∧ r = 0) (w : World) : Calls Try.prog 26 #[.agg #[.int .i64 k, .int .i64 a, .int .i64 b, .int .i64 r]] w fun e w' => e = .returned (.bool v) ∧ Kept w w' := by
  have no : ¬ (b = 0 ∧ r = 0) → v = false := fun m => by
    cases v with
    | false => rfl
    | true => exact absurd (hv.1 rfl) m
  by_cases h1 : b = 0
  · subst h1
    by_cases h2 : r = 0
    · subst h2; rw [hv.2 ⟨rfl, rfl⟩]; exact en_t w
    · rw [no (by omega)]; exact en_r (by simp [h2]) h2 w
  · rw [no (by omega)]; exact en_b (by simp [h1]) h1 w
/-- The map of the kinds of events. -/
def TabE (w : World) (b : Nat) : Prop := ∃ c0 c1 c2 c3 c4 c5 c6 : Nat, MapAt w b #[⟨.int .i64 1, .func (.func 24) #[] #[], c0⟩, ⟨.int .i64 2, .func (.func 25) #[] #[], c1⟩, ⟨.int .i64 3, .func (.func 26) #[] #[], c2⟩, ⟨.int .i64 4, .func (.func 26) #[] #[], c3⟩, ⟨.int .i64 5, .func (.func 26) #[] #[], c4⟩, ⟨.int .i64 6, .func (.func 25) #[] #[], c5⟩, ⟨.int .i64 7, .func (.func 26) #[] #[], c6⟩]
theorem TabE.kept {w w' : World} {b : Nat} (h : TabE w b) (k : Kept w w') : TabE w' b := by
  obtain ⟨c0, c1, c2, c3, c4, c5, c6, h⟩ := h
  exact ⟨c0, c1, c2, c3, c4, c5, c6, h.kept k⟩
theorem zeroKind20 : (Try.prog.info? 48).map (fun i => i.zero) = some (some .nilFunc) := by kernel_rfl
theorem TabE.look1 {w : World} {b : Nat} (h : TabE w b) : (Instr.lookup 50 (.map (some b)) (.int .i64 1) true).run Try.prog w = .ok (.tuple #[.func (.func 24) #[] #[], .bool true]) w := by
  obtain ⟨c0, c1, c2, c3, c4, c5, c6, h⟩ := h
  exact map_look_ok (i := 0) Try.underlying50 Try.underlying3 h (by simp [Instr.findNow, Instr.sameNow])
theorem TabE.look2 {w : World} {b : Nat} (h : TabE w b) : (Instr.lookup 50 (.map (some b)) (.int .i64 2) true).run Try.prog w = .ok (.tuple #[.func (.func 25) #[] #[], .bool true]) w := by
  obtain ⟨c0, c1, c2, c3, c4, c5, c6, h⟩ := h
  exact map_look_ok (i := 1) Try.underlying50 Try.underlying3 h (by simp [Instr.findNow, Instr.sameNow])
theorem TabE.look3 {w : World} {b : Nat} (h : TabE w b) : (Instr.lookup 50 (.map (some b)) (.int .i64 3) true).run Try.prog w = .ok (.tuple #[.func (.func 26) #[] #[], .bool true]) w := by
  obtain ⟨c0, c1, c2, c3, c4, c5, c6, h⟩ := h
  exact map_look_ok (i := 2) Try.underlying50 Try.underlying3 h (by simp [Instr.findNow, Instr.sameNow])
theorem TabE.look4 {w : World} {b : Nat} (h : TabE w b) : (Instr.lookup 50 (.map (some b)) (.int .i64 4) true).run Try.prog w = .ok (.tuple #[.func (.func 26) #[] #[], .bool true]) w := by
  obtain ⟨c0, c1, c2, c3, c4, c5, c6, h⟩ := h
  exact map_look_ok (i := 3) Try.underlying50 Try.underlying3 h (by simp [Instr.findNow, Instr.sameNow])
theorem TabE.look5 {w : World} {b : Nat} (h : TabE w b) : (Instr.lookup 50 (.map (some b)) (.int .i64 5) true).run Try.prog w = .ok (.tuple #[.func (.func 26) #[] #[], .bool true]) w := by
  obtain ⟨c0, c1, c2, c3, c4, c5, c6, h⟩ := h
  exact map_look_ok (i := 4) Try.underlying50 Try.underlying3 h (by simp [Instr.findNow, Instr.sameNow])
theorem TabE.look6 {w : World} {b : Nat} (h : TabE w b) : (Instr.lookup 50 (.map (some b)) (.int .i64 6) true).run Try.prog w = .ok (.tuple #[.func (.func 25) #[] #[], .bool true]) w := by
  obtain ⟨c0, c1, c2, c3, c4, c5, c6, h⟩ := h
  exact map_look_ok (i := 5) Try.underlying50 Try.underlying3 h (by simp [Instr.findNow, Instr.sameNow])
theorem TabE.look7 {w : World} {b : Nat} (h : TabE w b) : (Instr.lookup 50 (.map (some b)) (.int .i64 7) true).run Try.prog w = .ok (.tuple #[.func (.func 26) #[] #[], .bool true]) w := by
  obtain ⟨c0, c1, c2, c3, c4, c5, c6, h⟩ := h
  exact map_look_ok (i := 6) Try.underlying50 Try.underlying3 h (by simp [Instr.findNow, Instr.sameNow])
theorem TabE.miss {w : World} {b : Nat} {x : Int} (h : TabE w b) (n : x < 1 ∨ 7 < x) : (Instr.lookup 50 (.map (some b)) (.int .i64 x) true).run Try.prog w = .ok (.tuple #[.nilFunc, .bool false]) w := by
  obtain ⟨c0, c1, c2, c3, c4, c5, c6, h⟩ := h
  exact map_miss_ok Try.underlying50 Try.underlying3 zeroKind20 h (by simp [Instr.findNow, Instr.sameNow, show (x == 1) = false by simp; omega, show (x == 2) = false by simp; omega, show (x == 3) = false by simp; omega, show (x == 4) = false by simp; omega, show (x == 5) = false by simp; omega, show (x == 6) = false by simp; omega, show (x == 7) = false by simp; omega])
set_option maxRecDepth 100000 in
set_option maxHeartbeats 1600000 in
theorem ekinds (w : World) : Calls Try.prog 21 #[] w fun e w' => ∃ b, e = .returned (.map (some b)) ∧ TabE w' b ∧ Kept w w' := by
  go_enter Try.func21, Try.ntmps21
  go_wp2_with (first
    | (refine wpList_map_kept rfl _ rfl w (Kept.refl _) ?_; intro w1 b hb _ M1 k1)
    | (refine wpList_insert_kept rfl _ _ _ _ rfl _ _ Try.underlying50 Try.underlying3 w b #[] 1 _ rfl rfl rfl M1 (by simp [Instr.findNow]) k1 hb ?_; intro w2 c0 M2 k2 _)
    | (refine wpList_insert_kept rfl _ _ _ _ rfl _ _ Try.underlying50 Try.underlying3 w b #[⟨.int .i64 1, .func (.func 24) #[] #[], c0⟩] 2 _ rfl rfl rfl M2 (by simp [Instr.findNow, Instr.sameNow]) k2 hb ?_; intro w3 c1 M3 k3 _)
    | (refine wpList_insert_kept rfl _ _ _ _ rfl _ _ Try.underlying50 Try.underlying3 w b #[⟨.int .i64 1, .func (.func 24) #[] #[], c0⟩, ⟨.int .i64 2, .func (.func 25) #[] #[], c1⟩] 3 _ rfl rfl rfl M3 (by simp [Instr.findNow, Instr.sameNow]) k3 hb ?_; intro w4 c2 M4 k4 _)
    | (refine wpList_insert_kept rfl _ _ _ _ rfl _ _ Try.underlying50 Try.underlying3 w b #[⟨.int .i64 1, .func (.func 24) #[] #[], c0⟩, ⟨.int .i64 2, .func (.func 25) #[] #[], c1⟩, ⟨.int .i64 3, .func (.func 26) #[] #[], c2⟩] 4 _ rfl rfl rfl M4 (by simp [Instr.findNow, Instr.sameNow]) k4 hb ?_; intro w5 c3 M5 k5 _)
    | (refine wpList_insert_kept rfl _ _ _ _ rfl _ _ Try.underlying50 Try.underlying3 w b #[⟨.int .i64 1, .func (.func 24) #[] #[], c0⟩, ⟨.int .i64 2, .func (.func 25) #[] #[], c1⟩, ⟨.int .i64 3, .func (.func 26) #[] #[], c2⟩, ⟨.int .i64 4, .func (.func 26) #[] #[], c3⟩] 5 _ rfl rfl rfl M5 (by simp [Instr.findNow, Instr.sameNow]) k5 hb ?_; intro w6 c4 M6 k6 _)
    | (refine wpList_insert_kept rfl _ _ _ _ rfl _ _ Try.underlying50 Try.underlying3 w b #[⟨.int .i64 1, .func (.func 24) #[] #[], c0⟩, ⟨.int .i64 2, .func (.func 25) #[] #[], c1⟩, ⟨.int .i64 3, .func (.func 26) #[] #[], c2⟩, ⟨.int .i64 4, .func (.func 26) #[] #[], c3⟩, ⟨.int .i64 5, .func (.func 26) #[] #[], c4⟩] 6 _ rfl rfl rfl M6 (by simp [Instr.findNow, Instr.sameNow]) k6 hb ?_; intro w7 c5 M7 k7 _)
    | (refine wpList_insert_kept rfl _ _ _ _ rfl _ _ Try.underlying50 Try.underlying3 w b #[⟨.int .i64 1, .func (.func 24) #[] #[], c0⟩, ⟨.int .i64 2, .func (.func 25) #[] #[], c1⟩, ⟨.int .i64 3, .func (.func 26) #[] #[], c2⟩, ⟨.int .i64 4, .func (.func 26) #[] #[], c3⟩, ⟨.int .i64 5, .func (.func 26) #[] #[], c4⟩, ⟨.int .i64 6, .func (.func 25) #[] #[], c5⟩] 7 _ rfl rfl rfl M7 (by simp [Instr.findNow, Instr.sameNow]) k7 hb ?_; intro w8 c6 M8 k8 _))
  go_ret
  exact ⟨b, rfl, ⟨_, _, _, _, _, _, _, M8⟩, k8⟩
set_option maxRecDepth 100000 in
set_option maxHeartbeats 1600000 in
theorem ek_n {k a b r : Int}  (lk : ∀ w b, TabE w b → (Instr.lookup 50 (.map (some b)) (.int .i64 k) true).run Try.prog w = .ok (.tuple #[.nilFunc, .bool false]) w)  (w : World) : Calls Try.prog 16 #[.agg #[.int .i64 k, .int .i64 a, .int .i64 b, .int .i64 r]] w fun e w' => e = .returned (.int .i64 200) ∧ Kept w w' := by
  go_enter Try.func16, Try.ntmps16
  go_upto_region 1 with fail
  generalize hW : World.alloc w (.cells #[.int .i64 k, .int .i64 a, .int .i64 b, .int .i64 r] 23) = W_e
  have K_e : Kept w W_e := by subst hW; exact (Kept.refl _).alloc _ _
  have H_e := Lib.hid (show W_e.cell? ⟨w.heap.size, 0, none⟩ = some (.int .i64 k) ∧ W_e.cell? ⟨w.heap.size, 1, none⟩ = some (.int .i64 a) ∧ W_e.cell? ⟨w.heap.size, 2, none⟩ = some (.int .i64 b) ∧ W_e.cell? ⟨w.heap.size, 3, none⟩ = some (.int .i64 r) from by subst hW; simp [go_sem])
  clear hW
  generalize w.heap.size = g_e at *
  have LKH := Lib.hid lk
  clear lk
  obtain ⟨ce0, ce1, ce2, ce3⟩ := Kept.alln4 (show Kept W_e W_e from (by (repeat (first | with_reducible exact Kept.refl _ | with_reducible apply Kept.drew | with_reducible apply Kept.alloc | ((with_reducible apply Kept.set); focus (simp <;> omega)) | ((with_reducible apply Kept.via); focus with_reducible assumption))))) H_e
  go_upto_region 1 with fail
  go_cut [3, 4] (fun s3 s4 wx => s3 = .nilFunc ∧ s4 = .bool false ∧ Kept W_e wx)
  case first =>
    go_region_with (first
      | (go_at_call 21; refine (ekinds _).mono ?_; rintro e w3 ⟨tb, rfl, M, k3⟩
         have LK := LKH.out _ _ M
         obtain ⟨ce0, ce1, ce2, ce3⟩ := Kept.alln4 (show Kept W_e w3 from (by (repeat (first | with_reducible exact Kept.refl _ | with_reducible apply Kept.drew | with_reducible apply Kept.alloc | ((with_reducible apply Kept.set); focus (simp <;> omega)) | ((with_reducible apply Kept.via); focus with_reducible assumption))))) H_e))
    all_goals
      go_wp2_with fail
      go_meet
      exact ⟨rfl, rfl, (by (repeat (first | with_reducible exact Kept.refl _ | with_reducible apply Kept.drew | with_reducible apply Kept.alloc | ((with_reducible apply Kept.set); focus (simp <;> omega)) | ((with_reducible apply Kept.via); focus with_reducible assumption))))⟩
  obtain ⟨rfl, rfl, k3⟩ := hcut
  clear ce0 ce1 ce2 ce3
  obtain ⟨ce0, ce1, ce2, ce3⟩ := Kept.alln4 k3 H_e
  go_wp2
  go_ret
  exact ⟨rfl, (by (repeat (first | with_reducible exact Kept.refl _ | with_reducible apply Kept.drew | with_reducible apply Kept.alloc | ((with_reducible apply Kept.set); focus (simp <;> omega)) | ((with_reducible apply Kept.via); focus with_reducible assumption))))⟩
set_option maxRecDepth 100000 in
set_option maxHeartbeats 1600000 in
theorem ek_t {k a b r : Int} {fv : Value} (lk : ∀ w b, TabE w b → (Instr.lookup 50 (.map (some b)) (.int .i64 k) true).run Try.prog w = .ok (.tuple #[fv, .bool true]) w) (CK : ∀ w, Calls Try.prog 22 #[.int .i64 a] w fun e w' => e = .returned (.bool false) ∧ Kept w w') (w : World) : Calls Try.prog 16 #[.agg #[.int .i64 k, .int .i64 a, .int .i64 b, .int .i64 r]] w fun e w' => e = .returned (.int .i64 51) ∧ Kept w w' := by
  have CK' := Lib.hid CK
  clear CK
  go_enter Try.func16, Try.ntmps16
  go_upto_region 1 with fail
  generalize hW : World.alloc w (.cells #[.int .i64 k, .int .i64 a, .int .i64 b, .int .i64 r] 23) = W_e
  have K_e : Kept w W_e := by subst hW; exact (Kept.refl _).alloc _ _
  have H_e := Lib.hid (show W_e.cell? ⟨w.heap.size, 0, none⟩ = some (.int .i64 k) ∧ W_e.cell? ⟨w.heap.size, 1, none⟩ = some (.int .i64 a) ∧ W_e.cell? ⟨w.heap.size, 2, none⟩ = some (.int .i64 b) ∧ W_e.cell? ⟨w.heap.size, 3, none⟩ = some (.int .i64 r) from by subst hW; simp [go_sem])
  clear hW
  generalize w.heap.size = g_e at *
  have LKH := Lib.hid lk
  clear lk
  obtain ⟨ce0, ce1, ce2, ce3⟩ := Kept.alln4 (show Kept W_e W_e from (by (repeat (first | with_reducible exact Kept.refl _ | with_reducible apply Kept.drew | with_reducible apply Kept.alloc | ((with_reducible apply Kept.set); focus (simp <;> omega)) | ((with_reducible apply Kept.via); focus with_reducible assumption))))) H_e
  go_upto_region 1 with fail
  go_cut [3, 4] (fun s3 s4 wx => s3 = fv ∧ s4 = .bool true ∧ Kept W_e wx)
  case first =>
    go_region_with (first
      | (go_at_call 21; refine (ekinds _).mono ?_; rintro e w3 ⟨tb, rfl, M, k3⟩
         have LK := LKH.out _ _ M
         obtain ⟨ce0, ce1, ce2, ce3⟩ := Kept.alln4 (show Kept W_e w3 from (by (repeat (first | with_reducible exact Kept.refl _ | with_reducible apply Kept.drew | with_reducible apply Kept.alloc | ((with_reducible apply Kept.set); focus (simp <;> omega)) | ((with_reducible apply Kept.via); focus with_reducible assumption))))) H_e))
    all_goals
      go_wp2_with fail
      go_meet
      exact ⟨rfl, rfl, (by (repeat (first | with_reducible exact Kept.refl _ | with_reducible apply Kept.drew | with_reducible apply Kept.alloc | ((with_reducible apply Kept.set); focus (simp <;> omega)) | ((with_reducible apply Kept.via); focus with_reducible assumption))))⟩
  obtain ⟨rfl, rfl, k3⟩ := hcut
  clear ce0 ce1 ce2 ce3
  obtain ⟨ce0, ce1, ce2, ce3⟩ := Kept.alln4 k3 H_e
  go_wp2_with fail
  refine (CK'.out _).mono ?_
  rintro e w20 ⟨rfl, k20⟩
  clear ce0 ce1 ce2 ce3
  obtain ⟨ce0, ce1, ce2, ce3⟩ := Kept.alln4 (show Kept W_e w20 from (by (repeat (first | with_reducible exact Kept.refl _ | with_reducible apply Kept.drew | with_reducible apply Kept.alloc | ((with_reducible apply Kept.set); focus (simp <;> omega)) | ((with_reducible apply Kept.via); focus with_reducible assumption))))) H_e
  go_wp2
  go_ret
  exact ⟨rfl, (by (repeat (first | with_reducible exact Kept.refl _ | with_reducible apply Kept.drew | with_reducible apply Kept.alloc | ((with_reducible apply Kept.set); focus (simp <;> omega)) | ((with_reducible apply Kept.via); focus with_reducible assumption))))⟩
set_option maxRecDepth 100000 in
set_option maxHeartbeats 1600000 in
theorem ek_b_f {k a b r : Int}  (lk : ∀ w b, TabE w b → (Instr.lookup 50 (.map (some b)) (.int .i64 k) true).run Try.prog w = .ok (.tuple #[.func (.func 24) #[] #[], .bool true]) w) (CK : ∀ w, Calls Try.prog 22 #[.int .i64 a] w fun e w' => e = .returned (.bool true) ∧ Kept w w') (FC : ∀ w, Calls Try.prog 24 #[.agg #[.int .i64 k, .int .i64 a, .int .i64 b, .int .i64 r]] w fun e w' => e = .returned (.bool false) ∧ Kept w w') (w : World) : Calls Try.prog 16 #[.agg #[.int .i64 k, .int .i64 a, .int .i64 b, .int .i64 r]] w fun e w' => e = .returned (.int .i64 201) ∧ Kept w w' := by
  have CK' := Lib.hid CK
  have FC' := Lib.hid FC
  clear CK FC
  go_enter Try.func16, Try.ntmps16
  go_upto_region 1 with fail
  generalize hW : World.alloc w (.cells #[.int .i64 k, .int .i64 a, .int .i64 b, .int .i64 r] 23) = W_e
  have K_e : Kept w W_e := by subst hW; exact (Kept.refl _).alloc _ _
  have H_e := Lib.hid (show W_e.cell? ⟨w.heap.size, 0, none⟩ = some (.int .i64 k) ∧ W_e.cell? ⟨w.heap.size, 1, none⟩ = some (.int .i64 a) ∧ W_e.cell? ⟨w.heap.size, 2, none⟩ = some (.int .i64 b) ∧ W_e.cell? ⟨w.heap.size, 3, none⟩ = some (.int .i64 r) from by subst hW; simp [go_sem])
  clear hW
  generalize w.heap.size = g_e at *
  have LKH := Lib.hid lk
  clear lk
  obtain ⟨ce0, ce1, ce2, ce3⟩ := Kept.alln4 (show Kept W_e W_e from (by (repeat (first | with_reducible exact Kept.refl _ | with_reducible apply Kept.drew | with_reducible apply Kept.alloc | ((with_reducible apply Kept.set); focus (simp <;> omega)) | ((with_reducible apply Kept.via); focus with_reducible assumption))))) H_e
  go_upto_region 1 with fail
  go_cut [3, 4] (fun s3 s4 wx => s3 = .func (.func 24) #[] #[] ∧ s4 = .bool true ∧ Kept W_e wx)
  case first =>
    go_region_with (first
      | (go_at_call 21; refine (ekinds _).mono ?_; rintro e w3 ⟨tb, rfl, M, k3⟩
         have LK := LKH.out _ _ M
         obtain ⟨ce0, ce1, ce2, ce3⟩ := Kept.alln4 (show Kept W_e w3 from (by (repeat (first | with_reducible exact Kept.refl _ | with_reducible apply Kept.drew | with_reducible apply Kept.alloc | ((with_reducible apply Kept.set); focus (simp <;> omega)) | ((with_reducible apply Kept.via); focus with_reducible assumption))))) H_e))
    all_goals
      go_wp2_with fail
      go_meet
      exact ⟨rfl, rfl, (by (repeat (first | with_reducible exact Kept.refl _ | with_reducible apply Kept.drew | with_reducible apply Kept.alloc | ((with_reducible apply Kept.set); focus (simp <;> omega)) | ((with_reducible apply Kept.via); focus with_reducible assumption))))⟩
  obtain ⟨rfl, rfl, k3⟩ := hcut
  clear ce0 ce1 ce2 ce3
  obtain ⟨ce0, ce1, ce2, ce3⟩ := Kept.alln4 k3 H_e
  go_wp2_with fail
  refine (CK'.out _).mono ?_
  rintro e w20 ⟨rfl, k20⟩
  clear ce0 ce1 ce2 ce3
  obtain ⟨ce0, ce1, ce2, ce3⟩ := Kept.alln4 (show Kept W_e w20 from (by (repeat (first | with_reducible exact Kept.refl _ | with_reducible apply Kept.drew | with_reducible apply Kept.alloc | ((with_reducible apply Kept.set); focus (simp <;> omega)) | ((with_reducible apply Kept.via); focus with_reducible assumption))))) H_e
  go_wp2_with fail
  refine (FC'.out _).mono ?_
  rintro e w21 ⟨rfl, k21⟩
  clear ce0 ce1 ce2 ce3
  obtain ⟨ce0, ce1, ce2, ce3⟩ := Kept.alln4 (show Kept W_e w21 from (by (repeat (first | with_reducible exact Kept.refl _ | with_reducible apply Kept.drew | with_reducible apply Kept.alloc | ((with_reducible apply Kept.set); focus (simp <;> omega)) | ((with_reducible apply Kept.via); focus with_reducible assumption))))) H_e
  go_wp2
  go_ret
  exact ⟨rfl, (by (repeat (first | with_reducible exact Kept.refl _ | with_reducible apply Kept.drew | with_reducible apply Kept.alloc | ((with_reducible apply Kept.set); focus (simp <;> omega)) | ((with_reducible apply Kept.via); focus with_reducible assumption))))⟩
set_option maxRecDepth 100000 in
set_option maxHeartbeats 1600000 in
theorem ek_b_t {k a b r : Int}  (lk : ∀ w b, TabE w b → (Instr.lookup 50 (.map (some b)) (.int .i64 k) true).run Try.prog w = .ok (.tuple #[.func (.func 24) #[] #[], .bool true]) w) (CK : ∀ w, Calls Try.prog 22 #[.int .i64 a] w fun e w' => e = .returned (.bool true) ∧ Kept w w') (FC : ∀ w, Calls Try.prog 24 #[.agg #[.int .i64 k, .int .i64 a, .int .i64 b, .int .i64 r]] w fun e w' => e = .returned (.bool true) ∧ Kept w w') (w : World) : Calls Try.prog 16 #[.agg #[.int .i64 k, .int .i64 a, .int .i64 b, .int .i64 r]] w fun e w' => e = .returned (.int .i64 0) ∧ Kept w w' := by
  have CK' := Lib.hid CK
  have FC' := Lib.hid FC
  clear CK FC
  go_enter Try.func16, Try.ntmps16
  go_upto_region 1 with fail
  generalize hW : World.alloc w (.cells #[.int .i64 k, .int .i64 a, .int .i64 b, .int .i64 r] 23) = W_e
  have K_e : Kept w W_e := by subst hW; exact (Kept.refl _).alloc _ _
  have H_e := Lib.hid (show W_e.cell? ⟨w.heap.size, 0, none⟩ = some (.int .i64 k) ∧ W_e.cell? ⟨w.heap.size, 1, none⟩ = some (.int .i64 a) ∧ W_e.cell? ⟨w.heap.size, 2, none⟩ = some (.int .i64 b) ∧ W_e.cell? ⟨w.heap.size, 3, none⟩ = some (.int .i64 r) from by subst hW; simp [go_sem])
  clear hW
  generalize w.heap.size = g_e at *
  have LKH := Lib.hid lk
  clear lk
  obtain ⟨ce0, ce1, ce2, ce3⟩ := Kept.alln4 (show Kept W_e W_e from (by (repeat (first | with_reducible exact Kept.refl _ | with_reducible apply Kept.drew | with_reducible apply Kept.alloc | ((with_reducible apply Kept.set); focus (simp <;> omega)) | ((with_reducible apply Kept.via); focus with_reducible assumption))))) H_e
  go_upto_region 1 with fail
  go_cut [3, 4] (fun s3 s4 wx => s3 = .func (.func 24) #[] #[] ∧ s4 = .bool true ∧ Kept W_e wx)
  case first =>
    go_region_with (first
      | (go_at_call 21; refine (ekinds _).mono ?_; rintro e w3 ⟨tb, rfl, M, k3⟩
         have LK := LKH.out _ _ M
         obtain ⟨ce0, ce1, ce2, ce3⟩ := Kept.alln4 (show Kept W_e w3 from (by (repeat (first | with_reducible exact Kept.refl _ | with_reducible apply Kept.drew | with_reducible apply Kept.alloc | ((with_reducible apply Kept.set); focus (simp <;> omega)) | ((with_reducible apply Kept.via); focus with_reducible assumption))))) H_e))
    all_goals
      go_wp2_with fail
      go_meet
      exact ⟨rfl, rfl, (by (repeat (first | with_reducible exact Kept.refl _ | with_reducible apply Kept.drew | with_reducible apply Kept.alloc | ((with_reducible apply Kept.set); focus (simp <;> omega)) | ((with_reducible apply Kept.via); focus with_reducible assumption))))⟩
  obtain ⟨rfl, rfl, k3⟩ := hcut
  clear ce0 ce1 ce2 ce3
  obtain ⟨ce0, ce1, ce2, ce3⟩ := Kept.alln4 k3 H_e
  go_wp2_with fail
  refine (CK'.out _).mono ?_
  rintro e w20 ⟨rfl, k20⟩
  clear ce0 ce1 ce2 ce3
  obtain ⟨ce0, ce1, ce2, ce3⟩ := Kept.alln4 (show Kept W_e w20 from (by (repeat (first | with_reducible exact Kept.refl _ | with_reducible apply Kept.drew | with_reducible apply Kept.alloc | ((with_reducible apply Kept.set); focus (simp <;> omega)) | ((with_reducible apply Kept.via); focus with_reducible assumption))))) H_e
  go_wp2_with fail
  refine (FC'.out _).mono ?_
  rintro e w21 ⟨rfl, k21⟩
  clear ce0 ce1 ce2 ce3
  obtain ⟨ce0, ce1, ce2, ce3⟩ := Kept.alln4 (show Kept W_e w21 from (by (repeat (first | with_reducible exact Kept.refl _ | with_reducible apply Kept.drew | with_reducible apply Kept.alloc | ((with_reducible apply Kept.set); focus (simp <;> omega)) | ((with_reducible apply Kept.via); focus with_reducible assumption))))) H_e
  go_wp2
  go_ret
  exact ⟨rfl, (by (repeat (first | with_reducible exact Kept.refl _ | with_reducible apply Kept.drew | with_reducible apply Kept.alloc | ((with_reducible apply Kept.set); focus (simp <;> omega)) | ((with_reducible apply Kept.via); focus with_reducible assumption))))⟩
set_option maxRecDepth 100000 in
set_option maxHeartbeats 1600000 in
theorem ek_a_f {k a b r : Int}  (lk : ∀ w b, TabE w b → (Instr.lookup 50 (.map (some b)) (.int .i64 k) true).run Try.prog w = .ok (.tuple #[.func (.func 25) #[] #[], .bool true]) w) (CK : ∀ w, Calls Try.prog 22 #[.int .i64 a] w fun e w' => e = .returned (.bool true) ∧ Kept w w') (FC : ∀ w, Calls Try.prog 25 #[.agg #[.int .i64 k, .int .i64 a, .int .i64 b, .int .i64 r]] w fun e w' => e = .returned (.bool false) ∧ Kept w w') (w : World) : Calls Try.prog 16 #[.agg #[.int .i64 k, .int .i64 a, .int .i64 b, .int .i64 r]] w fun e w' => e = .returned (.int .i64 201) ∧ Kept w w' := by
  have CK' := Lib.hid CK
  have FC' := Lib.hid FC
  clear CK FC
  go_enter Try.func16, Try.ntmps16
  go_upto_region 1 with fail
  generalize hW : World.alloc w (.cells #[.int .i64 k, .int .i64 a, .int .i64 b, .int .i64 r] 23) = W_e
  have K_e : Kept w W_e := by subst hW; exact (Kept.refl _).alloc _ _
  have H_e := Lib.hid (show W_e.cell? ⟨w.heap.size, 0, none⟩ = some (.int .i64 k) ∧ W_e.cell? ⟨w.heap.size, 1, none⟩ = some (.int .i64 a) ∧ W_e.cell? ⟨w.heap.size, 2, none⟩ = some (.int .i64 b) ∧ W_e.cell? ⟨w.heap.size, 3, none⟩ = some (.int .i64 r) from by subst hW; simp [go_sem])
  clear hW
  generalize w.heap.size = g_e at *
  have LKH := Lib.hid lk
  clear lk
  obtain ⟨ce0, ce1, ce2, ce3⟩ := Kept.alln4 (show Kept W_e W_e from (by (repeat (first | with_reducible exact Kept.refl _ | with_reducible apply Kept.drew | with_reducible apply Kept.alloc | ((with_reducible apply Kept.set); focus (simp <;> omega)) | ((with_reducible apply Kept.via); focus with_reducible assumption))))) H_e
  go_upto_region 1 with fail
  go_cut [3, 4] (fun s3 s4 wx => s3 = .func (.func 25) #[] #[] ∧ s4 = .bool true ∧ Kept W_e wx)
  case first =>
    go_region_with (first
      | (go_at_call 21; refine (ekinds _).mono ?_; rintro e w3 ⟨tb, rfl, M, k3⟩
         have LK := LKH.out _ _ M
         obtain ⟨ce0, ce1, ce2, ce3⟩ := Kept.alln4 (show Kept W_e w3 from (by (repeat (first | with_reducible exact Kept.refl _ | with_reducible apply Kept.drew | with_reducible apply Kept.alloc | ((with_reducible apply Kept.set); focus (simp <;> omega)) | ((with_reducible apply Kept.via); focus with_reducible assumption))))) H_e))
    all_goals
      go_wp2_with fail
      go_meet
      exact ⟨rfl, rfl, (by (repeat (first | with_reducible exact Kept.refl _ | with_reducible apply Kept.drew | with_reducible apply Kept.alloc | ((with_reducible apply Kept.set); focus (simp <;> omega)) | ((with_reducible apply Kept.via); focus with_reducible assumption))))⟩
  obtain ⟨rfl, rfl, k3⟩ := hcut
  clear ce0 ce1 ce2 ce3
  obtain ⟨ce0, ce1, ce2, ce3⟩ := Kept.alln4 k3 H_e
  go_wp2_with fail
  refine (CK'.out _).mono ?_
  rintro e w20 ⟨rfl, k20⟩
  clear ce0 ce1 ce2 ce3
  obtain ⟨ce0, ce1, ce2, ce3⟩ := Kept.alln4 (show Kept W_e w20 from (by (repeat (first | with_reducible exact Kept.refl _ | with_reducible apply Kept.drew | with_reducible apply Kept.alloc | ((with_reducible apply Kept.set); focus (simp <;> omega)) | ((with_reducible apply Kept.via); focus with_reducible assumption))))) H_e
  go_wp2_with fail
  refine (FC'.out _).mono ?_
  rintro e w21 ⟨rfl, k21⟩
  clear ce0 ce1 ce2 ce3
  obtain ⟨ce0, ce1, ce2, ce3⟩ := Kept.alln4 (show Kept W_e w21 from (by (repeat (first | with_reducible exact Kept.refl _ | with_reducible apply Kept.drew | with_reducible apply Kept.alloc | ((with_reducible apply Kept.set); focus (simp <;> omega)) | ((with_reducible apply Kept.via); focus with_reducible assumption))))) H_e
  go_wp2
  go_ret
  exact ⟨rfl, (by (repeat (first | with_reducible exact Kept.refl _ | with_reducible apply Kept.drew | with_reducible apply Kept.alloc | ((with_reducible apply Kept.set); focus (simp <;> omega)) | ((with_reducible apply Kept.via); focus with_reducible assumption))))⟩
set_option maxRecDepth 100000 in
set_option maxHeartbeats 1600000 in
theorem ek_a_t {k a b r : Int}  (lk : ∀ w b, TabE w b → (Instr.lookup 50 (.map (some b)) (.int .i64 k) true).run Try.prog w = .ok (.tuple #[.func (.func 25) #[] #[], .bool true]) w) (CK : ∀ w, Calls Try.prog 22 #[.int .i64 a] w fun e w' => e = .returned (.bool true) ∧ Kept w w') (FC : ∀ w, Calls Try.prog 25 #[.agg #[.int .i64 k, .int .i64 a, .int .i64 b, .int .i64 r]] w fun e w' => e = .returned (.bool true) ∧ Kept w w') (w : World) : Calls Try.prog 16 #[.agg #[.int .i64 k, .int .i64 a, .int .i64 b, .int .i64 r]] w fun e w' => e = .returned (.int .i64 0) ∧ Kept w w' := by
  have CK' := Lib.hid CK
  have FC' := Lib.hid FC
  clear CK FC
  go_enter Try.func16, Try.ntmps16
  go_upto_region 1 with fail
  generalize hW : World.alloc w (.cells #[.int .i64 k, .int .i64 a, .int .i64 b, .int .i64 r] 23) = W_e
  have K_e : Kept w W_e := by subst hW; exact (Kept.refl _).alloc _ _
  have H_e := Lib.hid (show W_e.cell? ⟨w.heap.size, 0, none⟩ = some (.int .i64 k) ∧ W_e.cell? ⟨w.heap.size, 1, none⟩ = some (.int .i64 a) ∧ W_e.cell? ⟨w.heap.size, 2, none⟩ = some (.int .i64 b) ∧ W_e.cell? ⟨w.heap.size, 3, none⟩ = some (.int .i64 r) from by subst hW; simp [go_sem])
  clear hW
  generalize w.heap.size = g_e at *
  have LKH := Lib.hid lk
  clear lk
  obtain ⟨ce0, ce1, ce2, ce3⟩ := Kept.alln4 (show Kept W_e W_e from (by (repeat (first | with_reducible exact Kept.refl _ | with_reducible apply Kept.drew | with_reducible apply Kept.alloc | ((with_reducible apply Kept.set); focus (simp <;> omega)) | ((with_reducible apply Kept.via); focus with_reducible assumption))))) H_e
  go_upto_region 1 with fail
  go_cut [3, 4] (fun s3 s4 wx => s3 = .func (.func 25) #[] #[] ∧ s4 = .bool true ∧ Kept W_e wx)
  case first =>
    go_region_with (first
      | (go_at_call 21; refine (ekinds _).mono ?_; rintro e w3 ⟨tb, rfl, M, k3⟩
         have LK := LKH.out _ _ M
         obtain ⟨ce0, ce1, ce2, ce3⟩ := Kept.alln4 (show Kept W_e w3 from (by (repeat (first | with_reducible exact Kept.refl _ | with_reducible apply Kept.drew | with_reducible apply Kept.alloc | ((with_reducible apply Kept.set); focus (simp <;> omega)) | ((with_reducible apply Kept.via); focus with_reducible assumption))))) H_e))
    all_goals
      go_wp2_with fail
      go_meet
      exact ⟨rfl, rfl, (by (repeat (first | with_reducible exact Kept.refl _ | with_reducible apply Kept.drew | with_reducible apply Kept.alloc | ((with_reducible apply Kept.set); focus (simp <;> omega)) | ((with_reducible apply Kept.via); focus with_reducible assumption))))⟩
  obtain ⟨rfl, rfl, k3⟩ := hcut
  clear ce0 ce1 ce2 ce3
  obtain ⟨ce0, ce1, ce2, ce3⟩ := Kept.alln4 k3 H_e
  go_wp2_with fail
  refine (CK'.out _).mono ?_
  rintro e w20 ⟨rfl, k20⟩
  clear ce0 ce1 ce2 ce3
  obtain ⟨ce0, ce1, ce2, ce3⟩ := Kept.alln4 (show Kept W_e w20 from (by (repeat (first | with_reducible exact Kept.refl _ | with_reducible apply Kept.drew | with_reducible apply Kept.alloc | ((with_reducible apply Kept.set); focus (simp <;> omega)) | ((with_reducible apply Kept.via); focus with_reducible assumption))))) H_e
  go_wp2_with fail
  refine (FC'.out _).mono ?_
  rintro e w21 ⟨rfl, k21⟩
  clear ce0 ce1 ce2 ce3
  obtain ⟨ce0, ce1, ce2, ce3⟩ := Kept.alln4 (show Kept W_e w21 from (by (repeat (first | with_reducible exact Kept.refl _ | with_reducible apply Kept.drew | with_reducible apply Kept.alloc | ((with_reducible apply Kept.set); focus (simp <;> omega)) | ((with_reducible apply Kept.via); focus with_reducible assumption))))) H_e
  go_wp2
  go_ret
  exact ⟨rfl, (by (repeat (first | with_reducible exact Kept.refl _ | with_reducible apply Kept.drew | with_reducible apply Kept.alloc | ((with_reducible apply Kept.set); focus (simp <;> omega)) | ((with_reducible apply Kept.via); focus with_reducible assumption))))⟩
set_option maxRecDepth 100000 in
set_option maxHeartbeats 1600000 in
theorem ek_n_f {k a b r : Int}  (lk : ∀ w b, TabE w b → (Instr.lookup 50 (.map (some b)) (.int .i64 k) true).run Try.prog w = .ok (.tuple #[.func (.func 26) #[] #[], .bool true]) w) (CK : ∀ w, Calls Try.prog 22 #[.int .i64 a] w fun e w' => e = .returned (.bool true) ∧ Kept w w') (FC : ∀ w, Calls Try.prog 26 #[.agg #[.int .i64 k, .int .i64 a, .int .i64 b, .int .i64 r]] w fun e w' => e = .returned (.bool false) ∧ Kept w w') (w : World) : Calls Try.prog 16 #[.agg #[.int .i64 k, .int .i64 a, .int .i64 b, .int .i64 r]] w fun e w' => e = .returned (.int .i64 201) ∧ Kept w w' := by
  have CK' := Lib.hid CK
  have FC' := Lib.hid FC
  clear CK FC
  go_enter Try.func16, Try.ntmps16
  go_upto_region 1 with fail
  generalize hW : World.alloc w (.cells #[.int .i64 k, .int .i64 a, .int .i64 b, .int .i64 r] 23) = W_e
  have K_e : Kept w W_e := by subst hW; exact (Kept.refl _).alloc _ _
  have H_e := Lib.hid (show W_e.cell? ⟨w.heap.size, 0, none⟩ = some (.int .i64 k) ∧ W_e.cell? ⟨w.heap.size, 1, none⟩ = some (.int .i64 a) ∧ W_e.cell? ⟨w.heap.size, 2, none⟩ = some (.int .i64 b) ∧ W_e.cell? ⟨w.heap.size, 3, none⟩ = some (.int .i64 r) from by subst hW; simp [go_sem])
  clear hW
  generalize w.heap.size = g_e at *
  have LKH := Lib.hid lk
  clear lk
  obtain ⟨ce0, ce1, ce2, ce3⟩ := Kept.alln4 (show Kept W_e W_e from (by (repeat (first | with_reducible exact Kept.refl _ | with_reducible apply Kept.drew | with_reducible apply Kept.alloc | ((with_reducible apply Kept.set); focus (simp <;> omega)) | ((with_reducible apply Kept.via); focus with_reducible assumption))))) H_e
  go_upto_region 1 with fail
  go_cut [3, 4] (fun s3 s4 wx => s3 = .func (.func 26) #[] #[] ∧ s4 = .bool true ∧ Kept W_e wx)
  case first =>
    go_region_with (first
      | (go_at_call 21; refine (ekinds _).mono ?_; rintro e w3 ⟨tb, rfl, M, k3⟩
         have LK := LKH.out _ _ M
         obtain ⟨ce0, ce1, ce2, ce3⟩ := Kept.alln4 (show Kept W_e w3 from (by (repeat (first | with_reducible exact Kept.refl _ | with_reducible apply Kept.drew | with_reducible apply Kept.alloc | ((with_reducible apply Kept.set); focus (simp <;> omega)) | ((with_reducible apply Kept.via); focus with_reducible assumption))))) H_e))
    all_goals
      go_wp2_with fail
      go_meet
      exact ⟨rfl, rfl, (by (repeat (first | with_reducible exact Kept.refl _ | with_reducible apply Kept.drew | with_reducible apply Kept.alloc | ((with_reducible apply Kept.set); focus (simp <;> omega)) | ((with_reducible apply Kept.via); focus with_reducible assumption))))⟩
  obtain ⟨rfl, rfl, k3⟩ := hcut
  clear ce0 ce1 ce2 ce3
  obtain ⟨ce0, ce1, ce2, ce3⟩ := Kept.alln4 k3 H_e
  go_wp2_with fail
  refine (CK'.out _).mono ?_
  rintro e w20 ⟨rfl, k20⟩
  clear ce0 ce1 ce2 ce3
  obtain ⟨ce0, ce1, ce2, ce3⟩ := Kept.alln4 (show Kept W_e w20 from (by (repeat (first | with_reducible exact Kept.refl _ | with_reducible apply Kept.drew | with_reducible apply Kept.alloc | ((with_reducible apply Kept.set); focus (simp <;> omega)) | ((with_reducible apply Kept.via); focus with_reducible assumption))))) H_e
  go_wp2_with fail
  refine (FC'.out _).mono ?_
  rintro e w21 ⟨rfl, k21⟩
  clear ce0 ce1 ce2 ce3
  obtain ⟨ce0, ce1, ce2, ce3⟩ := Kept.alln4 (show Kept W_e w21 from (by (repeat (first | with_reducible exact Kept.refl _ | with_reducible apply Kept.drew | with_reducible apply Kept.alloc | ((with_reducible apply Kept.set); focus (simp <;> omega)) | ((with_reducible apply Kept.via); focus with_reducible assumption))))) H_e
  go_wp2
  go_ret
  exact ⟨rfl, (by (repeat (first | with_reducible exact Kept.refl _ | with_reducible apply Kept.drew | with_reducible apply Kept.alloc | ((with_reducible apply Kept.set); focus (simp <;> omega)) | ((with_reducible apply Kept.via); focus with_reducible assumption))))⟩
set_option maxRecDepth 100000 in
set_option maxHeartbeats 1600000 in
theorem ek_n_t {k a b r : Int}  (lk : ∀ w b, TabE w b → (Instr.lookup 50 (.map (some b)) (.int .i64 k) true).run Try.prog w = .ok (.tuple #[.func (.func 26) #[] #[], .bool true]) w) (CK : ∀ w, Calls Try.prog 22 #[.int .i64 a] w fun e w' => e = .returned (.bool true) ∧ Kept w w') (FC : ∀ w, Calls Try.prog 26 #[.agg #[.int .i64 k, .int .i64 a, .int .i64 b, .int .i64 r]] w fun e w' => e = .returned (.bool true) ∧ Kept w w') (w : World) : Calls Try.prog 16 #[.agg #[.int .i64 k, .int .i64 a, .int .i64 b, .int .i64 r]] w fun e w' => e = .returned (.int .i64 0) ∧ Kept w w' := by
  have CK' := Lib.hid CK
  have FC' := Lib.hid FC
  clear CK FC
  go_enter Try.func16, Try.ntmps16
  go_upto_region 1 with fail
  generalize hW : World.alloc w (.cells #[.int .i64 k, .int .i64 a, .int .i64 b, .int .i64 r] 23) = W_e
  have K_e : Kept w W_e := by subst hW; exact (Kept.refl _).alloc _ _
  have H_e := Lib.hid (show W_e.cell? ⟨w.heap.size, 0, none⟩ = some (.int .i64 k) ∧ W_e.cell? ⟨w.heap.size, 1, none⟩ = some (.int .i64 a) ∧ W_e.cell? ⟨w.heap.size, 2, none⟩ = some (.int .i64 b) ∧ W_e.cell? ⟨w.heap.size, 3, none⟩ = some (.int .i64 r) from by subst hW; simp [go_sem])
  clear hW
  generalize w.heap.size = g_e at *
  have LKH := Lib.hid lk
  clear lk
  obtain ⟨ce0, ce1, ce2, ce3⟩ := Kept.alln4 (show Kept W_e W_e from (by (repeat (first | with_reducible exact Kept.refl _ | with_reducible apply Kept.drew | with_reducible apply Kept.alloc | ((with_reducible apply Kept.set); focus (simp <;> omega)) | ((with_reducible apply Kept.via); focus with_reducible assumption))))) H_e
  go_upto_region 1 with fail
  go_cut [3, 4] (fun s3 s4 wx => s3 = .func (.func 26) #[] #[] ∧ s4 = .bool true ∧ Kept W_e wx)
  case first =>
    go_region_with (first
      | (go_at_call 21; refine (ekinds _).mono ?_; rintro e w3 ⟨tb, rfl, M, k3⟩
         have LK := LKH.out _ _ M
         obtain ⟨ce0, ce1, ce2, ce3⟩ := Kept.alln4 (show Kept W_e w3 from (by (repeat (first | with_reducible exact Kept.refl _ | with_reducible apply Kept.drew | with_reducible apply Kept.alloc | ((with_reducible apply Kept.set); focus (simp <;> omega)) | ((with_reducible apply Kept.via); focus with_reducible assumption))))) H_e))
    all_goals
      go_wp2_with fail
      go_meet
      exact ⟨rfl, rfl, (by (repeat (first | with_reducible exact Kept.refl _ | with_reducible apply Kept.drew | with_reducible apply Kept.alloc | ((with_reducible apply Kept.set); focus (simp <;> omega)) | ((with_reducible apply Kept.via); focus with_reducible assumption))))⟩
  obtain ⟨rfl, rfl, k3⟩ := hcut
  clear ce0 ce1 ce2 ce3
  obtain ⟨ce0, ce1, ce2, ce3⟩ := Kept.alln4 k3 H_e
  go_wp2_with fail
  refine (CK'.out _).mono ?_
  rintro e w20 ⟨rfl, k20⟩
  clear ce0 ce1 ce2 ce3
  obtain ⟨ce0, ce1, ce2, ce3⟩ := Kept.alln4 (show Kept W_e w20 from (by (repeat (first | with_reducible exact Kept.refl _ | with_reducible apply Kept.drew | with_reducible apply Kept.alloc | ((with_reducible apply Kept.set); focus (simp <;> omega)) | ((with_reducible apply Kept.via); focus with_reducible assumption))))) H_e
  go_wp2_with fail
  refine (FC'.out _).mono ?_
  rintro e w21 ⟨rfl, k21⟩
  clear ce0 ce1 ce2 ce3
  obtain ⟨ce0, ce1, ce2, ce3⟩ := Kept.alln4 (show Kept W_e w21 from (by (repeat (first | with_reducible exact Kept.refl _ | with_reducible apply Kept.drew | with_reducible apply Kept.alloc | ((with_reducible apply Kept.set); focus (simp <;> omega)) | ((with_reducible apply Kept.via); focus with_reducible assumption))))) H_e
  go_wp2
  go_ret
  exact ⟨rfl, (by (repeat (first | with_reducible exact Kept.refl _ | with_reducible apply Kept.drew | with_reducible apply Kept.alloc | ((with_reducible apply Kept.set); focus (simp <;> omega)) | ((with_reducible apply Kept.via); focus with_reducible assumption))))⟩
theorem vcheck {k a b r n : Int} (h : chkV (k, a, b, r) = n) (w : World) : Calls Try.prog 16 #[.agg #[.int .i64 k, .int .i64 a, .int .i64 b, .int .i64 r]] w fun e w' => e = .returned (.int .i64 n) ∧ Kept w w' := by
  by_cases hk : k < 1 ∨ 7 < k
  · have e : n = 200 := by rw [← h]; unfold chkV; dsimp only; rw [if_pos hk]
    subst e; exact ek_n (fun w b m => TabE.miss m hk) w
  by_cases h10 : k = 1
  · subst h10
    by_cases ht : IsTime a
    · have ck := fun w => check_yes ht w
      unfold IsTime at ht
      by_cases hc : (1 ≤ b ∧ b ≤ 1073741824) ∧ 0 ≤ r ∧ r ≤ 1073741824
      · have e : n = 0 := by rw [← h]; unfold chkV rttV; dsimp only; (repeat' split) <;> omega
        subst e; exact ek_b_t (fun w b m => TabE.look1 m) ck (fun w => etime (v := true) (by simp only [true_iff]; exact hc) w) w
      · have e : n = 201 := by rw [← h]; unfold chkV rttV; dsimp only; (repeat' split) <;> omega
        subst e; exact ek_b_f (fun w b m => TabE.look1 m) ck (fun w => etime (v := false) (by simp only [Bool.false_eq_true, false_iff]; exact hc) w) w
    · have ck := fun w => check_no ht w
      unfold IsTime at ht
      have e : n = 51 := by rw [← h]; unfold chkV rttV; dsimp only; (repeat' split) <;> omega
      subst e; exact ek_t (fun w b m => TabE.look1 m) ck w
  by_cases h11 : k = 2
  · subst h11
    by_cases ht : IsTime a
    · have ck := fun w => check_yes ht w
      unfold IsTime at ht
      by_cases hc : (1 ≤ b ∧ b ≤ 1073741824) ∧ r = 0
      · have e : n = 0 := by rw [← h]; unfold chkV rttV; dsimp only; (repeat' split) <;> omega
        subst e; exact ek_a_t (fun w b m => TabE.look2 m) ck (fun w => ealone (v := true) (by simp only [true_iff]; exact hc) w) w
      · have e : n = 201 := by rw [← h]; unfold chkV rttV; dsimp only; (repeat' split) <;> omega
        subst e; exact ek_a_f (fun w b m => TabE.look2 m) ck (fun w => ealone (v := false) (by simp only [Bool.false_eq_true, false_iff]; exact hc) w) w
    · have ck := fun w => check_no ht w
      unfold IsTime at ht
      have e : n = 51 := by rw [← h]; unfold chkV rttV; dsimp only; (repeat' split) <;> omega
      subst e; exact ek_t (fun w b m => TabE.look2 m) ck w
  by_cases h12 : k = 3
  · subst h12
    by_cases ht : IsTime a
    · have ck := fun w => check_yes ht w
      unfold IsTime at ht
      by_cases hc : b = 0 ∧ r = 0
      · have e : n = 0 := by rw [← h]; unfold chkV rttV; dsimp only; (repeat' split) <;> omega
        subst e; exact ek_n_t (fun w b m => TabE.look3 m) ck (fun w => enone (v := true) (by simp only [true_iff]; exact hc) w) w
      · have e : n = 201 := by rw [← h]; unfold chkV rttV; dsimp only; (repeat' split) <;> omega
        subst e; exact ek_n_f (fun w b m => TabE.look3 m) ck (fun w => enone (v := false) (by simp only [Bool.false_eq_true, false_iff]; exact hc) w) w
    · have ck := fun w => check_no ht w
      unfold IsTime at ht
      have e : n = 51 := by rw [← h]; unfold chkV rttV; dsimp only; (repeat' split) <;> omega
      subst e; exact ek_t (fun w b m => TabE.look3 m) ck w
  by_cases h13 : k = 4
  · subst h13
    by_cases ht : IsTime a
    · have ck := fun w => check_yes ht w
      unfold IsTime at ht
      by_cases hc : b = 0 ∧ r = 0
      · have e : n = 0 := by rw [← h]; unfold chkV rttV; dsimp only; (repeat' split) <;> omega
        subst e; exact ek_n_t (fun w b m => TabE.look4 m) ck (fun w => enone (v := true) (by simp only [true_iff]; exact hc) w) w
      · have e : n = 201 := by rw [← h]; unfold chkV rttV; dsimp only; (repeat' split) <;> omega
        subst e; exact ek_n_f (fun w b m => TabE.look4 m) ck (fun w => enone (v := false) (by simp only [Bool.false_eq_true, false_iff]; exact hc) w) w
    · have ck := fun w => check_no ht w
      unfold IsTime at ht
      have e : n = 51 := by rw [← h]; unfold chkV rttV; dsimp only; (repeat' split) <;> omega
      subst e; exact ek_t (fun w b m => TabE.look4 m) ck w
  by_cases h14 : k = 5
  · subst h14
    by_cases ht : IsTime a
    · have ck := fun w => check_yes ht w
      unfold IsTime at ht
      by_cases hc : b = 0 ∧ r = 0
      · have e : n = 0 := by rw [← h]; unfold chkV rttV; dsimp only; (repeat' split) <;> omega
        subst e; exact ek_n_t (fun w b m => TabE.look5 m) ck (fun w => enone (v := true) (by simp only [true_iff]; exact hc) w) w
      · have e : n = 201 := by rw [← h]; unfold chkV rttV; dsimp only; (repeat' split) <;> omega
        subst e; exact ek_n_f (fun w b m => TabE.look5 m) ck (fun w => enone (v := false) (by simp only [Bool.false_eq_true, false_iff]; exact hc) w) w
    · have ck := fun w => check_no ht w
      unfold IsTime at ht
      have e : n = 51 := by rw [← h]; unfold chkV rttV; dsimp only; (repeat' split) <;> omega
      subst e; exact ek_t (fun w b m => TabE.look5 m) ck w
  by_cases h15 : k = 6
  · subst h15
    by_cases ht : IsTime a
    · have ck := fun w => check_yes ht w
      unfold IsTime at ht
      by_cases hc : (1 ≤ b ∧ b ≤ 1073741824) ∧ r = 0
      · have e : n = 0 := by rw [← h]; unfold chkV rttV; dsimp only; (repeat' split) <;> omega
        subst e; exact ek_a_t (fun w b m => TabE.look6 m) ck (fun w => ealone (v := true) (by simp only [true_iff]; exact hc) w) w
      · have e : n = 201 := by rw [← h]; unfold chkV rttV; dsimp only; (repeat' split) <;> omega
        subst e; exact ek_a_f (fun w b m => TabE.look6 m) ck (fun w => ealone (v := false) (by simp only [Bool.false_eq_true, false_iff]; exact hc) w) w
    · have ck := fun w => check_no ht w
      unfold IsTime at ht
      have e : n = 51 := by rw [← h]; unfold chkV rttV; dsimp only; (repeat' split) <;> omega
      subst e; exact ek_t (fun w b m => TabE.look6 m) ck w
  by_cases h16 : k = 7
  · subst h16
    by_cases ht : IsTime a
    · have ck := fun w => check_yes ht w
      unfold IsTime at ht
      by_cases hc : b = 0 ∧ r = 0
      · have e : n = 0 := by rw [← h]; unfold chkV rttV; dsimp only; (repeat' split) <;> omega
        subst e; exact ek_n_t (fun w b m => TabE.look7 m) ck (fun w => enone (v := true) (by simp only [true_iff]; exact hc) w) w
      · have e : n = 201 := by rw [← h]; unfold chkV rttV; dsimp only; (repeat' split) <;> omega
        subst e; exact ek_n_f (fun w b m => TabE.look7 m) ck (fun w => enone (v := false) (by simp only [Bool.false_eq_true, false_iff]; exact hc) w) w
    · have ck := fun w => check_no ht w
      unfold IsTime at ht
      have e : n = 51 := by rw [← h]; unfold chkV rttV; dsimp only; (repeat' split) <;> omega
      subst e; exact ek_t (fun w b m => TabE.look7 m) ck w
  omega
theorem vcheck_c : EvCheckC := fun k a b r n _ _ _ _ h w => vcheck h w
set_option maxRecDepth 100000 in
set_option maxHeartbeats 1600000 in
theorem pd20_len {A : Option Addr} {n cap : Nat} (h : ¬ n = 4) (w : World) : Calls Try.prog 11 #[.slice A n cap] w fun e w' => e = .returned (.tuple #[.agg #[.int .i64 0, .int .i64 0, .int .i64 0, .int .i64 0], .int .i64 201]) ∧ Kept w w' := by
  have d0 : ((n : Int) == 4) = false := by simp; omega
  have d1 : ¬ (n : Int) = 4 := by omega
  go_enter Try.func11, Try.ntmps11
  go_upto_region 1 with fail
  generalize hW : World.alloc w (.cells #[.int .i64 0, .int .i64 0, .int .i64 0, .int .i64 0] 23) = W0
  have Z0 := Lib.hid (show RV W0 w.heap.size 0 0 0 0 from by subst hW; exact ⟨⟨by simp [go_sem], by simp [go_sem], by simp [go_sem], by simp [go_sem]⟩, by simp [go_sem], by simp [go_sem], by simp [go_sem], by simp [go_sem]⟩)
  have kz0 : Kept w W0 := by subst hW; exact (Kept.refl _).alloc _ _
  clear hW
  generalize hg : w.heap.size = g at *
  have gw : w.heap.size ≤ g := by omega
  have ne1 := Z0.out.ne
  obtain ⟨⟨z0, z1, z2, z3⟩, zf0, zf1, zf2, zf3⟩ := Z0.out
  go_wp2
  simp [bodyPost, results, Try.results11, go_sem, *]
  exact (by (repeat (first | with_reducible exact Kept.refl _ | with_reducible apply Kept.drew | with_reducible apply Kept.alloc | ((with_reducible apply Kept.set); focus (simp <;> omega)) | ((with_reducible apply Kept.via); focus with_reducible assumption))))
set_option maxRecDepth 100000 in
set_option maxHeartbeats 1600000 in
theorem pd20_ok {bb off cap : Nat} {k a b r : Int} (w : World) (hc : w.cell? ⟨bb, off, none⟩ = some (.int .i64 k) ∧ w.cell? ⟨bb, off + 1, none⟩ = some (.int .i64 a) ∧ w.cell? ⟨bb, off + 2, none⟩ = some (.int .i64 b) ∧ w.cell? ⟨bb, off + 3, none⟩ = some (.int .i64 r)) (CK : ∀ w, Calls Try.prog 16 #[.agg #[.int .i64 k, .int .i64 a, .int .i64 b, .int .i64 r]] w fun e w' => e = .returned (.int .i64 0) ∧ Kept w w') : Calls Try.prog 11 #[.slice (some ⟨bb, off, none⟩) 4 cap] w fun e w' => e = .returned (.tuple #[.agg #[.int .i64 k, .int .i64 a, .int .i64 b, .int .i64 r], .int .i64 0]) ∧ Kept w w' := by
  have HC := Lib.hid hc
  have CK' := Lib.hid CK
  clear hc CK
  have q0 : (0 : Int) < 4 := by omega
  have q1 : (1 : Int) < 4 := by omega
  have q2 : (2 : Int) < 4 := by omega
  have q3 : (3 : Int) < 4 := by omega
  go_enter Try.func11, Try.ntmps11
  go_upto_region 1 with fail
  generalize hW : World.alloc w (.cells #[.int .i64 0, .int .i64 0, .int .i64 0, .int .i64 0] 23) = W0
  have Z0 := Lib.hid (show RV W0 w.heap.size 0 0 0 0 from by subst hW; exact ⟨⟨by simp [go_sem], by simp [go_sem], by simp [go_sem], by simp [go_sem]⟩, by simp [go_sem], by simp [go_sem], by simp [go_sem], by simp [go_sem]⟩)
  have kz0 : Kept w W0 := by subst hW; exact (Kept.refl _).alloc _ _
  clear hW
  generalize hg : w.heap.size = g at *
  have gw : w.heap.size ≤ g := by omega
  obtain ⟨c0, c1, c2, c3⟩ := HC.out
  have e0 := kz0.read c0
  have e1 := kz0.read c1
  have e2 := kz0.read c2
  have e3 := kz0.read c3
  clear c0 c1 c2 c3
  have lt0 := cell_lt e0
  dsimp only at lt0
  go_upto_region 3 with fail
  go_region
  generalize hW : World.drew (World.alloc W0 (.cells #[.int .i64 k, .int .i64 a, .int .i64 b, .int .i64 r] 23)) = W1
  have K1 : Kept W0 W1 := by subst hW; exact ((Kept.refl _).alloc _ _).drew
  have E1 := Lib.hid (show RV W1 W0.heap.size k a b r from by subst hW; exact ⟨⟨by simp [go_sem], by simp [go_sem], by simp [go_sem], by simp [go_sem]⟩, by simp [go_sem], by simp [go_sem], by simp [go_sem], by simp [go_sem]⟩)
  clear hW e0 e1 e2 e3 lt0
  generalize W0.heap.size = ge at *
  have Z1 := Lib.hid (Z0.out.kept K1)
  have kz1 := Kept.trans kz0 K1
  clear Z0 kz0 K1
  obtain ⟨v0, v1, v2, v3⟩ := E1.out.1
  go_wp2_with fail
  refine (CK'.out _).mono ?_
  rintro e w2 ⟨rfl, k2⟩
  clear v0 v1 v2 v3
  have E2 := Lib.hid (E1.out.kept k2)
  have Z2 := Lib.hid (Z1.out.kept k2)
  have kz2 := Kept.trans kz1 k2
  clear E1 Z1 kz1 k2
  have ne2 := E2.out.ne
  obtain ⟨⟨v0, v1, v2, v3⟩, vf0, vf1, vf2, vf3⟩ := E2.out
  have ne1 := Z2.out.ne
  obtain ⟨⟨z0, z1, z2, z3⟩, zf0, zf1, zf2, zf3⟩ := Z2.out
  go_wp2
  simp [bodyPost, results, Try.results11, go_sem, *]
  exact (by (repeat (first | with_reducible exact Kept.refl _ | with_reducible apply Kept.drew | with_reducible apply Kept.alloc | ((with_reducible apply Kept.set); focus (simp <;> omega)) | ((with_reducible apply Kept.via); focus with_reducible assumption))))
set_option maxRecDepth 100000 in
set_option maxHeartbeats 1600000 in
theorem pd20_no {bb off cap : Nat} {k a b r er : Int} (h0 : (er == 0) = false) (h1 : ¬ er = 0) (w : World) (hc : w.cell? ⟨bb, off, none⟩ = some (.int .i64 k) ∧ w.cell? ⟨bb, off + 1, none⟩ = some (.int .i64 a) ∧ w.cell? ⟨bb, off + 2, none⟩ = some (.int .i64 b) ∧ w.cell? ⟨bb, off + 3, none⟩ = some (.int .i64 r)) (CK : ∀ w, Calls Try.prog 16 #[.agg #[.int .i64 k, .int .i64 a, .int .i64 b, .int .i64 r]] w fun e w' => e = .returned (.int .i64 er) ∧ Kept w w') : Calls Try.prog 11 #[.slice (some ⟨bb, off, none⟩) 4 cap] w fun e w' => e = .returned (.tuple #[.agg #[.int .i64 0, .int .i64 0, .int .i64 0, .int .i64 0], .int .i64 er]) ∧ Kept w w' := by
  have HC := Lib.hid hc
  have CK' := Lib.hid CK
  clear hc CK
  have q0 : (0 : Int) < 4 := by omega
  have q1 : (1 : Int) < 4 := by omega
  have q2 : (2 : Int) < 4 := by omega
  have q3 : (3 : Int) < 4 := by omega
  go_enter Try.func11, Try.ntmps11
  go_upto_region 1 with fail
  generalize hW : World.alloc w (.cells #[.int .i64 0, .int .i64 0, .int .i64 0, .int .i64 0] 23) = W0
  have Z0 := Lib.hid (show RV W0 w.heap.size 0 0 0 0 from by subst hW; exact ⟨⟨by simp [go_sem], by simp [go_sem], by simp [go_sem], by simp [go_sem]⟩, by simp [go_sem], by simp [go_sem], by simp [go_sem], by simp [go_sem]⟩)
  have kz0 : Kept w W0 := by subst hW; exact (Kept.refl _).alloc _ _
  clear hW
  generalize hg : w.heap.size = g at *
  have gw : w.heap.size ≤ g := by omega
  obtain ⟨c0, c1, c2, c3⟩ := HC.out
  have e0 := kz0.read c0
  have e1 := kz0.read c1
  have e2 := kz0.read c2
  have e3 := kz0.read c3
  clear c0 c1 c2 c3
  have lt0 := cell_lt e0
  dsimp only at lt0
  go_upto_region 3 with fail
  go_region
  generalize hW : World.drew (World.alloc W0 (.cells #[.int .i64 k, .int .i64 a, .int .i64 b, .int .i64 r] 23)) = W1
  have K1 : Kept W0 W1 := by subst hW; exact ((Kept.refl _).alloc _ _).drew
  have E1 := Lib.hid (show RV W1 W0.heap.size k a b r from by subst hW; exact ⟨⟨by simp [go_sem], by simp [go_sem], by simp [go_sem], by simp [go_sem]⟩, by simp [go_sem], by simp [go_sem], by simp [go_sem], by simp [go_sem]⟩)
  clear hW e0 e1 e2 e3 lt0
  generalize W0.heap.size = ge at *
  have Z1 := Lib.hid (Z0.out.kept K1)
  have kz1 := Kept.trans kz0 K1
  clear Z0 kz0 K1
  obtain ⟨v0, v1, v2, v3⟩ := E1.out.1
  go_wp2_with fail
  refine (CK'.out _).mono ?_
  rintro e w2 ⟨rfl, k2⟩
  clear v0 v1 v2 v3
  have E2 := Lib.hid (E1.out.kept k2)
  have Z2 := Lib.hid (Z1.out.kept k2)
  have kz2 := Kept.trans kz1 k2
  clear E1 Z1 kz1 k2
  have ne2 := E2.out.ne
  obtain ⟨⟨v0, v1, v2, v3⟩, vf0, vf1, vf2, vf3⟩ := E2.out
  have ne1 := Z2.out.ne
  obtain ⟨⟨z0, z1, z2, z3⟩, zf0, zf1, zf2, zf3⟩ := Z2.out
  go_wp2
  simp [bodyPost, results, Try.results11, go_sem, *]
  exact (by (repeat (first | with_reducible exact Kept.refl _ | with_reducible apply Kept.drew | with_reducible apply Kept.alloc | ((with_reducible apply Kept.set); focus (simp <;> omega)) | ((with_reducible apply Kept.via); focus with_reducible assumption))))
theorem vdec {A : Option Addr} {n cap : Nat} {l : List Int} {k a b r er : Int} (hn : l.length = n) (hv : decV l = (k, a, b, r)) (he : decE l = er) (w : World) (hr : RowK .i64 w A l) : Calls Try.prog 11 #[.slice A n cap] w fun e w' => e = .returned (.tuple #[.agg #[.int .i64 k, .int .i64 a, .int .i64 b, .int .i64 r], .int .i64 er]) ∧ Kept w w' := by
  subst hn
  by_cases h4 : l.length = 4
  · obtain ⟨x, y, z, u, rfl⟩ : ∃ x y z u, l = [x, y, z, u] := by
      match l, h4 with
      | [x, y, z, u], _ => exact ⟨x, y, z, u, rfl⟩
    obtain ⟨bb, off, rfl, hc⟩ := hr (by simp)
    have cs := And.intro (hc 0 (by simp)) (And.intro (hc 1 (by simp)) (And.intro (hc 2 (by simp)) (hc 3 (by simp))))
    have ee : chkV (x, y, z, u) = er := by rw [← he]; unfold decE; rw [if_pos h4]; rfl
    by_cases e0 : er = 0
    · subst e0
      have ev : decV [x, y, z, u] = (x, y, z, u) := by unfold decV; rw [if_pos ⟨h4, ee⟩]; rfl
      rw [ev] at hv
      cases hv
      exact pd20_ok w cs (fun w => vcheck ee w)
    · have ev : decV [x, y, z, u] = (0, 0, 0, 0) := by unfold decV; rw [if_neg (fun q => e0 (ee.symm.trans q.2))]
      rw [ev] at hv
      cases hv
      exact pd20_no (by simp [e0]) e0 w cs (fun w => vcheck ee w)
  · have ev : decV l = (0, 0, 0, 0) := by unfold decV; rw [if_neg (fun q => h4 q.1)]
    have ee : decE l = 201 := by unfold decE; rw [if_neg h4]
    rw [ev] at hv
    rw [ee] at he
    cases hv
    subst he
    exact pd20_len h4 w
theorem vdec_c : EvDecC := fun A n cap l k a b r er hn _ _ hv he w hr => vdec hn hv he w hr
set_option maxRecDepth 100000 in
set_option maxHeartbeats 1600000 in
theorem venc {k a b r : Int} (w : World) : Calls Try.prog 15 #[.agg #[.int .i64 k, .int .i64 a, .int .i64 b, .int .i64 r]] w fun e w' => ∃ (B : Option Addr) (c : Nat), e = .returned (.slice B 4 c) ∧ SliceOk B 4 c ∧ RowK .i64 w' B [k, a, b, r] ∧ (∀ a, B = some a → w.heap.size ≤ a.block) ∧ Kept w w' := by
  go_enter Try.func15, Try.ntmps15
  go_upto_region 1 with fail
  generalize hW : World.alloc w (.cells #[.int .i64 k, .int .i64 a, .int .i64 b, .int .i64 r] 23) = W_e
  have K_e : Kept w W_e := by subst hW; exact (Kept.refl _).alloc _ _
  have H_e := Lib.hid (show W_e.cell? ⟨w.heap.size, 0, none⟩ = some (.int .i64 k) ∧ W_e.cell? ⟨w.heap.size, 1, none⟩ = some (.int .i64 a) ∧ W_e.cell? ⟨w.heap.size, 2, none⟩ = some (.int .i64 b) ∧ W_e.cell? ⟨w.heap.size, 3, none⟩ = some (.int .i64 r) from by subst hW; simp [go_sem])
  clear hW
  generalize w.heap.size = g_e at *
  obtain ⟨ce0, ce1, ce2, ce3⟩ := Kept.alln4 (show Kept W_e W_e from (by (repeat (first | with_reducible exact Kept.refl _ | with_reducible apply Kept.drew | with_reducible apply Kept.alloc | ((with_reducible apply Kept.set); focus (simp <;> omega)) | ((with_reducible apply Kept.via); focus with_reducible assumption))))) H_e
  go_wp2
  go_ret
  refine ⟨_, _, rfl, ⟨Nat.le_refl _, by omega, fun h => by cases h⟩, ?_, ?_, (by (repeat (first | with_reducible exact Kept.refl _ | with_reducible apply Kept.drew | with_reducible apply Kept.alloc | ((with_reducible apply Kept.set); focus (simp <;> omega)) | ((with_reducible apply Kept.via); focus with_reducible assumption))))⟩
  · refine fun _ => ⟨_, 0, rfl, fun j hj => ?_⟩
    match j, hj with
    | 0, _ => simp [go_sem]
    | 1, _ => simp [go_sem]
    | 2, _ => simp [go_sem]
    | 3, _ => simp [go_sem]
    | j + 4, hj => simp only [List.length_cons, List.length_nil] at hj; omega
  · intro a z; cases z; have := Kept.below (show Kept w W_e from (by (repeat (first | with_reducible exact Kept.refl _ | with_reducible apply Kept.drew | with_reducible apply Kept.alloc | ((with_reducible apply Kept.set); focus (simp <;> omega)) | ((with_reducible apply Kept.via); focus with_reducible assumption))))); simp; omega
theorem venc_c : EvEncC := fun k a b r _ _ _ _ w => venc w
end Go.Proofs.Ytbpdimogigcacaa
