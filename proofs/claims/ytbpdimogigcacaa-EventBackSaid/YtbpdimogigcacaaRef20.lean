/-
  Contracts of the document's answers of layer 20.
-/
import Derived.Test.YtbpdimogigcacaaCon20
import Derived.Test.YtbpdimogigcacaaRoom
import Derived.Test.YtbpdimogigcacaaTailF
import Derived.OwnWalk
import Derived.Laws.StructEq
import Derived.BigRegion
import Derived.Deep.RegionHeld3
import Derived.Deep.DeepCutAuto
namespace Go.Proofs.Ytbpdimogigcacaa
open Go.RowKit Go.BigFrame
set_option linter.unusedVariables false

set_option maxRecDepth 100000 in
set_option maxHeartbeats 1600000 in
theorem rv20_k0 {k a b r : Int} (d0 : decide (k < 1) = true)  (w : World) : Calls Try.prog 17 #[.agg #[.int .i64 k, .int .i64 a, .int .i64 b, .int .i64 r]] w fun e w' => e = .returned (.int .i64 200) ∧ Kept w w' := by
  go_enter Try.func17, Try.ntmps17
  go_upto_region 1 with fail
  generalize hW : World.alloc w (.cells #[.int .i64 k, .int .i64 a, .int .i64 b, .int .i64 r] 23) = W_e
  have K_e : Kept w W_e := by subst hW; exact (Kept.refl _).alloc _ _
  have H_e := Lib.hid (show W_e.cell? ⟨w.heap.size, 0, none⟩ = some (.int .i64 k) ∧ W_e.cell? ⟨w.heap.size, 1, none⟩ = some (.int .i64 a) ∧ W_e.cell? ⟨w.heap.size, 2, none⟩ = some (.int .i64 b) ∧ W_e.cell? ⟨w.heap.size, 3, none⟩ = some (.int .i64 r) from by subst hW; simp [go_sem])
  clear hW
  generalize w.heap.size = g_e at *
  obtain ⟨ce0, ce1, ce2, ce3⟩ := Kept.alln4 (show Kept W_e W_e from (by (repeat (first | with_reducible exact Kept.refl _ | with_reducible apply Kept.drew | with_reducible apply Kept.alloc | ((with_reducible apply Kept.set); focus (simp <;> omega)) | ((with_reducible apply Kept.via); focus with_reducible assumption))))) H_e
  go_wp2
  go_ret
  exact ⟨rfl, (by (repeat (first | with_reducible exact Kept.refl _ | with_reducible apply Kept.drew | with_reducible apply Kept.alloc | ((with_reducible apply Kept.set); focus (simp <;> omega)) | ((with_reducible apply Kept.via); focus with_reducible assumption))))⟩
set_option maxRecDepth 100000 in
set_option maxHeartbeats 1600000 in
theorem rv20_k1 {k a b r : Int} (d0 : decide (k < 1) = false) (d1 : decide (7 < k) = true)  (w : World) : Calls Try.prog 17 #[.agg #[.int .i64 k, .int .i64 a, .int .i64 b, .int .i64 r]] w fun e w' => e = .returned (.int .i64 200) ∧ Kept w w' := by
  go_enter Try.func17, Try.ntmps17
  go_upto_region 1 with fail
  generalize hW : World.alloc w (.cells #[.int .i64 k, .int .i64 a, .int .i64 b, .int .i64 r] 23) = W_e
  have K_e : Kept w W_e := by subst hW; exact (Kept.refl _).alloc _ _
  have H_e := Lib.hid (show W_e.cell? ⟨w.heap.size, 0, none⟩ = some (.int .i64 k) ∧ W_e.cell? ⟨w.heap.size, 1, none⟩ = some (.int .i64 a) ∧ W_e.cell? ⟨w.heap.size, 2, none⟩ = some (.int .i64 b) ∧ W_e.cell? ⟨w.heap.size, 3, none⟩ = some (.int .i64 r) from by subst hW; simp [go_sem])
  clear hW
  generalize w.heap.size = g_e at *
  obtain ⟨ce0, ce1, ce2, ce3⟩ := Kept.alln4 (show Kept W_e W_e from (by (repeat (first | with_reducible exact Kept.refl _ | with_reducible apply Kept.drew | with_reducible apply Kept.alloc | ((with_reducible apply Kept.set); focus (simp <;> omega)) | ((with_reducible apply Kept.via); focus with_reducible assumption))))) H_e
  go_wp2
  go_ret
  exact ⟨rfl, (by (repeat (first | with_reducible exact Kept.refl _ | with_reducible apply Kept.drew | with_reducible apply Kept.alloc | ((with_reducible apply Kept.set); focus (simp <;> omega)) | ((with_reducible apply Kept.via); focus with_reducible assumption))))⟩
set_option maxRecDepth 100000 in
set_option maxHeartbeats 1600000 in
theorem rv20_a0 {k a b r : Int} (d0 : decide (k < 1) = false) (d1 : decide (7 < k) = false) (d2 : decide (a < 0) = true)  (w : World) : Calls Try.prog 17 #[.agg #[.int .i64 k, .int .i64 a, .int .i64 b, .int .i64 r]] w fun e w' => e = .returned (.int .i64 51) ∧ Kept w w' := by
  go_enter Try.func17, Try.ntmps17
  go_upto_region 1 with fail
  generalize hW : World.alloc w (.cells #[.int .i64 k, .int .i64 a, .int .i64 b, .int .i64 r] 23) = W_e
  have K_e : Kept w W_e := by subst hW; exact (Kept.refl _).alloc _ _
  have H_e := Lib.hid (show W_e.cell? ⟨w.heap.size, 0, none⟩ = some (.int .i64 k) ∧ W_e.cell? ⟨w.heap.size, 1, none⟩ = some (.int .i64 a) ∧ W_e.cell? ⟨w.heap.size, 2, none⟩ = some (.int .i64 b) ∧ W_e.cell? ⟨w.heap.size, 3, none⟩ = some (.int .i64 r) from by subst hW; simp [go_sem])
  clear hW
  generalize w.heap.size = g_e at *
  obtain ⟨ce0, ce1, ce2, ce3⟩ := Kept.alln4 (show Kept W_e W_e from (by (repeat (first | with_reducible exact Kept.refl _ | with_reducible apply Kept.drew | with_reducible apply Kept.alloc | ((with_reducible apply Kept.set); focus (simp <;> omega)) | ((with_reducible apply Kept.via); focus with_reducible assumption))))) H_e
  go_wp2
  go_ret
  exact ⟨rfl, (by (repeat (first | with_reducible exact Kept.refl _ | with_reducible apply Kept.drew | with_reducible apply Kept.alloc | ((with_reducible apply Kept.set); focus (simp <;> omega)) | ((with_reducible apply Kept.via); focus with_reducible assumption))))⟩
set_option maxRecDepth 100000 in
set_option maxHeartbeats 1600000 in
theorem rv20_a1 {k a b r : Int} (d0 : decide (k < 1) = false) (d1 : decide (7 < k) = false) (d2 : decide (a < 0) = false) (d3 : decide (1099511627776 < a) = true)  (w : World) : Calls Try.prog 17 #[.agg #[.int .i64 k, .int .i64 a, .int .i64 b, .int .i64 r]] w fun e w' => e = .returned (.int .i64 51) ∧ Kept w w' := by
  go_enter Try.func17, Try.ntmps17
  go_upto_region 1 with fail
  generalize hW : World.alloc w (.cells #[.int .i64 k, .int .i64 a, .int .i64 b, .int .i64 r] 23) = W_e
  have K_e : Kept w W_e := by subst hW; exact (Kept.refl _).alloc _ _
  have H_e := Lib.hid (show W_e.cell? ⟨w.heap.size, 0, none⟩ = some (.int .i64 k) ∧ W_e.cell? ⟨w.heap.size, 1, none⟩ = some (.int .i64 a) ∧ W_e.cell? ⟨w.heap.size, 2, none⟩ = some (.int .i64 b) ∧ W_e.cell? ⟨w.heap.size, 3, none⟩ = some (.int .i64 r) from by subst hW; simp [go_sem])
  clear hW
  generalize w.heap.size = g_e at *
  obtain ⟨ce0, ce1, ce2, ce3⟩ := Kept.alln4 (show Kept W_e W_e from (by (repeat (first | with_reducible exact Kept.refl _ | with_reducible apply Kept.drew | with_reducible apply Kept.alloc | ((with_reducible apply Kept.set); focus (simp <;> omega)) | ((with_reducible apply Kept.via); focus with_reducible assumption))))) H_e
  go_wp2
  go_ret
  exact ⟨rfl, (by (repeat (first | with_reducible exact Kept.refl _ | with_reducible apply Kept.drew | with_reducible apply Kept.alloc | ((with_reducible apply Kept.set); focus (simp <;> omega)) | ((with_reducible apply Kept.via); focus with_reducible assumption))))⟩
set_option maxRecDepth 100000 in
set_option maxHeartbeats 1600000 in
theorem rv20_1_b0 {a b r : Int} (d0 : decide (a < 0) = false) (d1 : decide (1099511627776 < a) = false) (d2 : decide (b < 1) = true)  (w : World) : Calls Try.prog 17 #[.agg #[.int .i64 1, .int .i64 a, .int .i64 b, .int .i64 r]] w fun e w' => e = .returned (.int .i64 201) ∧ Kept w w' := by
  go_enter Try.func17, Try.ntmps17
  go_upto_region 1 with fail
  generalize hW : World.alloc w (.cells #[.int .i64 1, .int .i64 a, .int .i64 b, .int .i64 r] 23) = W_e
  have K_e : Kept w W_e := by subst hW; exact (Kept.refl _).alloc _ _
  have H_e := Lib.hid (show W_e.cell? ⟨w.heap.size, 0, none⟩ = some (.int .i64 1) ∧ W_e.cell? ⟨w.heap.size, 1, none⟩ = some (.int .i64 a) ∧ W_e.cell? ⟨w.heap.size, 2, none⟩ = some (.int .i64 b) ∧ W_e.cell? ⟨w.heap.size, 3, none⟩ = some (.int .i64 r) from by subst hW; simp [go_sem])
  clear hW
  generalize w.heap.size = g_e at *
  obtain ⟨ce0, ce1, ce2, ce3⟩ := Kept.alln4 (show Kept W_e W_e from (by (repeat (first | with_reducible exact Kept.refl _ | with_reducible apply Kept.drew | with_reducible apply Kept.alloc | ((with_reducible apply Kept.set); focus (simp <;> omega)) | ((with_reducible apply Kept.via); focus with_reducible assumption))))) H_e
  go_wp2
  go_ret
  exact ⟨rfl, (by (repeat (first | with_reducible exact Kept.refl _ | with_reducible apply Kept.drew | with_reducible apply Kept.alloc | ((with_reducible apply Kept.set); focus (simp <;> omega)) | ((with_reducible apply Kept.via); focus with_reducible assumption))))⟩
set_option maxRecDepth 100000 in
set_option maxHeartbeats 1600000 in
theorem rv20_1_b1 {a b r : Int} (d0 : decide (a < 0) = false) (d1 : decide (1099511627776 < a) = false) (d2 : decide (b < 1) = false) (d3 : decide (1073741824 < b) = true)  (w : World) : Calls Try.prog 17 #[.agg #[.int .i64 1, .int .i64 a, .int .i64 b, .int .i64 r]] w fun e w' => e = .returned (.int .i64 201) ∧ Kept w w' := by
  go_enter Try.func17, Try.ntmps17
  go_upto_region 1 with fail
  generalize hW : World.alloc w (.cells #[.int .i64 1, .int .i64 a, .int .i64 b, .int .i64 r] 23) = W_e
  have K_e : Kept w W_e := by subst hW; exact (Kept.refl _).alloc _ _
  have H_e := Lib.hid (show W_e.cell? ⟨w.heap.size, 0, none⟩ = some (.int .i64 1) ∧ W_e.cell? ⟨w.heap.size, 1, none⟩ = some (.int .i64 a) ∧ W_e.cell? ⟨w.heap.size, 2, none⟩ = some (.int .i64 b) ∧ W_e.cell? ⟨w.heap.size, 3, none⟩ = some (.int .i64 r) from by subst hW; simp [go_sem])
  clear hW
  generalize w.heap.size = g_e at *
  obtain ⟨ce0, ce1, ce2, ce3⟩ := Kept.alln4 (show Kept W_e W_e from (by (repeat (first | with_reducible exact Kept.refl _ | with_reducible apply Kept.drew | with_reducible apply Kept.alloc | ((with_reducible apply Kept.set); focus (simp <;> omega)) | ((with_reducible apply Kept.via); focus with_reducible assumption))))) H_e
  go_wp2
  go_ret
  exact ⟨rfl, (by (repeat (first | with_reducible exact Kept.refl _ | with_reducible apply Kept.drew | with_reducible apply Kept.alloc | ((with_reducible apply Kept.set); focus (simp <;> omega)) | ((with_reducible apply Kept.via); focus with_reducible assumption))))⟩
set_option maxRecDepth 100000 in
set_option maxHeartbeats 1600000 in
theorem rv20_1_r0 {a b : Int} (d0 : decide (a < 0) = false) (d1 : decide (1099511627776 < a) = false) (d2 : decide (b < 1) = false) (d3 : decide (1073741824 < b) = false)  (w : World) : Calls Try.prog 17 #[.agg #[.int .i64 1, .int .i64 a, .int .i64 b, .int .i64 0]] w fun e w' => e = .returned (.int .i64 0) ∧ Kept w w' := by
  go_enter Try.func17, Try.ntmps17
  go_upto_region 1 with fail
  generalize hW : World.alloc w (.cells #[.int .i64 1, .int .i64 a, .int .i64 b, .int .i64 0] 23) = W_e
  have K_e : Kept w W_e := by subst hW; exact (Kept.refl _).alloc _ _
  have H_e := Lib.hid (show W_e.cell? ⟨w.heap.size, 0, none⟩ = some (.int .i64 1) ∧ W_e.cell? ⟨w.heap.size, 1, none⟩ = some (.int .i64 a) ∧ W_e.cell? ⟨w.heap.size, 2, none⟩ = some (.int .i64 b) ∧ W_e.cell? ⟨w.heap.size, 3, none⟩ = some (.int .i64 0) from by subst hW; simp [go_sem])
  clear hW
  generalize w.heap.size = g_e at *
  obtain ⟨ce0, ce1, ce2, ce3⟩ := Kept.alln4 (show Kept W_e W_e from (by (repeat (first | with_reducible exact Kept.refl _ | with_reducible apply Kept.drew | with_reducible apply Kept.alloc | ((with_reducible apply Kept.set); focus (simp <;> omega)) | ((with_reducible apply Kept.via); focus with_reducible assumption))))) H_e
  go_wp2
  go_ret
  exact ⟨rfl, (by (repeat (first | with_reducible exact Kept.refl _ | with_reducible apply Kept.drew | with_reducible apply Kept.alloc | ((with_reducible apply Kept.set); focus (simp <;> omega)) | ((with_reducible apply Kept.via); focus with_reducible assumption))))⟩
set_option maxRecDepth 100000 in
set_option maxHeartbeats 1600000 in
theorem rv20_1_rn {a b r : Int} (d0 : decide (a < 0) = false) (d1 : decide (1099511627776 < a) = false) (d2 : decide (b < 1) = false) (d3 : decide (1073741824 < b) = false) (d4 : (r == 0) = false) (d5 : ¬ r = 0) (d6 : decide (r < 0) = true)  (w : World) : Calls Try.prog 17 #[.agg #[.int .i64 1, .int .i64 a, .int .i64 b, .int .i64 r]] w fun e w' => e = .returned (.int .i64 201) ∧ Kept w w' := by
  go_enter Try.func17, Try.ntmps17
  go_upto_region 1 with fail
  generalize hW : World.alloc w (.cells #[.int .i64 1, .int .i64 a, .int .i64 b, .int .i64 r] 23) = W_e
  have K_e : Kept w W_e := by subst hW; exact (Kept.refl _).alloc _ _
  have H_e := Lib.hid (show W_e.cell? ⟨w.heap.size, 0, none⟩ = some (.int .i64 1) ∧ W_e.cell? ⟨w.heap.size, 1, none⟩ = some (.int .i64 a) ∧ W_e.cell? ⟨w.heap.size, 2, none⟩ = some (.int .i64 b) ∧ W_e.cell? ⟨w.heap.size, 3, none⟩ = some (.int .i64 r) from by subst hW; simp [go_sem])
  clear hW
  generalize w.heap.size = g_e at *
  obtain ⟨ce0, ce1, ce2, ce3⟩ := Kept.alln4 (show Kept W_e W_e from (by (repeat (first | with_reducible exact Kept.refl _ | with_reducible apply Kept.drew | with_reducible apply Kept.alloc | ((with_reducible apply Kept.set); focus (simp <;> omega)) | ((with_reducible apply Kept.via); focus with_reducible assumption))))) H_e
  go_wp2
  go_ret
  exact ⟨rfl, (by (repeat (first | with_reducible exact Kept.refl _ | with_reducible apply Kept.drew | with_reducible apply Kept.alloc | ((with_reducible apply Kept.set); focus (simp <;> omega)) | ((with_reducible apply Kept.via); focus with_reducible assumption))))⟩
set_option maxRecDepth 100000 in
set_option maxHeartbeats 1600000 in
theorem rv20_1_rb {a b r : Int} (d0 : decide (a < 0) = false) (d1 : decide (1099511627776 < a) = false) (d2 : decide (b < 1) = false) (d3 : decide (1073741824 < b) = false) (d4 : (r == 0) = false) (d5 : ¬ r = 0) (d6 : decide (r < 0) = false) (d7 : decide (1073741824 < r) = true)  (w : World) : Calls Try.prog 17 #[.agg #[.int .i64 1, .int .i64 a, .int .i64 b, .int .i64 r]] w fun e w' => e = .returned (.int .i64 201) ∧ Kept w w' := by
  go_enter Try.func17, Try.ntmps17
  go_upto_region 1 with fail
  generalize hW : World.alloc w (.cells #[.int .i64 1, .int .i64 a, .int .i64 b, .int .i64 r] 23) = W_e
  have K_e : Kept w W_e := by subst hW; exact (Kept.refl _).alloc _ _
  have H_e := Lib.hid (show W_e.cell? ⟨w.heap.size, 0, none⟩ = some (.int .i64 1) ∧ W_e.cell? ⟨w.heap.size, 1, none⟩ = some (.int .i64 a) ∧ W_e.cell? ⟨w.heap.size, 2, none⟩ = some (.int .i64 b) ∧ W_e.cell? ⟨w.heap.size, 3, none⟩ = some (.int .i64 r) from by subst hW; simp [go_sem])
  clear hW
  generalize w.heap.size = g_e at *
  obtain ⟨ce0, ce1, ce2, ce3⟩ := Kept.alln4 (show Kept W_e W_e from (by (repeat (first | with_reducible exact Kept.refl _ | with_reducible apply Kept.drew | with_reducible apply Kept.alloc | ((with_reducible apply Kept.set); focus (simp <;> omega)) | ((with_reducible apply Kept.via); focus with_reducible assumption))))) H_e
  go_wp2
  go_ret
  exact ⟨rfl, (by (repeat (first | with_reducible exact Kept.refl _ | with_reducible apply Kept.drew | with_reducible apply Kept.alloc | ((with_reducible apply Kept.set); focus (simp <;> omega)) | ((with_reducible apply Kept.via); focus with_reducible assumption))))⟩
set_option maxRecDepth 100000 in
set_option maxHeartbeats 1600000 in
theorem rv20_1_ry {a b r : Int} (d0 : decide (a < 0) = false) (d1 : decide (1099511627776 < a) = false) (d2 : decide (b < 1) = false) (d3 : decide (1073741824 < b) = false) (d4 : (r == 0) = false) (d5 : ¬ r = 0) (d6 : decide (r < 0) = false) (d7 : decide (1073741824 < r) = false)  (w : World) : Calls Try.prog 17 #[.agg #[.int .i64 1, .int .i64 a, .int .i64 b, .int .i64 r]] w fun e w' => e = .returned (.int .i64 0) ∧ Kept w w' := by
  go_enter Try.func17, Try.ntmps17
  go_upto_region 1 with fail
  generalize hW : World.alloc w (.cells #[.int .i64 1, .int .i64 a, .int .i64 b, .int .i64 r] 23) = W_e
  have K_e : Kept w W_e := by subst hW; exact (Kept.refl _).alloc _ _
  have H_e := Lib.hid (show W_e.cell? ⟨w.heap.size, 0, none⟩ = some (.int .i64 1) ∧ W_e.cell? ⟨w.heap.size, 1, none⟩ = some (.int .i64 a) ∧ W_e.cell? ⟨w.heap.size, 2, none⟩ = some (.int .i64 b) ∧ W_e.cell? ⟨w.heap.size, 3, none⟩ = some (.int .i64 r) from by subst hW; simp [go_sem])
  clear hW
  generalize w.heap.size = g_e at *
  obtain ⟨ce0, ce1, ce2, ce3⟩ := Kept.alln4 (show Kept W_e W_e from (by (repeat (first | with_reducible exact Kept.refl _ | with_reducible apply Kept.drew | with_reducible apply Kept.alloc | ((with_reducible apply Kept.set); focus (simp <;> omega)) | ((with_reducible apply Kept.via); focus with_reducible assumption))))) H_e
  go_wp2
  go_ret
  exact ⟨rfl, (by (repeat (first | with_reducible exact Kept.refl _ | with_reducible apply Kept.drew | with_reducible apply Kept.alloc | ((with_reducible apply Kept.set); focus (simp <;> omega)) | ((with_reducible apply Kept.via); focus with_reducible assumption))))⟩
set_option maxRecDepth 100000 in
set_option maxHeartbeats 1600000 in
theorem rv20_2_b0 {a b r : Int} (d0 : decide (a < 0) = false) (d1 : decide (1099511627776 < a) = false) (d2 : decide (b < 1) = true)  (w : World) : Calls Try.prog 17 #[.agg #[.int .i64 2, .int .i64 a, .int .i64 b, .int .i64 r]] w fun e w' => e = .returned (.int .i64 201) ∧ Kept w w' := by
  go_enter Try.func17, Try.ntmps17
  go_upto_region 1 with fail
  generalize hW : World.alloc w (.cells #[.int .i64 2, .int .i64 a, .int .i64 b, .int .i64 r] 23) = W_e
  have K_e : Kept w W_e := by subst hW; exact (Kept.refl _).alloc _ _
  have H_e := Lib.hid (show W_e.cell? ⟨w.heap.size, 0, none⟩ = some (.int .i64 2) ∧ W_e.cell? ⟨w.heap.size, 1, none⟩ = some (.int .i64 a) ∧ W_e.cell? ⟨w.heap.size, 2, none⟩ = some (.int .i64 b) ∧ W_e.cell? ⟨w.heap.size, 3, none⟩ = some (.int .i64 r) from by subst hW; simp [go_sem])
  clear hW
  generalize w.heap.size = g_e at *
  obtain ⟨ce0, ce1, ce2, ce3⟩ := Kept.alln4 (show Kept W_e W_e from (by (repeat (first | with_reducible exact Kept.refl _ | with_reducible apply Kept.drew | with_reducible apply Kept.alloc | ((with_reducible apply Kept.set); focus (simp <;> omega)) | ((with_reducible apply Kept.via); focus with_reducible assumption))))) H_e
  go_wp2
  go_ret
  exact ⟨rfl, (by (repeat (first | with_reducible exact Kept.refl _ | with_reducible apply Kept.drew | with_reducible apply Kept.alloc | ((with_reducible apply Kept.set); focus (simp <;> omega)) | ((with_reducible apply Kept.via); focus with_reducible assumption))))⟩
set_option maxRecDepth 100000 in
set_option maxHeartbeats 1600000 in
theorem rv20_2_b1 {a b r : Int} (d0 : decide (a < 0) = false) (d1 : decide (1099511627776 < a) = false) (d2 : decide (b < 1) = false) (d3 : decide (1073741824 < b) = true)  (w : World) : Calls Try.prog 17 #[.agg #[.int .i64 2, .int .i64 a, .int .i64 b, .int .i64 r]] w fun e w' => e = .returned (.int .i64 201) ∧ Kept w w' := by
  go_enter Try.func17, Try.ntmps17
  go_upto_region 1 with fail
  generalize hW : World.alloc w (.cells #[.int .i64 2, .int .i64 a, .int .i64 b, .int .i64 r] 23) = W_e
  have K_e : Kept w W_e := by subst hW; exact (Kept.refl _).alloc _ _
  have H_e := Lib.hid (show W_e.cell? ⟨w.heap.size, 0, none⟩ = some (.int .i64 2) ∧ W_e.cell? ⟨w.heap.size, 1, none⟩ = some (.int .i64 a) ∧ W_e.cell? ⟨w.heap.size, 2, none⟩ = some (.int .i64 b) ∧ W_e.cell? ⟨w.heap.size, 3, none⟩ = some (.int .i64 r) from by subst hW; simp [go_sem])
  clear hW
  generalize w.heap.size = g_e at *
  obtain ⟨ce0, ce1, ce2, ce3⟩ := Kept.alln4 (show Kept W_e W_e from (by (repeat (first | with_reducible exact Kept.refl _ | with_reducible apply Kept.drew | with_reducible apply Kept.alloc | ((with_reducible apply Kept.set); focus (simp <;> omega)) | ((with_reducible apply Kept.via); focus with_reducible assumption))))) H_e
  go_wp2
  go_ret
  exact ⟨rfl, (by (repeat (first | with_reducible exact Kept.refl _ | with_reducible apply Kept.drew | with_reducible apply Kept.alloc | ((with_reducible apply Kept.set); focus (simp <;> omega)) | ((with_reducible apply Kept.via); focus with_reducible assumption))))⟩
set_option maxRecDepth 100000 in
set_option maxHeartbeats 1600000 in
theorem rv20_2_r0 {a b : Int} (d0 : decide (a < 0) = false) (d1 : decide (1099511627776 < a) = false) (d2 : decide (b < 1) = false) (d3 : decide (1073741824 < b) = false)  (w : World) : Calls Try.prog 17 #[.agg #[.int .i64 2, .int .i64 a, .int .i64 b, .int .i64 0]] w fun e w' => e = .returned (.int .i64 0) ∧ Kept w w' := by
  go_enter Try.func17, Try.ntmps17
  go_upto_region 1 with fail
  generalize hW : World.alloc w (.cells #[.int .i64 2, .int .i64 a, .int .i64 b, .int .i64 0] 23) = W_e
  have K_e : Kept w W_e := by subst hW; exact (Kept.refl _).alloc _ _
  have H_e := Lib.hid (show W_e.cell? ⟨w.heap.size, 0, none⟩ = some (.int .i64 2) ∧ W_e.cell? ⟨w.heap.size, 1, none⟩ = some (.int .i64 a) ∧ W_e.cell? ⟨w.heap.size, 2, none⟩ = some (.int .i64 b) ∧ W_e.cell? ⟨w.heap.size, 3, none⟩ = some (.int .i64 0) from by subst hW; simp [go_sem])
  clear hW
  generalize w.heap.size = g_e at *
  obtain ⟨ce0, ce1, ce2, ce3⟩ := Kept.alln4 (show Kept W_e W_e from (by (repeat (first | with_reducible exact Kept.refl _ | with_reducible apply Kept.drew | with_reducible apply Kept.alloc | ((with_reducible apply Kept.set); focus (simp <;> omega)) | ((with_reducible apply Kept.via); focus with_reducible assumption))))) H_e
  go_wp2
  go_ret
  exact ⟨rfl, (by (repeat (first | with_reducible exact Kept.refl _ | with_reducible apply Kept.drew | with_reducible apply Kept.alloc | ((with_reducible apply Kept.set); focus (simp <;> omega)) | ((with_reducible apply Kept.via); focus with_reducible assumption))))⟩
set_option maxRecDepth 100000 in
set_option maxHeartbeats 1600000 in
theorem rv20_2_rx {a b r : Int} (d0 : decide (a < 0) = false) (d1 : decide (1099511627776 < a) = false) (d2 : decide (b < 1) = false) (d3 : decide (1073741824 < b) = false) (d4 : (r == 0) = false) (d5 : ¬ r = 0)  (w : World) : Calls Try.prog 17 #[.agg #[.int .i64 2, .int .i64 a, .int .i64 b, .int .i64 r]] w fun e w' => e = .returned (.int .i64 201) ∧ Kept w w' := by
  go_enter Try.func17, Try.ntmps17
  go_upto_region 1 with fail
  generalize hW : World.alloc w (.cells #[.int .i64 2, .int .i64 a, .int .i64 b, .int .i64 r] 23) = W_e
  have K_e : Kept w W_e := by subst hW; exact (Kept.refl _).alloc _ _
  have H_e := Lib.hid (show W_e.cell? ⟨w.heap.size, 0, none⟩ = some (.int .i64 2) ∧ W_e.cell? ⟨w.heap.size, 1, none⟩ = some (.int .i64 a) ∧ W_e.cell? ⟨w.heap.size, 2, none⟩ = some (.int .i64 b) ∧ W_e.cell? ⟨w.heap.size, 3, none⟩ = some (.int .i64 r) from by subst hW; simp [go_sem])
  clear hW
  generalize w.heap.size = g_e at *
  obtain ⟨ce0, ce1, ce2, ce3⟩ := Kept.alln4 (show Kept W_e W_e from (by (repeat (first | with_reducible exact Kept.refl _ | with_reducible apply Kept.drew | with_reducible apply Kept.alloc | ((with_reducible apply Kept.set); focus (simp <;> omega)) | ((with_reducible apply Kept.via); focus with_reducible assumption))))) H_e
  go_wp2
  go_ret
  exact ⟨rfl, (by (repeat (first | with_reducible exact Kept.refl _ | with_reducible apply Kept.drew | with_reducible apply Kept.alloc | ((with_reducible apply Kept.set); focus (simp <;> omega)) | ((with_reducible apply Kept.via); focus with_reducible assumption))))⟩
set_option maxRecDepth 100000 in
set_option maxHeartbeats 1600000 in
theorem rv20_6_b0 {a b r : Int} (d0 : decide (a < 0) = false) (d1 : decide (1099511627776 < a) = false) (d2 : decide (b < 1) = true)  (w : World) : Calls Try.prog 17 #[.agg #[.int .i64 6, .int .i64 a, .int .i64 b, .int .i64 r]] w fun e w' => e = .returned (.int .i64 201) ∧ Kept w w' := by
  go_enter Try.func17, Try.ntmps17
  go_upto_region 1 with fail
  generalize hW : World.alloc w (.cells #[.int .i64 6, .int .i64 a, .int .i64 b, .int .i64 r] 23) = W_e
  have K_e : Kept w W_e := by subst hW; exact (Kept.refl _).alloc _ _
  have H_e := Lib.hid (show W_e.cell? ⟨w.heap.size, 0, none⟩ = some (.int .i64 6) ∧ W_e.cell? ⟨w.heap.size, 1, none⟩ = some (.int .i64 a) ∧ W_e.cell? ⟨w.heap.size, 2, none⟩ = some (.int .i64 b) ∧ W_e.cell? ⟨w.heap.size, 3, none⟩ = some (.int .i64 r) from by subst hW; simp [go_sem])
  clear hW
  generalize w.heap.size = g_e at *
  obtain ⟨ce0, ce1, ce2, ce3⟩ := Kept.alln4 (show Kept W_e W_e from (by (repeat (first | with_reducible exact Kept.refl _ | with_reducible apply Kept.drew | with_reducible apply Kept.alloc | ((with_reducible apply Kept.set); focus (simp <;> omega)) | ((with_reducible apply Kept.via); focus with_reducible assumption))))) H_e
  go_wp2
  go_ret
  exact ⟨rfl, (by (repeat (first | with_reducible exact Kept.refl _ | with_reducible apply Kept.drew | with_reducible apply Kept.alloc | ((with_reducible apply Kept.set); focus (simp <;> omega)) | ((with_reducible apply Kept.via); focus with_reducible assumption))))⟩
set_option maxRecDepth 100000 in
set_option maxHeartbeats 1600000 in
theorem rv20_6_b1 {a b r : Int} (d0 : decide (a < 0) = false) (d1 : decide (1099511627776 < a) = false) (d2 : decide (b < 1) = false) (d3 : decide (1073741824 < b) = true)  (w : World) : Calls Try.prog 17 #[.agg #[.int .i64 6, .int .i64 a, .int .i64 b, .int .i64 r]] w fun e w' => e = .returned (.int .i64 201) ∧ Kept w w' := by
  go_enter Try.func17, Try.ntmps17
  go_upto_region 1 with fail
  generalize hW : World.alloc w (.cells #[.int .i64 6, .int .i64 a, .int .i64 b, .int .i64 r] 23) = W_e
  have K_e : Kept w W_e := by subst hW; exact (Kept.refl _).alloc _ _
  have H_e := Lib.hid (show W_e.cell? ⟨w.heap.size, 0, none⟩ = some (.int .i64 6) ∧ W_e.cell? ⟨w.heap.size, 1, none⟩ = some (.int .i64 a) ∧ W_e.cell? ⟨w.heap.size, 2, none⟩ = some (.int .i64 b) ∧ W_e.cell? ⟨w.heap.size, 3, none⟩ = some (.int .i64 r) from by subst hW; simp [go_sem])
  clear hW
  generalize w.heap.size = g_e at *
  obtain ⟨ce0, ce1, ce2, ce3⟩ := Kept.alln4 (show Kept W_e W_e from (by (repeat (first | with_reducible exact Kept.refl _ | with_reducible apply Kept.drew | with_reducible apply Kept.alloc | ((with_reducible apply Kept.set); focus (simp <;> omega)) | ((with_reducible apply Kept.via); focus with_reducible assumption))))) H_e
  go_wp2
  go_ret
  exact ⟨rfl, (by (repeat (first | with_reducible exact Kept.refl _ | with_reducible apply Kept.drew | with_reducible apply Kept.alloc | ((with_reducible apply Kept.set); focus (simp <;> omega)) | ((with_reducible apply Kept.via); focus with_reducible assumption))))⟩
set_option maxRecDepth 100000 in
set_option maxHeartbeats 1600000 in
theorem rv20_6_r0 {a b : Int} (d0 : decide (a < 0) = false) (d1 : decide (1099511627776 < a) = false) (d2 : decide (b < 1) = false) (d3 : decide (1073741824 < b) = false)  (w : World) : Calls Try.prog 17 #[.agg #[.int .i64 6, .int .i64 a, .int .i64 b, .int .i64 0]] w fun e w' => e = .returned (.int .i64 0) ∧ Kept w w' := by
  go_enter Try.func17, Try.ntmps17
  go_upto_region 1 with fail
  generalize hW : World.alloc w (.cells #[.int .i64 6, .int .i64 a, .int .i64 b, .int .i64 0] 23) = W_e
  have K_e : Kept w W_e := by subst hW; exact (Kept.refl _).alloc _ _
  have H_e := Lib.hid (show W_e.cell? ⟨w.heap.size, 0, none⟩ = some (.int .i64 6) ∧ W_e.cell? ⟨w.heap.size, 1, none⟩ = some (.int .i64 a) ∧ W_e.cell? ⟨w.heap.size, 2, none⟩ = some (.int .i64 b) ∧ W_e.cell? ⟨w.heap.size, 3, none⟩ = some (.int .i64 0) from by subst hW; simp [go_sem])
  clear hW
  generalize w.heap.size = g_e at *
  obtain ⟨ce0, ce1, ce2, ce3⟩ := Kept.alln4 (show Kept W_e W_e from (by (repeat (first | with_reducible exact Kept.refl _ | with_reducible apply Kept.drew | with_reducible apply Kept.alloc | ((with_reducible apply Kept.set); focus (simp <;> omega)) | ((with_reducible apply Kept.via); focus with_reducible assumption))))) H_e
  go_wp2
  go_ret
  exact ⟨rfl, (by (repeat (first | with_reducible exact Kept.refl _ | with_reducible apply Kept.drew | with_reducible apply Kept.alloc | ((with_reducible apply Kept.set); focus (simp <;> omega)) | ((with_reducible apply Kept.via); focus with_reducible assumption))))⟩
set_option maxRecDepth 100000 in
set_option maxHeartbeats 1600000 in
theorem rv20_6_rx {a b r : Int} (d0 : decide (a < 0) = false) (d1 : decide (1099511627776 < a) = false) (d2 : decide (b < 1) = false) (d3 : decide (1073741824 < b) = false) (d4 : (r == 0) = false) (d5 : ¬ r = 0)  (w : World) : Calls Try.prog 17 #[.agg #[.int .i64 6, .int .i64 a, .int .i64 b, .int .i64 r]] w fun e w' => e = .returned (.int .i64 201) ∧ Kept w w' := by
  go_enter Try.func17, Try.ntmps17
  go_upto_region 1 with fail
  generalize hW : World.alloc w (.cells #[.int .i64 6, .int .i64 a, .int .i64 b, .int .i64 r] 23) = W_e
  have K_e : Kept w W_e := by subst hW; exact (Kept.refl _).alloc _ _
  have H_e := Lib.hid (show W_e.cell? ⟨w.heap.size, 0, none⟩ = some (.int .i64 6) ∧ W_e.cell? ⟨w.heap.size, 1, none⟩ = some (.int .i64 a) ∧ W_e.cell? ⟨w.heap.size, 2, none⟩ = some (.int .i64 b) ∧ W_e.cell? ⟨w.heap.size, 3, none⟩ = some (.int .i64 r) from by subst hW; simp [go_sem])
  clear hW
  generalize w.heap.size = g_e at *
  obtain ⟨ce0, ce1, ce2, ce3⟩ := Kept.alln4 (show Kept W_e W_e from (by (repeat (first | with_reducible exact Kept.refl _ | with_reducible apply Kept.drew | with_reducible apply Kept.alloc | ((with_reducible apply Kept.set); focus (simp <;> omega)) | ((with_reducible apply Kept.via); focus with_reducible assumption))))) H_e
  go_wp2
  go_ret
  exact ⟨rfl, (by (repeat (first | with_reducible exact Kept.refl _ | with_reducible apply Kept.drew | with_reducible apply Kept.alloc | ((with_reducible apply Kept.set); focus (simp <;> omega)) | ((with_reducible apply Kept.via); focus with_reducible assumption))))⟩
set_option maxRecDepth 100000 in
set_option maxHeartbeats 1600000 in
theorem rv20_o_b {k a b r : Int} (d0 : decide (k < 1) = false) (d1 : decide (7 < k) = false) (d2 : (k == 1) = false) (d3 : (k == 2) = false) (d4 : (k == 6) = false) (d5 : ¬ k = 1) (d6 : ¬ k = 2) (d7 : ¬ k = 6) (d8 : decide (a < 0) = false) (d9 : decide (1099511627776 < a) = false) (d10 : (b == 0) = false) (d11 : ¬ b = 0)  (w : World) : Calls Try.prog 17 #[.agg #[.int .i64 k, .int .i64 a, .int .i64 b, .int .i64 r]] w fun e w' => e = .returned (.int .i64 201) ∧ Kept w w' := by
  go_enter Try.func17, Try.ntmps17
  go_upto_region 1 with fail
  generalize hW : World.alloc w (.cells #[.int .i64 k, .int .i64 a, .int .i64 b, .int .i64 r] 23) = W_e
  have K_e : Kept w W_e := by subst hW; exact (Kept.refl _).alloc _ _
  have H_e := Lib.hid (show W_e.cell? ⟨w.heap.size, 0, none⟩ = some (.int .i64 k) ∧ W_e.cell? ⟨w.heap.size, 1, none⟩ = some (.int .i64 a) ∧ W_e.cell? ⟨w.heap.size, 2, none⟩ = some (.int .i64 b) ∧ W_e.cell? ⟨w.heap.size, 3, none⟩ = some (.int .i64 r) from by subst hW; simp [go_sem])
  clear hW
  generalize w.heap.size = g_e at *
  obtain ⟨ce0, ce1, ce2, ce3⟩ := Kept.alln4 (show Kept W_e W_e from (by (repeat (first | with_reducible exact Kept.refl _ | with_reducible apply Kept.drew | with_reducible apply Kept.alloc | ((with_reducible apply Kept.set); focus (simp <;> omega)) | ((with_reducible apply Kept.via); focus with_reducible assumption))))) H_e
  go_wp2
  go_ret
  exact ⟨rfl, (by (repeat (first | with_reducible exact Kept.refl _ | with_reducible apply Kept.drew | with_reducible apply Kept.alloc | ((with_reducible apply Kept.set); focus (simp <;> omega)) | ((with_reducible apply Kept.via); focus with_reducible assumption))))⟩
set_option maxRecDepth 100000 in
set_option maxHeartbeats 1600000 in
theorem rv20_o_r0 {k a : Int} (d0 : decide (k < 1) = false) (d1 : decide (7 < k) = false) (d2 : (k == 1) = false) (d3 : (k == 2) = false) (d4 : (k == 6) = false) (d5 : ¬ k = 1) (d6 : ¬ k = 2) (d7 : ¬ k = 6) (d8 : decide (a < 0) = false) (d9 : decide (1099511627776 < a) = false)  (w : World) : Calls Try.prog 17 #[.agg #[.int .i64 k, .int .i64 a, .int .i64 0, .int .i64 0]] w fun e w' => e = .returned (.int .i64 0) ∧ Kept w w' := by
  go_enter Try.func17, Try.ntmps17
  go_upto_region 1 with fail
  generalize hW : World.alloc w (.cells #[.int .i64 k, .int .i64 a, .int .i64 0, .int .i64 0] 23) = W_e
  have K_e : Kept w W_e := by subst hW; exact (Kept.refl _).alloc _ _
  have H_e := Lib.hid (show W_e.cell? ⟨w.heap.size, 0, none⟩ = some (.int .i64 k) ∧ W_e.cell? ⟨w.heap.size, 1, none⟩ = some (.int .i64 a) ∧ W_e.cell? ⟨w.heap.size, 2, none⟩ = some (.int .i64 0) ∧ W_e.cell? ⟨w.heap.size, 3, none⟩ = some (.int .i64 0) from by subst hW; simp [go_sem])
  clear hW
  generalize w.heap.size = g_e at *
  obtain ⟨ce0, ce1, ce2, ce3⟩ := Kept.alln4 (show Kept W_e W_e from (by (repeat (first | with_reducible exact Kept.refl _ | with_reducible apply Kept.drew | with_reducible apply Kept.alloc | ((with_reducible apply Kept.set); focus (simp <;> omega)) | ((with_reducible apply Kept.via); focus with_reducible assumption))))) H_e
  go_wp2
  go_ret
  exact ⟨rfl, (by (repeat (first | with_reducible exact Kept.refl _ | with_reducible apply Kept.drew | with_reducible apply Kept.alloc | ((with_reducible apply Kept.set); focus (simp <;> omega)) | ((with_reducible apply Kept.via); focus with_reducible assumption))))⟩
set_option maxRecDepth 100000 in
set_option maxHeartbeats 1600000 in
theorem rv20_o_rx {k a r : Int} (d0 : decide (k < 1) = false) (d1 : decide (7 < k) = false) (d2 : (k == 1) = false) (d3 : (k == 2) = false) (d4 : (k == 6) = false) (d5 : ¬ k = 1) (d6 : ¬ k = 2) (d7 : ¬ k = 6) (d8 : decide (a < 0) = false) (d9 : decide (1099511627776 < a) = false) (d10 : (r == 0) = false) (d11 : ¬ r = 0)  (w : World) : Calls Try.prog 17 #[.agg #[.int .i64 k, .int .i64 a, .int .i64 0, .int .i64 r]] w fun e w' => e = .returned (.int .i64 201) ∧ Kept w w' := by
  go_enter Try.func17, Try.ntmps17
  go_upto_region 1 with fail
  generalize hW : World.alloc w (.cells #[.int .i64 k, .int .i64 a, .int .i64 0, .int .i64 r] 23) = W_e
  have K_e : Kept w W_e := by subst hW; exact (Kept.refl _).alloc _ _
  have H_e := Lib.hid (show W_e.cell? ⟨w.heap.size, 0, none⟩ = some (.int .i64 k) ∧ W_e.cell? ⟨w.heap.size, 1, none⟩ = some (.int .i64 a) ∧ W_e.cell? ⟨w.heap.size, 2, none⟩ = some (.int .i64 0) ∧ W_e.cell? ⟨w.heap.size, 3, none⟩ = some (.int .i64 r) from by subst hW; simp [go_sem])
  clear hW
  generalize w.heap.size = g_e at *
  obtain ⟨ce0, ce1, ce2, ce3⟩ := Kept.alln4 (show Kept W_e W_e from (by (repeat (first | with_reducible exact Kept.refl _ | with_reducible apply Kept.drew | with_reducible apply Kept.alloc | ((with_reducible apply Kept.set); focus (simp <;> omega)) | ((with_reducible apply Kept.via); focus with_reducible assumption))))) H_e
  go_wp2
  go_ret
  exact ⟨rfl, (by (repeat (first | with_reducible exact Kept.refl _ | with_reducible apply Kept.drew | with_reducible apply Kept.alloc | ((with_reducible apply Kept.set); focus (simp <;> omega)) | ((with_reducible apply Kept.via); focus with_reducible assumption))))⟩
theorem refCheck20_ok {k a b r n : Int} (h : chkV (k, a, b, r) = n) (w : World) : Calls Try.prog 17 #[.agg #[.int .i64 k, .int .i64 a, .int .i64 b, .int .i64 r]] w fun e w' => e = .returned (.int .i64 n) ∧ Kept w w' := by
  by_cases hc : k < 1
  · have e : n = 200 := by rw [← h]; unfold chkV rttV; dsimp only; (repeat' split) <;> omega
    subst e; exact rv20_k0 (by simp; omega) w
  by_cases hc : 7 < k
  · have e : n = 200 := by rw [← h]; unfold chkV rttV; dsimp only; (repeat' split) <;> omega
    subst e; exact rv20_k1 (by simp; omega) (by simp; omega) w
  by_cases hc : a < 0
  · have e : n = 51 := by rw [← h]; unfold chkV rttV; dsimp only; (repeat' split) <;> omega
    subst e; exact rv20_a0 (by simp; omega) (by simp; omega) (by simp; omega) w
  by_cases hc : 1099511627776 < a
  · have e : n = 51 := by rw [← h]; unfold chkV rttV; dsimp only; (repeat' split) <;> omega
    subst e; exact rv20_a1 (by simp; omega) (by simp; omega) (by simp; omega) (by simp; omega) w
  by_cases hc : k = 1
  · subst hc
    by_cases hc : b < 1
    · have e : n = 201 := by rw [← h]; unfold chkV rttV; dsimp only; (repeat' split) <;> omega
      subst e; exact rv20_1_b0 (by simp; omega) (by simp; omega) (by simp; omega) w
    by_cases hc : 1073741824 < b
    · have e : n = 201 := by rw [← h]; unfold chkV rttV; dsimp only; (repeat' split) <;> omega
      subst e; exact rv20_1_b1 (by simp; omega) (by simp; omega) (by simp; omega) (by simp; omega) w
    by_cases hc : r = 0
    · subst hc
      have e : n = 0 := by rw [← h]; unfold chkV rttV; dsimp only; (repeat' split) <;> omega
      subst e; exact rv20_1_r0 (by simp; omega) (by simp; omega) (by simp; omega) (by simp; omega) w
    by_cases hc : r < 0
    · have e : n = 201 := by rw [← h]; unfold chkV rttV; dsimp only; (repeat' split) <;> omega
      subst e; exact rv20_1_rn (by simp; omega) (by simp; omega) (by simp; omega) (by simp; omega) (by simp; omega) (by omega) (by simp; omega) w
    by_cases hc : 1073741824 < r
    · have e : n = 201 := by rw [← h]; unfold chkV rttV; dsimp only; (repeat' split) <;> omega
      subst e; exact rv20_1_rb (by simp; omega) (by simp; omega) (by simp; omega) (by simp; omega) (by simp; omega) (by omega) (by simp; omega) (by simp; omega) w
    have e : n = 0 := by rw [← h]; unfold chkV rttV; dsimp only; (repeat' split) <;> omega
    subst e; exact rv20_1_ry (by simp; omega) (by simp; omega) (by simp; omega) (by simp; omega) (by simp; omega) (by omega) (by simp; omega) (by simp; omega) w
  by_cases hc : k = 2
  · subst hc
    by_cases hc : b < 1
    · have e : n = 201 := by rw [← h]; unfold chkV rttV; dsimp only; (repeat' split) <;> omega
      subst e; exact rv20_2_b0 (by simp; omega) (by simp; omega) (by simp; omega) w
    by_cases hc : 1073741824 < b
    · have e : n = 201 := by rw [← h]; unfold chkV rttV; dsimp only; (repeat' split) <;> omega
      subst e; exact rv20_2_b1 (by simp; omega) (by simp; omega) (by simp; omega) (by simp; omega) w
    by_cases hc : r = 0
    · subst hc
      have e : n = 0 := by rw [← h]; unfold chkV rttV; dsimp only; (repeat' split) <;> omega
      subst e; exact rv20_2_r0 (by simp; omega) (by simp; omega) (by simp; omega) (by simp; omega) w
    have e : n = 201 := by rw [← h]; unfold chkV rttV; dsimp only; (repeat' split) <;> omega
    subst e; exact rv20_2_rx (by simp; omega) (by simp; omega) (by simp; omega) (by simp; omega) (by simp; omega) (by omega) w
  by_cases hc : k = 6
  · subst hc
    by_cases hc : b < 1
    · have e : n = 201 := by rw [← h]; unfold chkV rttV; dsimp only; (repeat' split) <;> omega
      subst e; exact rv20_6_b0 (by simp; omega) (by simp; omega) (by simp; omega) w
    by_cases hc : 1073741824 < b
    · have e : n = 201 := by rw [← h]; unfold chkV rttV; dsimp only; (repeat' split) <;> omega
      subst e; exact rv20_6_b1 (by simp; omega) (by simp; omega) (by simp; omega) (by simp; omega) w
    by_cases hc : r = 0
    · subst hc
      have e : n = 0 := by rw [← h]; unfold chkV rttV; dsimp only; (repeat' split) <;> omega
      subst e; exact rv20_6_r0 (by simp; omega) (by simp; omega) (by simp; omega) (by simp; omega) w
    have e : n = 201 := by rw [← h]; unfold chkV rttV; dsimp only; (repeat' split) <;> omega
    subst e; exact rv20_6_rx (by simp; omega) (by simp; omega) (by simp; omega) (by simp; omega) (by simp; omega) (by omega) w
  by_cases hc : ¬ b = 0
  · have e : n = 201 := by rw [← h]; unfold chkV rttV; dsimp only; (repeat' split) <;> omega
    subst e; exact rv20_o_b (by simp; omega) (by simp; omega) (by simp; omega) (by simp; omega) (by simp; omega) (by omega) (by omega) (by omega) (by simp; omega) (by simp; omega) (by simp; omega) (by omega) w
  by_cases hc : b = 0
  · subst hc
    by_cases hc : r = 0
    · subst hc
      have e : n = 0 := by rw [← h]; unfold chkV rttV; dsimp only; (repeat' split) <;> omega
      subst e; exact rv20_o_r0 (by simp; omega) (by simp; omega) (by simp; omega) (by simp; omega) (by simp; omega) (by omega) (by omega) (by omega) (by simp; omega) (by simp; omega) w
    have e : n = 201 := by rw [← h]; unfold chkV rttV; dsimp only; (repeat' split) <;> omega
    subst e; exact rv20_o_rx (by simp; omega) (by simp; omega) (by simp; omega) (by simp; omega) (by simp; omega) (by omega) (by omega) (by omega) (by simp; omega) (by simp; omega) (by simp; omega) (by omega) w
  omega
set_option maxRecDepth 100000 in
set_option maxHeartbeats 1600000 in
theorem rd20_len {A : Option Addr} {n cap : Nat} (h : ¬ n = 4) (w : World) : Calls Try.prog 12 #[.slice A n cap] w fun e w' => e = .returned (.tuple #[.agg #[.int .i64 0, .int .i64 0, .int .i64 0, .int .i64 0], .int .i64 201]) ∧ Kept w w' := by
  have d0 : ((n : Int) == 4) = false := by simp; omega
  have d1 : ¬ (n : Int) = 4 := by omega
  go_enter Try.func12, Try.ntmps12
  go_upto_region 1 with fail
  generalize hW : World.alloc w (.cells #[.int .i64 0, .int .i64 0, .int .i64 0, .int .i64 0] 23) = W0
  have Z0 := Lib.hid (show RV W0 w.heap.size 0 0 0 0 from by subst hW; exact ⟨⟨by simp [go_sem], by simp [go_sem], by simp [go_sem], by simp [go_sem]⟩, by simp [go_sem], by simp [go_sem], by simp [go_sem], by simp [go_sem]⟩)
  have kz0 : Kept w W0 := by subst hW; exact (Kept.refl _).alloc _ _
  clear hW
  generalize hg : w.heap.size = g at *
  have gw : w.heap.size ≤ g := by omega
  have ne1 := Z0.out.ne
  obtain ⟨⟨z0, z1, z2, z3⟩, zf0, zf1, zf2, zf3⟩ := Z0.out
  go_wp2
  simp [bodyPost, results, Try.results12, go_sem, *]
  exact (by (repeat (first | with_reducible exact Kept.refl _ | with_reducible apply Kept.drew | with_reducible apply Kept.alloc | ((with_reducible apply Kept.set); focus (simp <;> omega)) | ((with_reducible apply Kept.via); focus with_reducible assumption))))
set_option maxRecDepth 100000 in
set_option maxHeartbeats 1600000 in
theorem rd20_ok {bb off cap : Nat} {k a b r : Int} (w : World) (hc : w.cell? ⟨bb, off, none⟩ = some (.int .i64 k) ∧ w.cell? ⟨bb, off + 1, none⟩ = some (.int .i64 a) ∧ w.cell? ⟨bb, off + 2, none⟩ = some (.int .i64 b) ∧ w.cell? ⟨bb, off + 3, none⟩ = some (.int .i64 r)) (CK : ∀ w, Calls Try.prog 17 #[.agg #[.int .i64 k, .int .i64 a, .int .i64 b, .int .i64 r]] w fun e w' => e = .returned (.int .i64 0) ∧ Kept w w') : Calls Try.prog 12 #[.slice (some ⟨bb, off, none⟩) 4 cap] w fun e w' => e = .returned (.tuple #[.agg #[.int .i64 k, .int .i64 a, .int .i64 b, .int .i64 r], .int .i64 0]) ∧ Kept w w' := by
  have HC := Lib.hid hc
  have CK' := Lib.hid CK
  clear hc CK
  have q0 : (0 : Int) < 4 := by omega
  have q1 : (1 : Int) < 4 := by omega
  have q2 : (2 : Int) < 4 := by omega
  have q3 : (3 : Int) < 4 := by omega
  go_enter Try.func12, Try.ntmps12
  go_upto_region 1 with fail
  generalize hW : World.alloc w (.cells #[.int .i64 0, .int .i64 0, .int .i64 0, .int .i64 0] 23) = W0
  have Z0 := Lib.hid (show RV W0 w.heap.size 0 0 0 0 from by subst hW; exact ⟨⟨by simp [go_sem], by simp [go_sem], by simp [go_sem], by simp [go_sem]⟩, by simp [go_sem], by simp [go_sem], by simp [go_sem], by simp [go_sem]⟩)
  have kz0 : Kept w W0 := by subst hW; exact (Kept.refl _).alloc _ _
  clear hW
  generalize hg : w.heap.size = g at *
  have gw : w.heap.size ≤ g := by omega
  obtain ⟨c0, c1, c2, c3⟩ := HC.out
  have e0 := kz0.read c0
  have e1 := kz0.read c1
  have e2 := kz0.read c2
  have e3 := kz0.read c3
  clear c0 c1 c2 c3
  have lt0 := cell_lt e0
  dsimp only at lt0
  go_upto_region 3 with fail
  go_region
  generalize hW : World.drew (World.alloc W0 (.cells #[.int .i64 k, .int .i64 a, .int .i64 b, .int .i64 r] 23)) = W1
  have K1 : Kept W0 W1 := by subst hW; exact ((Kept.refl _).alloc _ _).drew
  have E1 := Lib.hid (show RV W1 W0.heap.size k a b r from by subst hW; exact ⟨⟨by simp [go_sem], by simp [go_sem], by simp [go_sem], by simp [go_sem]⟩, by simp [go_sem], by simp [go_sem], by simp [go_sem], by simp [go_sem]⟩)
  clear hW e0 e1 e2 e3 lt0
  generalize W0.heap.size = ge at *
  have Z1 := Lib.hid (Z0.out.kept K1)
  have kz1 := Kept.trans kz0 K1
  clear Z0 kz0 K1
  obtain ⟨v0, v1, v2, v3⟩ := E1.out.1
  go_wp2_with fail
  refine (CK'.out _).mono ?_
  rintro e w2 ⟨rfl, k2⟩
  clear v0 v1 v2 v3
  have E2 := Lib.hid (E1.out.kept k2)
  have Z2 := Lib.hid (Z1.out.kept k2)
  have kz2 := Kept.trans kz1 k2
  clear E1 Z1 kz1 k2
  have ne2 := E2.out.ne
  obtain ⟨⟨v0, v1, v2, v3⟩, vf0, vf1, vf2, vf3⟩ := E2.out
  have ne1 := Z2.out.ne
  obtain ⟨⟨z0, z1, z2, z3⟩, zf0, zf1, zf2, zf3⟩ := Z2.out
  go_wp2
  simp [bodyPost, results, Try.results12, go_sem, *]
  exact (by (repeat (first | with_reducible exact Kept.refl _ | with_reducible apply Kept.drew | with_reducible apply Kept.alloc | ((with_reducible apply Kept.set); focus (simp <;> omega)) | ((with_reducible apply Kept.via); focus with_reducible assumption))))
set_option maxRecDepth 100000 in
set_option maxHeartbeats 1600000 in
theorem rd20_no {bb off cap : Nat} {k a b r er : Int} (h0 : (er == 0) = false) (h1 : ¬ er = 0) (w : World) (hc : w.cell? ⟨bb, off, none⟩ = some (.int .i64 k) ∧ w.cell? ⟨bb, off + 1, none⟩ = some (.int .i64 a) ∧ w.cell? ⟨bb, off + 2, none⟩ = some (.int .i64 b) ∧ w.cell? ⟨bb, off + 3, none⟩ = some (.int .i64 r)) (CK : ∀ w, Calls Try.prog 17 #[.agg #[.int .i64 k, .int .i64 a, .int .i64 b, .int .i64 r]] w fun e w' => e = .returned (.int .i64 er) ∧ Kept w w') : Calls Try.prog 12 #[.slice (some ⟨bb, off, none⟩) 4 cap] w fun e w' => e = .returned (.tuple #[.agg #[.int .i64 0, .int .i64 0, .int .i64 0, .int .i64 0], .int .i64 er]) ∧ Kept w w' := by
  have HC := Lib.hid hc
  have CK' := Lib.hid CK
  clear hc CK
  have q0 : (0 : Int) < 4 := by omega
  have q1 : (1 : Int) < 4 := by omega
  have q2 : (2 : Int) < 4 := by omega
  have q3 : (3 : Int) < 4 := by omega
  go_enter Try.func12, Try.ntmps12
  go_upto_region 1 with fail
  generalize hW : World.alloc w (.cells #[.int .i64 0, .int .i64 0, .int .i64 0, .int .i64 0] 23) = W0
  have Z0 := Lib.hid (show RV W0 w.heap.size 0 0 0 0 from by subst hW; exact ⟨⟨by simp [go_sem], by simp [go_sem], by simp [go_sem], by simp [go_sem]⟩, by simp [go_sem], by simp [go_sem], by simp [go_sem], by simp [go_sem]⟩)
  have kz0 : Kept w W0 := by subst hW; exact (Kept.refl _).alloc _ _
  clear hW
  generalize hg : w.heap.size = g at *
  have gw : w.heap.size ≤ g := by omega
  obtain ⟨c0, c1, c2, c3⟩ := HC.out
  have e0 := kz0.read c0
  have e1 := kz0.read c1
  have e2 := kz0.read c2
  have e3 := kz0.read c3
  clear c0 c1 c2 c3
  have lt0 := cell_lt e0
  dsimp only at lt0
  go_upto_region 3 with fail
  go_region
  generalize hW : World.drew (World.alloc W0 (.cells #[.int .i64 k, .int .i64 a, .int .i64 b, .int .i64 r] 23)) = W1
  have K1 : Kept W0 W1 := by subst hW; exact ((Kept.refl _).alloc _ _).drew
  have E1 := Lib.hid (show RV W1 W0.heap.size k a b r from by subst hW; exact ⟨⟨by simp [go_sem], by simp [go_sem], by simp [go_sem], by simp [go_sem]⟩, by simp [go_sem], by simp [go_sem], by simp [go_sem], by simp [go_sem]⟩)
  clear hW e0 e1 e2 e3 lt0
  generalize W0.heap.size = ge at *
  have Z1 := Lib.hid (Z0.out.kept K1)
  have kz1 := Kept.trans kz0 K1
  clear Z0 kz0 K1
  obtain ⟨v0, v1, v2, v3⟩ := E1.out.1
  go_wp2_with fail
  refine (CK'.out _).mono ?_
  rintro e w2 ⟨rfl, k2⟩
  clear v0 v1 v2 v3
  have E2 := Lib.hid (E1.out.kept k2)
  have Z2 := Lib.hid (Z1.out.kept k2)
  have kz2 := Kept.trans kz1 k2
  clear E1 Z1 kz1 k2
  have ne2 := E2.out.ne
  obtain ⟨⟨v0, v1, v2, v3⟩, vf0, vf1, vf2, vf3⟩ := E2.out
  have ne1 := Z2.out.ne
  obtain ⟨⟨z0, z1, z2, z3⟩, zf0, zf1, zf2, zf3⟩ := Z2.out
  go_wp2
  simp [bodyPost, results, Try.results12, go_sem, *]
  exact (by (repeat (first | with_reducible exact Kept.refl _ | with_reducible apply Kept.drew | with_reducible apply Kept.alloc | ((with_reducible apply Kept.set); focus (simp <;> omega)) | ((with_reducible apply Kept.via); focus with_reducible assumption))))
theorem refDecode20_ok {A : Option Addr} {n cap : Nat} {l : List Int} {k a b r er : Int} (hn : l.length = n) (hv : decV l = (k, a, b, r)) (he : decE l = er) (w : World) (hr : RowK .i64 w A l) : Calls Try.prog 12 #[.slice A n cap] w fun e w' => e = .returned (.tuple #[.agg #[.int .i64 k, .int .i64 a, .int .i64 b, .int .i64 r], .int .i64 er]) ∧ Kept w w' := by
  subst hn
  by_cases h4 : l.length = 4
  · obtain ⟨x, y, z, u, rfl⟩ : ∃ x y z u, l = [x, y, z, u] := by
      match l, h4 with
      | [x, y, z, u], _ => exact ⟨x, y, z, u, rfl⟩
    obtain ⟨bb, off, rfl, hc⟩ := hr (by simp)
    have cs := And.intro (hc 0 (by simp)) (And.intro (hc 1 (by simp)) (And.intro (hc 2 (by simp)) (hc 3 (by simp))))
    have ee : chkV (x, y, z, u) = er := by rw [← he]; unfold decE; rw [if_pos h4]; rfl
    by_cases e0 : er = 0
    · subst e0
      have ev : decV [x, y, z, u] = (x, y, z, u) := by unfold decV; rw [if_pos ⟨h4, ee⟩]; rfl
      rw [ev] at hv
      cases hv
      exact rd20_ok w cs (fun w => refCheck20_ok ee w)
    · have ev : decV [x, y, z, u] = (0, 0, 0, 0) := by unfold decV; rw [if_neg (fun q => e0 (ee.symm.trans q.2))]
      rw [ev] at hv
      cases hv
      exact rd20_no (by simp [e0]) e0 w cs (fun w => refCheck20_ok ee w)
  · have ev : decV l = (0, 0, 0, 0) := by unfold decV; rw [if_neg (fun q => h4 q.1)]
    have ee : decE l = 201 := by unfold decE; rw [if_neg h4]
    rw [ev] at hv
    rw [ee] at he
    cases hv
    subst he
    exact rd20_len h4 w
end Go.Proofs.Ytbpdimogigcacaa
