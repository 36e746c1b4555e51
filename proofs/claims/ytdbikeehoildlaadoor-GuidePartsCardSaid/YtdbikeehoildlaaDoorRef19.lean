/-
  Contracts of the document's answers of layer 19.
-/
import Derived.Test.YtdbikeehoildlaaDoorCon19
import Derived.Test.YtdbikeehoildlaaDoorRef11
import Derived.Test.YtdbikeehoildlaaDoorRefN02
import Derived.Test.YtdbikeehoildlaaDoorOne01
import Derived.Test.YtdbikeehoildlaaDoorTail
import Derived.Deep.RegionHeld3
import Derived.Deep.DeepCutAuto
namespace Go.Proofs.YtdbikeehoildlaaDoor
open Go.RowKit Go.BigFrame
set_option linter.unusedVariables false

set_option maxRecDepth 100000 in
set_option maxHeartbeats 1600000 in
theorem rc19_0 {sg mx fi gn ls gt bu : Int} (d0 : decide (sg < 1) = true)  (w : World) : Calls Tryd.prog 12 #[.agg #[.int .i64 sg, .int .i64 mx, .int .i64 fi, .int .i64 gn, .int .i64 ls, .int .i64 gt, .int .i64 bu]] w fun e w' => e = .returned (.int .i64 210) ∧ Kept w w' := by
  go_enter Tryd.func12, Tryd.ntmps12
  go_upto_region 1 with fail
  generalize hW : World.alloc w (.cells #[.int .i64 sg, .int .i64 mx, .int .i64 fi, .int .i64 gn, .int .i64 ls, .int .i64 gt, .int .i64 bu] 23) = W_c
  have K_c : Kept w W_c := by subst hW; exact (Kept.refl _).alloc _ _
  have H_c := Lib.hid (show W_c.cell? ⟨w.heap.size, 0, none⟩ = some (.int .i64 sg) ∧ W_c.cell? ⟨w.heap.size, 1, none⟩ = some (.int .i64 mx) ∧ W_c.cell? ⟨w.heap.size, 2, none⟩ = some (.int .i64 fi) ∧ W_c.cell? ⟨w.heap.size, 3, none⟩ = some (.int .i64 gn) ∧ W_c.cell? ⟨w.heap.size, 4, none⟩ = some (.int .i64 ls) ∧ W_c.cell? ⟨w.heap.size, 5, none⟩ = some (.int .i64 gt) ∧ W_c.cell? ⟨w.heap.size, 6, none⟩ = some (.int .i64 bu) from by subst hW; simp [go_sem])
  clear hW
  generalize w.heap.size = g_c at *
  obtain ⟨cc0, cc1, cc2, cc3, cc4, cc5, cc6⟩ := Kept.alln7 (show Kept W_c W_c from (by (repeat (first | with_reducible exact Kept.refl _ | with_reducible apply Kept.drew | with_reducible apply Kept.alloc | ((with_reducible apply Kept.set); focus (simp <;> omega)) | ((with_reducible apply Kept.via); focus with_reducible assumption))))) H_c
  go_wp2
  go_ret
  exact ⟨rfl, (by (repeat (first | with_reducible exact Kept.refl _ | with_reducible apply Kept.drew | with_reducible apply Kept.alloc | ((with_reducible apply Kept.set); focus (simp <;> omega)) | ((with_reducible apply Kept.via); focus with_reducible assumption))))⟩
set_option maxRecDepth 100000 in
set_option maxHeartbeats 1600000 in
theorem rc19_1 {sg mx fi gn ls gt bu : Int} (d0 : decide (sg < 1) = false) (d1 : decide (9000 < sg) = true)  (w : World) : Calls Tryd.prog 12 #[.agg #[.int .i64 sg, .int .i64 mx, .int .i64 fi, .int .i64 gn, .int .i64 ls, .int .i64 gt, .int .i64 bu]] w fun e w' => e = .returned (.int .i64 210) ∧ Kept w w' := by
  go_enter Tryd.func12, Tryd.ntmps12
  go_upto_region 1 with fail
  generalize hW : World.alloc w (.cells #[.int .i64 sg, .int .i64 mx, .int .i64 fi, .int .i64 gn, .int .i64 ls, .int .i64 gt, .int .i64 bu] 23) = W_c
  have K_c : Kept w W_c := by subst hW; exact (Kept.refl _).alloc _ _
  have H_c := Lib.hid (show W_c.cell? ⟨w.heap.size, 0, none⟩ = some (.int .i64 sg) ∧ W_c.cell? ⟨w.heap.size, 1, none⟩ = some (.int .i64 mx) ∧ W_c.cell? ⟨w.heap.size, 2, none⟩ = some (.int .i64 fi) ∧ W_c.cell? ⟨w.heap.size, 3, none⟩ = some (.int .i64 gn) ∧ W_c.cell? ⟨w.heap.size, 4, none⟩ = some (.int .i64 ls) ∧ W_c.cell? ⟨w.heap.size, 5, none⟩ = some (.int .i64 gt) ∧ W_c.cell? ⟨w.heap.size, 6, none⟩ = some (.int .i64 bu) from by subst hW; simp [go_sem])
  clear hW
  generalize w.heap.size = g_c at *
  obtain ⟨cc0, cc1, cc2, cc3, cc4, cc5, cc6⟩ := Kept.alln7 (show Kept W_c W_c from (by (repeat (first | with_reducible exact Kept.refl _ | with_reducible apply Kept.drew | with_reducible apply Kept.alloc | ((with_reducible apply Kept.set); focus (simp <;> omega)) | ((with_reducible apply Kept.via); focus with_reducible assumption))))) H_c
  go_wp2
  go_ret
  exact ⟨rfl, (by (repeat (first | with_reducible exact Kept.refl _ | with_reducible apply Kept.drew | with_reducible apply Kept.alloc | ((with_reducible apply Kept.set); focus (simp <;> omega)) | ((with_reducible apply Kept.via); focus with_reducible assumption))))⟩
set_option maxRecDepth 100000 in
set_option maxHeartbeats 1600000 in
theorem rc19_2 {sg mx fi gn ls gt bu : Int} (d0 : decide (sg < 1) = false) (d1 : decide (9000 < sg) = false) (d2 : decide (mx < 4) = true)  (w : World) : Calls Tryd.prog 12 #[.agg #[.int .i64 sg, .int .i64 mx, .int .i64 fi, .int .i64 gn, .int .i64 ls, .int .i64 gt, .int .i64 bu]] w fun e w' => e = .returned (.int .i64 210) ∧ Kept w w' := by
  go_enter Tryd.func12, Tryd.ntmps12
  go_upto_region 1 with fail
  generalize hW : World.alloc w (.cells #[.int .i64 sg, .int .i64 mx, .int .i64 fi, .int .i64 gn, .int .i64 ls, .int .i64 gt, .int .i64 bu] 23) = W_c
  have K_c : Kept w W_c := by subst hW; exact (Kept.refl _).alloc _ _
  have H_c := Lib.hid (show W_c.cell? ⟨w.heap.size, 0, none⟩ = some (.int .i64 sg) ∧ W_c.cell? ⟨w.heap.size, 1, none⟩ = some (.int .i64 mx) ∧ W_c.cell? ⟨w.heap.size, 2, none⟩ = some (.int .i64 fi) ∧ W_c.cell? ⟨w.heap.size, 3, none⟩ = some (.int .i64 gn) ∧ W_c.cell? ⟨w.heap.size, 4, none⟩ = some (.int .i64 ls) ∧ W_c.cell? ⟨w.heap.size, 5, none⟩ = some (.int .i64 gt) ∧ W_c.cell? ⟨w.heap.size, 6, none⟩ = some (.int .i64 bu) from by subst hW; simp [go_sem])
  clear hW
  generalize w.heap.size = g_c at *
  obtain ⟨cc0, cc1, cc2, cc3, cc4, cc5, cc6⟩ := Kept.alln7 (show Kept W_c W_c from (by (repeat (first | with_reducible exact Kept.refl _ | with_reducible apply Kept.drew | with_reducible apply Kept.alloc | ((with_reducible apply Kept.set); focus (simp <;> omega)) | ((with_reducible apply Kept.via); focus with_reducible assumption))))) H_c
  go_wp2
  go_ret
  exact ⟨rfl, (by (repeat (first | with_reducible exact Kept.refl _ | with_reducible apply Kept.drew | with_reducible apply Kept.alloc | ((with_reducible apply Kept.set); focus (simp <;> omega)) | ((with_reducible apply Kept.via); focus with_reducible assumption))))⟩
set_option maxRecDepth 100000 in
set_option maxHeartbeats 1600000 in
theorem rc19_3 {sg mx fi gn ls gt bu : Int} (d0 : decide (sg < 1) = false) (d1 : decide (9000 < sg) = false) (d2 : decide (mx < 4) = false) (d3 : decide (1048576 < mx) = true)  (w : World) : Calls Tryd.prog 12 #[.agg #[.int .i64 sg, .int .i64 mx, .int .i64 fi, .int .i64 gn, .int .i64 ls, .int .i64 gt, .int .i64 bu]] w fun e w' => e = .returned (.int .i64 210) ∧ Kept w w' := by
  go_enter Tryd.func12, Tryd.ntmps12
  go_upto_region 1 with fail
  generalize hW : World.alloc w (.cells #[.int .i64 sg, .int .i64 mx, .int .i64 fi, .int .i64 gn, .int .i64 ls, .int .i64 gt, .int .i64 bu] 23) = W_c
  have K_c : Kept w W_c := by subst hW; exact (Kept.refl _).alloc _ _
  have H_c := Lib.hid (show W_c.cell? ⟨w.heap.size, 0, none⟩ = some (.int .i64 sg) ∧ W_c.cell? ⟨w.heap.size, 1, none⟩ = some (.int .i64 mx) ∧ W_c.cell? ⟨w.heap.size, 2, none⟩ = some (.int .i64 fi) ∧ W_c.cell? ⟨w.heap.size, 3, none⟩ = some (.int .i64 gn) ∧ W_c.cell? ⟨w.heap.size, 4, none⟩ = some (.int .i64 ls) ∧ W_c.cell? ⟨w.heap.size, 5, none⟩ = some (.int .i64 gt) ∧ W_c.cell? ⟨w.heap.size, 6, none⟩ = some (.int .i64 bu) from by subst hW; simp [go_sem])
  clear hW
  generalize w.heap.size = g_c at *
  obtain ⟨cc0, cc1, cc2, cc3, cc4, cc5, cc6⟩ := Kept.alln7 (show Kept W_c W_c from (by (repeat (first | with_reducible exact Kept.refl _ | with_reducible apply Kept.drew | with_reducible apply Kept.alloc | ((with_reducible apply Kept.set); focus (simp <;> omega)) | ((with_reducible apply Kept.via); focus with_reducible assumption))))) H_c
  go_wp2
  go_ret
  exact ⟨rfl, (by (repeat (first | with_reducible exact Kept.refl _ | with_reducible apply Kept.drew | with_reducible apply Kept.alloc | ((with_reducible apply Kept.set); focus (simp <;> omega)) | ((with_reducible apply Kept.via); focus with_reducible assumption))))⟩
set_option maxRecDepth 100000 in
set_option maxHeartbeats 1600000 in
theorem rc19_4 {sg mx fi gn ls gt bu : Int} (d0 : decide (sg < 1) = false) (d1 : decide (9000 < sg) = false) (d2 : decide (mx < 4) = false) (d3 : decide (1048576 < mx) = false) (d4 : decide (fi < 2) = true)  (w : World) : Calls Tryd.prog 12 #[.agg #[.int .i64 sg, .int .i64 mx, .int .i64 fi, .int .i64 gn, .int .i64 ls, .int .i64 gt, .int .i64 bu]] w fun e w' => e = .returned (.int .i64 210) ∧ Kept w w' := by
  go_enter Tryd.func12, Tryd.ntmps12
  go_upto_region 1 with fail
  generalize hW : World.alloc w (.cells #[.int .i64 sg, .int .i64 mx, .int .i64 fi, .int .i64 gn, .int .i64 ls, .int .i64 gt, .int .i64 bu] 23) = W_c
  have K_c : Kept w W_c := by subst hW; exact (Kept.refl _).alloc _ _
  have H_c := Lib.hid (show W_c.cell? ⟨w.heap.size, 0, none⟩ = some (.int .i64 sg) ∧ W_c.cell? ⟨w.heap.size, 1, none⟩ = some (.int .i64 mx) ∧ W_c.cell? ⟨w.heap.size, 2, none⟩ = some (.int .i64 fi) ∧ W_c.cell? ⟨w.heap.size, 3, none⟩ = some (.int .i64 gn) ∧ W_c.cell? ⟨w.heap.size, 4, none⟩ = some (.int .i64 ls) ∧ W_c.cell? ⟨w.heap.size, 5, none⟩ = some (.int .i64 gt) ∧ W_c.cell? ⟨w.heap.size, 6, none⟩ = some (.int .i64 bu) from by subst hW; simp [go_sem])
  clear hW
  generalize w.heap.size = g_c at *
  obtain ⟨cc0, cc1, cc2, cc3, cc4, cc5, cc6⟩ := Kept.alln7 (show Kept W_c W_c from (by (repeat (first | with_reducible exact Kept.refl _ | with_reducible apply Kept.drew | with_reducible apply Kept.alloc | ((with_reducible apply Kept.set); focus (simp <;> omega)) | ((with_reducible apply Kept.via); focus with_reducible assumption))))) H_c
  go_wp2
  go_ret
  exact ⟨rfl, (by (repeat (first | with_reducible exact Kept.refl _ | with_reducible apply Kept.drew | with_reducible apply Kept.alloc | ((with_reducible apply Kept.set); focus (simp <;> omega)) | ((with_reducible apply Kept.via); focus with_reducible assumption))))⟩
set_option maxRecDepth 100000 in
set_option maxHeartbeats 1600000 in
theorem rc19_5 {sg mx fi gn ls gt bu : Int} (d0 : decide (sg < 1) = false) (d1 : decide (9000 < sg) = false) (d2 : decide (mx < 4) = false) (d3 : decide (1048576 < mx) = false) (d4 : decide (fi < 2) = false) (d5 : decide (mx < fi) = true)  (w : World) : Calls Tryd.prog 12 #[.agg #[.int .i64 sg, .int .i64 mx, .int .i64 fi, .int .i64 gn, .int .i64 ls, .int .i64 gt, .int .i64 bu]] w fun e w' => e = .returned (.int .i64 210) ∧ Kept w w' := by
  go_enter Tryd.func12, Tryd.ntmps12
  go_upto_region 1 with fail
  generalize hW : World.alloc w (.cells #[.int .i64 sg, .int .i64 mx, .int .i64 fi, .int .i64 gn, .int .i64 ls, .int .i64 gt, .int .i64 bu] 23) = W_c
  have K_c : Kept w W_c := by subst hW; exact (Kept.refl _).alloc _ _
  have H_c := Lib.hid (show W_c.cell? ⟨w.heap.size, 0, none⟩ = some (.int .i64 sg) ∧ W_c.cell? ⟨w.heap.size, 1, none⟩ = some (.int .i64 mx) ∧ W_c.cell? ⟨w.heap.size, 2, none⟩ = some (.int .i64 fi) ∧ W_c.cell? ⟨w.heap.size, 3, none⟩ = some (.int .i64 gn) ∧ W_c.cell? ⟨w.heap.size, 4, none⟩ = some (.int .i64 ls) ∧ W_c.cell? ⟨w.heap.size, 5, none⟩ = some (.int .i64 gt) ∧ W_c.cell? ⟨w.heap.size, 6, none⟩ = some (.int .i64 bu) from by subst hW; simp [go_sem])
  clear hW
  generalize w.heap.size = g_c at *
  obtain ⟨cc0, cc1, cc2, cc3, cc4, cc5, cc6⟩ := Kept.alln7 (show Kept W_c W_c from (by (repeat (first | with_reducible exact Kept.refl _ | with_reducible apply Kept.drew | with_reducible apply Kept.alloc | ((with_reducible apply Kept.set); focus (simp <;> omega)) | ((with_reducible apply Kept.via); focus with_reducible assumption))))) H_c
  go_wp2
  go_ret
  exact ⟨rfl, (by (repeat (first | with_reducible exact Kept.refl _ | with_reducible apply Kept.drew | with_reducible apply Kept.alloc | ((with_reducible apply Kept.set); focus (simp <;> omega)) | ((with_reducible apply Kept.via); focus with_reducible assumption))))⟩
set_option maxRecDepth 100000 in
set_option maxHeartbeats 1600000 in
theorem rc19_6 {sg mx fi gn ls gt bu : Int} (d0 : decide (sg < 1) = false) (d1 : decide (9000 < sg) = false) (d2 : decide (mx < 4) = false) (d3 : decide (1048576 < mx) = false) (d4 : decide (fi < 2) = false) (d5 : decide (mx < fi) = false) (d6 : decide (gn < 1) = true)  (w : World) : Calls Tryd.prog 12 #[.agg #[.int .i64 sg, .int .i64 mx, .int .i64 fi, .int .i64 gn, .int .i64 ls, .int .i64 gt, .int .i64 bu]] w fun e w' => e = .returned (.int .i64 210) ∧ Kept w w' := by
  go_enter Tryd.func12, Tryd.ntmps12
  go_upto_region 1 with fail
  generalize hW : World.alloc w (.cells #[.int .i64 sg, .int .i64 mx, .int .i64 fi, .int .i64 gn, .int .i64 ls, .int .i64 gt, .int .i64 bu] 23) = W_c
  have K_c : Kept w W_c := by subst hW; exact (Kept.refl _).alloc _ _
  have H_c := Lib.hid (show W_c.cell? ⟨w.heap.size, 0, none⟩ = some (.int .i64 sg) ∧ W_c.cell? ⟨w.heap.size, 1, none⟩ = some (.int .i64 mx) ∧ W_c.cell? ⟨w.heap.size, 2, none⟩ = some (.int .i64 fi) ∧ W_c.cell? ⟨w.heap.size, 3, none⟩ = some (.int .i64 gn) ∧ W_c.cell? ⟨w.heap.size, 4, none⟩ = some (.int .i64 ls) ∧ W_c.cell? ⟨w.heap.size, 5, none⟩ = some (.int .i64 gt) ∧ W_c.cell? ⟨w.heap.size, 6, none⟩ = some (.int .i64 bu) from by subst hW; simp [go_sem])
  clear hW
  generalize w.heap.size = g_c at *
  obtain ⟨cc0, cc1, cc2, cc3, cc4, cc5, cc6⟩ := Kept.alln7 (show Kept W_c W_c from (by (repeat (first | with_reducible exact Kept.refl _ | with_reducible apply Kept.drew | with_reducible apply Kept.alloc | ((with_reducible apply Kept.set); focus (simp <;> omega)) | ((with_reducible apply Kept.via); focus with_reducible assumption))))) H_c
  go_wp2
  go_ret
  exact ⟨rfl, (by (repeat (first | with_reducible exact Kept.refl _ | with_reducible apply Kept.drew | with_reducible apply Kept.alloc | ((with_reducible apply Kept.set); focus (simp <;> omega)) | ((with_reducible apply Kept.via); focus with_reducible assumption))))⟩
set_option maxRecDepth 100000 in
set_option maxHeartbeats 1600000 in
theorem rc19_7 {sg mx fi gn ls gt bu : Int} (d0 : decide (sg < 1) = false) (d1 : decide (9000 < sg) = false) (d2 : decide (mx < 4) = false) (d3 : decide (1048576 < mx) = false) (d4 : decide (fi < 2) = false) (d5 : decide (mx < fi) = false) (d6 : decide (gn < 1) = false) (d7 : decide (1000000 < gn) = true)  (w : World) : Calls Tryd.prog 12 #[.agg #[.int .i64 sg, .int .i64 mx, .int .i64 fi, .int .i64 gn, .int .i64 ls, .int .i64 gt, .int .i64 bu]] w fun e w' => e = .returned (.int .i64 210) ∧ Kept w w' := by
  go_enter Tryd.func12, Tryd.ntmps12
  go_upto_region 1 with fail
  generalize hW : World.alloc w (.cells #[.int .i64 sg, .int .i64 mx, .int .i64 fi, .int .i64 gn, .int .i64 ls, .int .i64 gt, .int .i64 bu] 23) = W_c
  have K_c : Kept w W_c := by subst hW; exact (Kept.refl _).alloc _ _
  have H_c := Lib.hid (show W_c.cell? ⟨w.heap.size, 0, none⟩ = some (.int .i64 sg) ∧ W_c.cell? ⟨w.heap.size, 1, none⟩ = some (.int .i64 mx) ∧ W_c.cell? ⟨w.heap.size, 2, none⟩ = some (.int .i64 fi) ∧ W_c.cell? ⟨w.heap.size, 3, none⟩ = some (.int .i64 gn) ∧ W_c.cell? ⟨w.heap.size, 4, none⟩ = some (.int .i64 ls) ∧ W_c.cell? ⟨w.heap.size, 5, none⟩ = some (.int .i64 gt) ∧ W_c.cell? ⟨w.heap.size, 6, none⟩ = some (.int .i64 bu) from by subst hW; simp [go_sem])
  clear hW
  generalize w.heap.size = g_c at *
  obtain ⟨cc0, cc1, cc2, cc3, cc4, cc5, cc6⟩ := Kept.alln7 (show Kept W_c W_c from (by (repeat (first | with_reducible exact Kept.refl _ | with_reducible apply Kept.drew | with_reducible apply Kept.alloc | ((with_reducible apply Kept.set); focus (simp <;> omega)) | ((with_reducible apply Kept.via); focus with_reducible assumption))))) H_c
  go_wp2
  go_ret
  exact ⟨rfl, (by (repeat (first | with_reducible exact Kept.refl _ | with_reducible apply Kept.drew | with_reducible apply Kept.alloc | ((with_reducible apply Kept.set); focus (simp <;> omega)) | ((with_reducible apply Kept.via); focus with_reducible assumption))))⟩
set_option maxRecDepth 100000 in
set_option maxHeartbeats 1600000 in
theorem rc19_8 {sg mx fi gn ls gt bu : Int} (d0 : decide (sg < 1) = false) (d1 : decide (9000 < sg) = false) (d2 : decide (mx < 4) = false) (d3 : decide (1048576 < mx) = false) (d4 : decide (fi < 2) = false) (d5 : decide (mx < fi) = false) (d6 : decide (gn < 1) = false) (d7 : decide (1000000 < gn) = false) (d8 : decide (ls < 1) = true)  (w : World) : Calls Tryd.prog 12 #[.agg #[.int .i64 sg, .int .i64 mx, .int .i64 fi, .int .i64 gn, .int .i64 ls, .int .i64 gt, .int .i64 bu]] w fun e w' => e = .returned (.int .i64 210) ∧ Kept w w' := by
  go_enter Tryd.func12, Tryd.ntmps12
  go_upto_region 1 with fail
  generalize hW : World.alloc w (.cells #[.int .i64 sg, .int .i64 mx, .int .i64 fi, .int .i64 gn, .int .i64 ls, .int .i64 gt, .int .i64 bu] 23) = W_c
  have K_c : Kept w W_c := by subst hW; exact (Kept.refl _).alloc _ _
  have H_c := Lib.hid (show W_c.cell? ⟨w.heap.size, 0, none⟩ = some (.int .i64 sg) ∧ W_c.cell? ⟨w.heap.size, 1, none⟩ = some (.int .i64 mx) ∧ W_c.cell? ⟨w.heap.size, 2, none⟩ = some (.int .i64 fi) ∧ W_c.cell? ⟨w.heap.size, 3, none⟩ = some (.int .i64 gn) ∧ W_c.cell? ⟨w.heap.size, 4, none⟩ = some (.int .i64 ls) ∧ W_c.cell? ⟨w.heap.size, 5, none⟩ = some (.int .i64 gt) ∧ W_c.cell? ⟨w.heap.size, 6, none⟩ = some (.int .i64 bu) from by subst hW; simp [go_sem])
  clear hW
  generalize w.heap.size = g_c at *
  obtain ⟨cc0, cc1, cc2, cc3, cc4, cc5, cc6⟩ := Kept.alln7 (show Kept W_c W_c from (by (repeat (first | with_reducible exact Kept.refl _ | with_reducible apply Kept.drew | with_reducible apply Kept.alloc | ((with_reducible apply Kept.set); focus (simp <;> omega)) | ((with_reducible apply Kept.via); focus with_reducible assumption))))) H_c
  go_wp2
  go_ret
  exact ⟨rfl, (by (repeat (first | with_reducible exact Kept.refl _ | with_reducible apply Kept.drew | with_reducible apply Kept.alloc | ((with_reducible apply Kept.set); focus (simp <;> omega)) | ((with_reducible apply Kept.via); focus with_reducible assumption))))⟩
set_option maxRecDepth 100000 in
set_option maxHeartbeats 1600000 in
theorem rc19_9 {sg mx fi gn ls gt bu : Int} (d0 : decide (sg < 1) = false) (d1 : decide (9000 < sg) = false) (d2 : decide (mx < 4) = false) (d3 : decide (1048576 < mx) = false) (d4 : decide (fi < 2) = false) (d5 : decide (mx < fi) = false) (d6 : decide (gn < 1) = false) (d7 : decide (1000000 < gn) = false) (d8 : decide (ls < 1) = false) (d9 : decide (gt < ls) = true)  (w : World) : Calls Tryd.prog 12 #[.agg #[.int .i64 sg, .int .i64 mx, .int .i64 fi, .int .i64 gn, .int .i64 ls, .int .i64 gt, .int .i64 bu]] w fun e w' => e = .returned (.int .i64 210) ∧ Kept w w' := by
  go_enter Tryd.func12, Tryd.ntmps12
  go_upto_region 1 with fail
  generalize hW : World.alloc w (.cells #[.int .i64 sg, .int .i64 mx, .int .i64 fi, .int .i64 gn, .int .i64 ls, .int .i64 gt, .int .i64 bu] 23) = W_c
  have K_c : Kept w W_c := by subst hW; exact (Kept.refl _).alloc _ _
  have H_c := Lib.hid (show W_c.cell? ⟨w.heap.size, 0, none⟩ = some (.int .i64 sg) ∧ W_c.cell? ⟨w.heap.size, 1, none⟩ = some (.int .i64 mx) ∧ W_c.cell? ⟨w.heap.size, 2, none⟩ = some (.int .i64 fi) ∧ W_c.cell? ⟨w.heap.size, 3, none⟩ = some (.int .i64 gn) ∧ W_c.cell? ⟨w.heap.size, 4, none⟩ = some (.int .i64 ls) ∧ W_c.cell? ⟨w.heap.size, 5, none⟩ = some (.int .i64 gt) ∧ W_c.cell? ⟨w.heap.size, 6, none⟩ = some (.int .i64 bu) from by subst hW; simp [go_sem])
  clear hW
  generalize w.heap.size = g_c at *
  obtain ⟨cc0, cc1, cc2, cc3, cc4, cc5, cc6⟩ := Kept.alln7 (show Kept W_c W_c from (by (repeat (first | with_reducible exact Kept.refl _ | with_reducible apply Kept.drew | with_reducible apply Kept.alloc | ((with_reducible apply Kept.set); focus (simp <;> omega)) | ((with_reducible apply Kept.via); focus with_reducible assumption))))) H_c
  go_wp2
  go_ret
  exact ⟨rfl, (by (repeat (first | with_reducible exact Kept.refl _ | with_reducible apply Kept.drew | with_reducible apply Kept.alloc | ((with_reducible apply Kept.set); focus (simp <;> omega)) | ((with_reducible apply Kept.via); focus with_reducible assumption))))⟩
set_option maxRecDepth 100000 in
set_option maxHeartbeats 1600000 in
theorem rc19_10 {sg mx fi gn ls gt bu : Int} (d0 : decide (sg < 1) = false) (d1 : decide (9000 < sg) = false) (d2 : decide (mx < 4) = false) (d3 : decide (1048576 < mx) = false) (d4 : decide (fi < 2) = false) (d5 : decide (mx < fi) = false) (d6 : decide (gn < 1) = false) (d7 : decide (1000000 < gn) = false) (d8 : decide (ls < 1) = false) (d9 : decide (gt < ls) = false) (d10 : decide (1099511627776 < gt) = true)  (w : World) : Calls Tryd.prog 12 #[.agg #[.int .i64 sg, .int .i64 mx, .int .i64 fi, .int .i64 gn, .int .i64 ls, .int .i64 gt, .int .i64 bu]] w fun e w' => e = .returned (.int .i64 210) ∧ Kept w w' := by
  go_enter Tryd.func12, Tryd.ntmps12
  go_upto_region 1 with fail
  generalize hW : World.alloc w (.cells #[.int .i64 sg, .int .i64 mx, .int .i64 fi, .int .i64 gn, .int .i64 ls, .int .i64 gt, .int .i64 bu] 23) = W_c
  have K_c : Kept w W_c := by subst hW; exact (Kept.refl _).alloc _ _
  have H_c := Lib.hid (show W_c.cell? ⟨w.heap.size, 0, none⟩ = some (.int .i64 sg) ∧ W_c.cell? ⟨w.heap.size, 1, none⟩ = some (.int .i64 mx) ∧ W_c.cell? ⟨w.heap.size, 2, none⟩ = some (.int .i64 fi) ∧ W_c.cell? ⟨w.heap.size, 3, none⟩ = some (.int .i64 gn) ∧ W_c.cell? ⟨w.heap.size, 4, none⟩ = some (.int .i64 ls) ∧ W_c.cell? ⟨w.heap.size, 5, none⟩ = some (.int .i64 gt) ∧ W_c.cell? ⟨w.heap.size, 6, none⟩ = some (.int .i64 bu) from by subst hW; simp [go_sem])
  clear hW
  generalize w.heap.size = g_c at *
  obtain ⟨cc0, cc1, cc2, cc3, cc4, cc5, cc6⟩ := Kept.alln7 (show Kept W_c W_c from (by (repeat (first | with_reducible exact Kept.refl _ | with_reducible apply Kept.drew | with_reducible apply Kept.alloc | ((with_reducible apply Kept.set); focus (simp <;> omega)) | ((with_reducible apply Kept.via); focus with_reducible assumption))))) H_c
  go_wp2
  go_ret
  exact ⟨rfl, (by (repeat (first | with_reducible exact Kept.refl _ | with_reducible apply Kept.drew | with_reducible apply Kept.alloc | ((with_reducible apply Kept.set); focus (simp <;> omega)) | ((with_reducible apply Kept.via); focus with_reducible assumption))))⟩
set_option maxRecDepth 100000 in
set_option maxHeartbeats 1600000 in
theorem rc19_11 {sg mx fi gn ls gt bu : Int} (d0 : decide (sg < 1) = false) (d1 : decide (9000 < sg) = false) (d2 : decide (mx < 4) = false) (d3 : decide (1048576 < mx) = false) (d4 : decide (fi < 2) = false) (d5 : decide (mx < fi) = false) (d6 : decide (gn < 1) = false) (d7 : decide (1000000 < gn) = false) (d8 : decide (ls < 1) = false) (d9 : decide (gt < ls) = false) (d10 : decide (1099511627776 < gt) = false) (d11 : decide (bu < 1) = true)  (w : World) : Calls Tryd.prog 12 #[.agg #[.int .i64 sg, .int .i64 mx, .int .i64 fi, .int .i64 gn, .int .i64 ls, .int .i64 gt, .int .i64 bu]] w fun e w' => e = .returned (.int .i64 210) ∧ Kept w w' := by
  go_enter Tryd.func12, Tryd.ntmps12
  go_upto_region 1 with fail
  generalize hW : World.alloc w (.cells #[.int .i64 sg, .int .i64 mx, .int .i64 fi, .int .i64 gn, .int .i64 ls, .int .i64 gt, .int .i64 bu] 23) = W_c
  have K_c : Kept w W_c := by subst hW; exact (Kept.refl _).alloc _ _
  have H_c := Lib.hid (show W_c.cell? ⟨w.heap.size, 0, none⟩ = some (.int .i64 sg) ∧ W_c.cell? ⟨w.heap.size, 1, none⟩ = some (.int .i64 mx) ∧ W_c.cell? ⟨w.heap.size, 2, none⟩ = some (.int .i64 fi) ∧ W_c.cell? ⟨w.heap.size, 3, none⟩ = some (.int .i64 gn) ∧ W_c.cell? ⟨w.heap.size, 4, none⟩ = some (.int .i64 ls) ∧ W_c.cell? ⟨w.heap.size, 5, none⟩ = some (.int .i64 gt) ∧ W_c.cell? ⟨w.heap.size, 6, none⟩ = some (.int .i64 bu) from by subst hW; simp [go_sem])
  clear hW
  generalize w.heap.size = g_c at *
  obtain ⟨cc0, cc1, cc2, cc3, cc4, cc5, cc6⟩ := Kept.alln7 (show Kept W_c W_c from (by (repeat (first | with_reducible exact Kept.refl _ | with_reducible apply Kept.drew | with_reducible apply Kept.alloc | ((with_reducible apply Kept.set); focus (simp <;> omega)) | ((with_reducible apply Kept.via); focus with_reducible assumption))))) H_c
  go_wp2
  go_ret
  exact ⟨rfl, (by (repeat (first | with_reducible exact Kept.refl _ | with_reducible apply Kept.drew | with_reducible apply Kept.alloc | ((with_reducible apply Kept.set); focus (simp <;> omega)) | ((with_reducible apply Kept.via); focus with_reducible assumption))))⟩
set_option maxRecDepth 100000 in
set_option maxHeartbeats 1600000 in
theorem rc19_12 {sg mx fi gn ls gt bu : Int} (d0 : decide (sg < 1) = false) (d1 : decide (9000 < sg) = false) (d2 : decide (mx < 4) = false) (d3 : decide (1048576 < mx) = false) (d4 : decide (fi < 2) = false) (d5 : decide (mx < fi) = false) (d6 : decide (gn < 1) = false) (d7 : decide (1000000 < gn) = false) (d8 : decide (ls < 1) = false) (d9 : decide (gt < ls) = false) (d10 : decide (1099511627776 < gt) = false) (d11 : decide (bu < 1) = false) (d12 : decide (1000 < bu) = true)  (w : World) : Calls Tryd.prog 12 #[.agg #[.int .i64 sg, .int .i64 mx, .int .i64 fi, .int .i64 gn, .int .i64 ls, .int .i64 gt, .int .i64 bu]] w fun e w' => e = .returned (.int .i64 210) ∧ Kept w w' := by
  go_enter Tryd.func12, Tryd.ntmps12
  go_upto_region 1 with fail
  generalize hW : World.alloc w (.cells #[.int .i64 sg, .int .i64 mx, .int .i64 fi, .int .i64 gn, .int .i64 ls, .int .i64 gt, .int .i64 bu] 23) = W_c
  have K_c : Kept w W_c := by subst hW; exact (Kept.refl _).alloc _ _
  have H_c := Lib.hid (show W_c.cell? ⟨w.heap.size, 0, none⟩ = some (.int .i64 sg) ∧ W_c.cell? ⟨w.heap.size, 1, none⟩ = some (.int .i64 mx) ∧ W_c.cell? ⟨w.heap.size, 2, none⟩ = some (.int .i64 fi) ∧ W_c.cell? ⟨w.heap.size, 3, none⟩ = some (.int .i64 gn) ∧ W_c.cell? ⟨w.heap.size, 4, none⟩ = some (.int .i64 ls) ∧ W_c.cell? ⟨w.heap.size, 5, none⟩ = some (.int .i64 gt) ∧ W_c.cell? ⟨w.heap.size, 6, none⟩ = some (.int .i64 bu) from by subst hW; simp [go_sem])
  clear hW
  generalize w.heap.size = g_c at *
  obtain ⟨cc0, cc1, cc2, cc3, cc4, cc5, cc6⟩ := Kept.alln7 (show Kept W_c W_c from (by (repeat (first | with_reducible exact Kept.refl _ | with_reducible apply Kept.drew | with_reducible apply Kept.alloc | ((with_reducible apply Kept.set); focus (simp <;> omega)) | ((with_reducible apply Kept.via); focus with_reducible assumption))))) H_c
  go_wp2
  go_ret
  exact ⟨rfl, (by (repeat (first | with_reducible exact Kept.refl _ | with_reducible apply Kept.drew | with_reducible apply Kept.alloc | ((with_reducible apply Kept.set); focus (simp <;> omega)) | ((with_reducible apply Kept.via); focus with_reducible assumption))))⟩
set_option maxRecDepth 100000 in
set_option maxHeartbeats 1600000 in
theorem rc19_13 {sg mx fi gn ls gt bu : Int} (d0 : decide (sg < 1) = false) (d1 : decide (9000 < sg) = false) (d2 : decide (mx < 4) = false) (d3 : decide (1048576 < mx) = false) (d4 : decide (fi < 2) = false) (d5 : decide (mx < fi) = false) (d6 : decide (gn < 1) = false) (d7 : decide (1000000 < gn) = false) (d8 : decide (ls < 1) = false) (d9 : decide (gt < ls) = false) (d10 : decide (1099511627776 < gt) = false) (d11 : decide (bu < 1) = false) (d12 : decide (1000 < bu) = false)  (w : World) : Calls Tryd.prog 12 #[.agg #[.int .i64 sg, .int .i64 mx, .int .i64 fi, .int .i64 gn, .int .i64 ls, .int .i64 gt, .int .i64 bu]] w fun e w' => e = .returned (.int .i64 0) ∧ Kept w w' := by
  go_enter Tryd.func12, Tryd.ntmps12
  go_upto_region 1 with fail
  generalize hW : World.alloc w (.cells #[.int .i64 sg, .int .i64 mx, .int .i64 fi, .int .i64 gn, .int .i64 ls, .int .i64 gt, .int .i64 bu] 23) = W_c
  have K_c : Kept w W_c := by subst hW; exact (Kept.refl _).alloc _ _
  have H_c := Lib.hid (show W_c.cell? ⟨w.heap.size, 0, none⟩ = some (.int .i64 sg) ∧ W_c.cell? ⟨w.heap.size, 1, none⟩ = some (.int .i64 mx) ∧ W_c.cell? ⟨w.heap.size, 2, none⟩ = some (.int .i64 fi) ∧ W_c.cell? ⟨w.heap.size, 3, none⟩ = some (.int .i64 gn) ∧ W_c.cell? ⟨w.heap.size, 4, none⟩ = some (.int .i64 ls) ∧ W_c.cell? ⟨w.heap.size, 5, none⟩ = some (.int .i64 gt) ∧ W_c.cell? ⟨w.heap.size, 6, none⟩ = some (.int .i64 bu) from by subst hW; simp [go_sem])
  clear hW
  generalize w.heap.size = g_c at *
  obtain ⟨cc0, cc1, cc2, cc3, cc4, cc5, cc6⟩ := Kept.alln7 (show Kept W_c W_c from (by (repeat (first | with_reducible exact Kept.refl _ | with_reducible apply Kept.drew | with_reducible apply Kept.alloc | ((with_reducible apply Kept.set); focus (simp <;> omega)) | ((with_reducible apply Kept.via); focus with_reducible assumption))))) H_c
  go_wp2
  go_ret
  exact ⟨rfl, (by (repeat (first | with_reducible exact Kept.refl _ | with_reducible apply Kept.drew | with_reducible apply Kept.alloc | ((with_reducible apply Kept.set); focus (simp <;> omega)) | ((with_reducible apply Kept.via); focus with_reducible assumption))))⟩
theorem refCheck19_ok {c : Cf} {n : Int} (h : cfgE c = n) (w : World) : Calls Tryd.prog 12 #[.agg #[.int .i64 c.sg, .int .i64 c.mx, .int .i64 c.fi, .int .i64 c.gn, .int .i64 c.ls, .int .i64 c.gt, .int .i64 c.bu]] w fun e w' => e = .returned (.int .i64 n) ∧ Kept w w' := by
  obtain ⟨sg, mx, fi, gn, ls, gt, bu⟩ := c
  by_cases h0 : sg < 1
  · have e : n = 210 := by rw [← h]; unfold cfgE; exact if_neg (by unfold MayCf; dsimp only; omega)
    subst e; exact rc19_0 (by simp [h0]) w
  by_cases h1 : 9000 < sg
  · have e : n = 210 := by rw [← h]; unfold cfgE; exact if_neg (by unfold MayCf; dsimp only; omega)
    subst e; exact rc19_1 (by simp; omega) (by simp [h1]) w
  by_cases h2 : mx < 4
  · have e : n = 210 := by rw [← h]; unfold cfgE; exact if_neg (by unfold MayCf; dsimp only; omega)
    subst e; exact rc19_2 (by simp; omega) (by simp; omega) (by simp [h2]) w
  by_cases h3 : 1048576 < mx
  · have e : n = 210 := by rw [← h]; unfold cfgE; exact if_neg (by unfold MayCf; dsimp only; omega)
    subst e; exact rc19_3 (by simp; omega) (by simp; omega) (by simp; omega) (by simp [h3]) w
  by_cases h4 : fi < 2
  · have e : n = 210 := by rw [← h]; unfold cfgE; exact if_neg (by unfold MayCf; dsimp only; omega)
    subst e; exact rc19_4 (by simp; omega) (by simp; omega) (by simp; omega) (by simp; omega) (by simp [h4]) w
  by_cases h5 : mx < fi
  · have e : n = 210 := by rw [← h]; unfold cfgE; exact if_neg (by unfold MayCf; dsimp only; omega)
    subst e; exact rc19_5 (by simp; omega) (by simp; omega) (by simp; omega) (by simp; omega) (by simp; omega) (by simp [h5]) w
  by_cases h6 : gn < 1
  · have e : n = 210 := by rw [← h]; unfold cfgE; exact if_neg (by unfold MayCf; dsimp only; omega)
    subst e; exact rc19_6 (by simp; omega) (by simp; omega) (by simp; omega) (by simp; omega) (by simp; omega) (by simp; omega) (by simp [h6]) w
  by_cases h7 : 1000000 < gn
  · have e : n = 210 := by rw [← h]; unfold cfgE; exact if_neg (by unfold MayCf; dsimp only; omega)
    subst e; exact rc19_7 (by simp; omega) (by simp; omega) (by simp; omega) (by simp; omega) (by simp; omega) (by simp; omega) (by simp; omega) (by simp [h7]) w
  by_cases h8 : ls < 1
  · have e : n = 210 := by rw [← h]; unfold cfgE; exact if_neg (by unfold MayCf; dsimp only; omega)
    subst e; exact rc19_8 (by simp; omega) (by simp; omega) (by simp; omega) (by simp; omega) (by simp; omega) (by simp; omega) (by simp; omega) (by simp; omega) (by simp [h8]) w
  by_cases h9 : gt < ls
  · have e : n = 210 := by rw [← h]; unfold cfgE; exact if_neg (by unfold MayCf; dsimp only; omega)
    subst e; exact rc19_9 (by simp; omega) (by simp; omega) (by simp; omega) (by simp; omega) (by simp; omega) (by simp; omega) (by simp; omega) (by simp; omega) (by simp; omega) (by simp [h9]) w
  by_cases h10 : 1099511627776 < gt
  · have e : n = 210 := by rw [← h]; unfold cfgE; exact if_neg (by unfold MayCf; dsimp only; omega)
    subst e; exact rc19_10 (by simp; omega) (by simp; omega) (by simp; omega) (by simp; omega) (by simp; omega) (by simp; omega) (by simp; omega) (by simp; omega) (by simp; omega) (by simp; omega) (by simp [h10]) w
  by_cases h11 : bu < 1
  · have e : n = 210 := by rw [← h]; unfold cfgE; exact if_neg (by unfold MayCf; dsimp only; omega)
    subst e; exact rc19_11 (by simp; omega) (by simp; omega) (by simp; omega) (by simp; omega) (by simp; omega) (by simp; omega) (by simp; omega) (by simp; omega) (by simp; omega) (by simp; omega) (by simp; omega) (by simp [h11]) w
  by_cases h12 : 1000 < bu
  · have e : n = 210 := by rw [← h]; unfold cfgE; exact if_neg (by unfold MayCf; dsimp only; omega)
    subst e; exact rc19_12 (by simp; omega) (by simp; omega) (by simp; omega) (by simp; omega) (by simp; omega) (by simp; omega) (by simp; omega) (by simp; omega) (by simp; omega) (by simp; omega) (by simp; omega) (by simp; omega) (by simp [h12]) w
  have e : n = 0 := by rw [← h]; unfold cfgE; exact if_pos (by unfold MayCf; dsimp only; omega)
  subst e; exact rc19_13 (by simp; omega) (by simp; omega) (by simp; omega) (by simp; omega) (by simp; omega) (by simp; omega) (by simp; omega) (by simp; omega) (by simp; omega) (by simp; omega) (by simp; omega) (by simp; omega) (by simp; omega) w
set_option maxRecDepth 100000 in
set_option maxHeartbeats 1600000 in
theorem rf19_n {sg mx fi gn ls gt bu : Int} (CK : ∀ w, Calls Tryd.prog 12 #[.agg #[.int .i64 sg, .int .i64 mx, .int .i64 fi, .int .i64 gn, .int .i64 ls, .int .i64 gt, .int .i64 bu]] w fun e w' => e = .returned (.int .i64 210) ∧ Kept w w') (w : World) : Calls Tryd.prog 14 #[.agg #[.int .i64 sg, .int .i64 mx, .int .i64 fi, .int .i64 gn, .int .i64 ls, .int .i64 gt, .int .i64 bu]] w fun e w' => e = .returned (.int .i64 131072) ∧ Kept w w' := by
  have CK' := Lib.hid CK
  clear CK
  go_enter Tryd.func14, Tryd.ntmps14
  go_upto_region 1 with fail
  generalize hW : World.alloc w (.cells #[.int .i64 sg, .int .i64 mx, .int .i64 fi, .int .i64 gn, .int .i64 ls, .int .i64 gt, .int .i64 bu] 23) = W_c
  have K_c : Kept w W_c := by subst hW; exact (Kept.refl _).alloc _ _
  have H_c := Lib.hid (show W_c.cell? ⟨w.heap.size, 0, none⟩ = some (.int .i64 sg) ∧ W_c.cell? ⟨w.heap.size, 1, none⟩ = some (.int .i64 mx) ∧ W_c.cell? ⟨w.heap.size, 2, none⟩ = some (.int .i64 fi) ∧ W_c.cell? ⟨w.heap.size, 3, none⟩ = some (.int .i64 gn) ∧ W_c.cell? ⟨w.heap.size, 4, none⟩ = some (.int .i64 ls) ∧ W_c.cell? ⟨w.heap.size, 5, none⟩ = some (.int .i64 gt) ∧ W_c.cell? ⟨w.heap.size, 6, none⟩ = some (.int .i64 bu) from by subst hW; simp [go_sem])
  clear hW
  generalize w.heap.size = g_c at *
  obtain ⟨cc0, cc1, cc2, cc3, cc4, cc5, cc6⟩ := Kept.alln7 (show Kept W_c W_c from (by (repeat (first | with_reducible exact Kept.refl _ | with_reducible apply Kept.drew | with_reducible apply Kept.alloc | ((with_reducible apply Kept.set); focus (simp <;> omega)) | ((with_reducible apply Kept.via); focus with_reducible assumption))))) H_c
  go_wp2_with fail
  refine (CK'.out _).mono ?_
  rintro e w20 ⟨rfl, k20⟩
  clear cc0 cc1 cc2 cc3 cc4 cc5 cc6
  obtain ⟨cc0, cc1, cc2, cc3, cc4, cc5, cc6⟩ := Kept.alln7 (show Kept W_c w20 from (by (repeat (first | with_reducible exact Kept.refl _ | with_reducible apply Kept.drew | with_reducible apply Kept.alloc | ((with_reducible apply Kept.set); focus (simp <;> omega)) | ((with_reducible apply Kept.via); focus with_reducible assumption))))) H_c
  go_wp2
  go_ret
  exact ⟨rfl, (by (repeat (first | with_reducible exact Kept.refl _ | with_reducible apply Kept.drew | with_reducible apply Kept.alloc | ((with_reducible apply Kept.set); focus (simp <;> omega)) | ((with_reducible apply Kept.via); focus with_reducible assumption))))⟩
set_option maxRecDepth 100000 in
set_option maxHeartbeats 1600000 in
theorem rf19_y {sg mx fi gn ls gt bu : Int} (f0 : 2 ≤ fi) (f1 : fi ≤ 1048576) (CK : ∀ w, Calls Tryd.prog 12 #[.agg #[.int .i64 sg, .int .i64 mx, .int .i64 fi, .int .i64 gn, .int .i64 ls, .int .i64 gt, .int .i64 bu]] w fun e w' => e = .returned (.int .i64 0) ∧ Kept w w') (w : World) : Calls Tryd.prog 14 #[.agg #[.int .i64 sg, .int .i64 mx, .int .i64 fi, .int .i64 gn, .int .i64 ls, .int .i64 gt, .int .i64 bu]] w fun e w' => e = .returned (.int .i64 (65536 * fi)) ∧ Kept w w' := by
  have CK' := Lib.hid CK
  clear CK
  go_enter Tryd.func14, Tryd.ntmps14
  go_upto_region 1 with fail
  generalize hW : World.alloc w (.cells #[.int .i64 sg, .int .i64 mx, .int .i64 fi, .int .i64 gn, .int .i64 ls, .int .i64 gt, .int .i64 bu] 23) = W_c
  have K_c : Kept w W_c := by subst hW; exact (Kept.refl _).alloc _ _
  have H_c := Lib.hid (show W_c.cell? ⟨w.heap.size, 0, none⟩ = some (.int .i64 sg) ∧ W_c.cell? ⟨w.heap.size, 1, none⟩ = some (.int .i64 mx) ∧ W_c.cell? ⟨w.heap.size, 2, none⟩ = some (.int .i64 fi) ∧ W_c.cell? ⟨w.heap.size, 3, none⟩ = some (.int .i64 gn) ∧ W_c.cell? ⟨w.heap.size, 4, none⟩ = some (.int .i64 ls) ∧ W_c.cell? ⟨w.heap.size, 5, none⟩ = some (.int .i64 gt) ∧ W_c.cell? ⟨w.heap.size, 6, none⟩ = some (.int .i64 bu) from by subst hW; simp [go_sem])
  clear hW
  generalize w.heap.size = g_c at *
  obtain ⟨cc0, cc1, cc2, cc3, cc4, cc5, cc6⟩ := Kept.alln7 (show Kept W_c W_c from (by (repeat (first | with_reducible exact Kept.refl _ | with_reducible apply Kept.drew | with_reducible apply Kept.alloc | ((with_reducible apply Kept.set); focus (simp <;> omega)) | ((with_reducible apply Kept.via); focus with_reducible assumption))))) H_c
  go_wp2_with fail
  refine (CK'.out _).mono ?_
  rintro e w20 ⟨rfl, k20⟩
  clear cc0 cc1 cc2 cc3 cc4 cc5 cc6
  obtain ⟨cc0, cc1, cc2, cc3, cc4, cc5, cc6⟩ := Kept.alln7 (show Kept W_c w20 from (by (repeat (first | with_reducible exact Kept.refl _ | with_reducible apply Kept.drew | with_reducible apply Kept.alloc | ((with_reducible apply Kept.set); focus (simp <;> omega)) | ((with_reducible apply Kept.via); focus with_reducible assumption))))) H_c
  go_wp2
  go_ret
  exact ⟨rfl, (by (repeat (first | with_reducible exact Kept.refl _ | with_reducible apply Kept.drew | with_reducible apply Kept.alloc | ((with_reducible apply Kept.set); focus (simp <;> omega)) | ((with_reducible apply Kept.via); focus with_reducible assumption))))⟩
theorem refFirst19_ok {c : Cf} {n : Int} (h : firstW c = n) (w : World) : Calls Tryd.prog 14 #[.agg #[.int .i64 c.sg, .int .i64 c.mx, .int .i64 c.fi, .int .i64 c.gn, .int .i64 c.ls, .int .i64 c.gt, .int .i64 c.bu]] w fun e w' => e = .returned (.int .i64 n) ∧ Kept w w' := by
  subst h
  unfold firstW
  by_cases m : MayCf c
  · rw [if_pos m]
    have q := m.2.2.1
    have q1 := m.2.1
    exact rf19_y q.1 (by omega) (fun w => refCheck19_ok (c := c) (cfgE_ok.2 m) w) w
  · rw [if_neg m]
    exact rf19_n (fun w => refCheck19_ok (c := c) (by unfold cfgE; rw [if_neg m]) w) w
theorem subLift19 {a b n : Int} (ha : In64 a) (hb : In64 b) (hn : heldAt (a - b) = n) (w : World) : Calls Tryd.prog 30 #[.int .i64 a, .int .i64 b] w fun e w' => e = .returned (.int .i64 n) ∧ Kept w w' := (refSub_lit_s a b n w ha hb hn).mono (fun _ _ ⟨h, k⟩ => ⟨h, k ▸ Kept.refl _⟩)
set_option maxRecDepth 100000 in
set_option maxHeartbeats 1600000 in
theorem ri19_s {sg mx fi gn ls gt bu v last now tmo d : Int} (d0 : decide (tmo < d) = false) (SB : ∀ w, Calls Tryd.prog 30 #[.int .i64 now, .int .i64 last] w fun e w' => e = .returned (.int .i64 d) ∧ Kept w w') (w : World) : Calls Tryd.prog 16 #[.int .i64 v, .int .i64 last, .int .i64 now, .int .i64 tmo, .agg #[.int .i64 sg, .int .i64 mx, .int .i64 fi, .int .i64 gn, .int .i64 ls, .int .i64 gt, .int .i64 bu]] w fun e w' => e = .returned (.int .i64 v) ∧ Kept w w' := by
  have SB' := Lib.hid SB
  clear SB
  go_enter Tryd.func16, Tryd.ntmps16
  go_upto_region 1 with fail
  generalize hW : World.alloc w (.cells #[.int .i64 sg, .int .i64 mx, .int .i64 fi, .int .i64 gn, .int .i64 ls, .int .i64 gt, .int .i64 bu] 23) = W_c
  have K_c : Kept w W_c := by subst hW; exact (Kept.refl _).alloc _ _
  have H_c := Lib.hid (show W_c.cell? ⟨w.heap.size, 0, none⟩ = some (.int .i64 sg) ∧ W_c.cell? ⟨w.heap.size, 1, none⟩ = some (.int .i64 mx) ∧ W_c.cell? ⟨w.heap.size, 2, none⟩ = some (.int .i64 fi) ∧ W_c.cell? ⟨w.heap.size, 3, none⟩ = some (.int .i64 gn) ∧ W_c.cell? ⟨w.heap.size, 4, none⟩ = some (.int .i64 ls) ∧ W_c.cell? ⟨w.heap.size, 5, none⟩ = some (.int .i64 gt) ∧ W_c.cell? ⟨w.heap.size, 6, none⟩ = some (.int .i64 bu) from by subst hW; simp [go_sem])
  clear hW
  generalize w.heap.size = g_c at *
  go_wp2_with fail
  refine (SB'.out _).mono ?_
  rintro e w20 ⟨rfl, k20⟩
  go_wp2
  go_ret
  exact ⟨rfl, (by (repeat (first | with_reducible exact Kept.refl _ | with_reducible apply Kept.drew | with_reducible apply Kept.alloc | ((with_reducible apply Kept.set); focus (simp <;> omega)) | ((with_reducible apply Kept.via); focus with_reducible assumption))))⟩
set_option maxRecDepth 100000 in
set_option maxHeartbeats 1600000 in
theorem ri19_l {sg mx fi gn ls gt bu v last now tmo d f p n : Int} (d0 : decide (tmo < d) = true) (e1 : (if f < v then f else v) = p) (e2 : (if p < 131072 then 131072 else p) = n) (SB : ∀ w, Calls Tryd.prog 30 #[.int .i64 now, .int .i64 last] w fun e w' => e = .returned (.int .i64 d) ∧ Kept w w') (FI : ∀ w, Calls Tryd.prog 14 #[.agg #[.int .i64 sg, .int .i64 mx, .int .i64 fi, .int .i64 gn, .int .i64 ls, .int .i64 gt, .int .i64 bu]] w fun e w' => e = .returned (.int .i64 f) ∧ Kept w w') (w : World) : Calls Tryd.prog 16 #[.int .i64 v, .int .i64 last, .int .i64 now, .int .i64 tmo, .agg #[.int .i64 sg, .int .i64 mx, .int .i64 fi, .int .i64 gn, .int .i64 ls, .int .i64 gt, .int .i64 bu]] w fun e w' => e = .returned (.int .i64 n) ∧ Kept w w' := by
  have SB' := Lib.hid SB
  have FI' := Lib.hid FI
  clear SB FI
  have g1 : min v f = p := by rw [← e1]; split <;> omega
  have g2 : max p 131072 = n := by rw [← e2]; split <;> omega
  go_enter Tryd.func16, Tryd.ntmps16
  go_upto_region 1 with fail
  generalize hW : World.alloc w (.cells #[.int .i64 sg, .int .i64 mx, .int .i64 fi, .int .i64 gn, .int .i64 ls, .int .i64 gt, .int .i64 bu] 23) = W_c
  have K_c : Kept w W_c := by subst hW; exact (Kept.refl _).alloc _ _
  have H_c := Lib.hid (show W_c.cell? ⟨w.heap.size, 0, none⟩ = some (.int .i64 sg) ∧ W_c.cell? ⟨w.heap.size, 1, none⟩ = some (.int .i64 mx) ∧ W_c.cell? ⟨w.heap.size, 2, none⟩ = some (.int .i64 fi) ∧ W_c.cell? ⟨w.heap.size, 3, none⟩ = some (.int .i64 gn) ∧ W_c.cell? ⟨w.heap.size, 4, none⟩ = some (.int .i64 ls) ∧ W_c.cell? ⟨w.heap.size, 5, none⟩ = some (.int .i64 gt) ∧ W_c.cell? ⟨w.heap.size, 6, none⟩ = some (.int .i64 bu) from by subst hW; simp [go_sem])
  clear hW
  generalize w.heap.size = g_c at *
  go_wp2_with fail
  refine (SB'.out _).mono ?_
  rintro e w20 ⟨rfl, k20⟩
  obtain ⟨cc0, cc1, cc2, cc3, cc4, cc5, cc6⟩ := Kept.alln7 (show Kept W_c w20 from (by (repeat (first | with_reducible exact Kept.refl _ | with_reducible apply Kept.drew | with_reducible apply Kept.alloc | ((with_reducible apply Kept.set); focus (simp <;> omega)) | ((with_reducible apply Kept.via); focus with_reducible assumption))))) H_c
  go_wp2_with fail
  refine (FI'.out _).mono ?_
  rintro e w21 ⟨rfl, k21⟩
  clear cc0 cc1 cc2 cc3 cc4 cc5 cc6
  go_wp2
  go_ret
  exact ⟨rfl, (by (repeat (first | with_reducible exact Kept.refl _ | with_reducible apply Kept.drew | with_reducible apply Kept.alloc | ((with_reducible apply Kept.set); focus (simp <;> omega)) | ((with_reducible apply Kept.via); focus with_reducible assumption))))⟩
theorem refIdle19_ok {v last now tmo n : Int} {c : Cf} (hl : In64 last) (hn : In64 now) (h : idleN v last now tmo c = n) (w : World) : Calls Tryd.prog 16 #[.int .i64 v, .int .i64 last, .int .i64 now, .int .i64 tmo, .agg #[.int .i64 c.sg, .int .i64 c.mx, .int .i64 c.fi, .int .i64 c.gn, .int .i64 c.ls, .int .i64 c.gt, .int .i64 c.bu]] w fun e w' => e = .returned (.int .i64 n) ∧ Kept w w' := by
  unfold idleN at h
  by_cases d : tmo < heldAt (now - last)
  · rw [if_pos d] at h
    exact ri19_l (by simp [d]) rfl h (fun w => subLift19 hn hl rfl w) (fun w => refFirst19_ok (c := c) rfl w) w
  · rw [if_neg d] at h
    subst h
    exact ri19_s (by simp; omega) (fun w => subLift19 hn hl rfl w) w
set_option maxRecDepth 100000 in
set_option maxHeartbeats 1600000 in
theorem rp19 {h h' : Ep} {last now d : Int} (SB : ∀ w, Calls Tryd.prog 30 #[.int .i64 now, .int .i64 last] w fun e w' => e = .returned (.int .i64 d) ∧ Kept w w') (SH : ∀ w, Calls Tryd.prog 32 #[.agg #[.bool h.on, .int .i64 h.start, .int .i64 h.first, .int .i64 h.most, .int .i64 h.k, .int .i64 h.est], .int .i64 d] w fun e w' => e = .returned (.agg #[.bool h'.on, .int .i64 h'.start, .int .i64 h'.first, .int .i64 h'.most, .int .i64 h'.k, .int .i64 h'.est]) ∧ Kept w w') (w : World) : Calls Tryd.prog 18 #[.agg #[.bool h.on, .int .i64 h.start, .int .i64 h.first, .int .i64 h.most, .int .i64 h.k, .int .i64 h.est], .int .i64 last, .int .i64 now] w fun e w' => e = .returned (.agg #[.bool h'.on, .int .i64 h'.start, .int .i64 h'.first, .int .i64 h'.most, .int .i64 h'.k, .int .i64 h'.est]) ∧ Kept w w' := by
  have SB' := Lib.hid SB
  have SH' := Lib.hid SH
  clear SB SH
  go_enter Tryd.func18, Tryd.ntmps18
  go_upto_region 1 with fail
  generalize hW : World.alloc (World.alloc w (.cells #[.bool h.on, .int .i64 h.start, .int .i64 h.first, .int .i64 h.most, .int .i64 h.k, .int .i64 h.est] 25)) (.cells #[.bool false, .int .i64 0, .int .i64 0, .int .i64 0, .int .i64 0, .int .i64 0] 25) = W0
  have K0 : Kept w W0 := by subst hW; exact ((Kept.refl _).alloc _ _).alloc _ _
  have R0 : RE W0 w.heap.size h := by subst hW; exact ⟨⟨by simp [go_sem], by simp [go_sem], by simp [go_sem], by simp [go_sem], by simp [go_sem], by simp [go_sem]⟩, by simp [go_sem], by simp [go_sem], by simp [go_sem], by simp [go_sem], by simp [go_sem], by simp [go_sem]⟩
  have Z0 := Lib.hid (show RE W0 (w.heap.size + 1) (⟨false, 0, 0, 0, 0, 0⟩ : Ep) from by subst hW; exact ⟨⟨by simp [go_sem], by simp [go_sem], by simp [go_sem], by simp [go_sem], by simp [go_sem], by simp [go_sem]⟩, by simp [go_sem], by simp [go_sem], by simp [go_sem], by simp [go_sem], by simp [go_sem], by simp [go_sem]⟩)
  clear hW
  generalize hg : w.heap.size = g at *
  have gw : w.heap.size ≤ g + 1 := by omega
  have B_h := Lib.hid (show W0.cell? ⟨g, 0, none⟩ = some (.bool h.on) ∧ W0.cell? ⟨g, 1, none⟩ = some (.int .i64 h.start) ∧ W0.cell? ⟨g, 2, none⟩ = some (.int .i64 h.first) ∧ W0.cell? ⟨g, 3, none⟩ = some (.int .i64 h.most) ∧ W0.cell? ⟨g, 4, none⟩ = some (.int .i64 h.k) ∧ W0.cell? ⟨g, 5, none⟩ = some (.int .i64 h.est) from R0.1)
  clear R0
  obtain ⟨q0, q1, q2, q3, q4, q5⟩ := kwn6 B_h
  refine wp_region_kept_tail 5 (by kernel_rfl) (by kernel_rfl) ?_
  simp only [List.take_succ_cons, List.take_zero, List.drop_succ_cons, List.drop_zero]
  repeat (go_big_quiet_step (first | (with_reducible exact kept_of (SB'.out _)) | (with_reducible exact kept_of (SH'.out _))))
  refine wpQuiet_nil ?_
  intro wq hw'
  have kq : Kept W0 wq := by obtain ⟨p, rfl⟩ := hw'; exact p.k
  clear hw' q0 q1 q2 q3 q4 q5
  have Zq := Lib.hid (Z0.out.kept kq)
  have kz := Kept.trans K0 kq
  clear Z0 K0 kq
  have ne1 := Zq.out.ne
  obtain ⟨⟨z0, z1, z2, z3, z4, z5⟩, zf0, zf1, zf2, zf3, zf4, zf5⟩ := Zq.out
  go_wp2
  simp [bodyPost, results, Tryd.results18, go_sem, *]
  exact (by (repeat (first | with_reducible exact Kept.refl _ | with_reducible apply Kept.drew | with_reducible apply Kept.alloc | ((with_reducible apply Kept.set); focus (simp <;> omega)) | ((with_reducible apply Kept.via); focus with_reducible assumption))))
theorem refPause19_ok {h h' : Ep} {last now : Int} (hi : In64E h) (hl : In64 last) (hn : In64 now) (e : shiftE h (heldAt (now - last)) = h') (w : World) : Calls Tryd.prog 18 #[.agg #[.bool h.on, .int .i64 h.start, .int .i64 h.first, .int .i64 h.most, .int .i64 h.k, .int .i64 h.est], .int .i64 last, .int .i64 now] w fun e w' => e = .returned (.agg #[.bool h'.on, .int .i64 h'.start, .int .i64 h'.first, .int .i64 h'.most, .int .i64 h'.k, .int .i64 h'.est]) ∧ Kept w w' := rp19 (fun w => subLift19 hn hl rfl w) (fun w => refShift_ok hi (heldAt_in _) e w) w
set_option maxRecDepth 100000 in
set_option maxHeartbeats 1600000 in
theorem ru19_0 {v out sg : Int} (d0 : decide (v < 0) = true)  (w : World) : Calls Tryd.prog 20 #[.int .i64 v, .int .i64 out, .int .i64 sg] w fun e w' => e = .returned (.bool false) ∧ Kept w w' := by
  go_enter Tryd.func20, Tryd.ntmps20
  go_wp2
  go_ret
  exact ⟨rfl, Kept.refl _⟩
set_option maxRecDepth 100000 in
set_option maxHeartbeats 1600000 in
theorem ru19_1 {v out sg : Int} (d0 : decide (v < 0) = false) (d1 : decide (out < 0) = true)  (w : World) : Calls Tryd.prog 20 #[.int .i64 v, .int .i64 out, .int .i64 sg] w fun e w' => e = .returned (.bool false) ∧ Kept w w' := by
  go_enter Tryd.func20, Tryd.ntmps20
  go_wp2
  go_ret
  exact ⟨rfl, Kept.refl _⟩
set_option maxRecDepth 100000 in
set_option maxHeartbeats 1600000 in
theorem ru19_2 {v out sg : Int} (d0 : decide (v < 0) = false) (d1 : decide (out < 0) = false) (d2 : decide (sg < 0) = true)  (w : World) : Calls Tryd.prog 20 #[.int .i64 v, .int .i64 out, .int .i64 sg] w fun e w' => e = .returned (.bool false) ∧ Kept w w' := by
  go_enter Tryd.func20, Tryd.ntmps20
  go_wp2
  go_ret
  exact ⟨rfl, Kept.refl _⟩
set_option maxRecDepth 100000 in
set_option maxHeartbeats 1600000 in
theorem ru19_3 {v out sg ph pl qh ql k : Int} {pb qb : Bool} (d0 : decide (v < 0) = false) (d1 : decide (out < 0) = false) (d2 : decide (sg < 0) = false) (M1 : ∀ w, Calls Tryd.prog 36 #[.int .i64 out, .int .i64 131072] w fun e w' => e = .returned (.agg #[.bool pb, .int .u64 ph, .int .u64 pl]) ∧ Kept w w') (M2 : ∀ w, Calls Tryd.prog 36 #[.int .i64 v, .int .i64 sg] w fun e w' => e = .returned (.agg #[.bool qb, .int .u64 qh, .int .u64 ql]) ∧ Kept w w') (CM : ∀ w, Calls Tryd.prog 35 #[.agg #[.bool pb, .int .u64 ph, .int .u64 pl], .agg #[.bool qb, .int .u64 qh, .int .u64 ql]] w fun e w' => e = .returned (.int .i64 k) ∧ Kept w w') (w : World) : Calls Tryd.prog 20 #[.int .i64 v, .int .i64 out, .int .i64 sg] w fun e w' => e = .returned (.bool (decide (0 ≤ k))) ∧ Kept w w' := by
  have M1' := Lib.hid M1
  have M2' := Lib.hid M2
  have CM' := Lib.hid CM
  clear M1 M2 CM
  go_enter Tryd.func20, Tryd.ntmps20
  go_wp2_with fail
  refine (M1'.out _).mono ?_
  rintro e w20 ⟨rfl, k20⟩
  go_wp2_with fail
  refine (M2'.out _).mono ?_
  rintro e w21 ⟨rfl, k21⟩
  go_wp2_with fail
  refine (CM'.out _).mono ?_
  rintro e w22 ⟨rfl, k22⟩
  go_wp2
  go_ret
  exact ⟨rfl, (by (repeat (first | with_reducible exact Kept.refl _ | with_reducible apply Kept.drew | with_reducible apply Kept.alloc | ((with_reducible apply Kept.set); focus (simp <;> omega)) | ((with_reducible apply Kept.via); focus with_reducible assumption))))⟩
theorem refUsed19_ok {v out sg : Int} {b : Bool} (hv : In64 v) (ho : In64 out) (hs : In64 sg) (h : b = true ↔ UsedW v out sg) (w : World) : Calls Tryd.prog 20 #[.int .i64 v, .int .i64 out, .int .i64 sg] w fun e w' => e = .returned (.bool b) ∧ Kept w w' := by
  have no : ¬ UsedW v out sg → b = false := fun m => by
    cases b with
    | false => rfl
    | true => exact absurd (h.1 rfl) m
  by_cases a1 : v < 0
  · rw [no (fun m => by have := m.1.1; omega)]; exact ru19_0 (by simp [a1]) w
  · by_cases a2 : out < 0
    · rw [no (fun m => by have := m.1.2.1; omega)]; exact ru19_1 (by simp; omega) (by simp [a2]) w
    · by_cases a3 : sg < 0
      · rw [no (fun m => by have := m.1.2.2; omega)]; exact ru19_2 (by simp; omega) (by simp; omega) (by simp [a3]) w
      · have i1 : In64 131072 := by unfold In64; omega
        obtain ⟨pb, ph, pl, rp⟩ := rep_ex (out * 131072) (mul_in ho i1)
        obtain ⟨qb, qh, ql, rq⟩ := rep_ex (v * sg) (mul_in hv hs)
        have CM := fun w => refCmp_ok (b1 := pb) (b2 := qb) rp.1 rp.2.1 rq.1 rq.2.1 w
        rw [rp.2.2.1, rq.2.2.1] at CM
        have e : b = decide (0 ≤ cmpI (out * 131072) (v * sg)) := by
          have c : 0 ≤ cmpI (out * 131072) (v * sg) ↔ UsedW v out sg := by
            unfold UsedW cmpI
            generalize v * sg = z
            repeat' split
            all_goals omega
          cases b with
          | true => have := c.2 (h.1 rfl); simp [this]
          | false => 
            have : ¬ 0 ≤ cmpI (out * 131072) (v * sg) := fun z => by have := h.2 (c.1 z); cases this
            simp; omega
        rw [e]
        exact ru19_3 (by simp; omega) (by simp; omega) (by simp; omega) (fun w => refMul_rep ho i1 rp w) (fun w => refMul_rep hv hs rq w) CM w
end Go.Proofs.YtdbikeehoildlaaDoor
