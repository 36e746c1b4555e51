/-
  Contracts of the document's answers of layer 7.
-/
import Derived.Test.YtmdekgcgfcdppaaTold07
import Derived.Test.YtmdekgcgfcdppaaRefR06
import Derived.Test.YtmdekgcgfcdppaaRef01
import Derived.Deep.DeepCutAuto
namespace Go.Proofs.Ytmdekgcgfcdppaa
open Go.RowKit Go.BigFrame
set_option linter.unusedVariables false

theorem clamp_held (n : Int) : clampAt n 1 1099511627776 = heldT n := by
  unfold clampAt heldT
  repeat' split
  all_goals omega
theorem refWithin_ok7 {n v : Int} (hv : heldT n = v) (w : World) : Calls Try.prog 22 #[.int .i64 n] w fun e w' => e = .returned (.int .i64 v) ∧ Kept w w' := by
  have C := Lib.hid (fun w => refClamp_lit_s n 1 1099511627776 v w ((clamp_held n).trans hv))
  clear hv
  go_enter Try.func22, Try.ntmps22
  go_wp2_with fail
  refine (C.out _).mono ?_
  rintro e w1 ⟨rfl, rfl⟩
  go_wp2
  go_ret
  exact ⟨rfl, Kept.refl _⟩
set_option maxRecDepth 100000 in
set_option maxHeartbeats 1600000 in
theorem refBase_bad {b : Bool} {m f sg mx fi gn ls gt bu : Int} (MY : ∀ w, Calls Try.prog 21 #[.agg #[.bool b, .int .i64 m, .int .i64 f]] w fun e w' => e = .returned (.bool false) ∧ Kept w w') (w : World) : Calls Try.prog 12 #[.agg #[.bool b, .int .i64 m, .int .i64 f], .agg #[.int .i64 sg, .int .i64 mx, .int .i64 fi, .int .i64 gn, .int .i64 ls, .int .i64 gt, .int .i64 bu]] w fun e w' => e = .returned (.int .i64 1000000) ∧ Kept w w' := by
  have MY' := Lib.hid MY
  clear MY
  go_enter Try.func12, Try.ntmps12
  go_upto_region 1 with fail
  generalize hW : World.alloc (World.alloc w (.cells #[.bool b, .int .i64 m, .int .i64 f] 23)) (.cells #[.int .i64 sg, .int .i64 mx, .int .i64 fi, .int .i64 gn, .int .i64 ls, .int .i64 gt, .int .i64 bu] 25) = W_p
  have K_p : Kept w W_p := by subst hW; exact ((Kept.refl _).alloc _ _).alloc _ _
  have H_r := Lib.hid (show W_p.cell? ⟨w.heap.size, 0, none⟩ = some (.bool b) ∧ W_p.cell? ⟨w.heap.size, 1, none⟩ = some (.int .i64 m) ∧ W_p.cell? ⟨w.heap.size, 2, none⟩ = some (.int .i64 f) from by subst hW; simp [go_sem])
  have H_c := Lib.hid (show W_p.cell? ⟨w.heap.size + 1, 0, none⟩ = some (.int .i64 sg) ∧ W_p.cell? ⟨w.heap.size + 1, 1, none⟩ = some (.int .i64 mx) ∧ W_p.cell? ⟨w.heap.size + 1, 2, none⟩ = some (.int .i64 fi) ∧ W_p.cell? ⟨w.heap.size + 1, 3, none⟩ = some (.int .i64 gn) ∧ W_p.cell? ⟨w.heap.size + 1, 4, none⟩ = some (.int .i64 ls) ∧ W_p.cell? ⟨w.heap.size + 1, 5, none⟩ = some (.int .i64 gt) ∧ W_p.cell? ⟨w.heap.size + 1, 6, none⟩ = some (.int .i64 bu) from by subst hW; simp [go_sem])
  have lp : w.heap.size + 2 ≤ W_p.heap.size := by subst hW; simp
  clear hW
  generalize hg : w.heap.size = g_r at *
  obtain ⟨c_r0, c_r1, c_r2⟩ := Kept.all3 (show Kept W_p W_p from (by (repeat (first | with_reducible exact Kept.refl _ | with_reducible apply Kept.drew | with_reducible apply Kept.alloc | ((with_reducible apply Kept.set); focus (simp <;> omega)) | ((with_reducible apply Kept.via); focus with_reducible assumption))))) H_r
  obtain ⟨c_c0, c_c1, c_c2, c_c3, c_c4, c_c5, c_c6⟩ := Kept.all7 (show Kept W_p W_p from (by (repeat (first | with_reducible exact Kept.refl _ | with_reducible apply Kept.drew | with_reducible apply Kept.alloc | ((with_reducible apply Kept.set); focus (simp <;> omega)) | ((with_reducible apply Kept.via); focus with_reducible assumption))))) H_c
  go_wp2_with fail
  refine (MY'.out _).mono ?_
  rintro e w1 ⟨rfl, k1⟩
  clear c_r0 c_r1 c_r2 c_c0 c_c1 c_c2 c_c3 c_c4 c_c5 c_c6
  go_wp2
  go_ret
  exact ⟨rfl, (by (repeat (first | with_reducible exact Kept.refl _ | with_reducible apply Kept.drew | with_reducible apply Kept.alloc | ((with_reducible apply Kept.set); focus (simp <;> omega)) | ((with_reducible apply Kept.via); focus with_reducible assumption))))⟩
set_option maxRecDepth 100000 in
set_option maxHeartbeats 1600000 in
theorem refBase_new {m f sg mx fi gn ls gt bu : Int} (MY : ∀ w, Calls Try.prog 21 #[.agg #[.bool false, .int .i64 m, .int .i64 f]] w fun e w' => e = .returned (.bool true) ∧ Kept w w') (w : World) : Calls Try.prog 12 #[.agg #[.bool false, .int .i64 m, .int .i64 f], .agg #[.int .i64 sg, .int .i64 mx, .int .i64 fi, .int .i64 gn, .int .i64 ls, .int .i64 gt, .int .i64 bu]] w fun e w' => e = .returned (.int .i64 1000000) ∧ Kept w w' := by
  have MY' := Lib.hid MY
  clear MY
  go_enter Try.func12, Try.ntmps12
  go_upto_region 1 with fail
  generalize hW : World.alloc (World.alloc w (.cells #[.bool false, .int .i64 m, .int .i64 f] 23)) (.cells #[.int .i64 sg, .int .i64 mx, .int .i64 fi, .int .i64 gn, .int .i64 ls, .int .i64 gt, .int .i64 bu] 25) = W_p
  have K_p : Kept w W_p := by subst hW; exact ((Kept.refl _).alloc _ _).alloc _ _
  have H_r := Lib.hid (show W_p.cell? ⟨w.heap.size, 0, none⟩ = some (.bool false) ∧ W_p.cell? ⟨w.heap.size, 1, none⟩ = some (.int .i64 m) ∧ W_p.cell? ⟨w.heap.size, 2, none⟩ = some (.int .i64 f) from by subst hW; simp [go_sem])
  have H_c := Lib.hid (show W_p.cell? ⟨w.heap.size + 1, 0, none⟩ = some (.int .i64 sg) ∧ W_p.cell? ⟨w.heap.size + 1, 1, none⟩ = some (.int .i64 mx) ∧ W_p.cell? ⟨w.heap.size + 1, 2, none⟩ = some (.int .i64 fi) ∧ W_p.cell? ⟨w.heap.size + 1, 3, none⟩ = some (.int .i64 gn) ∧ W_p.cell? ⟨w.heap.size + 1, 4, none⟩ = some (.int .i64 ls) ∧ W_p.cell? ⟨w.heap.size + 1, 5, none⟩ = some (.int .i64 gt) ∧ W_p.cell? ⟨w.heap.size + 1, 6, none⟩ = some (.int .i64 bu) from by subst hW; simp [go_sem])
  have lp : w.heap.size + 2 ≤ W_p.heap.size := by subst hW; simp
  clear hW
  generalize hg : w.heap.size = g_r at *
  obtain ⟨c_r0, c_r1, c_r2⟩ := Kept.all3 (show Kept W_p W_p from (by (repeat (first | with_reducible exact Kept.refl _ | with_reducible apply Kept.drew | with_reducible apply Kept.alloc | ((with_reducible apply Kept.set); focus (simp <;> omega)) | ((with_reducible apply Kept.via); focus with_reducible assumption))))) H_r
  obtain ⟨c_c0, c_c1, c_c2, c_c3, c_c4, c_c5, c_c6⟩ := Kept.all7 (show Kept W_p W_p from (by (repeat (first | with_reducible exact Kept.refl _ | with_reducible apply Kept.drew | with_reducible apply Kept.alloc | ((with_reducible apply Kept.set); focus (simp <;> omega)) | ((with_reducible apply Kept.via); focus with_reducible assumption))))) H_c
  go_wp2_with fail
  refine (MY'.out _).mono ?_
  rintro e w1 ⟨rfl, k1⟩
  clear c_r0 c_r1 c_r2 c_c0 c_c1 c_c2 c_c3 c_c4 c_c5 c_c6
  obtain ⟨c_r0, c_r1, c_r2⟩ := Kept.all3 (show Kept W_p w1 from (by (repeat (first | with_reducible exact Kept.refl _ | with_reducible apply Kept.drew | with_reducible apply Kept.alloc | ((with_reducible apply Kept.set); focus (simp <;> omega)) | ((with_reducible apply Kept.via); focus with_reducible assumption))))) H_r
  obtain ⟨c_c0, c_c1, c_c2, c_c3, c_c4, c_c5, c_c6⟩ := Kept.all7 (show Kept W_p w1 from (by (repeat (first | with_reducible exact Kept.refl _ | with_reducible apply Kept.drew | with_reducible apply Kept.alloc | ((with_reducible apply Kept.set); focus (simp <;> omega)) | ((with_reducible apply Kept.via); focus with_reducible assumption))))) H_c
  go_wp2
  go_ret
  exact ⟨rfl, (by (repeat (first | with_reducible exact Kept.refl _ | with_reducible apply Kept.drew | with_reducible apply Kept.alloc | ((with_reducible apply Kept.set); focus (simp <;> omega)) | ((with_reducible apply Kept.via); focus with_reducible assumption))))⟩
set_option maxRecDepth 100000 in
set_option maxHeartbeats 1600000 in
theorem refBase_gt {m f p g sg mx fi gn ls gt bu : Int} (p0 : 0 ≤ p) (p1 : p ≤ 1073741824) (g0 : 1 ≤ g) (g1 : g ≤ 1099511627776) (f0 : 0 ≤ f) (f1 : f ≤ 4294967296) (h : f < g) (MY : ∀ w, Calls Try.prog 21 #[.agg #[.bool true, .int .i64 m, .int .i64 f]] w fun e w' => e = .returned (.bool true) ∧ Kept w w') (WI : ∀ w, Calls Try.prog 22 #[.int .i64 gn] w fun e w' => e = .returned (.int .i64 g) ∧ Kept w w') (ME : ∀ w, Calls Try.prog 23 #[.agg #[.bool true, .int .i64 m, .int .i64 f]] w fun e w' => e = .returned (.int .i64 p) ∧ Kept w w') (w : World) : Calls Try.prog 12 #[.agg #[.bool true, .int .i64 m, .int .i64 f], .agg #[.int .i64 sg, .int .i64 mx, .int .i64 fi, .int .i64 gn, .int .i64 ls, .int .i64 gt, .int .i64 bu]] w fun e w' => e = .returned (.int .i64 (p + g)) ∧ Kept w w' := by
  have MY' := Lib.hid MY
  have WI' := Lib.hid WI
  have ME' := Lib.hid ME
  clear MY WI ME
  have wr : IntKind.i64.wrap (p + g) = p + g := by rw [IntKind.wrap_i64]; omega
  go_enter Try.func12, Try.ntmps12
  go_upto_region 1 with fail
  generalize hW : World.alloc (World.alloc w (.cells #[.bool true, .int .i64 m, .int .i64 f] 23)) (.cells #[.int .i64 sg, .int .i64 mx, .int .i64 fi, .int .i64 gn, .int .i64 ls, .int .i64 gt, .int .i64 bu] 25) = W_p
  have K_p : Kept w W_p := by subst hW; exact ((Kept.refl _).alloc _ _).alloc _ _
  have H_r := Lib.hid (show W_p.cell? ⟨w.heap.size, 0, none⟩ = some (.bool true) ∧ W_p.cell? ⟨w.heap.size, 1, none⟩ = some (.int .i64 m) ∧ W_p.cell? ⟨w.heap.size, 2, none⟩ = some (.int .i64 f) from by subst hW; simp [go_sem])
  have H_c := Lib.hid (show W_p.cell? ⟨w.heap.size + 1, 0, none⟩ = some (.int .i64 sg) ∧ W_p.cell? ⟨w.heap.size + 1, 1, none⟩ = some (.int .i64 mx) ∧ W_p.cell? ⟨w.heap.size + 1, 2, none⟩ = some (.int .i64 fi) ∧ W_p.cell? ⟨w.heap.size + 1, 3, none⟩ = some (.int .i64 gn) ∧ W_p.cell? ⟨w.heap.size + 1, 4, none⟩ = some (.int .i64 ls) ∧ W_p.cell? ⟨w.heap.size + 1, 5, none⟩ = some (.int .i64 gt) ∧ W_p.cell? ⟨w.heap.size + 1, 6, none⟩ = some (.int .i64 bu) from by subst hW; simp [go_sem])
  have lp : w.heap.size + 2 ≤ W_p.heap.size := by subst hW; simp
  clear hW
  generalize hg : w.heap.size = g_r at *
  obtain ⟨c_r0, c_r1, c_r2⟩ := Kept.all3 (show Kept W_p W_p from (by (repeat (first | with_reducible exact Kept.refl _ | with_reducible apply Kept.drew | with_reducible apply Kept.alloc | ((with_reducible apply Kept.set); focus (simp <;> omega)) | ((with_reducible apply Kept.via); focus with_reducible assumption))))) H_r
  obtain ⟨c_c0, c_c1, c_c2, c_c3, c_c4, c_c5, c_c6⟩ := Kept.all7 (show Kept W_p W_p from (by (repeat (first | with_reducible exact Kept.refl _ | with_reducible apply Kept.drew | with_reducible apply Kept.alloc | ((with_reducible apply Kept.set); focus (simp <;> omega)) | ((with_reducible apply Kept.via); focus with_reducible assumption))))) H_c
  go_wp2_with fail
  refine (MY'.out _).mono ?_
  rintro e w1 ⟨rfl, k1⟩
  clear c_r0 c_r1 c_r2 c_c0 c_c1 c_c2 c_c3 c_c4 c_c5 c_c6
  obtain ⟨c_r0, c_r1, c_r2⟩ := Kept.all3 (show Kept W_p w1 from (by (repeat (first | with_reducible exact Kept.refl _ | with_reducible apply Kept.drew | with_reducible apply Kept.alloc | ((with_reducible apply Kept.set); focus (simp <;> omega)) | ((with_reducible apply Kept.via); focus with_reducible assumption))))) H_r
  obtain ⟨c_c0, c_c1, c_c2, c_c3, c_c4, c_c5, c_c6⟩ := Kept.all7 (show Kept W_p w1 from (by (repeat (first | with_reducible exact Kept.refl _ | with_reducible apply Kept.drew | with_reducible apply Kept.alloc | ((with_reducible apply Kept.set); focus (simp <;> omega)) | ((with_reducible apply Kept.via); focus with_reducible assumption))))) H_c
  go_wp2_with fail
  refine (WI'.out _).mono ?_
  rintro e w2 ⟨rfl, k2⟩
  clear c_r0 c_r1 c_r2 c_c0 c_c1 c_c2 c_c3 c_c4 c_c5 c_c6
  obtain ⟨c_r0, c_r1, c_r2⟩ := Kept.all3 (show Kept W_p w2 from (by (repeat (first | with_reducible exact Kept.refl _ | with_reducible apply Kept.drew | with_reducible apply Kept.alloc | ((with_reducible apply Kept.set); focus (simp <;> omega)) | ((with_reducible apply Kept.via); focus with_reducible assumption))))) H_r
  obtain ⟨c_c0, c_c1, c_c2, c_c3, c_c4, c_c5, c_c6⟩ := Kept.all7 (show Kept W_p w2 from (by (repeat (first | with_reducible exact Kept.refl _ | with_reducible apply Kept.drew | with_reducible apply Kept.alloc | ((with_reducible apply Kept.set); focus (simp <;> omega)) | ((with_reducible apply Kept.via); focus with_reducible assumption))))) H_c
  go_wp2_with fail
  refine (WI'.out _).mono ?_
  rintro e w3 ⟨rfl, k3⟩
  clear c_r0 c_r1 c_r2 c_c0 c_c1 c_c2 c_c3 c_c4 c_c5 c_c6
  obtain ⟨c_r0, c_r1, c_r2⟩ := Kept.all3 (show Kept W_p w3 from (by (repeat (first | with_reducible exact Kept.refl _ | with_reducible apply Kept.drew | with_reducible apply Kept.alloc | ((with_reducible apply Kept.set); focus (simp <;> omega)) | ((with_reducible apply Kept.via); focus with_reducible assumption))))) H_r
  obtain ⟨c_c0, c_c1, c_c2, c_c3, c_c4, c_c5, c_c6⟩ := Kept.all7 (show Kept W_p w3 from (by (repeat (first | with_reducible exact Kept.refl _ | with_reducible apply Kept.drew | with_reducible apply Kept.alloc | ((with_reducible apply Kept.set); focus (simp <;> omega)) | ((with_reducible apply Kept.via); focus with_reducible assumption))))) H_c
  go_wp2_with fail
  refine (ME'.out _).mono ?_
  rintro e w4 ⟨rfl, k4⟩
  clear c_r0 c_r1 c_r2 c_c0 c_c1 c_c2 c_c3 c_c4 c_c5 c_c6
  go_wp2
  go_ret
  exact ⟨rfl, (by (repeat (first | with_reducible exact Kept.refl _ | with_reducible apply Kept.drew | with_reducible apply Kept.alloc | ((with_reducible apply Kept.set); focus (simp <;> omega)) | ((with_reducible apply Kept.via); focus with_reducible assumption))))⟩
set_option maxRecDepth 100000 in
set_option maxHeartbeats 1600000 in
theorem refBase_le {m f p g sg mx fi gn ls gt bu : Int} (p0 : 0 ≤ p) (p1 : p ≤ 1073741824) (g0 : 1 ≤ g) (g1 : g ≤ 1099511627776) (f0 : 0 ≤ f) (f1 : f ≤ 4294967296) (h : g ≤ f) (MY : ∀ w, Calls Try.prog 21 #[.agg #[.bool true, .int .i64 m, .int .i64 f]] w fun e w' => e = .returned (.bool true) ∧ Kept w w') (WI : ∀ w, Calls Try.prog 22 #[.int .i64 gn] w fun e w' => e = .returned (.int .i64 g) ∧ Kept w w') (ME : ∀ w, Calls Try.prog 23 #[.agg #[.bool true, .int .i64 m, .int .i64 f]] w fun e w' => e = .returned (.int .i64 p) ∧ Kept w w') (w : World) : Calls Try.prog 12 #[.agg #[.bool true, .int .i64 m, .int .i64 f], .agg #[.int .i64 sg, .int .i64 mx, .int .i64 fi, .int .i64 gn, .int .i64 ls, .int .i64 gt, .int .i64 bu]] w fun e w' => e = .returned (.int .i64 (p + f)) ∧ Kept w w' := by
  have MY' := Lib.hid MY
  have WI' := Lib.hid WI
  have ME' := Lib.hid ME
  clear MY WI ME
  have wr : IntKind.i64.wrap (p + f) = p + f := by rw [IntKind.wrap_i64]; omega
  have dh : decide (f < g) = false := by simp; omega
  go_enter Try.func12, Try.ntmps12
  go_upto_region 1 with fail
  generalize hW : World.alloc (World.alloc w (.cells #[.bool true, .int .i64 m, .int .i64 f] 23)) (.cells #[.int .i64 sg, .int .i64 mx, .int .i64 fi, .int .i64 gn, .int .i64 ls, .int .i64 gt, .int .i64 bu] 25) = W_p
  have K_p : Kept w W_p := by subst hW; exact ((Kept.refl _).alloc _ _).alloc _ _
  have H_r := Lib.hid (show W_p.cell? ⟨w.heap.size, 0, none⟩ = some (.bool true) ∧ W_p.cell? ⟨w.heap.size, 1, none⟩ = some (.int .i64 m) ∧ W_p.cell? ⟨w.heap.size, 2, none⟩ = some (.int .i64 f) from by subst hW; simp [go_sem])
  have H_c := Lib.hid (show W_p.cell? ⟨w.heap.size + 1, 0, none⟩ = some (.int .i64 sg) ∧ W_p.cell? ⟨w.heap.size + 1, 1, none⟩ = some (.int .i64 mx) ∧ W_p.cell? ⟨w.heap.size + 1, 2, none⟩ = some (.int .i64 fi) ∧ W_p.cell? ⟨w.heap.size + 1, 3, none⟩ = some (.int .i64 gn) ∧ W_p.cell? ⟨w.heap.size + 1, 4, none⟩ = some (.int .i64 ls) ∧ W_p.cell? ⟨w.heap.size + 1, 5, none⟩ = some (.int .i64 gt) ∧ W_p.cell? ⟨w.heap.size + 1, 6, none⟩ = some (.int .i64 bu) from by subst hW; simp [go_sem])
  have lp : w.heap.size + 2 ≤ W_p.heap.size := by subst hW; simp
  clear hW
  generalize hg : w.heap.size = g_r at *
  obtain ⟨c_r0, c_r1, c_r2⟩ := Kept.all3 (show Kept W_p W_p from (by (repeat (first | with_reducible exact Kept.refl _ | with_reducible apply Kept.drew | with_reducible apply Kept.alloc | ((with_reducible apply Kept.set); focus (simp <;> omega)) | ((with_reducible apply Kept.via); focus with_reducible assumption))))) H_r
  obtain ⟨c_c0, c_c1, c_c2, c_c3, c_c4, c_c5, c_c6⟩ := Kept.all7 (show Kept W_p W_p from (by (repeat (first | with_reducible exact Kept.refl _ | with_reducible apply Kept.drew | with_reducible apply Kept.alloc | ((with_reducible apply Kept.set); focus (simp <;> omega)) | ((with_reducible apply Kept.via); focus with_reducible assumption))))) H_c
  go_wp2_with fail
  refine (MY'.out _).mono ?_
  rintro e w1 ⟨rfl, k1⟩
  clear c_r0 c_r1 c_r2 c_c0 c_c1 c_c2 c_c3 c_c4 c_c5 c_c6
  obtain ⟨c_r0, c_r1, c_r2⟩ := Kept.all3 (show Kept W_p w1 from (by (repeat (first | with_reducible exact Kept.refl _ | with_reducible apply Kept.drew | with_reducible apply Kept.alloc | ((with_reducible apply Kept.set); focus (simp <;> omega)) | ((with_reducible apply Kept.via); focus with_reducible assumption))))) H_r
  obtain ⟨c_c0, c_c1, c_c2, c_c3, c_c4, c_c5, c_c6⟩ := Kept.all7 (show Kept W_p w1 from (by (repeat (first | with_reducible exact Kept.refl _ | with_reducible apply Kept.drew | with_reducible apply Kept.alloc | ((with_reducible apply Kept.set); focus (simp <;> omega)) | ((with_reducible apply Kept.via); focus with_reducible assumption))))) H_c
  go_wp2_with fail
  refine (WI'.out _).mono ?_
  rintro e w2 ⟨rfl, k2⟩
  clear c_r0 c_r1 c_r2 c_c0 c_c1 c_c2 c_c3 c_c4 c_c5 c_c6
  obtain ⟨c_r0, c_r1, c_r2⟩ := Kept.all3 (show Kept W_p w2 from (by (repeat (first | with_reducible exact Kept.refl _ | with_reducible apply Kept.drew | with_reducible apply Kept.alloc | ((with_reducible apply Kept.set); focus (simp <;> omega)) | ((with_reducible apply Kept.via); focus with_reducible assumption))))) H_r
  obtain ⟨c_c0, c_c1, c_c2, c_c3, c_c4, c_c5, c_c6⟩ := Kept.all7 (show Kept W_p w2 from (by (repeat (first | with_reducible exact Kept.refl _ | with_reducible apply Kept.drew | with_reducible apply Kept.alloc | ((with_reducible apply Kept.set); focus (simp <;> omega)) | ((with_reducible apply Kept.via); focus with_reducible assumption))))) H_c
  go_wp2_with fail
  refine (ME'.out _).mono ?_
  rintro e w3 ⟨rfl, k3⟩
  clear c_r0 c_r1 c_r2 c_c0 c_c1 c_c2 c_c3 c_c4 c_c5 c_c6
  go_wp2
  go_ret
  exact ⟨rfl, (by (repeat (first | with_reducible exact Kept.refl _ | with_reducible apply Kept.drew | with_reducible apply Kept.alloc | ((with_reducible apply Kept.set); focus (simp <;> omega)) | ((with_reducible apply Kept.via); focus with_reducible assumption))))⟩
theorem refBase_ok7 {b : Bool} {m f sg mx fi gn ls gt bu n : Int} (h : BaseIs b m f gn n) (w : World) : Calls Try.prog 12 #[.agg #[.bool b, .int .i64 m, .int .i64 f], .agg #[.int .i64 sg, .int .i64 mx, .int .i64 fi, .int .i64 gn, .int .i64 ls, .int .i64 gt, .int .i64 bu]] w fun e w' => e = .returned (.int .i64 n) ∧ Kept w w' := by
  rcases h with ⟨hn, rfl⟩ | ⟨hm, rfl, rfl⟩
  · by_cases hm : MayRtt b m f
    · cases b with
      | false => exact refBase_new (fun w => refCheck_yes_r hm w) w
      | true => exact absurd ⟨hm, rfl⟩ hn
    · exact refBase_bad (fun w => refCheck_no_r hm w) w
  · have g := heldT_range gn
    have k : 8 ≤ m ∧ m ≤ 8589934592 ∧ 0 ≤ f ∧ f ≤ 4294967296 := by unfold MayRtt at hm; simpa using hm
    have ME : ∀ w, Calls Try.prog 23 #[.agg #[.bool true, .int .i64 m, .int .i64 f]] w fun e w' => e = .returned (.int .i64 (m / 8)) ∧ Kept w w' := fun w => refMean_ok (by unfold In64; omega) (Int.tdiv_eq_ediv_of_nonneg (by omega)) w
    by_cases hf : f < heldT gn
    · rw [show max f (heldT gn) = heldT gn by omega]
      exact refBase_gt (by omega) (by omega) g.1 g.2 (by omega) (by omega) hf (fun w => refCheck_yes_r hm w) (fun w => refWithin_ok7 rfl w) ME w
    · rw [show max f (heldT gn) = f by omega]
      exact refBase_le (by omega) (by omega) g.1 g.2 (by omega) (by omega) (by omega) (fun w => refCheck_yes_r hm w) (fun w => refWithin_ok7 rfl w) ME w
set_option maxRecDepth 100000 in
set_option maxHeartbeats 1600000 in
theorem refOf_lt_gt {b : Bool} {m f sg mx fi gn ls gt bu n L G times : Int} (n0 : 1 ≤ n) (n1 : n ≤ 1100585369600) (l0 : 1 ≤ L) (l1 : L ≤ 1099511627776) (g0 : 1 ≤ G) (g1 : G ≤ 1099511627776) (tm : In64 times) (h1 : n < L) (h2 : G < L) (BB : ∀ w, Calls Try.prog 12 #[.agg #[.bool b, .int .i64 m, .int .i64 f], .agg #[.int .i64 sg, .int .i64 mx, .int .i64 fi, .int .i64 gn, .int .i64 ls, .int .i64 gt, .int .i64 bu]] w fun e w' => e = .returned (.int .i64 n) ∧ Kept w w') (WL : ∀ w, Calls Try.prog 22 #[.int .i64 ls] w fun e w' => e = .returned (.int .i64 L) ∧ Kept w w') (WG : ∀ w, Calls Try.prog 22 #[.int .i64 gt] w fun e w' => e = .returned (.int .i64 G) ∧ Kept w w') (w : World) : Calls Try.prog 13 #[.agg #[.bool b, .int .i64 m, .int .i64 f], .agg #[.int .i64 sg, .int .i64 mx, .int .i64 fi, .int .i64 gn, .int .i64 ls, .int .i64 gt, .int .i64 bu], .int .i64 times] w fun e w' => e = .returned (.int .i64 (dblN G G times.toNat)) ∧ Kept w w' := by
  have BB' := Lib.hid BB
  have WL' := Lib.hid WL
  have WG' := Lib.hid WG
  clear BB WL WG
  go_enter Try.func13, Try.ntmps13
  go_upto_region 1 with fail
  generalize hW : World.alloc (World.alloc w (.cells #[.bool b, .int .i64 m, .int .i64 f] 23)) (.cells #[.int .i64 sg, .int .i64 mx, .int .i64 fi, .int .i64 gn, .int .i64 ls, .int .i64 gt, .int .i64 bu] 25) = W_p
  have K_p : Kept w W_p := by subst hW; exact ((Kept.refl _).alloc _ _).alloc _ _
  have H_r := Lib.hid (show W_p.cell? ⟨w.heap.size, 0, none⟩ = some (.bool b) ∧ W_p.cell? ⟨w.heap.size, 1, none⟩ = some (.int .i64 m) ∧ W_p.cell? ⟨w.heap.size, 2, none⟩ = some (.int .i64 f) from by subst hW; simp [go_sem])
  have H_c := Lib.hid (show W_p.cell? ⟨w.heap.size + 1, 0, none⟩ = some (.int .i64 sg) ∧ W_p.cell? ⟨w.heap.size + 1, 1, none⟩ = some (.int .i64 mx) ∧ W_p.cell? ⟨w.heap.size + 1, 2, none⟩ = some (.int .i64 fi) ∧ W_p.cell? ⟨w.heap.size + 1, 3, none⟩ = some (.int .i64 gn) ∧ W_p.cell? ⟨w.heap.size + 1, 4, none⟩ = some (.int .i64 ls) ∧ W_p.cell? ⟨w.heap.size + 1, 5, none⟩ = some (.int .i64 gt) ∧ W_p.cell? ⟨w.heap.size + 1, 6, none⟩ = some (.int .i64 bu) from by subst hW; simp [go_sem])
  have lp : w.heap.size + 2 ≤ W_p.heap.size := by subst hW; simp
  clear hW
  generalize hg : w.heap.size = g_r at *
  obtain ⟨c_r0, c_r1, c_r2⟩ := Kept.all3 (show Kept W_p W_p from (by (repeat (first | with_reducible exact Kept.refl _ | with_reducible apply Kept.drew | with_reducible apply Kept.alloc | ((with_reducible apply Kept.set); focus (simp <;> omega)) | ((with_reducible apply Kept.via); focus with_reducible assumption))))) H_r
  obtain ⟨c_c0, c_c1, c_c2, c_c3, c_c4, c_c5, c_c6⟩ := Kept.all7 (show Kept W_p W_p from (by (repeat (first | with_reducible exact Kept.refl _ | with_reducible apply Kept.drew | with_reducible apply Kept.alloc | ((with_reducible apply Kept.set); focus (simp <;> omega)) | ((with_reducible apply Kept.via); focus with_reducible assumption))))) H_c
  go_wp2_with fail
  refine (BB'.out _).mono ?_
  rintro e w1 ⟨rfl, k1⟩
  clear c_r0 c_r1 c_r2 c_c0 c_c1 c_c2 c_c3 c_c4 c_c5 c_c6
  obtain ⟨c_c0, c_c1, c_c2, c_c3, c_c4, c_c5, c_c6⟩ := Kept.all7 (show Kept W_p w1 from (by (repeat (first | with_reducible exact Kept.refl _ | with_reducible apply Kept.drew | with_reducible apply Kept.alloc | ((with_reducible apply Kept.set); focus (simp <;> omega)) | ((with_reducible apply Kept.via); focus with_reducible assumption))))) H_c
  go_wp2_with fail
  refine (WL'.out _).mono ?_
  rintro e w2 ⟨rfl, k2⟩
  clear c_c0 c_c1 c_c2 c_c3 c_c4 c_c5 c_c6
  obtain ⟨c_c0, c_c1, c_c2, c_c3, c_c4, c_c5, c_c6⟩ := Kept.all7 (show Kept W_p w2 from (by (repeat (first | with_reducible exact Kept.refl _ | with_reducible apply Kept.drew | with_reducible apply Kept.alloc | ((with_reducible apply Kept.set); focus (simp <;> omega)) | ((with_reducible apply Kept.via); focus with_reducible assumption))))) H_c
  go_wp2_with fail
  refine (WL'.out _).mono ?_
  rintro e w3 ⟨rfl, k3⟩
  clear c_c0 c_c1 c_c2 c_c3 c_c4 c_c5 c_c6
  obtain ⟨c_c0, c_c1, c_c2, c_c3, c_c4, c_c5, c_c6⟩ := Kept.all7 (show Kept W_p w3 from (by (repeat (first | with_reducible exact Kept.refl _ | with_reducible apply Kept.drew | with_reducible apply Kept.alloc | ((with_reducible apply Kept.set); focus (simp <;> omega)) | ((with_reducible apply Kept.via); focus with_reducible assumption))))) H_c
  go_wp2_with fail
  refine (WG'.out _).mono ?_
  rintro e w4 ⟨rfl, k4⟩
  clear c_c0 c_c1 c_c2 c_c3 c_c4 c_c5 c_c6
  obtain ⟨c_c0, c_c1, c_c2, c_c3, c_c4, c_c5, c_c6⟩ := Kept.all7 (show Kept W_p w4 from (by (repeat (first | with_reducible exact Kept.refl _ | with_reducible apply Kept.drew | with_reducible apply Kept.alloc | ((with_reducible apply Kept.set); focus (simp <;> omega)) | ((with_reducible apply Kept.via); focus with_reducible assumption))))) H_c
  go_wp2_with fail
  refine (WG'.out _).mono ?_
  rintro e w5 ⟨rfl, k5⟩
  clear c_c0 c_c1 c_c2 c_c3 c_c4 c_c5 c_c6
  have x0 : 1 ≤ G := by omega
  have x1 : G ≤ G := by omega
  unfold In64 at tm
  go_wp2
  go_loopw [7, 8] (fun nv i wr => ∃ k : Nat, k ≤ times.toNat ∧ i = .int .i64 k ∧ nv = .int .i64 (dblN G G k) ∧ Kept W_p wr) (fun nv _ _ => (G - intOf nv).toNat)
  case atStart => exact ⟨0, Nat.zero_le _, rfl, rfl, (by (repeat (first | with_reducible exact Kept.refl _ | with_reducible apply Kept.drew | with_reducible apply Kept.alloc | ((with_reducible apply Kept.set); focus (simp <;> omega)) | ((with_reducible apply Kept.via); focus with_reducible assumption))))⟩
  case round =>
    obtain ⟨k, hk, rfl, rfl, kw⟩ := hrel
    have RR := Lib.hid (dbl_range x0 x1 k)
    have RN := Lib.hid (dbl_next G G k)
    have RS := Lib.hid (fun (h : dblN G G k = G) j => dbl_stays x0 x1 h j)
    have r0 : 1 ≤ dblN G G k := by have := RR.out; omega
    have r1 : dblN G G k ≤ G := RR.out.2
    by_cases hlt : (k : Int) < times
    · generalize hv : dblN G G k = v at *
      by_cases hvg : v < G
      · by_cases h2 : G < 2 * v
        · clear RR RS hv
          obtain ⟨c_c0, c_c1, c_c2, c_c3, c_c4, c_c5, c_c6⟩ := Kept.all7 (show Kept W_p wr from (by (repeat (first | with_reducible exact Kept.refl _ | with_reducible apply Kept.drew | with_reducible apply Kept.alloc | ((with_reducible apply Kept.set); focus (simp <;> omega)) | ((with_reducible apply Kept.via); focus with_reducible assumption))))) H_c
          go_wp2_with fail
          refine (WG'.out _).mono ?_
          rintro e w51 ⟨rfl, k51⟩
          clear c_c0 c_c1 c_c2 c_c3 c_c4 c_c5 c_c6
          obtain ⟨c_c0, c_c1, c_c2, c_c3, c_c4, c_c5, c_c6⟩ := Kept.all7 (show Kept W_p w51 from (by (repeat (first | with_reducible exact Kept.refl _ | with_reducible apply Kept.drew | with_reducible apply Kept.alloc | ((with_reducible apply Kept.set); focus (simp <;> omega)) | ((with_reducible apply Kept.via); focus with_reducible assumption))))) H_c
          go_wp2_with fail
          refine (WG'.out _).mono ?_
          rintro e w52 ⟨rfl, k52⟩
          clear c_c0 c_c1 c_c2 c_c3 c_c4 c_c5 c_c6
          obtain ⟨c_c0, c_c1, c_c2, c_c3, c_c4, c_c5, c_c6⟩ := Kept.all7 (show Kept W_p w52 from (by (repeat (first | with_reducible exact Kept.refl _ | with_reducible apply Kept.drew | with_reducible apply Kept.alloc | ((with_reducible apply Kept.set); focus (simp <;> omega)) | ((with_reducible apply Kept.via); focus with_reducible assumption))))) H_c
          go_wp2_with fail
          refine (WG'.out _).mono ?_
          rintro e w53 ⟨rfl, k53⟩
          clear c_c0 c_c1 c_c2 c_c3 c_c4 c_c5 c_c6
          go_wp2
          go_roundw
          case rel => exact ⟨k + 1, by omega, by go_num, by rw [RN.out]; congr 1; omega, (by (repeat (first | with_reducible exact Kept.refl _ | with_reducible apply Kept.drew | with_reducible apply Kept.alloc | ((with_reducible apply Kept.set); focus (simp <;> omega)) | ((with_reducible apply Kept.via); focus with_reducible assumption))))⟩
          case measure => simp [intOf]; omega
        · clear RR RS hv
          have h2' : decide (G < 2 * v) = false := by simp; omega
          obtain ⟨c_c0, c_c1, c_c2, c_c3, c_c4, c_c5, c_c6⟩ := Kept.all7 (show Kept W_p wr from (by (repeat (first | with_reducible exact Kept.refl _ | with_reducible apply Kept.drew | with_reducible apply Kept.alloc | ((with_reducible apply Kept.set); focus (simp <;> omega)) | ((with_reducible apply Kept.via); focus with_reducible assumption))))) H_c
          go_wp2_with fail
          refine (WG'.out _).mono ?_
          rintro e w51 ⟨rfl, k51⟩
          clear c_c0 c_c1 c_c2 c_c3 c_c4 c_c5 c_c6
          obtain ⟨c_c0, c_c1, c_c2, c_c3, c_c4, c_c5, c_c6⟩ := Kept.all7 (show Kept W_p w51 from (by (repeat (first | with_reducible exact Kept.refl _ | with_reducible apply Kept.drew | with_reducible apply Kept.alloc | ((with_reducible apply Kept.set); focus (simp <;> omega)) | ((with_reducible apply Kept.via); focus with_reducible assumption))))) H_c
          go_wp2_with fail
          refine (WG'.out _).mono ?_
          rintro e w52 ⟨rfl, k52⟩
          clear c_c0 c_c1 c_c2 c_c3 c_c4 c_c5 c_c6
          go_wp2
          go_roundw
          case rel => exact ⟨k + 1, by omega, by go_num, by rw [RN.out]; congr 1; omega, (by (repeat (first | with_reducible exact Kept.refl _ | with_reducible apply Kept.drew | with_reducible apply Kept.alloc | ((with_reducible apply Kept.set); focus (simp <;> omega)) | ((with_reducible apply Kept.via); focus with_reducible assumption))))⟩
          case measure => simp [intOf]; omega
      · have e : v = G := by omega
        have E := Lib.hid (show dblN G G times.toNat = v from by have := RS.out e (times.toNat - k); rw [show k + (times.toNat - k) = times.toNat by omega] at this; omega)
        clear RR RS hv e
        have hvg' : decide (v < G) = false := by simp; omega
        obtain ⟨c_c0, c_c1, c_c2, c_c3, c_c4, c_c5, c_c6⟩ := Kept.all7 (show Kept W_p wr from (by (repeat (first | with_reducible exact Kept.refl _ | with_reducible apply Kept.drew | with_reducible apply Kept.alloc | ((with_reducible apply Kept.set); focus (simp <;> omega)) | ((with_reducible apply Kept.via); focus with_reducible assumption))))) H_c
        go_wp2_with fail
        refine (WG'.out _).mono ?_
        rintro e w51 ⟨rfl, k51⟩
        clear c_c0 c_c1 c_c2 c_c3 c_c4 c_c5 c_c6
        go_wp2
        go_ret
        exact ⟨ret_same_r E.out.symm, (by (repeat (first | with_reducible exact Kept.refl _ | with_reducible apply Kept.drew | with_reducible apply Kept.alloc | ((with_reducible apply Kept.set); focus (simp <;> omega)) | ((with_reducible apply Kept.via); focus with_reducible assumption))))⟩
    · obtain rfl : k = times.toNat := by omega
      go_wp2
      go_ret
      exact ⟨rfl, (by (repeat (first | with_reducible exact Kept.refl _ | with_reducible apply Kept.drew | with_reducible apply Kept.alloc | ((with_reducible apply Kept.set); focus (simp <;> omega)) | ((with_reducible apply Kept.via); focus with_reducible assumption))))⟩
set_option maxRecDepth 100000 in
set_option maxHeartbeats 1600000 in
theorem refOf_lt_le {b : Bool} {m f sg mx fi gn ls gt bu n L G times : Int} (n0 : 1 ≤ n) (n1 : n ≤ 1100585369600) (l0 : 1 ≤ L) (l1 : L ≤ 1099511627776) (g0 : 1 ≤ G) (g1 : G ≤ 1099511627776) (tm : In64 times) (h1 : n < L) (h2 : L ≤ G) (BB : ∀ w, Calls Try.prog 12 #[.agg #[.bool b, .int .i64 m, .int .i64 f], .agg #[.int .i64 sg, .int .i64 mx, .int .i64 fi, .int .i64 gn, .int .i64 ls, .int .i64 gt, .int .i64 bu]] w fun e w' => e = .returned (.int .i64 n) ∧ Kept w w') (WL : ∀ w, Calls Try.prog 22 #[.int .i64 ls] w fun e w' => e = .returned (.int .i64 L) ∧ Kept w w') (WG : ∀ w, Calls Try.prog 22 #[.int .i64 gt] w fun e w' => e = .returned (.int .i64 G) ∧ Kept w w') (w : World) : Calls Try.prog 13 #[.agg #[.bool b, .int .i64 m, .int .i64 f], .agg #[.int .i64 sg, .int .i64 mx, .int .i64 fi, .int .i64 gn, .int .i64 ls, .int .i64 gt, .int .i64 bu], .int .i64 times] w fun e w' => e = .returned (.int .i64 (dblN G L times.toNat)) ∧ Kept w w' := by
  have BB' := Lib.hid BB
  have WL' := Lib.hid WL
  have WG' := Lib.hid WG
  clear BB WL WG
  have d2 : decide (G < L) = false := by simp; omega
  go_enter Try.func13, Try.ntmps13
  go_upto_region 1 with fail
  generalize hW : World.alloc (World.alloc w (.cells #[.bool b, .int .i64 m, .int .i64 f] 23)) (.cells #[.int .i64 sg, .int .i64 mx, .int .i64 fi, .int .i64 gn, .int .i64 ls, .int .i64 gt, .int .i64 bu] 25) = W_p
  have K_p : Kept w W_p := by subst hW; exact ((Kept.refl _).alloc _ _).alloc _ _
  have H_r := Lib.hid (show W_p.cell? ⟨w.heap.size, 0, none⟩ = some (.bool b) ∧ W_p.cell? ⟨w.heap.size, 1, none⟩ = some (.int .i64 m) ∧ W_p.cell? ⟨w.heap.size, 2, none⟩ = some (.int .i64 f) from by subst hW; simp [go_sem])
  have H_c := Lib.hid (show W_p.cell? ⟨w.heap.size + 1, 0, none⟩ = some (.int .i64 sg) ∧ W_p.cell? ⟨w.heap.size + 1, 1, none⟩ = some (.int .i64 mx) ∧ W_p.cell? ⟨w.heap.size + 1, 2, none⟩ = some (.int .i64 fi) ∧ W_p.cell? ⟨w.heap.size + 1, 3, none⟩ = some (.int .i64 gn) ∧ W_p.cell? ⟨w.heap.size + 1, 4, none⟩ = some (.int .i64 ls) ∧ W_p.cell? ⟨w.heap.size + 1, 5, none⟩ = some (.int .i64 gt) ∧ W_p.cell? ⟨w.heap.size + 1, 6, none⟩ = some (.int .i64 bu) from by subst hW; simp [go_sem])
  have lp : w.heap.size + 2 ≤ W_p.heap.size := by subst hW; simp
  clear hW
  generalize hg : w.heap.size = g_r at *
  obtain ⟨c_r0, c_r1, c_r2⟩ := Kept.all3 (show Kept W_p W_p from (by (repeat (first | with_reducible exact Kept.refl _ | with_reducible apply Kept.drew | with_reducible apply Kept.alloc | ((with_reducible apply Kept.set); focus (simp <;> omega)) | ((with_reducible apply Kept.via); focus with_reducible assumption))))) H_r
  obtain ⟨c_c0, c_c1, c_c2, c_c3, c_c4, c_c5, c_c6⟩ := Kept.all7 (show Kept W_p W_p from (by (repeat (first | with_reducible exact Kept.refl _ | with_reducible apply Kept.drew | with_reducible apply Kept.alloc | ((with_reducible apply Kept.set); focus (simp <;> omega)) | ((with_reducible apply Kept.via); focus with_reducible assumption))))) H_c
  go_wp2_with fail
  refine (BB'.out _).mono ?_
  rintro e w1 ⟨rfl, k1⟩
  clear c_r0 c_r1 c_r2 c_c0 c_c1 c_c2 c_c3 c_c4 c_c5 c_c6
  obtain ⟨c_c0, c_c1, c_c2, c_c3, c_c4, c_c5, c_c6⟩ := Kept.all7 (show Kept W_p w1 from (by (repeat (first | with_reducible exact Kept.refl _ | with_reducible apply Kept.drew | with_reducible apply Kept.alloc | ((with_reducible apply Kept.set); focus (simp <;> omega)) | ((with_reducible apply Kept.via); focus with_reducible assumption))))) H_c
  go_wp2_with fail
  refine (WL'.out _).mono ?_
  rintro e w2 ⟨rfl, k2⟩
  clear c_c0 c_c1 c_c2 c_c3 c_c4 c_c5 c_c6
  obtain ⟨c_c0, c_c1, c_c2, c_c3, c_c4, c_c5, c_c6⟩ := Kept.all7 (show Kept W_p w2 from (by (repeat (first | with_reducible exact Kept.refl _ | with_reducible apply Kept.drew | with_reducible apply Kept.alloc | ((with_reducible apply Kept.set); focus (simp <;> omega)) | ((with_reducible apply Kept.via); focus with_reducible assumption))))) H_c
  go_wp2_with fail
  refine (WL'.out _).mono ?_
  rintro e w3 ⟨rfl, k3⟩
  clear c_c0 c_c1 c_c2 c_c3 c_c4 c_c5 c_c6
  obtain ⟨c_c0, c_c1, c_c2, c_c3, c_c4, c_c5, c_c6⟩ := Kept.all7 (show Kept W_p w3 from (by (repeat (first | with_reducible exact Kept.refl _ | with_reducible apply Kept.drew | with_reducible apply Kept.alloc | ((with_reducible apply Kept.set); focus (simp <;> omega)) | ((with_reducible apply Kept.via); focus with_reducible assumption))))) H_c
  go_wp2_with fail
  refine (WG'.out _).mono ?_
  rintro e w4 ⟨rfl, k4⟩
  clear c_c0 c_c1 c_c2 c_c3 c_c4 c_c5 c_c6
  have x0 : 1 ≤ L := by omega
  have x1 : L ≤ G := by omega
  unfold In64 at tm
  go_wp2
  go_loopw [7, 8] (fun nv i wr => ∃ k : Nat, k ≤ times.toNat ∧ i = .int .i64 k ∧ nv = .int .i64 (dblN G L k) ∧ Kept W_p wr) (fun nv _ _ => (G - intOf nv).toNat)
  case atStart => exact ⟨0, Nat.zero_le _, rfl, rfl, (by (repeat (first | with_reducible exact Kept.refl _ | with_reducible apply Kept.drew | with_reducible apply Kept.alloc | ((with_reducible apply Kept.set); focus (simp <;> omega)) | ((with_reducible apply Kept.via); focus with_reducible assumption))))⟩
  case round =>
    obtain ⟨k, hk, rfl, rfl, kw⟩ := hrel
    have RR := Lib.hid (dbl_range x0 x1 k)
    have RN := Lib.hid (dbl_next G L k)
    have RS := Lib.hid (fun (h : dblN G L k = G) j => dbl_stays x0 x1 h j)
    have r0 : 1 ≤ dblN G L k := by have := RR.out; omega
    have r1 : dblN G L k ≤ G := RR.out.2
    by_cases hlt : (k : Int) < times
    · generalize hv : dblN G L k = v at *
      by_cases hvg : v < G
      · by_cases h2 : G < 2 * v
        · clear RR RS hv
          obtain ⟨c_c0, c_c1, c_c2, c_c3, c_c4, c_c5, c_c6⟩ := Kept.all7 (show Kept W_p wr from (by (repeat (first | with_reducible exact Kept.refl _ | with_reducible apply Kept.drew | with_reducible apply Kept.alloc | ((with_reducible apply Kept.set); focus (simp <;> omega)) | ((with_reducible apply Kept.via); focus with_reducible assumption))))) H_c
          go_wp2_with fail
          refine (WG'.out _).mono ?_
          rintro e w51 ⟨rfl, k51⟩
          clear c_c0 c_c1 c_c2 c_c3 c_c4 c_c5 c_c6
          obtain ⟨c_c0, c_c1, c_c2, c_c3, c_c4, c_c5, c_c6⟩ := Kept.all7 (show Kept W_p w51 from (by (repeat (first | with_reducible exact Kept.refl _ | with_reducible apply Kept.drew | with_reducible apply Kept.alloc | ((with_reducible apply Kept.set); focus (simp <;> omega)) | ((with_reducible apply Kept.via); focus with_reducible assumption))))) H_c
          go_wp2_with fail
          refine (WG'.out _).mono ?_
          rintro e w52 ⟨rfl, k52⟩
          clear c_c0 c_c1 c_c2 c_c3 c_c4 c_c5 c_c6
          obtain ⟨c_c0, c_c1, c_c2, c_c3, c_c4, c_c5, c_c6⟩ := Kept.all7 (show Kept W_p w52 from (by (repeat (first | with_reducible exact Kept.refl _ | with_reducible apply Kept.drew | with_reducible apply Kept.alloc | ((with_reducible apply Kept.set); focus (simp <;> omega)) | ((with_reducible apply Kept.via); focus with_reducible assumption))))) H_c
          go_wp2_with fail
          refine (WG'.out _).mono ?_
          rintro e w53 ⟨rfl, k53⟩
          clear c_c0 c_c1 c_c2 c_c3 c_c4 c_c5 c_c6
          go_wp2
          go_roundw
          case rel => exact ⟨k + 1, by omega, by go_num, by rw [RN.out]; congr 1; omega, (by (repeat (first | with_reducible exact Kept.refl _ | with_reducible apply Kept.drew | with_reducible apply Kept.alloc | ((with_reducible apply Kept.set); focus (simp <;> omega)) | ((with_reducible apply Kept.via); focus with_reducible assumption))))⟩
          case measure => simp [intOf]; omega
        · clear RR RS hv
          have h2' : decide (G < 2 * v) = false := by simp; omega
          obtain ⟨c_c0, c_c1, c_c2, c_c3, c_c4, c_c5, c_c6⟩ := Kept.all7 (show Kept W_p wr from (by (repeat (first | with_reducible exact Kept.refl _ | with_reducible apply Kept.drew | with_reducible apply Kept.alloc | ((with_reducible apply Kept.set); focus (simp <;> omega)) | ((with_reducible apply Kept.via); focus with_reducible assumption))))) H_c
          go_wp2_with fail
          refine (WG'.out _).mono ?_
          rintro e w51 ⟨rfl, k51⟩
          clear c_c0 c_c1 c_c2 c_c3 c_c4 c_c5 c_c6
          obtain ⟨c_c0, c_c1, c_c2, c_c3, c_c4, c_c5, c_c6⟩ := Kept.all7 (show Kept W_p w51 from (by (repeat (first | with_reducible exact Kept.refl _ | with_reducible apply Kept.drew | with_reducible apply Kept.alloc | ((with_reducible apply Kept.set); focus (simp <;> omega)) | ((with_reducible apply Kept.via); focus with_reducible assumption))))) H_c
          go_wp2_with fail
          refine (WG'.out _).mono ?_
          rintro e w52 ⟨rfl, k52⟩
          clear c_c0 c_c1 c_c2 c_c3 c_c4 c_c5 c_c6
          go_wp2
          go_roundw
          case rel => exact ⟨k + 1, by omega, by go_num, by rw [RN.out]; congr 1; omega, (by (repeat (first | with_reducible exact Kept.refl _ | with_reducible apply Kept.drew | with_reducible apply Kept.alloc | ((with_reducible apply Kept.set); focus (simp <;> omega)) | ((with_reducible apply Kept.via); focus with_reducible assumption))))⟩
          case measure => simp [intOf]; omega
      · have e : v = G := by omega
        have E := Lib.hid (show dblN G L times.toNat = v from by have := RS.out e (times.toNat - k); rw [show k + (times.toNat - k) = times.toNat by omega] at this; omega)
        clear RR RS hv e
        have hvg' : decide (v < G) = false := by simp; omega
        obtain ⟨c_c0, c_c1, c_c2, c_c3, c_c4, c_c5, c_c6⟩ := Kept.all7 (show Kept W_p wr from (by (repeat (first | with_reducible exact Kept.refl _ | with_reducible apply Kept.drew | with_reducible apply Kept.alloc | ((with_reducible apply Kept.set); focus (simp <;> omega)) | ((with_reducible apply Kept.via); focus with_reducible assumption))))) H_c
        go_wp2_with fail
        refine (WG'.out _).mono ?_
        rintro e w51 ⟨rfl, k51⟩
        clear c_c0 c_c1 c_c2 c_c3 c_c4 c_c5 c_c6
        go_wp2
        go_ret
        exact ⟨ret_same_r E.out.symm, (by (repeat (first | with_reducible exact Kept.refl _ | with_reducible apply Kept.drew | with_reducible apply Kept.alloc | ((with_reducible apply Kept.set); focus (simp <;> omega)) | ((with_reducible apply Kept.via); focus with_reducible assumption))))⟩
    · obtain rfl : k = times.toNat := by omega
      go_wp2
      go_ret
      exact ⟨rfl, (by (repeat (first | with_reducible exact Kept.refl _ | with_reducible apply Kept.drew | with_reducible apply Kept.alloc | ((with_reducible apply Kept.set); focus (simp <;> omega)) | ((with_reducible apply Kept.via); focus with_reducible assumption))))⟩
set_option maxRecDepth 100000 in
set_option maxHeartbeats 1600000 in
theorem refOf_ge_gt {b : Bool} {m f sg mx fi gn ls gt bu n L G times : Int} (n0 : 1 ≤ n) (n1 : n ≤ 1100585369600) (l0 : 1 ≤ L) (l1 : L ≤ 1099511627776) (g0 : 1 ≤ G) (g1 : G ≤ 1099511627776) (tm : In64 times) (h1 : L ≤ n) (h2 : G < n) (BB : ∀ w, Calls Try.prog 12 #[.agg #[.bool b, .int .i64 m, .int .i64 f], .agg #[.int .i64 sg, .int .i64 mx, .int .i64 fi, .int .i64 gn, .int .i64 ls, .int .i64 gt, .int .i64 bu]] w fun e w' => e = .returned (.int .i64 n) ∧ Kept w w') (WL : ∀ w, Calls Try.prog 22 #[.int .i64 ls] w fun e w' => e = .returned (.int .i64 L) ∧ Kept w w') (WG : ∀ w, Calls Try.prog 22 #[.int .i64 gt] w fun e w' => e = .returned (.int .i64 G) ∧ Kept w w') (w : World) : Calls Try.prog 13 #[.agg #[.bool b, .int .i64 m, .int .i64 f], .agg #[.int .i64 sg, .int .i64 mx, .int .i64 fi, .int .i64 gn, .int .i64 ls, .int .i64 gt, .int .i64 bu], .int .i64 times] w fun e w' => e = .returned (.int .i64 (dblN G G times.toNat)) ∧ Kept w w' := by
  have BB' := Lib.hid BB
  have WL' := Lib.hid WL
  have WG' := Lib.hid WG
  clear BB WL WG
  have d1 : decide (n < L) = false := by simp; omega
  go_enter Try.func13, Try.ntmps13
  go_upto_region 1 with fail
  generalize hW : World.alloc (World.alloc w (.cells #[.bool b, .int .i64 m, .int .i64 f] 23)) (.cells #[.int .i64 sg, .int .i64 mx, .int .i64 fi, .int .i64 gn, .int .i64 ls, .int .i64 gt, .int .i64 bu] 25) = W_p
  have K_p : Kept w W_p := by subst hW; exact ((Kept.refl _).alloc _ _).alloc _ _
  have H_r := Lib.hid (show W_p.cell? ⟨w.heap.size, 0, none⟩ = some (.bool b) ∧ W_p.cell? ⟨w.heap.size, 1, none⟩ = some (.int .i64 m) ∧ W_p.cell? ⟨w.heap.size, 2, none⟩ = some (.int .i64 f) from by subst hW; simp [go_sem])
  have H_c := Lib.hid (show W_p.cell? ⟨w.heap.size + 1, 0, none⟩ = some (.int .i64 sg) ∧ W_p.cell? ⟨w.heap.size + 1, 1, none⟩ = some (.int .i64 mx) ∧ W_p.cell? ⟨w.heap.size + 1, 2, none⟩ = some (.int .i64 fi) ∧ W_p.cell? ⟨w.heap.size + 1, 3, none⟩ = some (.int .i64 gn) ∧ W_p.cell? ⟨w.heap.size + 1, 4, none⟩ = some (.int .i64 ls) ∧ W_p.cell? ⟨w.heap.size + 1, 5, none⟩ = some (.int .i64 gt) ∧ W_p.cell? ⟨w.heap.size + 1, 6, none⟩ = some (.int .i64 bu) from by subst hW; simp [go_sem])
  have lp : w.heap.size + 2 ≤ W_p.heap.size := by subst hW; simp
  clear hW
  generalize hg : w.heap.size = g_r at *
  obtain ⟨c_r0, c_r1, c_r2⟩ := Kept.all3 (show Kept W_p W_p from (by (repeat (first | with_reducible exact Kept.refl _ | with_reducible apply Kept.drew | with_reducible apply Kept.alloc | ((with_reducible apply Kept.set); focus (simp <;> omega)) | ((with_reducible apply Kept.via); focus with_reducible assumption))))) H_r
  obtain ⟨c_c0, c_c1, c_c2, c_c3, c_c4, c_c5, c_c6⟩ := Kept.all7 (show Kept W_p W_p from (by (repeat (first | with_reducible exact Kept.refl _ | with_reducible apply Kept.drew | with_reducible apply Kept.alloc | ((with_reducible apply Kept.set); focus (simp <;> omega)) | ((with_reducible apply Kept.via); focus with_reducible assumption))))) H_c
  go_wp2_with fail
  refine (BB'.out _).mono ?_
  rintro e w1 ⟨rfl, k1⟩
  clear c_r0 c_r1 c_r2 c_c0 c_c1 c_c2 c_c3 c_c4 c_c5 c_c6
  obtain ⟨c_c0, c_c1, c_c2, c_c3, c_c4, c_c5, c_c6⟩ := Kept.all7 (show Kept W_p w1 from (by (repeat (first | with_reducible exact Kept.refl _ | with_reducible apply Kept.drew | with_reducible apply Kept.alloc | ((with_reducible apply Kept.set); focus (simp <;> omega)) | ((with_reducible apply Kept.via); focus with_reducible assumption))))) H_c
  go_wp2_with fail
  refine (WL'.out _).mono ?_
  rintro e w2 ⟨rfl, k2⟩
  clear c_c0 c_c1 c_c2 c_c3 c_c4 c_c5 c_c6
  obtain ⟨c_c0, c_c1, c_c2, c_c3, c_c4, c_c5, c_c6⟩ := Kept.all7 (show Kept W_p w2 from (by (repeat (first | with_reducible exact Kept.refl _ | with_reducible apply Kept.drew | with_reducible apply Kept.alloc | ((with_reducible apply Kept.set); focus (simp <;> omega)) | ((with_reducible apply Kept.via); focus with_reducible assumption))))) H_c
  go_wp2_with fail
  refine (WG'.out _).mono ?_
  rintro e w3 ⟨rfl, k3⟩
  clear c_c0 c_c1 c_c2 c_c3 c_c4 c_c5 c_c6
  obtain ⟨c_c0, c_c1, c_c2, c_c3, c_c4, c_c5, c_c6⟩ := Kept.all7 (show Kept W_p w3 from (by (repeat (first | with_reducible exact Kept.refl _ | with_reducible apply Kept.drew | with_reducible apply Kept.alloc | ((with_reducible apply Kept.set); focus (simp <;> omega)) | ((with_reducible apply Kept.via); focus with_reducible assumption))))) H_c
  go_wp2_with fail
  refine (WG'.out _).mono ?_
  rintro e w4 ⟨rfl, k4⟩
  clear c_c0 c_c1 c_c2 c_c3 c_c4 c_c5 c_c6
  have x0 : 1 ≤ G := by omega
  have x1 : G ≤ G := by omega
  unfold In64 at tm
  go_wp2
  go_loopw [7, 8] (fun nv i wr => ∃ k : Nat, k ≤ times.toNat ∧ i = .int .i64 k ∧ nv = .int .i64 (dblN G G k) ∧ Kept W_p wr) (fun nv _ _ => (G - intOf nv).toNat)
  case atStart => exact ⟨0, Nat.zero_le _, rfl, rfl, (by (repeat (first | with_reducible exact Kept.refl _ | with_reducible apply Kept.drew | with_reducible apply Kept.alloc | ((with_reducible apply Kept.set); focus (simp <;> omega)) | ((with_reducible apply Kept.via); focus with_reducible assumption))))⟩
  case round =>
    obtain ⟨k, hk, rfl, rfl, kw⟩ := hrel
    have RR := Lib.hid (dbl_range x0 x1 k)
    have RN := Lib.hid (dbl_next G G k)
    have RS := Lib.hid (fun (h : dblN G G k = G) j => dbl_stays x0 x1 h j)
    have r0 : 1 ≤ dblN G G k := by have := RR.out; omega
    have r1 : dblN G G k ≤ G := RR.out.2
    by_cases hlt : (k : Int) < times
    · generalize hv : dblN G G k = v at *
      by_cases hvg : v < G
      · by_cases h2 : G < 2 * v
        · clear RR RS hv
          obtain ⟨c_c0, c_c1, c_c2, c_c3, c_c4, c_c5, c_c6⟩ := Kept.all7 (show Kept W_p wr from (by (repeat (first | with_reducible exact Kept.refl _ | with_reducible apply Kept.drew | with_reducible apply Kept.alloc | ((with_reducible apply Kept.set); focus (simp <;> omega)) | ((with_reducible apply Kept.via); focus with_reducible assumption))))) H_c
          go_wp2_with fail
          refine (WG'.out _).mono ?_
          rintro e w51 ⟨rfl, k51⟩
          clear c_c0 c_c1 c_c2 c_c3 c_c4 c_c5 c_c6
          obtain ⟨c_c0, c_c1, c_c2, c_c3, c_c4, c_c5, c_c6⟩ := Kept.all7 (show Kept W_p w51 from (by (repeat (first | with_reducible exact Kept.refl _ | with_reducible apply Kept.drew | with_reducible apply Kept.alloc | ((with_reducible apply Kept.set); focus (simp <;> omega)) | ((with_reducible apply Kept.via); focus with_reducible assumption))))) H_c
          go_wp2_with fail
          refine (WG'.out _).mono ?_
          rintro e w52 ⟨rfl, k52⟩
          clear c_c0 c_c1 c_c2 c_c3 c_c4 c_c5 c_c6
          obtain ⟨c_c0, c_c1, c_c2, c_c3, c_c4, c_c5, c_c6⟩ := Kept.all7 (show Kept W_p w52 from (by (repeat (first | with_reducible exact Kept.refl _ | with_reducible apply Kept.drew | with_reducible apply Kept.alloc | ((with_reducible apply Kept.set); focus (simp <;> omega)) | ((with_reducible apply Kept.via); focus with_reducible assumption))))) H_c
          go_wp2_with fail
          refine (WG'.out _).mono ?_
          rintro e w53 ⟨rfl, k53⟩
          clear c_c0 c_c1 c_c2 c_c3 c_c4 c_c5 c_c6
          go_wp2
          go_roundw
          case rel => exact ⟨k + 1, by omega, by go_num, by rw [RN.out]; congr 1; omega, (by (repeat (first | with_reducible exact Kept.refl _ | with_reducible apply Kept.drew | with_reducible apply Kept.alloc | ((with_reducible apply Kept.set); focus (simp <;> omega)) | ((with_reducible apply Kept.via); focus with_reducible assumption))))⟩
          case measure => simp [intOf]; omega
        · clear RR RS hv
          have h2' : decide (G < 2 * v) = false := by simp; omega
          obtain ⟨c_c0, c_c1, c_c2, c_c3, c_c4, c_c5, c_c6⟩ := Kept.all7 (show Kept W_p wr from (by (repeat (first | with_reducible exact Kept.refl _ | with_reducible apply Kept.drew | with_reducible apply Kept.alloc | ((with_reducible apply Kept.set); focus (simp <;> omega)) | ((with_reducible apply Kept.via); focus with_reducible assumption))))) H_c
          go_wp2_with fail
          refine (WG'.out _).mono ?_
          rintro e w51 ⟨rfl, k51⟩
          clear c_c0 c_c1 c_c2 c_c3 c_c4 c_c5 c_c6
          obtain ⟨c_c0, c_c1, c_c2, c_c3, c_c4, c_c5, c_c6⟩ := Kept.all7 (show Kept W_p w51 from (by (repeat (first | with_reducible exact Kept.refl _ | with_reducible apply Kept.drew | with_reducible apply Kept.alloc | ((with_reducible apply Kept.set); focus (simp <;> omega)) | ((with_reducible apply Kept.via); focus with_reducible assumption))))) H_c
          go_wp2_with fail
          refine (WG'.out _).mono ?_
          rintro e w52 ⟨rfl, k52⟩
          clear c_c0 c_c1 c_c2 c_c3 c_c4 c_c5 c_c6
          go_wp2
          go_roundw
          case rel => exact ⟨k + 1, by omega, by go_num, by rw [RN.out]; congr 1; omega, (by (repeat (first | with_reducible exact Kept.refl _ | with_reducible apply Kept.drew | with_reducible apply Kept.alloc | ((with_reducible apply Kept.set); focus (simp <;> omega)) | ((with_reducible apply Kept.via); focus with_reducible assumption))))⟩
          case measure => simp [intOf]; omega
      · have e : v = G := by omega
        have E := Lib.hid (show dblN G G times.toNat = v from by have := RS.out e (times.toNat - k); rw [show k + (times.toNat - k) = times.toNat by omega] at this; omega)
        clear RR RS hv e
        have hvg' : decide (v < G) = false := by simp; omega
        obtain ⟨c_c0, c_c1, c_c2, c_c3, c_c4, c_c5, c_c6⟩ := Kept.all7 (show Kept W_p wr from (by (repeat (first | with_reducible exact Kept.refl _ | with_reducible apply Kept.drew | with_reducible apply Kept.alloc | ((with_reducible apply Kept.set); focus (simp <;> omega)) | ((with_reducible apply Kept.via); focus with_reducible assumption))))) H_c
        go_wp2_with fail
        refine (WG'.out _).mono ?_
        rintro e w51 ⟨rfl, k51⟩
        clear c_c0 c_c1 c_c2 c_c3 c_c4 c_c5 c_c6
        go_wp2
        go_ret
        exact ⟨ret_same_r E.out.symm, (by (repeat (first | with_reducible exact Kept.refl _ | with_reducible apply Kept.drew | with_reducible apply Kept.alloc | ((with_reducible apply Kept.set); focus (simp <;> omega)) | ((with_reducible apply Kept.via); focus with_reducible assumption))))⟩
    · obtain rfl : k = times.toNat := by omega
      go_wp2
      go_ret
      exact ⟨rfl, (by (repeat (first | with_reducible exact Kept.refl _ | with_reducible apply Kept.drew | with_reducible apply Kept.alloc | ((with_reducible apply Kept.set); focus (simp <;> omega)) | ((with_reducible apply Kept.via); focus with_reducible assumption))))⟩
set_option maxRecDepth 100000 in
set_option maxHeartbeats 1600000 in
theorem refOf_ge_le {b : Bool} {m f sg mx fi gn ls gt bu n L G times : Int} (n0 : 1 ≤ n) (n1 : n ≤ 1100585369600) (l0 : 1 ≤ L) (l1 : L ≤ 1099511627776) (g0 : 1 ≤ G) (g1 : G ≤ 1099511627776) (tm : In64 times) (h1 : L ≤ n) (h2 : n ≤ G) (BB : ∀ w, Calls Try.prog 12 #[.agg #[.bool b, .int .i64 m, .int .i64 f], .agg #[.int .i64 sg, .int .i64 mx, .int .i64 fi, .int .i64 gn, .int .i64 ls, .int .i64 gt, .int .i64 bu]] w fun e w' => e = .returned (.int .i64 n) ∧ Kept w w') (WL : ∀ w, Calls Try.prog 22 #[.int .i64 ls] w fun e w' => e = .returned (.int .i64 L) ∧ Kept w w') (WG : ∀ w, Calls Try.prog 22 #[.int .i64 gt] w fun e w' => e = .returned (.int .i64 G) ∧ Kept w w') (w : World) : Calls Try.prog 13 #[.agg #[.bool b, .int .i64 m, .int .i64 f], .agg #[.int .i64 sg, .int .i64 mx, .int .i64 fi, .int .i64 gn, .int .i64 ls, .int .i64 gt, .int .i64 bu], .int .i64 times] w fun e w' => e = .returned (.int .i64 (dblN G n times.toNat)) ∧ Kept w w' := by
  have BB' := Lib.hid BB
  have WL' := Lib.hid WL
  have WG' := Lib.hid WG
  clear BB WL WG
  have d1 : decide (n < L) = false := by simp; omega
  have d2 : decide (G < n) = false := by simp; omega
  go_enter Try.func13, Try.ntmps13
  go_upto_region 1 with fail
  generalize hW : World.alloc (World.alloc w (.cells #[.bool b, .int .i64 m, .int .i64 f] 23)) (.cells #[.int .i64 sg, .int .i64 mx, .int .i64 fi, .int .i64 gn, .int .i64 ls, .int .i64 gt, .int .i64 bu] 25) = W_p
  have K_p : Kept w W_p := by subst hW; exact ((Kept.refl _).alloc _ _).alloc _ _
  have H_r := Lib.hid (show W_p.cell? ⟨w.heap.size, 0, none⟩ = some (.bool b) ∧ W_p.cell? ⟨w.heap.size, 1, none⟩ = some (.int .i64 m) ∧ W_p.cell? ⟨w.heap.size, 2, none⟩ = some (.int .i64 f) from by subst hW; simp [go_sem])
  have H_c := Lib.hid (show W_p.cell? ⟨w.heap.size + 1, 0, none⟩ = some (.int .i64 sg) ∧ W_p.cell? ⟨w.heap.size + 1, 1, none⟩ = some (.int .i64 mx) ∧ W_p.cell? ⟨w.heap.size + 1, 2, none⟩ = some (.int .i64 fi) ∧ W_p.cell? ⟨w.heap.size + 1, 3, none⟩ = some (.int .i64 gn) ∧ W_p.cell? ⟨w.heap.size + 1, 4, none⟩ = some (.int .i64 ls) ∧ W_p.cell? ⟨w.heap.size + 1, 5, none⟩ = some (.int .i64 gt) ∧ W_p.cell? ⟨w.heap.size + 1, 6, none⟩ = some (.int .i64 bu) from by subst hW; simp [go_sem])
  have lp : w.heap.size + 2 ≤ W_p.heap.size := by subst hW; simp
  clear hW
  generalize hg : w.heap.size = g_r at *
  obtain ⟨c_r0, c_r1, c_r2⟩ := Kept.all3 (show Kept W_p W_p from (by (repeat (first | with_reducible exact Kept.refl _ | with_reducible apply Kept.drew | with_reducible apply Kept.alloc | ((with_reducible apply Kept.set); focus (simp <;> omega)) | ((with_reducible apply Kept.via); focus with_reducible assumption))))) H_r
  obtain ⟨c_c0, c_c1, c_c2, c_c3, c_c4, c_c5, c_c6⟩ := Kept.all7 (show Kept W_p W_p from (by (repeat (first | with_reducible exact Kept.refl _ | with_reducible apply Kept.drew | with_reducible apply Kept.alloc | ((with_reducible apply Kept.set); focus (simp <;> omega)) | ((with_reducible apply Kept.via); focus with_reducible assumption))))) H_c
  go_wp2_with fail
  refine (BB'.out _).mono ?_
  rintro e w1 ⟨rfl, k1⟩
  clear c_r0 c_r1 c_r2 c_c0 c_c1 c_c2 c_c3 c_c4 c_c5 c_c6
  obtain ⟨c_c0, c_c1, c_c2, c_c3, c_c4, c_c5, c_c6⟩ := Kept.all7 (show Kept W_p w1 from (by (repeat (first | with_reducible exact Kept.refl _ | with_reducible apply Kept.drew | with_reducible apply Kept.alloc | ((with_reducible apply Kept.set); focus (simp <;> omega)) | ((with_reducible apply Kept.via); focus with_reducible assumption))))) H_c
  go_wp2_with fail
  refine (WL'.out _).mono ?_
  rintro e w2 ⟨rfl, k2⟩
  clear c_c0 c_c1 c_c2 c_c3 c_c4 c_c5 c_c6
  obtain ⟨c_c0, c_c1, c_c2, c_c3, c_c4, c_c5, c_c6⟩ := Kept.all7 (show Kept W_p w2 from (by (repeat (first | with_reducible exact Kept.refl _ | with_reducible apply Kept.drew | with_reducible apply Kept.alloc | ((with_reducible apply Kept.set); focus (simp <;> omega)) | ((with_reducible apply Kept.via); focus with_reducible assumption))))) H_c
  go_wp2_with fail
  refine (WG'.out _).mono ?_
  rintro e w3 ⟨rfl, k3⟩
  clear c_c0 c_c1 c_c2 c_c3 c_c4 c_c5 c_c6
  have x0 : 1 ≤ n := by omega
  have x1 : n ≤ G := by omega
  unfold In64 at tm
  go_wp2
  go_loopw [7, 8] (fun nv i wr => ∃ k : Nat, k ≤ times.toNat ∧ i = .int .i64 k ∧ nv = .int .i64 (dblN G n k) ∧ Kept W_p wr) (fun nv _ _ => (G - intOf nv).toNat)
  case atStart => exact ⟨0, Nat.zero_le _, rfl, rfl, (by (repeat (first | with_reducible exact Kept.refl _ | with_reducible apply Kept.drew | with_reducible apply Kept.alloc | ((with_reducible apply Kept.set); focus (simp <;> omega)) | ((with_reducible apply Kept.via); focus with_reducible assumption))))⟩
  case round =>
    obtain ⟨k, hk, rfl, rfl, kw⟩ := hrel
    have RR := Lib.hid (dbl_range x0 x1 k)
    have RN := Lib.hid (dbl_next G n k)
    have RS := Lib.hid (fun (h : dblN G n k = G) j => dbl_stays x0 x1 h j)
    have r0 : 1 ≤ dblN G n k := by have := RR.out; omega
    have r1 : dblN G n k ≤ G := RR.out.2
    by_cases hlt : (k : Int) < times
    · generalize hv : dblN G n k = v at *
      by_cases hvg : v < G
      · by_cases h2 : G < 2 * v
        · clear RR RS hv
          obtain ⟨c_c0, c_c1, c_c2, c_c3, c_c4, c_c5, c_c6⟩ := Kept.all7 (show Kept W_p wr from (by (repeat (first | with_reducible exact Kept.refl _ | with_reducible apply Kept.drew | with_reducible apply Kept.alloc | ((with_reducible apply Kept.set); focus (simp <;> omega)) | ((with_reducible apply Kept.via); focus with_reducible assumption))))) H_c
          go_wp2_with fail
          refine (WG'.out _).mono ?_
          rintro e w51 ⟨rfl, k51⟩
          clear c_c0 c_c1 c_c2 c_c3 c_c4 c_c5 c_c6
          obtain ⟨c_c0, c_c1, c_c2, c_c3, c_c4, c_c5, c_c6⟩ := Kept.all7 (show Kept W_p w51 from (by (repeat (first | with_reducible exact Kept.refl _ | with_reducible apply Kept.drew | with_reducible apply Kept.alloc | ((with_reducible apply Kept.set); focus (simp <;> omega)) | ((with_reducible apply Kept.via); focus with_reducible assumption))))) H_c
          go_wp2_with fail
          refine (WG'.out _).mono ?_
          rintro e w52 ⟨rfl, k52⟩
          clear c_c0 c_c1 c_c2 c_c3 c_c4 c_c5 c_c6
          obtain ⟨c_c0, c_c1, c_c2, c_c3, c_c4, c_c5, c_c6⟩ := Kept.all7 (show Kept W_p w52 from (by (repeat (first | with_reducible exact Kept.refl _ | with_reducible apply Kept.drew | with_reducible apply Kept.alloc | ((with_reducible apply Kept.set); focus (simp <;> omega)) | ((with_reducible apply Kept.via); focus with_reducible assumption))))) H_c
          go_wp2_with fail
          refine (WG'.out _).mono ?_
          rintro e w53 ⟨rfl, k53⟩
          clear c_c0 c_c1 c_c2 c_c3 c_c4 c_c5 c_c6
          go_wp2
          go_roundw
          case rel => exact ⟨k + 1, by omega, by go_num, by rw [RN.out]; congr 1; omega, (by (repeat (first | with_reducible exact Kept.refl _ | with_reducible apply Kept.drew | with_reducible apply Kept.alloc | ((with_reducible apply Kept.set); focus (simp <;> omega)) | ((with_reducible apply Kept.via); focus with_reducible assumption))))⟩
          case measure => simp [intOf]; omega
        · clear RR RS hv
          have h2' : decide (G < 2 * v) = false := by simp; omega
          obtain ⟨c_c0, c_c1, c_c2, c_c3, c_c4, c_c5, c_c6⟩ := Kept.all7 (show Kept W_p wr from (by (repeat (first | with_reducible exact Kept.refl _ | with_reducible apply Kept.drew | with_reducible apply Kept.alloc | ((with_reducible apply Kept.set); focus (simp <;> omega)) | ((with_reducible apply Kept.via); focus with_reducible assumption))))) H_c
          go_wp2_with fail
          refine (WG'.out _).mono ?_
          rintro e w51 ⟨rfl, k51⟩
          clear c_c0 c_c1 c_c2 c_c3 c_c4 c_c5 c_c6
          obtain ⟨c_c0, c_c1, c_c2, c_c3, c_c4, c_c5, c_c6⟩ := Kept.all7 (show Kept W_p w51 from (by (repeat (first | with_reducible exact Kept.refl _ | with_reducible apply Kept.drew | with_reducible apply Kept.alloc | ((with_reducible apply Kept.set); focus (simp <;> omega)) | ((with_reducible apply Kept.via); focus with_reducible assumption))))) H_c
          go_wp2_with fail
          refine (WG'.out _).mono ?_
          rintro e w52 ⟨rfl, k52⟩
          clear c_c0 c_c1 c_c2 c_c3 c_c4 c_c5 c_c6
          go_wp2
          go_roundw
          case rel => exact ⟨k + 1, by omega, by go_num, by rw [RN.out]; congr 1; omega, (by (repeat (first | with_reducible exact Kept.refl _ | with_reducible apply Kept.drew | with_reducible apply Kept.alloc | ((with_reducible apply Kept.set); focus (simp <;> omega)) | ((with_reducible apply Kept.via); focus with_reducible assumption))))⟩
          case measure => simp [intOf]; omega
      · have e : v = G := by omega
        have E := Lib.hid (show dblN G n times.toNat = v from by have := RS.out e (times.toNat - k); rw [show k + (times.toNat - k) = times.toNat by omega] at this; omega)
        clear RR RS hv e
        have hvg' : decide (v < G) = false := by simp; omega
        obtain ⟨c_c0, c_c1, c_c2, c_c3, c_c4, c_c5, c_c6⟩ := Kept.all7 (show Kept W_p wr from (by (repeat (first | with_reducible exact Kept.refl _ | with_reducible apply Kept.drew | with_reducible apply Kept.alloc | ((with_reducible apply Kept.set); focus (simp <;> omega)) | ((with_reducible apply Kept.via); focus with_reducible assumption))))) H_c
        go_wp2_with fail
        refine (WG'.out _).mono ?_
        rintro e w51 ⟨rfl, k51⟩
        clear c_c0 c_c1 c_c2 c_c3 c_c4 c_c5 c_c6
        go_wp2
        go_ret
        exact ⟨ret_same_r E.out.symm, (by (repeat (first | with_reducible exact Kept.refl _ | with_reducible apply Kept.drew | with_reducible apply Kept.alloc | ((with_reducible apply Kept.set); focus (simp <;> omega)) | ((with_reducible apply Kept.via); focus with_reducible assumption))))⟩
    · obtain rfl : k = times.toNat := by omega
      go_wp2
      go_ret
      exact ⟨rfl, (by (repeat (first | with_reducible exact Kept.refl _ | with_reducible apply Kept.drew | with_reducible apply Kept.alloc | ((with_reducible apply Kept.set); focus (simp <;> omega)) | ((with_reducible apply Kept.via); focus with_reducible assumption))))⟩
theorem refOf_ok7 {b : Bool} {m f sg mx fi gn ls gt bu times v : Int} (tm : In64 times) (h : OfIs b m f gn ls gt times v) (w : World) : Calls Try.prog 13 #[.agg #[.bool b, .int .i64 m, .int .i64 f], .agg #[.int .i64 sg, .int .i64 mx, .int .i64 fi, .int .i64 gn, .int .i64 ls, .int .i64 gt, .int .i64 bu], .int .i64 times] w fun e w' => e = .returned (.int .i64 v) ∧ Kept w w' := by
  obtain ⟨n, hb, rfl⟩ := h
  have r := base_range hb
  have l := heldT_range ls
  have g := heldT_range gt
  by_cases h1 : n < heldT ls
  · by_cases h2 : heldT gt < heldT ls
    · rw [show firstOf n (heldT ls) (heldT gt) = heldT gt by unfold firstOf; omega]
      exact refOf_lt_gt r.1 r.2 l.1 l.2 g.1 g.2 tm h1 h2 (fun w => refBase_ok7 hb w) (fun w => refWithin_ok7 rfl w) (fun w => refWithin_ok7 rfl w) w
    · rw [show firstOf n (heldT ls) (heldT gt) = heldT ls by unfold firstOf; omega]
      exact refOf_lt_le r.1 r.2 l.1 l.2 g.1 g.2 tm h1 (by omega) (fun w => refBase_ok7 hb w) (fun w => refWithin_ok7 rfl w) (fun w => refWithin_ok7 rfl w) w
  · by_cases h2 : heldT gt < n
    · rw [show firstOf n (heldT ls) (heldT gt) = heldT gt by unfold firstOf; omega]
      exact refOf_ge_gt r.1 r.2 l.1 l.2 g.1 g.2 tm (by omega) h2 (fun w => refBase_ok7 hb w) (fun w => refWithin_ok7 rfl w) (fun w => refWithin_ok7 rfl w) w
    · rw [show firstOf n (heldT ls) (heldT gt) = n by unfold firstOf; omega]
      exact refOf_ge_le r.1 r.2 l.1 l.2 g.1 g.2 tm (by omega) (by omega) (fun w => refBase_ok7 hb w) (fun w => refWithin_ok7 rfl w) (fun w => refWithin_ok7 rfl w) w
set_option maxRecDepth 100000 in
set_option maxHeartbeats 1600000 in
theorem refBack_neg {b : Bool} {m f sg mx fi gn ls gt bu times : Int} (h : times < 0)  (w : World) : Calls Try.prog 16 #[.agg #[.bool b, .int .i64 m, .int .i64 f], .agg #[.int .i64 sg, .int .i64 mx, .int .i64 fi, .int .i64 gn, .int .i64 ls, .int .i64 gt, .int .i64 bu], .int .i64 times] w fun e w' => e = .returned (.int .i64 0) ∧ Kept w w' := by
  go_enter Try.func16, Try.ntmps16
  go_upto_region 1 with fail
  generalize hW : World.alloc (World.alloc w (.cells #[.bool b, .int .i64 m, .int .i64 f] 23)) (.cells #[.int .i64 sg, .int .i64 mx, .int .i64 fi, .int .i64 gn, .int .i64 ls, .int .i64 gt, .int .i64 bu] 25) = W_p
  have K_p : Kept w W_p := by subst hW; exact ((Kept.refl _).alloc _ _).alloc _ _
  have H_r := Lib.hid (show W_p.cell? ⟨w.heap.size, 0, none⟩ = some (.bool b) ∧ W_p.cell? ⟨w.heap.size, 1, none⟩ = some (.int .i64 m) ∧ W_p.cell? ⟨w.heap.size, 2, none⟩ = some (.int .i64 f) from by subst hW; simp [go_sem])
  have H_c := Lib.hid (show W_p.cell? ⟨w.heap.size + 1, 0, none⟩ = some (.int .i64 sg) ∧ W_p.cell? ⟨w.heap.size + 1, 1, none⟩ = some (.int .i64 mx) ∧ W_p.cell? ⟨w.heap.size + 1, 2, none⟩ = some (.int .i64 fi) ∧ W_p.cell? ⟨w.heap.size + 1, 3, none⟩ = some (.int .i64 gn) ∧ W_p.cell? ⟨w.heap.size + 1, 4, none⟩ = some (.int .i64 ls) ∧ W_p.cell? ⟨w.heap.size + 1, 5, none⟩ = some (.int .i64 gt) ∧ W_p.cell? ⟨w.heap.size + 1, 6, none⟩ = some (.int .i64 bu) from by subst hW; simp [go_sem])
  have lp : w.heap.size + 2 ≤ W_p.heap.size := by subst hW; simp
  clear hW
  generalize hg : w.heap.size = g_r at *
  go_wp2
  go_ret
  exact ⟨rfl, (by (repeat (first | with_reducible exact Kept.refl _ | with_reducible apply Kept.drew | with_reducible apply Kept.alloc | ((with_reducible apply Kept.set); focus (simp <;> omega)) | ((with_reducible apply Kept.via); focus with_reducible assumption))))⟩
set_option maxRecDepth 100000 in
set_option maxHeartbeats 1600000 in
theorem refBack_more {b : Bool} {m f sg mx fi gn ls gt bu times v G : Int} (h0 : 0 ≤ times) (h : v < G) (h2 : times < 40) (OO : ∀ w, Calls Try.prog 13 #[.agg #[.bool b, .int .i64 m, .int .i64 f], .agg #[.int .i64 sg, .int .i64 mx, .int .i64 fi, .int .i64 gn, .int .i64 ls, .int .i64 gt, .int .i64 bu], .int .i64 times] w fun e w' => e = .returned (.int .i64 v) ∧ Kept w w') (WG : ∀ w, Calls Try.prog 22 #[.int .i64 gt] w fun e w' => e = .returned (.int .i64 G) ∧ Kept w w') (w : World) : Calls Try.prog 16 #[.agg #[.bool b, .int .i64 m, .int .i64 f], .agg #[.int .i64 sg, .int .i64 mx, .int .i64 fi, .int .i64 gn, .int .i64 ls, .int .i64 gt, .int .i64 bu], .int .i64 times] w fun e w' => e = .returned (.int .i64 (times + 1)) ∧ Kept w w' := by
  have OO' := Lib.hid OO
  have WG' := Lib.hid WG
  clear OO WG
  go_enter Try.func16, Try.ntmps16
  go_upto_region 1 with fail
  generalize hW : World.alloc (World.alloc w (.cells #[.bool b, .int .i64 m, .int .i64 f] 23)) (.cells #[.int .i64 sg, .int .i64 mx, .int .i64 fi, .int .i64 gn, .int .i64 ls, .int .i64 gt, .int .i64 bu] 25) = W_p
  have K_p : Kept w W_p := by subst hW; exact ((Kept.refl _).alloc _ _).alloc _ _
  have H_r := Lib.hid (show W_p.cell? ⟨w.heap.size, 0, none⟩ = some (.bool b) ∧ W_p.cell? ⟨w.heap.size, 1, none⟩ = some (.int .i64 m) ∧ W_p.cell? ⟨w.heap.size, 2, none⟩ = some (.int .i64 f) from by subst hW; simp [go_sem])
  have H_c := Lib.hid (show W_p.cell? ⟨w.heap.size + 1, 0, none⟩ = some (.int .i64 sg) ∧ W_p.cell? ⟨w.heap.size + 1, 1, none⟩ = some (.int .i64 mx) ∧ W_p.cell? ⟨w.heap.size + 1, 2, none⟩ = some (.int .i64 fi) ∧ W_p.cell? ⟨w.heap.size + 1, 3, none⟩ = some (.int .i64 gn) ∧ W_p.cell? ⟨w.heap.size + 1, 4, none⟩ = some (.int .i64 ls) ∧ W_p.cell? ⟨w.heap.size + 1, 5, none⟩ = some (.int .i64 gt) ∧ W_p.cell? ⟨w.heap.size + 1, 6, none⟩ = some (.int .i64 bu) from by subst hW; simp [go_sem])
  have lp : w.heap.size + 2 ≤ W_p.heap.size := by subst hW; simp
  clear hW
  generalize hg : w.heap.size = g_r at *
  go_upto_region 3 with fail
  have B_r := Lib.hid (Kept.all3 (show Kept W_p W_p from (by (repeat (first | with_reducible exact Kept.refl _ | with_reducible apply Kept.drew | with_reducible apply Kept.alloc | ((with_reducible apply Kept.set); focus (simp <;> omega)) | ((with_reducible apply Kept.via); focus with_reducible assumption))))) H_r)
  have B_c := Lib.hid (Kept.all7 (show Kept W_p W_p from (by (repeat (first | with_reducible exact Kept.refl _ | with_reducible apply Kept.drew | with_reducible apply Kept.alloc | ((with_reducible apply Kept.set); focus (simp <;> omega)) | ((with_reducible apply Kept.via); focus with_reducible assumption))))) H_c)
  have kall : Kept w W_p := (by (repeat (first | with_reducible exact Kept.refl _ | with_reducible apply Kept.drew | with_reducible apply Kept.alloc | ((with_reducible apply Kept.set); focus (simp <;> omega)) | ((with_reducible apply Kept.via); focus with_reducible assumption))))
  obtain ⟨q_r0, q_r1, q_r2⟩ := kw3 B_r
  obtain ⟨q_c0, q_c1, q_c2, q_c3, q_c4, q_c5, q_c6⟩ := kw7 B_c
  clear B_r B_c
  refine wp_region_kept (by kernel_rfl) (by as_aux_lemma => kernel_rfl) ?_
  repeat (go_big_quiet_step (first | (with_reducible exact kept_of (OO'.out _)) | (with_reducible exact kept_of (WG'.out _))))
  refine wpQuiet_nil ?_
  intro wq hw'
  have kq : Kept W_p wq := by obtain ⟨p, rfl⟩ := hw'; exact p.k
  clear hw'
  go_wp2
  go_ret
  exact ⟨rfl, kall.trans kq⟩
set_option maxRecDepth 100000 in
set_option maxHeartbeats 1600000 in
theorem refBack_same {b : Bool} {m f sg mx fi gn ls gt bu times v G : Int} (h0 : 0 ≤ times) (h : v = G) (OO : ∀ w, Calls Try.prog 13 #[.agg #[.bool b, .int .i64 m, .int .i64 f], .agg #[.int .i64 sg, .int .i64 mx, .int .i64 fi, .int .i64 gn, .int .i64 ls, .int .i64 gt, .int .i64 bu], .int .i64 times] w fun e w' => e = .returned (.int .i64 v) ∧ Kept w w') (WG : ∀ w, Calls Try.prog 22 #[.int .i64 gt] w fun e w' => e = .returned (.int .i64 G) ∧ Kept w w') (w : World) : Calls Try.prog 16 #[.agg #[.bool b, .int .i64 m, .int .i64 f], .agg #[.int .i64 sg, .int .i64 mx, .int .i64 fi, .int .i64 gn, .int .i64 ls, .int .i64 gt, .int .i64 bu], .int .i64 times] w fun e w' => e = .returned (.int .i64 times) ∧ Kept w w' := by
  have OO' := Lib.hid OO
  have WG' := Lib.hid WG
  clear OO WG
  have dv : decide (v < G) = false := by simp; omega
  go_enter Try.func16, Try.ntmps16
  go_upto_region 1 with fail
  generalize hW : World.alloc (World.alloc w (.cells #[.bool b, .int .i64 m, .int .i64 f] 23)) (.cells #[.int .i64 sg, .int .i64 mx, .int .i64 fi, .int .i64 gn, .int .i64 ls, .int .i64 gt, .int .i64 bu] 25) = W_p
  have K_p : Kept w W_p := by subst hW; exact ((Kept.refl _).alloc _ _).alloc _ _
  have H_r := Lib.hid (show W_p.cell? ⟨w.heap.size, 0, none⟩ = some (.bool b) ∧ W_p.cell? ⟨w.heap.size, 1, none⟩ = some (.int .i64 m) ∧ W_p.cell? ⟨w.heap.size, 2, none⟩ = some (.int .i64 f) from by subst hW; simp [go_sem])
  have H_c := Lib.hid (show W_p.cell? ⟨w.heap.size + 1, 0, none⟩ = some (.int .i64 sg) ∧ W_p.cell? ⟨w.heap.size + 1, 1, none⟩ = some (.int .i64 mx) ∧ W_p.cell? ⟨w.heap.size + 1, 2, none⟩ = some (.int .i64 fi) ∧ W_p.cell? ⟨w.heap.size + 1, 3, none⟩ = some (.int .i64 gn) ∧ W_p.cell? ⟨w.heap.size + 1, 4, none⟩ = some (.int .i64 ls) ∧ W_p.cell? ⟨w.heap.size + 1, 5, none⟩ = some (.int .i64 gt) ∧ W_p.cell? ⟨w.heap.size + 1, 6, none⟩ = some (.int .i64 bu) from by subst hW; simp [go_sem])
  have lp : w.heap.size + 2 ≤ W_p.heap.size := by subst hW; simp
  clear hW
  generalize hg : w.heap.size = g_r at *
  go_upto_region 3 with fail
  have B_r := Lib.hid (Kept.all3 (show Kept W_p W_p from (by (repeat (first | with_reducible exact Kept.refl _ | with_reducible apply Kept.drew | with_reducible apply Kept.alloc | ((with_reducible apply Kept.set); focus (simp <;> omega)) | ((with_reducible apply Kept.via); focus with_reducible assumption))))) H_r)
  have B_c := Lib.hid (Kept.all7 (show Kept W_p W_p from (by (repeat (first | with_reducible exact Kept.refl _ | with_reducible apply Kept.drew | with_reducible apply Kept.alloc | ((with_reducible apply Kept.set); focus (simp <;> omega)) | ((with_reducible apply Kept.via); focus with_reducible assumption))))) H_c)
  have kall : Kept w W_p := (by (repeat (first | with_reducible exact Kept.refl _ | with_reducible apply Kept.drew | with_reducible apply Kept.alloc | ((with_reducible apply Kept.set); focus (simp <;> omega)) | ((with_reducible apply Kept.via); focus with_reducible assumption))))
  obtain ⟨q_r0, q_r1, q_r2⟩ := kw3 B_r
  obtain ⟨q_c0, q_c1, q_c2, q_c3, q_c4, q_c5, q_c6⟩ := kw7 B_c
  clear B_r B_c
  refine wp_region_kept (by kernel_rfl) (by as_aux_lemma => kernel_rfl) ?_
  repeat (go_big_quiet_step (first | (with_reducible exact kept_of (OO'.out _)) | (with_reducible exact kept_of (WG'.out _))))
  refine wpQuiet_nil ?_
  intro wq hw'
  have kq : Kept W_p wq := by obtain ⟨p, rfl⟩ := hw'; exact p.k
  clear hw'
  go_wp2
  go_ret
  exact ⟨rfl, kall.trans kq⟩
theorem refBack_ok7 {b : Bool} {m f sg mx fi gn ls gt bu times u : Int} (tm : In64 times) (h : BackIs b m f gn ls gt times u) (w : World) : Calls Try.prog 16 #[.agg #[.bool b, .int .i64 m, .int .i64 f], .agg #[.int .i64 sg, .int .i64 mx, .int .i64 fi, .int .i64 gn, .int .i64 ls, .int .i64 gt, .int .i64 bu], .int .i64 times] w fun e w' => e = .returned (.int .i64 u) ∧ Kept w w' := by
  rcases h with ⟨h, rfl⟩ | ⟨h, v, hv, ⟨h1, rfl⟩ | ⟨h1, rfl⟩⟩
  · exact refBack_neg h w
  · exact refBack_more h h1 (of_few hv h1) (fun w => refOf_ok7 tm hv w) (fun w => refWithin_ok7 rfl w) w
  · exact refBack_same h h1 (fun w => refOf_ok7 tm hv w) (fun w => refWithin_ok7 rfl w) w
end Go.Proofs.Ytmdekgcgfcdppaa
