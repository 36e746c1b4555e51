/-
  The walk of RtoDoubles: it answers true, if the calls do what they are to do.
-/
import Derived.Test.YtmdekgcgfcdppaaAwake07
import Derived.Deep.DeepCutAuto
namespace Go.Proofs.Ytmdekgcgfcdppaa
open Go.RowKit Go.BigFrame
set_option linter.unusedVariables false

set_option maxRecDepth 100000 in
set_option maxHeartbeats 3200000 in
theorem doubles_lt {b : Bool} {m f sg mx fi gn ls gt bu times G v : Int} (t0 : 0 ≤ times) (t1 : times ≤ 255) (g0 : 1 ≤ G) (g1 : G ≤ 1099511627776) (v0 : 1 ≤ v) (v1 : v ≤ G) (h : 2 * v < G) (HG : heldT gt = G) (O1 : ∀ w, Calls Try.prog 14 #[.agg #[.bool b, .int .i64 m, .int .i64 f], .agg #[.int .i64 sg, .int .i64 mx, .int .i64 fi, .int .i64 gn, .int .i64 ls, .int .i64 gt, .int .i64 bu], .int .i64 times] w fun e w' => e = .returned (.int .i64 v) ∧ Kept w w') (O2 : ∀ w, Calls Try.prog 14 #[.agg #[.bool b, .int .i64 m, .int .i64 f], .agg #[.int .i64 sg, .int .i64 mx, .int .i64 fi, .int .i64 gn, .int .i64 ls, .int .i64 gt, .int .i64 bu], .int .i64 (times + 1)] w fun e w' => e = .returned (.int .i64 (2 * v)) ∧ Kept w w') (O3 : ∀ w, Calls Try.prog 14 #[.agg #[.bool b, .int .i64 m, .int .i64 f], .agg #[.int .i64 sg, .int .i64 mx, .int .i64 fi, .int .i64 gn, .int .i64 ls, .int .i64 gt, .int .i64 bu], .int .i64 50] w fun e w' => e = .returned (.int .i64 G) ∧ Kept w w') (AW : ∀ w, Calls Try.prog 9 #[] w fun e w' => e = .returned (.bool true) ∧ Kept w w') (w : World) : Calls Try.prog 5 #[.agg #[.bool b, .int .i64 m, .int .i64 f], .agg #[.int .i64 sg, .int .i64 mx, .int .i64 fi, .int .i64 gn, .int .i64 ls, .int .i64 gt, .int .i64 bu], .int .u8 times] w fun e w' => e = .returned (.bool true) ∧ Kept w w' := by
  have HG' := Lib.hid HG
  have O1' := Lib.hid O1
  have O2' := Lib.hid O2
  have O3' := Lib.hid O3
  clear HG O1 O2 O3
  have AW' := Lib.hid AW
  clear AW
  go_enter Try.func5, Try.ntmps5
  go_upto_region 1 with fail
  generalize hW : World.alloc (World.alloc w (.cells #[.bool b, .int .i64 m, .int .i64 f] 23)) (.cells #[.int .i64 sg, .int .i64 mx, .int .i64 fi, .int .i64 gn, .int .i64 ls, .int .i64 gt, .int .i64 bu] 25) = W_p
  have K_p : Kept w W_p := by subst hW; exact ((Kept.refl _).alloc _ _).alloc _ _
  have H_r := Lib.hid (show W_p.cell? ⟨w.heap.size, 0, none⟩ = some (.bool b) ∧ W_p.cell? ⟨w.heap.size, 1, none⟩ = some (.int .i64 m) ∧ W_p.cell? ⟨w.heap.size, 2, none⟩ = some (.int .i64 f) from by subst hW; simp [go_sem])
  have H_c := Lib.hid (show W_p.cell? ⟨w.heap.size + 1, 0, none⟩ = some (.int .i64 sg) ∧ W_p.cell? ⟨w.heap.size + 1, 1, none⟩ = some (.int .i64 mx) ∧ W_p.cell? ⟨w.heap.size + 1, 2, none⟩ = some (.int .i64 fi) ∧ W_p.cell? ⟨w.heap.size + 1, 3, none⟩ = some (.int .i64 gn) ∧ W_p.cell? ⟨w.heap.size + 1, 4, none⟩ = some (.int .i64 ls) ∧ W_p.cell? ⟨w.heap.size + 1, 5, none⟩ = some (.int .i64 gt) ∧ W_p.cell? ⟨w.heap.size + 1, 6, none⟩ = some (.int .i64 bu) from by subst hW; simp [go_sem])
  have lp : w.heap.size + 2 ≤ W_p.heap.size := by subst hW; simp
  clear hW
  generalize hg : w.heap.size = g_r at *
  go_wp2_with fail
  refine (AW'.out _).mono ?_
  rintro e w1 ⟨rfl, k1⟩
  go_upto_region 2 with fail
  go_cut [8] (fun s8 wx => s8 = .int .i64 G ∧ Kept w1 wx)
  case first =>
    obtain ⟨c_c0, c_c1, c_c2, c_c3, c_c4, c_c5, c_c6⟩ := Kept.all7 (show Kept W_p w1 from (by (repeat (first | with_reducible exact Kept.refl _ | with_reducible apply Kept.drew | with_reducible apply Kept.alloc | ((with_reducible apply Kept.set); focus (simp <;> omega)) | ((with_reducible apply Kept.via); focus with_reducible assumption))))) H_c
    have hh := HG'.out
    rw [heldT_is] at hh
    have HH := Lib.hid hh
    clear hh
    rcases Int.lt_trichotomy gt 1 with hz | hz | hz
    · (go_wp2_with fail; go_meet; exact ⟨int_same_r (by have hh := HH.out; omega), (by (repeat (first | with_reducible exact Kept.refl _ | with_reducible apply Kept.drew | with_reducible apply Kept.alloc | ((with_reducible apply Kept.set); focus (simp <;> omega)) | ((with_reducible apply Kept.via); focus with_reducible assumption))))⟩)
    · subst hz; (go_wp2_with fail; go_meet; exact ⟨int_same_r (by have hh := HH.out; omega), (by (repeat (first | with_reducible exact Kept.refl _ | with_reducible apply Kept.drew | with_reducible apply Kept.alloc | ((with_reducible apply Kept.set); focus (simp <;> omega)) | ((with_reducible apply Kept.via); focus with_reducible assumption))))⟩)
    · rcases Int.lt_trichotomy gt 1099511627776 with hy | hy | hy
      · (go_wp2_with fail; go_meet; exact ⟨int_same_r (by have hh := HH.out; omega), (by (repeat (first | with_reducible exact Kept.refl _ | with_reducible apply Kept.drew | with_reducible apply Kept.alloc | ((with_reducible apply Kept.set); focus (simp <;> omega)) | ((with_reducible apply Kept.via); focus with_reducible assumption))))⟩)
      · subst hy; (go_wp2_with fail; go_meet; exact ⟨int_same_r (by have hh := HH.out; omega), (by (repeat (first | with_reducible exact Kept.refl _ | with_reducible apply Kept.drew | with_reducible apply Kept.alloc | ((with_reducible apply Kept.set); focus (simp <;> omega)) | ((with_reducible apply Kept.via); focus with_reducible assumption))))⟩)
      · (go_wp2_with fail; go_meet; exact ⟨int_same_r (by have hh := HH.out; omega), (by (repeat (first | with_reducible exact Kept.refl _ | with_reducible apply Kept.drew | with_reducible apply Kept.alloc | ((with_reducible apply Kept.set); focus (simp <;> omega)) | ((with_reducible apply Kept.via); focus with_reducible assumption))))⟩)
  obtain ⟨rfl, k2⟩ := hcut
  generalize wc = w2 at *
  have d1 : decide (v ≤ (2 * v)) = true := by simp; omega
  have mn : min (2 * v) G = (2 * v) := by omega
  obtain ⟨c_r0, c_r1, c_r2⟩ := Kept.all3 (show Kept W_p w2 from (by (repeat (first | with_reducible exact Kept.refl _ | with_reducible apply Kept.drew | with_reducible apply Kept.alloc | ((with_reducible apply Kept.set); focus (simp <;> omega)) | ((with_reducible apply Kept.via); focus with_reducible assumption))))) H_r
  obtain ⟨c_c0, c_c1, c_c2, c_c3, c_c4, c_c5, c_c6⟩ := Kept.all7 (show Kept W_p w2 from (by (repeat (first | with_reducible exact Kept.refl _ | with_reducible apply Kept.drew | with_reducible apply Kept.alloc | ((with_reducible apply Kept.set); focus (simp <;> omega)) | ((with_reducible apply Kept.via); focus with_reducible assumption))))) H_c
  go_wp2_with fail
  refine (O1'.out _).mono ?_
  rintro e w3 ⟨rfl, k3⟩
  clear c_r0 c_r1 c_r2 c_c0 c_c1 c_c2 c_c3 c_c4 c_c5 c_c6
  obtain ⟨c_r0, c_r1, c_r2⟩ := Kept.all3 (show Kept W_p w3 from (by (repeat (first | with_reducible exact Kept.refl _ | with_reducible apply Kept.drew | with_reducible apply Kept.alloc | ((with_reducible apply Kept.set); focus (simp <;> omega)) | ((with_reducible apply Kept.via); focus with_reducible assumption))))) H_r
  obtain ⟨c_c0, c_c1, c_c2, c_c3, c_c4, c_c5, c_c6⟩ := Kept.all7 (show Kept W_p w3 from (by (repeat (first | with_reducible exact Kept.refl _ | with_reducible apply Kept.drew | with_reducible apply Kept.alloc | ((with_reducible apply Kept.set); focus (simp <;> omega)) | ((with_reducible apply Kept.via); focus with_reducible assumption))))) H_c
  go_wp2_with fail
  refine (O2'.out _).mono ?_
  rintro e w4 ⟨rfl, k4⟩
  clear c_r0 c_r1 c_r2 c_c0 c_c1 c_c2 c_c3 c_c4 c_c5 c_c6
  obtain ⟨c_r0, c_r1, c_r2⟩ := Kept.all3 (show Kept W_p w4 from (by (repeat (first | with_reducible exact Kept.refl _ | with_reducible apply Kept.drew | with_reducible apply Kept.alloc | ((with_reducible apply Kept.set); focus (simp <;> omega)) | ((with_reducible apply Kept.via); focus with_reducible assumption))))) H_r
  obtain ⟨c_c0, c_c1, c_c2, c_c3, c_c4, c_c5, c_c6⟩ := Kept.all7 (show Kept W_p w4 from (by (repeat (first | with_reducible exact Kept.refl _ | with_reducible apply Kept.drew | with_reducible apply Kept.alloc | ((with_reducible apply Kept.set); focus (simp <;> omega)) | ((with_reducible apply Kept.via); focus with_reducible assumption))))) H_c
  go_wp2_with fail
  refine (O3'.out _).mono ?_
  rintro e w5 ⟨rfl, k5⟩
  clear c_r0 c_r1 c_r2 c_c0 c_c1 c_c2 c_c3 c_c4 c_c5 c_c6
  go_wp2
  go_ret
  exact ⟨rfl, (by (repeat (first | with_reducible exact Kept.refl _ | with_reducible apply Kept.drew | with_reducible apply Kept.alloc | ((with_reducible apply Kept.set); focus (simp <;> omega)) | ((with_reducible apply Kept.via); focus with_reducible assumption))))⟩
set_option maxRecDepth 100000 in
set_option maxHeartbeats 3200000 in
theorem doubles_eq {b : Bool} {m f sg mx fi gn ls gt bu times G v : Int} (t0 : 0 ≤ times) (t1 : times ≤ 255) (g0 : 1 ≤ G) (g1 : G ≤ 1099511627776) (v0 : 1 ≤ v) (v1 : v ≤ G) (h : 2 * v = G) (HG : heldT gt = G) (O1 : ∀ w, Calls Try.prog 14 #[.agg #[.bool b, .int .i64 m, .int .i64 f], .agg #[.int .i64 sg, .int .i64 mx, .int .i64 fi, .int .i64 gn, .int .i64 ls, .int .i64 gt, .int .i64 bu], .int .i64 times] w fun e w' => e = .returned (.int .i64 v) ∧ Kept w w') (O2 : ∀ w, Calls Try.prog 14 #[.agg #[.bool b, .int .i64 m, .int .i64 f], .agg #[.int .i64 sg, .int .i64 mx, .int .i64 fi, .int .i64 gn, .int .i64 ls, .int .i64 gt, .int .i64 bu], .int .i64 (times + 1)] w fun e w' => e = .returned (.int .i64 G) ∧ Kept w w') (O3 : ∀ w, Calls Try.prog 14 #[.agg #[.bool b, .int .i64 m, .int .i64 f], .agg #[.int .i64 sg, .int .i64 mx, .int .i64 fi, .int .i64 gn, .int .i64 ls, .int .i64 gt, .int .i64 bu], .int .i64 50] w fun e w' => e = .returned (.int .i64 G) ∧ Kept w w') (AW : ∀ w, Calls Try.prog 9 #[] w fun e w' => e = .returned (.bool true) ∧ Kept w w') (w : World) : Calls Try.prog 5 #[.agg #[.bool b, .int .i64 m, .int .i64 f], .agg #[.int .i64 sg, .int .i64 mx, .int .i64 fi, .int .i64 gn, .int .i64 ls, .int .i64 gt, .int .i64 bu], .int .u8 times] w fun e w' => e = .returned (.bool true) ∧ Kept w w' := by
  have HG' := Lib.hid HG
  have O1' := Lib.hid O1
  have O2' := Lib.hid O2
  have O3' := Lib.hid O3
  clear HG O1 O2 O3
  have AW' := Lib.hid AW
  clear AW
  go_enter Try.func5, Try.ntmps5
  go_upto_region 1 with fail
  generalize hW : World.alloc (World.alloc w (.cells #[.bool b, .int .i64 m, .int .i64 f] 23)) (.cells #[.int .i64 sg, .int .i64 mx, .int .i64 fi, .int .i64 gn, .int .i64 ls, .int .i64 gt, .int .i64 bu] 25) = W_p
  have K_p : Kept w W_p := by subst hW; exact ((Kept.refl _).alloc _ _).alloc _ _
  have H_r := Lib.hid (show W_p.cell? ⟨w.heap.size, 0, none⟩ = some (.bool b) ∧ W_p.cell? ⟨w.heap.size, 1, none⟩ = some (.int .i64 m) ∧ W_p.cell? ⟨w.heap.size, 2, none⟩ = some (.int .i64 f) from by subst hW; simp [go_sem])
  have H_c := Lib.hid (show W_p.cell? ⟨w.heap.size + 1, 0, none⟩ = some (.int .i64 sg) ∧ W_p.cell? ⟨w.heap.size + 1, 1, none⟩ = some (.int .i64 mx) ∧ W_p.cell? ⟨w.heap.size + 1, 2, none⟩ = some (.int .i64 fi) ∧ W_p.cell? ⟨w.heap.size + 1, 3, none⟩ = some (.int .i64 gn) ∧ W_p.cell? ⟨w.heap.size + 1, 4, none⟩ = some (.int .i64 ls) ∧ W_p.cell? ⟨w.heap.size + 1, 5, none⟩ = some (.int .i64 gt) ∧ W_p.cell? ⟨w.heap.size + 1, 6, none⟩ = some (.int .i64 bu) from by subst hW; simp [go_sem])
  have lp : w.heap.size + 2 ≤ W_p.heap.size := by subst hW; simp
  clear hW
  generalize hg : w.heap.size = g_r at *
  go_wp2_with fail
  refine (AW'.out _).mono ?_
  rintro e w1 ⟨rfl, k1⟩
  go_upto_region 2 with fail
  go_cut [8] (fun s8 wx => s8 = .int .i64 G ∧ Kept w1 wx)
  case first =>
    obtain ⟨c_c0, c_c1, c_c2, c_c3, c_c4, c_c5, c_c6⟩ := Kept.all7 (show Kept W_p w1 from (by (repeat (first | with_reducible exact Kept.refl _ | with_reducible apply Kept.drew | with_reducible apply Kept.alloc | ((with_reducible apply Kept.set); focus (simp <;> omega)) | ((with_reducible apply Kept.via); focus with_reducible assumption))))) H_c
    have hh := HG'.out
    rw [heldT_is] at hh
    have HH := Lib.hid hh
    clear hh
    rcases Int.lt_trichotomy gt 1 with hz | hz | hz
    · (go_wp2_with fail; go_meet; exact ⟨int_same_r (by have hh := HH.out; omega), (by (repeat (first | with_reducible exact Kept.refl _ | with_reducible apply Kept.drew | with_reducible apply Kept.alloc | ((with_reducible apply Kept.set); focus (simp <;> omega)) | ((with_reducible apply Kept.via); focus with_reducible assumption))))⟩)
    · subst hz; (go_wp2_with fail; go_meet; exact ⟨int_same_r (by have hh := HH.out; omega), (by (repeat (first | with_reducible exact Kept.refl _ | with_reducible apply Kept.drew | with_reducible apply Kept.alloc | ((with_reducible apply Kept.set); focus (simp <;> omega)) | ((with_reducible apply Kept.via); focus with_reducible assumption))))⟩)
    · rcases Int.lt_trichotomy gt 1099511627776 with hy | hy | hy
      · (go_wp2_with fail; go_meet; exact ⟨int_same_r (by have hh := HH.out; omega), (by (repeat (first | with_reducible exact Kept.refl _ | with_reducible apply Kept.drew | with_reducible apply Kept.alloc | ((with_reducible apply Kept.set); focus (simp <;> omega)) | ((with_reducible apply Kept.via); focus with_reducible assumption))))⟩)
      · subst hy; (go_wp2_with fail; go_meet; exact ⟨int_same_r (by have hh := HH.out; omega), (by (repeat (first | with_reducible exact Kept.refl _ | with_reducible apply Kept.drew | with_reducible apply Kept.alloc | ((with_reducible apply Kept.set); focus (simp <;> omega)) | ((with_reducible apply Kept.via); focus with_reducible assumption))))⟩)
      · (go_wp2_with fail; go_meet; exact ⟨int_same_r (by have hh := HH.out; omega), (by (repeat (first | with_reducible exact Kept.refl _ | with_reducible apply Kept.drew | with_reducible apply Kept.alloc | ((with_reducible apply Kept.set); focus (simp <;> omega)) | ((with_reducible apply Kept.via); focus with_reducible assumption))))⟩)
  obtain ⟨rfl, k2⟩ := hcut
  generalize wc = w2 at *
  have wrp : IntKind.i64.wrap (2 * v) = G := by rw [IntKind.wrap_i64]; omega
  have d1 : decide (v ≤ G) = true := by simp; omega
  have mn : min (2 * v) G = G := by omega
  obtain ⟨c_r0, c_r1, c_r2⟩ := Kept.all3 (show Kept W_p w2 from (by (repeat (first | with_reducible exact Kept.refl _ | with_reducible apply Kept.drew | with_reducible apply Kept.alloc | ((with_reducible apply Kept.set); focus (simp <;> omega)) | ((with_reducible apply Kept.via); focus with_reducible assumption))))) H_r
  obtain ⟨c_c0, c_c1, c_c2, c_c3, c_c4, c_c5, c_c6⟩ := Kept.all7 (show Kept W_p w2 from (by (repeat (first | with_reducible exact Kept.refl _ | with_reducible apply Kept.drew | with_reducible apply Kept.alloc | ((with_reducible apply Kept.set); focus (simp <;> omega)) | ((with_reducible apply Kept.via); focus with_reducible assumption))))) H_c
  go_wp2_with fail
  refine (O1'.out _).mono ?_
  rintro e w3 ⟨rfl, k3⟩
  clear c_r0 c_r1 c_r2 c_c0 c_c1 c_c2 c_c3 c_c4 c_c5 c_c6
  obtain ⟨c_r0, c_r1, c_r2⟩ := Kept.all3 (show Kept W_p w3 from (by (repeat (first | with_reducible exact Kept.refl _ | with_reducible apply Kept.drew | with_reducible apply Kept.alloc | ((with_reducible apply Kept.set); focus (simp <;> omega)) | ((with_reducible apply Kept.via); focus with_reducible assumption))))) H_r
  obtain ⟨c_c0, c_c1, c_c2, c_c3, c_c4, c_c5, c_c6⟩ := Kept.all7 (show Kept W_p w3 from (by (repeat (first | with_reducible exact Kept.refl _ | with_reducible apply Kept.drew | with_reducible apply Kept.alloc | ((with_reducible apply Kept.set); focus (simp <;> omega)) | ((with_reducible apply Kept.via); focus with_reducible assumption))))) H_c
  go_wp2_with fail
  refine (O2'.out _).mono ?_
  rintro e w4 ⟨rfl, k4⟩
  clear c_r0 c_r1 c_r2 c_c0 c_c1 c_c2 c_c3 c_c4 c_c5 c_c6
  obtain ⟨c_r0, c_r1, c_r2⟩ := Kept.all3 (show Kept W_p w4 from (by (repeat (first | with_reducible exact Kept.refl _ | with_reducible apply Kept.drew | with_reducible apply Kept.alloc | ((with_reducible apply Kept.set); focus (simp <;> omega)) | ((with_reducible apply Kept.via); focus with_reducible assumption))))) H_r
  obtain ⟨c_c0, c_c1, c_c2, c_c3, c_c4, c_c5, c_c6⟩ := Kept.all7 (show Kept W_p w4 from (by (repeat (first | with_reducible exact Kept.refl _ | with_reducible apply Kept.drew | with_reducible apply Kept.alloc | ((with_reducible apply Kept.set); focus (simp <;> omega)) | ((with_reducible apply Kept.via); focus with_reducible assumption))))) H_c
  go_wp2_with fail
  refine (O3'.out _).mono ?_
  rintro e w5 ⟨rfl, k5⟩
  clear c_r0 c_r1 c_r2 c_c0 c_c1 c_c2 c_c3 c_c4 c_c5 c_c6
  go_wp2
  go_ret
  exact ⟨rfl, (by (repeat (first | with_reducible exact Kept.refl _ | with_reducible apply Kept.drew | with_reducible apply Kept.alloc | ((with_reducible apply Kept.set); focus (simp <;> omega)) | ((with_reducible apply Kept.via); focus with_reducible assumption))))⟩
set_option maxRecDepth 100000 in
set_option maxHeartbeats 3200000 in
theorem doubles_gt {b : Bool} {m f sg mx fi gn ls gt bu times G v : Int} (t0 : 0 ≤ times) (t1 : times ≤ 255) (g0 : 1 ≤ G) (g1 : G ≤ 1099511627776) (v0 : 1 ≤ v) (v1 : v ≤ G) (h : G < 2 * v) (HG : heldT gt = G) (O1 : ∀ w, Calls Try.prog 14 #[.agg #[.bool b, .int .i64 m, .int .i64 f], .agg #[.int .i64 sg, .int .i64 mx, .int .i64 fi, .int .i64 gn, .int .i64 ls, .int .i64 gt, .int .i64 bu], .int .i64 times] w fun e w' => e = .returned (.int .i64 v) ∧ Kept w w') (O2 : ∀ w, Calls Try.prog 14 #[.agg #[.bool b, .int .i64 m, .int .i64 f], .agg #[.int .i64 sg, .int .i64 mx, .int .i64 fi, .int .i64 gn, .int .i64 ls, .int .i64 gt, .int .i64 bu], .int .i64 (times + 1)] w fun e w' => e = .returned (.int .i64 G) ∧ Kept w w') (O3 : ∀ w, Calls Try.prog 14 #[.agg #[.bool b, .int .i64 m, .int .i64 f], .agg #[.int .i64 sg, .int .i64 mx, .int .i64 fi, .int .i64 gn, .int .i64 ls, .int .i64 gt, .int .i64 bu], .int .i64 50] w fun e w' => e = .returned (.int .i64 G) ∧ Kept w w') (AW : ∀ w, Calls Try.prog 9 #[] w fun e w' => e = .returned (.bool true) ∧ Kept w w') (w : World) : Calls Try.prog 5 #[.agg #[.bool b, .int .i64 m, .int .i64 f], .agg #[.int .i64 sg, .int .i64 mx, .int .i64 fi, .int .i64 gn, .int .i64 ls, .int .i64 gt, .int .i64 bu], .int .u8 times] w fun e w' => e = .returned (.bool true) ∧ Kept w w' := by
  have HG' := Lib.hid HG
  have O1' := Lib.hid O1
  have O2' := Lib.hid O2
  have O3' := Lib.hid O3
  clear HG O1 O2 O3
  have AW' := Lib.hid AW
  clear AW
  go_enter Try.func5, Try.ntmps5
  go_upto_region 1 with fail
  generalize hW : World.alloc (World.alloc w (.cells #[.bool b, .int .i64 m, .int .i64 f] 23)) (.cells #[.int .i64 sg, .int .i64 mx, .int .i64 fi, .int .i64 gn, .int .i64 ls, .int .i64 gt, .int .i64 bu] 25) = W_p
  have K_p : Kept w W_p := by subst hW; exact ((Kept.refl _).alloc _ _).alloc _ _
  have H_r := Lib.hid (show W_p.cell? ⟨w.heap.size, 0, none⟩ = some (.bool b) ∧ W_p.cell? ⟨w.heap.size, 1, none⟩ = some (.int .i64 m) ∧ W_p.cell? ⟨w.heap.size, 2, none⟩ = some (.int .i64 f) from by subst hW; simp [go_sem])
  have H_c := Lib.hid (show W_p.cell? ⟨w.heap.size + 1, 0, none⟩ = some (.int .i64 sg) ∧ W_p.cell? ⟨w.heap.size + 1, 1, none⟩ = some (.int .i64 mx) ∧ W_p.cell? ⟨w.heap.size + 1, 2, none⟩ = some (.int .i64 fi) ∧ W_p.cell? ⟨w.heap.size + 1, 3, none⟩ = some (.int .i64 gn) ∧ W_p.cell? ⟨w.heap.size + 1, 4, none⟩ = some (.int .i64 ls) ∧ W_p.cell? ⟨w.heap.size + 1, 5, none⟩ = some (.int .i64 gt) ∧ W_p.cell? ⟨w.heap.size + 1, 6, none⟩ = some (.int .i64 bu) from by subst hW; simp [go_sem])
  have lp : w.heap.size + 2 ≤ W_p.heap.size := by subst hW; simp
  clear hW
  generalize hg : w.heap.size = g_r at *
  go_wp2_with fail
  refine (AW'.out _).mono ?_
  rintro e w1 ⟨rfl, k1⟩
  go_upto_region 2 with fail
  go_cut [8] (fun s8 wx => s8 = .int .i64 G ∧ Kept w1 wx)
  case first =>
    obtain ⟨c_c0, c_c1, c_c2, c_c3, c_c4, c_c5, c_c6⟩ := Kept.all7 (show Kept W_p w1 from (by (repeat (first | with_reducible exact Kept.refl _ | with_reducible apply Kept.drew | with_reducible apply Kept.alloc | ((with_reducible apply Kept.set); focus (simp <;> omega)) | ((with_reducible apply Kept.via); focus with_reducible assumption))))) H_c
    have hh := HG'.out
    rw [heldT_is] at hh
    have HH := Lib.hid hh
    clear hh
    rcases Int.lt_trichotomy gt 1 with hz | hz | hz
    · (go_wp2_with fail; go_meet; exact ⟨int_same_r (by have hh := HH.out; omega), (by (repeat (first | with_reducible exact Kept.refl _ | with_reducible apply Kept.drew | with_reducible apply Kept.alloc | ((with_reducible apply Kept.set); focus (simp <;> omega)) | ((with_reducible apply Kept.via); focus with_reducible assumption))))⟩)
    · subst hz; (go_wp2_with fail; go_meet; exact ⟨int_same_r (by have hh := HH.out; omega), (by (repeat (first | with_reducible exact Kept.refl _ | with_reducible apply Kept.drew | with_reducible apply Kept.alloc | ((with_reducible apply Kept.set); focus (simp <;> omega)) | ((with_reducible apply Kept.via); focus with_reducible assumption))))⟩)
    · rcases Int.lt_trichotomy gt 1099511627776 with hy | hy | hy
      · (go_wp2_with fail; go_meet; exact ⟨int_same_r (by have hh := HH.out; omega), (by (repeat (first | with_reducible exact Kept.refl _ | with_reducible apply Kept.drew | with_reducible apply Kept.alloc | ((with_reducible apply Kept.set); focus (simp <;> omega)) | ((with_reducible apply Kept.via); focus with_reducible assumption))))⟩)
      · subst hy; (go_wp2_with fail; go_meet; exact ⟨int_same_r (by have hh := HH.out; omega), (by (repeat (first | with_reducible exact Kept.refl _ | with_reducible apply Kept.drew | with_reducible apply Kept.alloc | ((with_reducible apply Kept.set); focus (simp <;> omega)) | ((with_reducible apply Kept.via); focus with_reducible assumption))))⟩)
      · (go_wp2_with fail; go_meet; exact ⟨int_same_r (by have hh := HH.out; omega), (by (repeat (first | with_reducible exact Kept.refl _ | with_reducible apply Kept.drew | with_reducible apply Kept.alloc | ((with_reducible apply Kept.set); focus (simp <;> omega)) | ((with_reducible apply Kept.via); focus with_reducible assumption))))⟩)
  obtain ⟨rfl, k2⟩ := hcut
  generalize wc = w2 at *
  have d1 : decide (v ≤ G) = true := by simp; omega
  have mn : min (2 * v) G = G := by omega
  obtain ⟨c_r0, c_r1, c_r2⟩ := Kept.all3 (show Kept W_p w2 from (by (repeat (first | with_reducible exact Kept.refl _ | with_reducible apply Kept.drew | with_reducible apply Kept.alloc | ((with_reducible apply Kept.set); focus (simp <;> omega)) | ((with_reducible apply Kept.via); focus with_reducible assumption))))) H_r
  obtain ⟨c_c0, c_c1, c_c2, c_c3, c_c4, c_c5, c_c6⟩ := Kept.all7 (show Kept W_p w2 from (by (repeat (first | with_reducible exact Kept.refl _ | with_reducible apply Kept.drew | with_reducible apply Kept.alloc | ((with_reducible apply Kept.set); focus (simp <;> omega)) | ((with_reducible apply Kept.via); focus with_reducible assumption))))) H_c
  go_wp2_with fail
  refine (O1'.out _).mono ?_
  rintro e w3 ⟨rfl, k3⟩
  clear c_r0 c_r1 c_r2 c_c0 c_c1 c_c2 c_c3 c_c4 c_c5 c_c6
  obtain ⟨c_r0, c_r1, c_r2⟩ := Kept.all3 (show Kept W_p w3 from (by (repeat (first | with_reducible exact Kept.refl _ | with_reducible apply Kept.drew | with_reducible apply Kept.alloc | ((with_reducible apply Kept.set); focus (simp <;> omega)) | ((with_reducible apply Kept.via); focus with_reducible assumption))))) H_r
  obtain ⟨c_c0, c_c1, c_c2, c_c3, c_c4, c_c5, c_c6⟩ := Kept.all7 (show Kept W_p w3 from (by (repeat (first | with_reducible exact Kept.refl _ | with_reducible apply Kept.drew | with_reducible apply Kept.alloc | ((with_reducible apply Kept.set); focus (simp <;> omega)) | ((with_reducible apply Kept.via); focus with_reducible assumption))))) H_c
  go_wp2_with fail
  refine (O2'.out _).mono ?_
  rintro e w4 ⟨rfl, k4⟩
  clear c_r0 c_r1 c_r2 c_c0 c_c1 c_c2 c_c3 c_c4 c_c5 c_c6
  obtain ⟨c_r0, c_r1, c_r2⟩ := Kept.all3 (show Kept W_p w4 from (by (repeat (first | with_reducible exact Kept.refl _ | with_reducible apply Kept.drew | with_reducible apply Kept.alloc | ((with_reducible apply Kept.set); focus (simp <;> omega)) | ((with_reducible apply Kept.via); focus with_reducible assumption))))) H_r
  obtain ⟨c_c0, c_c1, c_c2, c_c3, c_c4, c_c5, c_c6⟩ := Kept.all7 (show Kept W_p w4 from (by (repeat (first | with_reducible exact Kept.refl _ | with_reducible apply Kept.drew | with_reducible apply Kept.alloc | ((with_reducible apply Kept.set); focus (simp <;> omega)) | ((with_reducible apply Kept.via); focus with_reducible assumption))))) H_c
  go_wp2_with fail
  refine (O3'.out _).mono ?_
  rintro e w5 ⟨rfl, k5⟩
  clear c_r0 c_r1 c_r2 c_c0 c_c1 c_c2 c_c3 c_c4 c_c5 c_c6
  go_wp2
  go_ret
  exact ⟨rfl, (by (repeat (first | with_reducible exact Kept.refl _ | with_reducible apply Kept.drew | with_reducible apply Kept.alloc | ((with_reducible apply Kept.set); focus (simp <;> omega)) | ((with_reducible apply Kept.via); focus with_reducible assumption))))⟩
theorem rtoDoubles_walk (BC : BaseC) (OC : OfC) (UC : BackC) (AC : AllC) (b : Bool) (m f sg mx fi gn ls gt bu times : Int) (w : World) (tm : 0 ≤ times ∧ times ≤ 255) : Calls Try.prog 5 #[.agg #[.bool b, .int .i64 m, .int .i64 f], .agg #[.int .i64 sg, .int .i64 mx, .int .i64 fi, .int .i64 gn, .int .i64 ls, .int .i64 gt, .int .i64 bu], .int .u8 times] w fun e w' => e = .returned (.bool true) ∧ Kept w w' := by
  obtain ⟨n, hb⟩ := base_ex b m f gn
  have r := base_range hb
  have g := heldT_range gt
  have q := first_range (n := n) r.1 (heldT_range ls).1 g.1
  have d := dbl_range q.1 q.2.1 times.toNat
  have O1 := fun w => OC b m f sg mx fi gn ls gt bu times _ (by unfold In64; omega) ⟨n, hb, rfl⟩ w
  have O2 := fun w => OC b m f sg mx fi gn ls gt bu (times + 1) _ (by unfold In64; omega) ⟨n, hb, rfl⟩ w
  have O3 := fun w => OC b m f sg mx fi gn ls gt bu 50 (heldT gt) (by unfold In64; omega) ⟨n, hb, (dbl_late q.1 q.2.1 g.2 (show 40 ≤ (50 : Int).toNat by decide)).symm⟩ w
  rw [show (times + 1).toNat = times.toNat + 1 by omega, dbl_next] at O2
  generalize dblN (heldT gt) (firstOf n (heldT ls) (heldT gt)) times.toNat = v at *
  have v1 : 1 ≤ v := by omega
  rcases Int.lt_trichotomy (2 * v) (heldT gt) with h | h | h
  · rw [show min (2 * v) (heldT gt) = 2 * v by omega] at O2
    exact doubles_lt tm.1 tm.2 g.1 g.2 v1 d.2 h rfl O1 O2 O3 (fun w => awake07 BC OC UC AC w) w
  · rw [show min (2 * v) (heldT gt) = heldT gt by omega] at O2
    exact doubles_eq tm.1 tm.2 g.1 g.2 v1 d.2 h rfl O1 O2 O3 (fun w => awake07 BC OC UC AC w) w
  · rw [show min (2 * v) (heldT gt) = heldT gt by omega] at O2
    exact doubles_gt tm.1 tm.2 g.1 g.2 v1 d.2 h rfl O1 O2 O3 (fun w => awake07 BC OC UC AC w) w
end Go.Proofs.Ytmdekgcgfcdppaa
