/-
  What the calls of package guide do.
-/
import Derived.Test.YtdbikeehoildlaaDoorRange19
import Derived.Test.YtdbikeehoildlaaDoorEpoch11
import Derived.Test.YtdbikeehoildlaaDoorSemA02
import Derived.Test.YtdbikeehoildlaaDoorOne01
import Derived.Test.YtdbikeehoildlaaDoorTail
import Derived.Test.YtdbikeehoildlaaDoorRoom
import Derived.Test.YtdbikeehoildlaaDoorAppRow
import Derived.OwnWalk
import Derived.Deep.RegionHeld3
import Derived.Deep.DeepCutAuto
namespace Go.Proofs.YtdbikeehoildlaaDoor
open Go.RowKit Go.BigFrame
set_option linter.unusedVariables false

set_option maxRecDepth 100000 in
set_option maxHeartbeats 1600000 in
theorem gfir_n {sg mx fi gn ls gt bu : Int} (CK : ∀ w, Calls Tryd.prog 11 #[.agg #[.int .i64 sg, .int .i64 mx, .int .i64 fi, .int .i64 gn, .int .i64 ls, .int .i64 gt, .int .i64 bu]] w fun e w' => e = .returned (.int .i64 210) ∧ Kept w w') (w : World) : Calls Tryd.prog 13 #[.agg #[.int .i64 sg, .int .i64 mx, .int .i64 fi, .int .i64 gn, .int .i64 ls, .int .i64 gt, .int .i64 bu]] w fun e w' => e = .returned (.int .i64 131072) ∧ Kept w w' := by
  have CK' := Lib.hid CK
  clear CK
  go_enter Tryd.func13, Tryd.ntmps13
  go_upto_region 1 with fail
  generalize hW : World.alloc w (.cells #[.int .i64 sg, .int .i64 mx, .int .i64 fi, .int .i64 gn, .int .i64 ls, .int .i64 gt, .int .i64 bu] 23) = W_c
  have K_c : Kept w W_c := by subst hW; exact (Kept.refl _).alloc _ _
  have H_c := Lib.hid (show W_c.cell? ⟨w.heap.size, 0, none⟩ = some (.int .i64 sg) ∧ W_c.cell? ⟨w.heap.size, 1, none⟩ = some (.int .i64 mx) ∧ W_c.cell? ⟨w.heap.size, 2, none⟩ = some (.int .i64 fi) ∧ W_c.cell? ⟨w.heap.size, 3, none⟩ = some (.int .i64 gn) ∧ W_c.cell? ⟨w.heap.size, 4, none⟩ = some (.int .i64 ls) ∧ W_c.cell? ⟨w.heap.size, 5, none⟩ = some (.int .i64 gt) ∧ W_c.cell? ⟨w.heap.size, 6, none⟩ = some (.int .i64 bu) from by subst hW; simp [go_sem])
  clear hW
  generalize w.heap.size = g_c at *
  obtain ⟨cc0, cc1, cc2, cc3, cc4, cc5, cc6⟩ := Kept.alln7 (show Kept W_c W_c from (by (repeat (first | with_reducible exact Kept.refl _ | with_reducible apply Kept.drew | with_reducible apply Kept.alloc | ((with_reducible apply Kept.set); focus (simp <;> omega)) | ((with_reducible apply Kept.via); focus with_reducible assumption))))) H_c
  go_wp2_with fail
  refine (CK'.out _).mono ?_
  rintro e w20 ⟨rfl, k20⟩
  clear cc0 cc1 cc2 cc3 cc4 cc5 cc6
  obtain ⟨cc0, cc1, cc2, cc3, cc4, cc5, cc6⟩ := Kept.alln7 (show Kept W_c w20 from (by (repeat (first | with_reducible exact Kept.refl _ | with_reducible apply Kept.drew | with_reducible apply Kept.alloc | ((with_reducible apply Kept.set); focus (simp <;> omega)) | ((with_reducible apply Kept.via); focus with_reducible assumption))))) H_c
  go_wp2
  go_ret
  exact ⟨rfl, (by (repeat (first | with_reducible exact Kept.refl _ | with_reducible apply Kept.drew | with_reducible apply Kept.alloc | ((with_reducible apply Kept.set); focus (simp <;> omega)) | ((with_reducible apply Kept.via); focus with_reducible assumption))))⟩
set_option maxRecDepth 100000 in
set_option maxHeartbeats 1600000 in
theorem gfir_y {sg mx fi gn ls gt bu : Int} (f0 : 2 ≤ fi) (f1 : fi ≤ 1048576) (CK : ∀ w, Calls Tryd.prog 11 #[.agg #[.int .i64 sg, .int .i64 mx, .int .i64 fi, .int .i64 gn, .int .i64 ls, .int .i64 gt, .int .i64 bu]] w fun e w' => e = .returned (.int .i64 0) ∧ Kept w w') (w : World) : Calls Tryd.prog 13 #[.agg #[.int .i64 sg, .int .i64 mx, .int .i64 fi, .int .i64 gn, .int .i64 ls, .int .i64 gt, .int .i64 bu]] w fun e w' => e = .returned (.int .i64 (fi * 65536)) ∧ Kept w w' := by
  have CK' := Lib.hid CK
  clear CK
  go_enter Tryd.func13, Tryd.ntmps13
  go_upto_region 1 with fail
  generalize hW : World.alloc w (.cells #[.int .i64 sg, .int .i64 mx, .int .i64 fi, .int .i64 gn, .int .i64 ls, .int .i64 gt, .int .i64 bu] 23) = W_c
  have K_c : Kept w W_c := by subst hW; exact (Kept.refl _).alloc _ _
  have H_c := Lib.hid (show W_c.cell? ⟨w.heap.size, 0, none⟩ = some (.int .i64 sg) ∧ W_c.cell? ⟨w.heap.size, 1, none⟩ = some (.int .i64 mx) ∧ W_c.cell? ⟨w.heap.size, 2, none⟩ = some (.int .i64 fi) ∧ W_c.cell? ⟨w.heap.size, 3, none⟩ = some (.int .i64 gn) ∧ W_c.cell? ⟨w.heap.size, 4, none⟩ = some (.int .i64 ls) ∧ W_c.cell? ⟨w.heap.size, 5, none⟩ = some (.int .i64 gt) ∧ W_c.cell? ⟨w.heap.size, 6, none⟩ = some (.int .i64 bu) from by subst hW; simp [go_sem])
  clear hW
  generalize w.heap.size = g_c at *
  obtain ⟨cc0, cc1, cc2, cc3, cc4, cc5, cc6⟩ := Kept.alln7 (show Kept W_c W_c from (by (repeat (first | with_reducible exact Kept.refl _ | with_reducible apply Kept.drew | with_reducible apply Kept.alloc | ((with_reducible apply Kept.set); focus (simp <;> omega)) | ((with_reducible apply Kept.via); focus with_reducible assumption))))) H_c
  go_wp2_with fail
  refine (CK'.out _).mono ?_
  rintro e w20 ⟨rfl, k20⟩
  clear cc0 cc1 cc2 cc3 cc4 cc5 cc6
  obtain ⟨cc0, cc1, cc2, cc3, cc4, cc5, cc6⟩ := Kept.alln7 (show Kept W_c w20 from (by (repeat (first | with_reducible exact Kept.refl _ | with_reducible apply Kept.drew | with_reducible apply Kept.alloc | ((with_reducible apply Kept.set); focus (simp <;> omega)) | ((with_reducible apply Kept.via); focus with_reducible assumption))))) H_c
  go_wp2
  go_ret
  exact ⟨rfl, (by (repeat (first | with_reducible exact Kept.refl _ | with_reducible apply Kept.drew | with_reducible apply Kept.alloc | ((with_reducible apply Kept.set); focus (simp <;> omega)) | ((with_reducible apply Kept.via); focus with_reducible assumption))))⟩
theorem gfirst {c : Cf} {n : Int} (h : firstW c = n) (w : World) : Calls Tryd.prog 13 #[.agg #[.int .i64 c.sg, .int .i64 c.mx, .int .i64 c.fi, .int .i64 c.gn, .int .i64 c.ls, .int .i64 c.gt, .int .i64 c.bu]] w fun e w' => e = .returned (.int .i64 n) ∧ Kept w w' := by
  subst h
  unfold firstW
  by_cases m : MayCf c
  · rw [if_pos m, Int.mul_comm]
    have q := m.2.2.1
    have q1 := m.2.1
    exact gfir_y q.1 (by omega) (fun w => gcheck (c := c) (cfgE_ok.2 m) w) w
  · rw [if_neg m]
    exact gfir_n (fun w => gcheck (c := c) (by unfold cfgE; rw [if_neg m]) w) w
theorem gfirst_c : GdFirstC := fun _ _ _ hn w => gfirst hn w
set_option maxRecDepth 100000 in
set_option maxHeartbeats 1600000 in
theorem gidl_s {sg mx fi gn ls gt bu v last now tmo d : Int} (d0 : decide (d ≤ tmo) = true) (SB : ∀ w, Calls Tryd.prog 29 #[.int .i64 now, .int .i64 last] w fun e w' => e = .returned (.int .i64 d) ∧ Kept w w') (w : World) : Calls Tryd.prog 15 #[.int .i64 v, .int .i64 last, .int .i64 now, .int .i64 tmo, .agg #[.int .i64 sg, .int .i64 mx, .int .i64 fi, .int .i64 gn, .int .i64 ls, .int .i64 gt, .int .i64 bu]] w fun e w' => e = .returned (.int .i64 v) ∧ Kept w w' := by
  have SB' := Lib.hid SB
  clear SB
  go_enter Tryd.func15, Tryd.ntmps15
  go_upto_region 1 with fail
  generalize hW : World.alloc w (.cells #[.int .i64 sg, .int .i64 mx, .int .i64 fi, .int .i64 gn, .int .i64 ls, .int .i64 gt, .int .i64 bu] 23) = W_c
  have K_c : Kept w W_c := by subst hW; exact (Kept.refl _).alloc _ _
  have H_c := Lib.hid (show W_c.cell? ⟨w.heap.size, 0, none⟩ = some (.int .i64 sg) ∧ W_c.cell? ⟨w.heap.size, 1, none⟩ = some (.int .i64 mx) ∧ W_c.cell? ⟨w.heap.size, 2, none⟩ = some (.int .i64 fi) ∧ W_c.cell? ⟨w.heap.size, 3, none⟩ = some (.int .i64 gn) ∧ W_c.cell? ⟨w.heap.size, 4, none⟩ = some (.int .i64 ls) ∧ W_c.cell? ⟨w.heap.size, 5, none⟩ = some (.int .i64 gt) ∧ W_c.cell? ⟨w.heap.size, 6, none⟩ = some (.int .i64 bu) from by subst hW; simp [go_sem])
  clear hW
  generalize w.heap.size = g_c at *
  go_wp2_with fail
  refine (SB'.out _).mono ?_
  rintro e w20 ⟨rfl, k20⟩
  go_wp2
  go_ret
  exact ⟨rfl, (by (repeat (first | with_reducible exact Kept.refl _ | with_reducible apply Kept.drew | with_reducible apply Kept.alloc | ((with_reducible apply Kept.set); focus (simp <;> omega)) | ((with_reducible apply Kept.via); focus with_reducible assumption))))⟩
set_option maxRecDepth 100000 in
set_option maxHeartbeats 1600000 in
theorem gidl_l {sg mx fi gn ls gt bu v last now tmo d f p n : Int} (d0 : decide (d ≤ tmo) = false) (e1 : (if f < v then f else v) = p) (e2 : (if p < 131072 then 131072 else p) = n) (SB : ∀ w, Calls Tryd.prog 29 #[.int .i64 now, .int .i64 last] w fun e w' => e = .returned (.int .i64 d) ∧ Kept w w') (FI : ∀ w, Calls Tryd.prog 13 #[.agg #[.int .i64 sg, .int .i64 mx, .int .i64 fi, .int .i64 gn, .int .i64 ls, .int .i64 gt, .int .i64 bu]] w fun e w' => e = .returned (.int .i64 f) ∧ Kept w w') (w : World) : Calls Tryd.prog 15 #[.int .i64 v, .int .i64 last, .int .i64 now, .int .i64 tmo, .agg #[.int .i64 sg, .int .i64 mx, .int .i64 fi, .int .i64 gn, .int .i64 ls, .int .i64 gt, .int .i64 bu]] w fun e w' => e = .returned (.int .i64 n) ∧ Kept w w' := by
  have SB' := Lib.hid SB
  have FI' := Lib.hid FI
  clear SB FI
  have g1 : min v f = p := by rw [← e1]; split <;> omega
  have g2 : max p 131072 = n := by rw [← e2]; split <;> omega
  go_enter Tryd.func15, Tryd.ntmps15
  go_upto_region 1 with fail
  generalize hW : World.alloc w (.cells #[.int .i64 sg, .int .i64 mx, .int .i64 fi, .int .i64 gn, .int .i64 ls, .int .i64 gt, .int .i64 bu] 23) = W_c
  have K_c : Kept w W_c := by subst hW; exact (Kept.refl _).alloc _ _
  have H_c := Lib.hid (show W_c.cell? ⟨w.heap.size, 0, none⟩ = some (.int .i64 sg) ∧ W_c.cell? ⟨w.heap.size, 1, none⟩ = some (.int .i64 mx) ∧ W_c.cell? ⟨w.heap.size, 2, none⟩ = some (.int .i64 fi) ∧ W_c.cell? ⟨w.heap.size, 3, none⟩ = some (.int .i64 gn) ∧ W_c.cell? ⟨w.heap.size, 4, none⟩ = some (.int .i64 ls) ∧ W_c.cell? ⟨w.heap.size, 5, none⟩ = some (.int .i64 gt) ∧ W_c.cell? ⟨w.heap.size, 6, none⟩ = some (.int .i64 bu) from by subst hW; simp [go_sem])
  clear hW
  generalize w.heap.size = g_c at *
  go_wp2_with fail
  refine (SB'.out _).mono ?_
  rintro e w20 ⟨rfl, k20⟩
  obtain ⟨cc0, cc1, cc2, cc3, cc4, cc5, cc6⟩ := Kept.alln7 (show Kept W_c w20 from (by (repeat (first | with_reducible exact Kept.refl _ | with_reducible apply Kept.drew | with_reducible apply Kept.alloc | ((with_reducible apply Kept.set); focus (simp <;> omega)) | ((with_reducible apply Kept.via); focus with_reducible assumption))))) H_c
  go_wp2_with fail
  refine (FI'.out _).mono ?_
  rintro e w21 ⟨rfl, k21⟩
  clear cc0 cc1 cc2 cc3 cc4 cc5 cc6
  go_wp2
  go_ret
  exact ⟨rfl, (by (repeat (first | with_reducible exact Kept.refl _ | with_reducible apply Kept.drew | with_reducible apply Kept.alloc | ((with_reducible apply Kept.set); focus (simp <;> omega)) | ((with_reducible apply Kept.via); focus with_reducible assumption))))⟩
theorem gidle {v last now tmo n : Int} {c : Cf} (hl : In64 last) (hn : In64 now) (h : idleN v last now tmo c = n) (w : World) : Calls Tryd.prog 15 #[.int .i64 v, .int .i64 last, .int .i64 now, .int .i64 tmo, .agg #[.int .i64 c.sg, .int .i64 c.mx, .int .i64 c.fi, .int .i64 c.gn, .int .i64 c.ls, .int .i64 c.gt, .int .i64 c.bu]] w fun e w' => e = .returned (.int .i64 n) ∧ Kept w w' := by
  unfold idleN at h
  by_cases d : tmo < heldAt (now - last)
  · rw [if_pos d] at h
    exact gidl_l (by simp; omega) rfl h (fun w => Sub_any_s now last w hn hl) (fun w => gfirst (c := c) rfl w) w
  · rw [if_neg d] at h
    subst h
    exact gidl_s (by simp; omega) (fun w => Sub_any_s now last w hn hl) w
theorem gidle_c : GdIdleC := fun _ _ _ _ _ _ _ hl hn _ _ h w => gidle hl hn h w
set_option maxRecDepth 100000 in
set_option maxHeartbeats 1600000 in
theorem gpau {h h' : Ep} {last now d : Int} (SB : ∀ w, Calls Tryd.prog 29 #[.int .i64 now, .int .i64 last] w fun e w' => e = .returned (.int .i64 d) ∧ Kept w w') (SH : ∀ w, Calls Tryd.prog 31 #[.agg #[.bool h.on, .int .i64 h.start, .int .i64 h.first, .int .i64 h.most, .int .i64 h.k, .int .i64 h.est], .int .i64 d] w fun e w' => e = .returned (.agg #[.bool h'.on, .int .i64 h'.start, .int .i64 h'.first, .int .i64 h'.most, .int .i64 h'.k, .int .i64 h'.est]) ∧ Kept w w') (w : World) : Calls Tryd.prog 17 #[.agg #[.bool h.on, .int .i64 h.start, .int .i64 h.first, .int .i64 h.most, .int .i64 h.k, .int .i64 h.est], .int .i64 last, .int .i64 now] w fun e w' => e = .returned (.agg #[.bool h'.on, .int .i64 h'.start, .int .i64 h'.first, .int .i64 h'.most, .int .i64 h'.k, .int .i64 h'.est]) ∧ Kept w w' := by
  have SB' := Lib.hid SB
  have SH' := Lib.hid SH
  clear SB SH
  go_enter Tryd.func17, Tryd.ntmps17
  go_upto_region 1 with fail
  generalize hW : World.alloc (World.alloc w (.cells #[.bool h.on, .int .i64 h.start, .int .i64 h.first, .int .i64 h.most, .int .i64 h.k, .int .i64 h.est] 25)) (.cells #[.bool false, .int .i64 0, .int .i64 0, .int .i64 0, .int .i64 0, .int .i64 0] 25) = W0
  have K0 : Kept w W0 := by subst hW; exact ((Kept.refl _).alloc _ _).alloc _ _
  have R0 : RE W0 w.heap.size h := by subst hW; exact ⟨⟨by simp [go_sem], by simp [go_sem], by simp [go_sem], by simp [go_sem], by simp [go_sem], by simp [go_sem]⟩, by simp [go_sem], by simp [go_sem], by simp [go_sem], by simp [go_sem], by simp [go_sem], by simp [go_sem]⟩
  have Z0 := Lib.hid (show RE W0 (w.heap.size + 1) (⟨false, 0, 0, 0, 0, 0⟩ : Ep) from by subst hW; exact ⟨⟨by simp [go_sem], by simp [go_sem], by simp [go_sem], by simp [go_sem], by simp [go_sem], by simp [go_sem]⟩, by simp [go_sem], by simp [go_sem], by simp [go_sem], by simp [go_sem], by simp [go_sem], by simp [go_sem]⟩)
  clear hW
  generalize hg : w.heap.size = g at *
  have gw : w.heap.size ≤ g + 1 := by omega
  have B_h := Lib.hid (show W0.cell? ⟨g, 0, none⟩ = some (.bool h.on) ∧ W0.cell? ⟨g, 1, none⟩ = some (.int .i64 h.start) ∧ W0.cell? ⟨g, 2, none⟩ = some (.int .i64 h.first) ∧ W0.cell? ⟨g, 3, none⟩ = some (.int .i64 h.most) ∧ W0.cell? ⟨g, 4, none⟩ = some (.int .i64 h.k) ∧ W0.cell? ⟨g, 5, none⟩ = some (.int .i64 h.est) from R0.1)
  clear R0
  obtain ⟨q0, q1, q2, q3, q4, q5⟩ := kwn6 B_h
  refine wp_region_kept_tail 5 (by kernel_rfl) (by kernel_rfl) ?_
  simp only [List.take_succ_cons, List.take_zero, List.drop_succ_cons, List.drop_zero]
  repeat (go_big_quiet_step (first | (with_reducible exact kept_of (SB'.out _)) | (with_reducible exact kept_of (SH'.out _))))
  refine wpQuiet_nil ?_
  intro wq hw'
  have kq : Kept W0 wq := by obtain ⟨p, rfl⟩ := hw'; exact p.k
  clear hw' q0 q1 q2 q3 q4 q5
  have Zq := Lib.hid (Z0.out.kept kq)
  have kz := Kept.trans K0 kq
  clear Z0 K0 kq
  have ne1 := Zq.out.ne
  obtain ⟨⟨z0, z1, z2, z3, z4, z5⟩, zf0, zf1, zf2, zf3, zf4, zf5⟩ := Zq.out
  go_wp2
  simp [bodyPost, results, Tryd.results17, go_sem, *]
  exact (by (repeat (first | with_reducible exact Kept.refl _ | with_reducible apply Kept.drew | with_reducible apply Kept.alloc | ((with_reducible apply Kept.set); focus (simp <;> omega)) | ((with_reducible apply Kept.via); focus with_reducible assumption))))
theorem gpause {h h' : Ep} {last now : Int} (hi : In64E h) (hl : In64 last) (hn : In64 now) (e : shiftE h (heldAt (now - last)) = h') (w : World) : Calls Tryd.prog 17 #[.agg #[.bool h.on, .int .i64 h.start, .int .i64 h.first, .int .i64 h.most, .int .i64 h.k, .int .i64 h.est], .int .i64 last, .int .i64 now] w fun e w' => e = .returned (.agg #[.bool h'.on, .int .i64 h'.start, .int .i64 h'.first, .int .i64 h'.most, .int .i64 h'.k, .int .i64 h'.est]) ∧ Kept w w' := gpau (fun w => Sub_any_s now last w hn hl) (fun w => eshift_c h h' _ hi (heldAt_in _) e w) w
theorem gpause_c : GdPauseC := fun _ _ _ _ hi hl hn e w => gpause hi hl hn e w
set_option maxRecDepth 100000 in
set_option maxHeartbeats 1600000 in
theorem guse_n {v out sg p q : Int} (e1 : (if out < v then out else v) = p) (e2 : (if sg < p then sg else p) = q) (d0 : decide (q < 0) = true)  (w : World) : Calls Tryd.prog 19 #[.int .i64 v, .int .i64 out, .int .i64 sg] w fun e w' => e = .returned (.bool false) ∧ Kept w w' := by
  have g1 : min v out = p := by rw [← e1]; split <;> omega
  have g2 : min p sg = q := by rw [← e2]; split <;> omega
  go_enter Tryd.func19, Tryd.ntmps19
  go_wp2
  go_ret
  exact ⟨rfl, Kept.refl _⟩
set_option maxRecDepth 100000 in
set_option maxHeartbeats 1600000 in
theorem guse_y {v out sg p q xh xl yh yl k : Int} {xb yb : Bool} (e1 : (if out < v then out else v) = p) (e2 : (if sg < p then sg else p) = q) (d0 : decide (q < 0) = false) (M1 : ∀ w, Calls Tryd.prog 34 #[.int .i64 out, .int .i64 131072] w fun e w' => e = .returned (.agg #[.bool xb, .int .u64 xh, .int .u64 xl]) ∧ Kept w w') (M2 : ∀ w, Calls Tryd.prog 34 #[.int .i64 v, .int .i64 sg] w fun e w' => e = .returned (.agg #[.bool yb, .int .u64 yh, .int .u64 yl]) ∧ Kept w w') (CM : ∀ w, Calls Tryd.prog 33 #[.agg #[.bool xb, .int .u64 xh, .int .u64 xl], .agg #[.bool yb, .int .u64 yh, .int .u64 yl]] w fun e w' => e = .returned (.int .i64 k) ∧ Kept w w') (w : World) : Calls Tryd.prog 19 #[.int .i64 v, .int .i64 out, .int .i64 sg] w fun e w' => e = .returned (.bool (decide (0 ≤ k))) ∧ Kept w w' := by
  have M1' := Lib.hid M1
  have M2' := Lib.hid M2
  have CM' := Lib.hid CM
  clear M1 M2 CM
  have g1 : min v out = p := by rw [← e1]; split <;> omega
  have g2 : min p sg = q := by rw [← e2]; split <;> omega
  go_enter Tryd.func19, Tryd.ntmps19
  go_wp2_with fail
  refine (M1'.out _).mono ?_
  rintro e w20 ⟨rfl, k20⟩
  go_wp2_with fail
  refine (M2'.out _).mono ?_
  rintro e w21 ⟨rfl, k21⟩
  go_wp2_with fail
  refine (CM'.out _).mono ?_
  rintro e w22 ⟨rfl, k22⟩
  go_wp2
  go_ret
  exact ⟨rfl, (by (repeat (first | with_reducible exact Kept.refl _ | with_reducible apply Kept.drew | with_reducible apply Kept.alloc | ((with_reducible apply Kept.set); focus (simp <;> omega)) | ((with_reducible apply Kept.via); focus with_reducible assumption))))⟩
theorem gused {v out sg : Int} {b : Bool} (hv : In64 v) (ho : In64 out) (hs : In64 sg) (h : b = true ↔ UsedW v out sg) (w : World) : Calls Tryd.prog 19 #[.int .i64 v, .int .i64 out, .int .i64 sg] w fun e w' => e = .returned (.bool b) ∧ Kept w w' := by
  have no : ¬ UsedW v out sg → b = false := fun m => by
    cases b with
    | false => rfl
    | true => exact absurd (h.1 rfl) m
  have lo : (if sg < (if out < v then out else v) then sg else (if out < v then out else v)) < 0 ↔ (v < 0 ∨ out < 0 ∨ sg < 0) := by split <;> split <;> omega
  by_cases a : v < 0 ∨ out < 0 ∨ sg < 0
  · rw [no (fun m => by have := m.1; omega)]
    exact guse_n rfl rfl (by simp only [lo, a, decide_true]) w
  · have i1 : In64 131072 := by unfold In64; omega
    obtain ⟨pb, ph, pl, rp⟩ := rep_ex (out * 131072) (mul_in ho i1)
    obtain ⟨qb, qh, ql, rq⟩ := rep_ex (v * sg) (mul_in hv hs)
    have CM := fun w => Cmp_ok (b1 := pb) (b2 := qb) rp.1 rp.2.1 rq.1 rq.2.1 w
    rw [rp.2.2.1, rq.2.2.1] at CM
    have e : b = decide (0 ≤ cmpI (out * 131072) (v * sg)) := by
      have c : 0 ≤ cmpI (out * 131072) (v * sg) ↔ UsedW v out sg := by
        unfold UsedW cmpI
        generalize v * sg = z
        repeat' split
        all_goals omega
      cases b with
      | true => have := c.2 (h.1 rfl); simp [this]
      | false => 
        have : ¬ 0 ≤ cmpI (out * 131072) (v * sg) := fun z => by have := h.2 (c.1 z); cases this
        simp; omega
    rw [e]
    exact guse_y rfl rfl (by simp only [lo, a, decide_false]) (fun w => Mul_rep ho i1 rp w) (fun w => Mul_rep hv hs rq w) CM w
theorem gused_c : GdUsedC := fun _ _ _ _ hv ho hs h w => gused hv ho hs h w
theorem infoCfG : (Tryd.prog.info? 23).map (fun i => (i.zero, i.size, i.bytes)) = some (some (.agg #[.int .i64 0, .int .i64 0, .int .i64 0, .int .i64 0, .int .i64 0, .int .i64 0, .int .i64 0]), 7, 56) := by kernel_rfl
theorem cells_seven_own (w : World) (a b c d e f g : Value) (t : TypeId) : ∀ j u, [a, b, c, d, e, f, g][j]? = some u → (w.alloc (.cells #[a, b, c, d, e, f, g] t)).cell? ((⟨w.heap.size, 0, none⟩ : Addr).add j) = some u := by
  intro j u hj
  match j, hj with
  | 0, hj => simp at hj; subst hj; simp [Addr.add, go_sem]
  | 1, hj => simp at hj; subst hj; simp [Addr.add, go_sem]
  | 2, hj => simp at hj; subst hj; simp [Addr.add, go_sem]
  | 3, hj => simp at hj; subst hj; simp [Addr.add, go_sem]
  | 4, hj => simp at hj; subst hj; simp [Addr.add, go_sem]
  | 5, hj => simp at hj; subst hj; simp [Addr.add, go_sem]
  | 6, hj => simp at hj; subst hj; simp [Addr.add, go_sem]
  | j + 7, hj => simp at hj
theorem gparts_take (l : List Cf) (e : Int) {k : Nat} (h : k < l.length) : partsC (l.take (k + 1)) e = if cfgE (cf0 l k) = e then partsC (l.take k) e ++ [cf0 l k] else partsC (l.take k) e := by
  have q : l.take (k + 1) = l.take k ++ [cf0 l k] := by
    rw [List.take_add_one]
    simp [cf0, List.getD, h]
  rw [q, parts_next]
theorem gparts_take_len (l : List Cf) (e : Int) (k : Nat) : (partsC (l.take k) e).length ≤ k := by
  have := parts_len (l.take k) e
  rw [List.length_take] at this
  omega
theorem gparts_all {l : List Cf} {k : Nat} (e : Int) (h : l.length = k) : partsC (l.take k) e = partsC l e := by rw [List.take_of_length_le (by omega)]
theorem gcf_in {l : List Cf} (h : ∀ c ∈ l, CfIn c) {k : Nat} (hk : k < l.length) : CfIn (cf0 l k) := by
  have e : cf0 l k = l[k] := by simp [cf0, List.getD, hk]
  rw [e]; exact h _ (List.getElem_mem _)
set_option maxRecDepth 100000 in
set_option maxHeartbeats 3200000 in
theorem gpart_true {A : Option Addr} {len cap n pb : Nat} {l ys : List Cf} (hn : l.length = len) (hl : len ≤ 1099511627776) (hy : partsC l 0 = ys) (hm : ys.length = n) (w : World) (hr : RowC w A l) (hs : w.cell? ⟨pb, 0, none⟩ = some (.slice A len cap)) : Calls Tryd.prog 26 #[.bool true, .pointer (some ⟨pb, 0, none⟩)] w fun e w' => ∃ (B : Option Addr) (c : Nat), e = .returned (.slice B n c) ∧ SliceOk B n c ∧ RowC w' B ys ∧ (∀ a, B = some a → w.heap.size ≤ a.block) ∧ Kept w w' := by
  have HR := Lib.hid hr
  have HN := Lib.hid hn
  have HY := Lib.hid hy
  have HM := Lib.hid hm
  clear hr hn hy hm
  obtain ⟨i0, hi, hz0, hz1, hz2⟩ := info_parts infoCfG
  obtain ⟨g0, hg⟩ : ∃ g0, w.heap.size = g0 := ⟨_, rfl⟩
  go_enter Tryd.func26, Tryd.ntmps26
  go_wp2
  go_loopw [4, 9] (fun ov i wr => ∃ k : Nat, k ≤ len ∧ i = .int .i64 k ∧ wr.ownsRow g0 23 7 ov (partsC (l.take k) 0).length ((partsC (l.take k) 0).flatMap cfs) ∧ Kept w wr) (fun _ i _ => len - (intOf i).toNat)
  case atStart => exact ⟨0, Nat.zero_le _, rfl, World.ownsRow_nil _ _ _ _, Kept.refl _⟩
  case round =>
    obtain ⟨k, hk, rfl, own, kw⟩ := hrel
    have hK := gparts_take_len l 0 k
    have OW := Lib.hid own
    clear own
    by_cases hlt : k < len
    · have hltI : (k : Int) < (len : Int) := by omega
      have hlt' : k < l.length := by have := HN.out; omega
      have NXT := Lib.hid (gparts_take l 0 hlt')
      obtain ⟨b, off, rfl, hc⟩ := (HR.out.kept kw) (by omega)
      obtain ⟨c0, c1, c2, c3, c4, c5, c6⟩ := RowC.cells hc hlt'
      clear hc
      obtain ⟨xsg, xmx, xfi, xgn, xls, xgt, xbu, ek⟩ : ∃ xsg xmx xfi xgn xls xgt xbu : Int, cf0 l k = ⟨xsg, xmx, xfi, xgn, xls, xgt, xbu⟩ := ⟨_, _, _, _, _, _, _, rfl⟩
      rw [ek] at c0 c1 c2 c3 c4 c5 c6
      dsimp only at c0 c1 c2 c3 c4 c5 c6
      rw [ek] at NXT
      have CK := Lib.hid (fun w => gcheck (c := (⟨xsg, xmx, xfi, xgn, xls, xgt, xbu⟩ : Cf)) (n := cfgE (⟨xsg, xmx, xfi, xgn, xls, xgt, xbu⟩ : Cf)) rfl w)
      generalize partsC (l.take k) 0 = KK at *
      generalize cfgE (⟨xsg, xmx, xfi, xgn, xls, xgt, xbu⟩ : Cf) = ce at *
      go_upto_region 5 with fail
      generalize hW : World.alloc wr (.cells #[.int .i64 xsg, .int .i64 xmx, .int .i64 xfi, .int .i64 xgn, .int .i64 xls, .int .i64 xgt, .int .i64 xbu] 23) = W_c
      have K_c : Kept wr W_c := by subst hW; exact (Kept.refl _).alloc _ _
      have H_c := Lib.hid (show W_c.cell? ⟨wr.heap.size, 0, none⟩ = some (.int .i64 xsg) ∧ W_c.cell? ⟨wr.heap.size, 1, none⟩ = some (.int .i64 xmx) ∧ W_c.cell? ⟨wr.heap.size, 2, none⟩ = some (.int .i64 xfi) ∧ W_c.cell? ⟨wr.heap.size, 3, none⟩ = some (.int .i64 xgn) ∧ W_c.cell? ⟨wr.heap.size, 4, none⟩ = some (.int .i64 xls) ∧ W_c.cell? ⟨wr.heap.size, 5, none⟩ = some (.int .i64 xgt) ∧ W_c.cell? ⟨wr.heap.size, 6, none⟩ = some (.int .i64 xbu) from by subst hW; simp [go_sem])
      clear hW
      generalize wr.heap.size = g_c at *
      clear c0 c1 c2 c3 c4 c5 c6
      have kwc := Kept.trans kw K_c
      obtain ⟨d0, d1, d2, d3, d4, d5, d6⟩ := Kept.alln7 (Kept.refl _) H_c
      go_wp2_with fail
      refine (CK.out _).mono ?_
      rintro e w1 ⟨rfl, k1⟩
      clear d0 d1 d2 d3 d4 d5 d6
      have kwn1 := Kept.trans kwc k1
      by_cases he : ce = 0
      · have e0 : (ce == 0) = true := by simp [he]
        obtain ⟨d0, d1, d2, d3, d4, d5, d6⟩ := Kept.alln7 k1 H_c
        go_wp2_with (at_builtin; refine wpList_append_kept rfl _ _ 26 rfl w g0 hg 23 i0 (.agg #[.int .i64 0, .int .i64 0, .int .i64 0, .int .i64 0, .int .i64 0, .int .i64 0, .int .i64 0]) 7 56 Tryd.underlying26 hi hz0 hz1 hz2 rfl (by decide) _ _ _ rfl (World.ownsRow.alloc (own_kept OW.out (Kept.trans K_c k1)) _) (Kept.alloc kwn1 _ _) ⟨_, 0, none⟩ 1 1 [.int .i64 xsg, .int .i64 xmx, .int .i64 xfi, .int .i64 xgn, .int .i64 xls, .int .i64 xgt, .int .i64 xbu] rfl rfl (cells_seven_own _ _ _ _ _ _ _ _ _) (by intro u hu; simp at hu; rcases hu with rfl | rfl | rfl | rfl | rfl | rfl | rfl <;> rfl) (by decide) (by unfold maxLen; omega) (by omega) ?_)
        intro v' w3 own3 k3 g3 z3 o3
        have OW3 := Lib.hid (show w3.ownsRow g0 23 7 v' (partsC (l.take (k + 1)) 0).length ((partsC (l.take (k + 1)) 0).flatMap cfs) from by
          rw [NXT.out, if_pos he, List.length_append, flat_one]
          exact own3)
        clear own3 g3 z3 o3 d0 d1 d2 d3 d4 d5 d6
        go_wp2
        go_roundw
        case rel => exact ⟨k + 1, by omega, by go_num, OW3.out, k3⟩
        case measure => simp [intOf]; omega
      · have e0 : (ce == 0) = false := by simp [he]
        have OW2 := Lib.hid (show w1.ownsRow g0 23 7 _ (partsC (l.take (k + 1)) 0).length ((partsC (l.take (k + 1)) 0).flatMap cfs) from by
          rw [NXT.out, if_neg he]
          exact own_kept OW.out (Kept.trans K_c k1))
        go_wp2
        go_roundw
        case rel => exact ⟨k + 1, by omega, by go_num, OW2.out, kwn1⟩
        case measure => simp [intOf]; omega
    · obtain rfl : k = len := by omega
      have OWE := Lib.hid (show wr.ownsRow g0 23 7 _ n (ys.flatMap cfs) from by
        have h := OW.out
        rw [gparts_all 0 HN.out, HY.out, HM.out] at h
        exact h)
      obtain ⟨B, c, rfl, sok, hrow, hnew⟩ := own_rowC HM.out OWE.out
      clear OW OWE
      go_wp2
      go_ret
      exact ⟨B, c, rfl, sok, hrow, fun a ha => by have := (hnew a ha).1; omega, kw⟩
set_option maxRecDepth 100000 in
set_option maxHeartbeats 3200000 in
theorem gpart_false {A : Option Addr} {len cap n pb : Nat} {l ys : List Cf} (hn : l.length = len) (hl : len ≤ 1099511627776) (hy : partsC l 210 = ys) (hm : ys.length = n) (w : World) (hr : RowC w A l) (hs : w.cell? ⟨pb, 0, none⟩ = some (.slice A len cap)) : Calls Tryd.prog 26 #[.bool false, .pointer (some ⟨pb, 0, none⟩)] w fun e w' => ∃ (B : Option Addr) (c : Nat), e = .returned (.slice B n c) ∧ SliceOk B n c ∧ RowC w' B ys ∧ (∀ a, B = some a → w.heap.size ≤ a.block) ∧ Kept w w' := by
  have HR := Lib.hid hr
  have HN := Lib.hid hn
  have HY := Lib.hid hy
  have HM := Lib.hid hm
  clear hr hn hy hm
  obtain ⟨i0, hi, hz0, hz1, hz2⟩ := info_parts infoCfG
  obtain ⟨g0, hg⟩ : ∃ g0, w.heap.size = g0 := ⟨_, rfl⟩
  go_enter Tryd.func26, Tryd.ntmps26
  go_wp2
  go_loopw [4, 9] (fun ov i wr => ∃ k : Nat, k ≤ len ∧ i = .int .i64 k ∧ wr.ownsRow g0 23 7 ov (partsC (l.take k) 210).length ((partsC (l.take k) 210).flatMap cfs) ∧ Kept w wr) (fun _ i _ => len - (intOf i).toNat)
  case atStart => exact ⟨0, Nat.zero_le _, rfl, World.ownsRow_nil _ _ _ _, Kept.refl _⟩
  case round =>
    obtain ⟨k, hk, rfl, own, kw⟩ := hrel
    have hK := gparts_take_len l 210 k
    have OW := Lib.hid own
    clear own
    by_cases hlt : k < len
    · have hltI : (k : Int) < (len : Int) := by omega
      have hlt' : k < l.length := by have := HN.out; omega
      have NXT := Lib.hid (gparts_take l 210 hlt')
      obtain ⟨b, off, rfl, hc⟩ := (HR.out.kept kw) (by omega)
      obtain ⟨c0, c1, c2, c3, c4, c5, c6⟩ := RowC.cells hc hlt'
      clear hc
      obtain ⟨xsg, xmx, xfi, xgn, xls, xgt, xbu, ek⟩ : ∃ xsg xmx xfi xgn xls xgt xbu : Int, cf0 l k = ⟨xsg, xmx, xfi, xgn, xls, xgt, xbu⟩ := ⟨_, _, _, _, _, _, _, rfl⟩
      rw [ek] at c0 c1 c2 c3 c4 c5 c6
      dsimp only at c0 c1 c2 c3 c4 c5 c6
      rw [ek] at NXT
      have CK := Lib.hid (fun w => gcheck (c := (⟨xsg, xmx, xfi, xgn, xls, xgt, xbu⟩ : Cf)) (n := cfgE (⟨xsg, xmx, xfi, xgn, xls, xgt, xbu⟩ : Cf)) rfl w)
      generalize partsC (l.take k) 210 = KK at *
      have cev := Lib.hid (cfgE_vals (⟨xsg, xmx, xfi, xgn, xls, xgt, xbu⟩ : Cf))
      generalize cfgE (⟨xsg, xmx, xfi, xgn, xls, xgt, xbu⟩ : Cf) = ce at *
      go_upto_region 5 with fail
      generalize hW : World.alloc wr (.cells #[.int .i64 xsg, .int .i64 xmx, .int .i64 xfi, .int .i64 xgn, .int .i64 xls, .int .i64 xgt, .int .i64 xbu] 23) = W_c
      have K_c : Kept wr W_c := by subst hW; exact (Kept.refl _).alloc _ _
      have H_c := Lib.hid (show W_c.cell? ⟨wr.heap.size, 0, none⟩ = some (.int .i64 xsg) ∧ W_c.cell? ⟨wr.heap.size, 1, none⟩ = some (.int .i64 xmx) ∧ W_c.cell? ⟨wr.heap.size, 2, none⟩ = some (.int .i64 xfi) ∧ W_c.cell? ⟨wr.heap.size, 3, none⟩ = some (.int .i64 xgn) ∧ W_c.cell? ⟨wr.heap.size, 4, none⟩ = some (.int .i64 xls) ∧ W_c.cell? ⟨wr.heap.size, 5, none⟩ = some (.int .i64 xgt) ∧ W_c.cell? ⟨wr.heap.size, 6, none⟩ = some (.int .i64 xbu) from by subst hW; simp [go_sem])
      clear hW
      generalize wr.heap.size = g_c at *
      clear c0 c1 c2 c3 c4 c5 c6
      have kwc := Kept.trans kw K_c
      obtain ⟨d0, d1, d2, d3, d4, d5, d6⟩ := Kept.alln7 (Kept.refl _) H_c
      go_wp2_with fail
      refine (CK.out _).mono ?_
      rintro e w1 ⟨rfl, k1⟩
      clear d0 d1 d2 d3 d4 d5 d6
      have kwn1 := Kept.trans kwc k1
      by_cases he : ce = 210
      · have e0 : (ce == 0) = false := by simp [he]
        obtain ⟨d0, d1, d2, d3, d4, d5, d6⟩ := Kept.alln7 k1 H_c
        go_wp2_with (at_builtin; refine wpList_append_kept rfl _ _ 26 rfl w g0 hg 23 i0 (.agg #[.int .i64 0, .int .i64 0, .int .i64 0, .int .i64 0, .int .i64 0, .int .i64 0, .int .i64 0]) 7 56 Tryd.underlying26 hi hz0 hz1 hz2 rfl (by decide) _ _ _ rfl (World.ownsRow.alloc (own_kept OW.out (Kept.trans K_c k1)) _) (Kept.alloc kwn1 _ _) ⟨_, 0, none⟩ 1 1 [.int .i64 xsg, .int .i64 xmx, .int .i64 xfi, .int .i64 xgn, .int .i64 xls, .int .i64 xgt, .int .i64 xbu] rfl rfl (cells_seven_own _ _ _ _ _ _ _ _ _) (by intro u hu; simp at hu; rcases hu with rfl | rfl | rfl | rfl | rfl | rfl | rfl <;> rfl) (by decide) (by unfold maxLen; omega) (by omega) ?_)
        intro v' w3 own3 k3 g3 z3 o3
        have OW3 := Lib.hid (show w3.ownsRow g0 23 7 v' (partsC (l.take (k + 1)) 210).length ((partsC (l.take (k + 1)) 210).flatMap cfs) from by
          rw [NXT.out, if_pos he, List.length_append, flat_one]
          exact own3)
        clear own3 g3 z3 o3 d0 d1 d2 d3 d4 d5 d6
        go_wp2
        go_roundw
        case rel => exact ⟨k + 1, by omega, by go_num, OW3.out, k3⟩
        case measure => simp [intOf]; omega
      · have e0 : (ce == 0) = true := by have := cev.out; simp; omega
        have OW2 := Lib.hid (show w1.ownsRow g0 23 7 _ (partsC (l.take (k + 1)) 210).length ((partsC (l.take (k + 1)) 210).flatMap cfs) from by
          rw [NXT.out, if_neg he]
          exact own_kept OW.out (Kept.trans K_c k1))
        go_wp2
        go_roundw
        case rel => exact ⟨k + 1, by omega, by go_num, OW2.out, kwn1⟩
        case measure => simp [intOf]; omega
    · obtain rfl : k = len := by omega
      have OWE := Lib.hid (show wr.ownsRow g0 23 7 _ n (ys.flatMap cfs) from by
        have h := OW.out
        rw [gparts_all 210 HN.out, HY.out, HM.out] at h
        exact h)
      obtain ⟨B, c, rfl, sok, hrow, hnew⟩ := own_rowC HM.out OWE.out
      clear OW OWE
      go_wp2
      go_ret
      exact ⟨B, c, rfl, sok, hrow, fun a ha => by have := (hnew a ha).1; omega, kw⟩
set_option maxRecDepth 100000 in
set_option maxHeartbeats 1600000 in
theorem gparts {A : Option Addr} {len cap n m : Nat} {l yes no : List Cf} (hn : l.length = len) (hl : len ≤ 1099511627776) (hy : partsC l 0 = yes) (hz : partsC l 210 = no) (h1 : yes.length = n) (h2 : no.length = m) (w : World) (hr : RowC w A l) : Calls Tryd.prog 10 #[.slice A len cap] w fun e w' => ∃ (B1 : Option Addr) (c1 : Nat) (B2 : Option Addr) (c2 : Nat), e = .returned (.tuple #[.slice B1 n c1, .slice B2 m c2]) ∧ SliceOk B1 n c1 ∧ SliceOk B2 m c2 ∧ RowC w' B1 yes ∧ RowC w' B2 no ∧ (∀ a, B1 = some a → w.heap.size ≤ a.block) ∧ (∀ a, B2 = some a → w.heap.size ≤ a.block) ∧ Kept w w' := by
  have HR := Lib.hid hr
  clear hr
  go_enter Tryd.func10, Tryd.ntmps10
  go_upto_region 2 with fail
  generalize hW : World.alloc w (.cells #[.slice A len cap] 26) = W_l
  have K_l : Kept w W_l := by subst hW; exact (Kept.refl _).alloc _ _
  have H_l := Lib.hid (show W_l.cell? ⟨w.heap.size, 0, none⟩ = some (.slice A len cap) from by subst hW; simp [go_sem])
  clear hW
  generalize w.heap.size = g_l at *
  have s0 := K_l.2.size
  go_wp2_with fail
  refine (gpart_true hn hl hy h1 W_l (HR.out.kept K_l) H_l.out).mono ?_
  rintro e w1 ⟨B1, c1, rfl, s1, r1, n1, k1⟩
  have s2 := k1.2.size
  have R1 := Lib.hid r1
  have N1 := Lib.hid n1
  clear r1 n1
  go_wp2_with fail
  refine (gpart_false hn hl hz h2 w1 (HR.out.kept (Kept.trans K_l k1)) (k1.read H_l.out)).mono ?_
  rintro e w2 ⟨B2, c2, rfl, s3, r2, n2, k2⟩
  have R2 := Lib.hid r2
  have N2 := Lib.hid n2
  clear r2 n2
  go_wp2
  go_ret2
  exact ⟨B1, c1, B2, c2, rfl, s1, s3, R1.out.kept k2, R2.out, fun a h => by have := N1.out a h; omega, fun a h => by have := N2.out a h; omega, Kept.trans K_l (Kept.trans k1 k2)⟩
theorem gparts_c : GdPartsC := fun _ _ _ _ _ _ _ _ _ hn hl _ hy hz h1 h2 w hr => gparts hn hl hy hz h1 h2 w hr
end Go.Proofs.YtdbikeehoildlaaDoor
