/-
  The walk of EpochTells: it answers true, if the calls do what they are to do.
-/
import Derived.Test.YtjdccfaifdokpaaDoorAwake11
import Derived.Test.YtjdccfaifdokpaaDoorRef11
import Derived.Deep.RegionHeld3
import Derived.Deep.DeepCutAuto
namespace Go.Proofs.YtjdccfaifdokpaaDoor
open Go.RowKit Go.BigFrame
set_option linter.unusedVariables false

set_option maxRecDepth 100000 in
set_option maxHeartbeats 6400000 in
theorem tells11_any (CC : ECheckC) (KC_ : EKC) (FC : EFastC) (BC : EBeginC) (SC : EShiftC) (on v xo yo : Bool) (s f m k es a b c er n z xs xf xm xk xe ys yf ym yk ye : Int) (w : World) (T_ : Tens w) (B1 : ∀ w, Tens w → Calls Tryd.prog 11 #[.int .i64 a, .int .i64 b, .int .i64 c] w fun e w' => e = .returned (.tuple #[.agg #[.bool xo, .int .i64 xs, .int .i64 xf, .int .i64 xm, .int .i64 xk, .int .i64 xe], .int .i64 er]) ∧ Kept w w') (B2 : ∀ w, Calls Tryd.prog 12 #[.int .i64 a, .int .i64 b, .int .i64 c] w fun e w' => e = .returned (.tuple #[.agg #[.bool xo, .int .i64 xs, .int .i64 xf, .int .i64 xm, .int .i64 xk, .int .i64 xe], .int .i64 er]) ∧ Kept w w') (K1 : ∀ w, Tens w → Calls Tryd.prog 13 #[.int .i64 a] w fun e w' => e = .returned (.int .i64 n) ∧ Kept w w') (K2 : ∀ w, Calls Tryd.prog 14 #[.int .i64 a] w fun e w' => e = .returned (.int .i64 n) ∧ Kept w w') (F1 : ∀ w, Calls Tryd.prog 15 #[.int .i64 a, .int .i64 b] w fun e w' => e = .returned (.int .i64 z) ∧ Kept w w') (F2 : ∀ w, Calls Tryd.prog 16 #[.int .i64 a, .int .i64 b] w fun e w' => e = .returned (.int .i64 z) ∧ Kept w w') (C1 : ∀ w, Tens w → Calls Tryd.prog 17 #[.agg #[.bool on, .int .i64 s, .int .i64 f, .int .i64 m, .int .i64 k, .int .i64 es]] w fun e w' => e = .returned (.bool v) ∧ Kept w w') (C2 : ∀ w, Calls Tryd.prog 18 #[.agg #[.bool on, .int .i64 s, .int .i64 f, .int .i64 m, .int .i64 k, .int .i64 es]] w fun e w' => e = .returned (.bool v) ∧ Kept w w') (S1 : ∀ w, Calls Tryd.prog 19 #[.agg #[.bool on, .int .i64 s, .int .i64 f, .int .i64 m, .int .i64 k, .int .i64 es], .int .i64 a] w fun e w' => e = .returned (.agg #[.bool yo, .int .i64 ys, .int .i64 yf, .int .i64 ym, .int .i64 yk, .int .i64 ye]) ∧ Kept w w') (S2 : ∀ w, Calls Tryd.prog 20 #[.agg #[.bool on, .int .i64 s, .int .i64 f, .int .i64 m, .int .i64 k, .int .i64 es], .int .i64 a] w fun e w' => e = .returned (.agg #[.bool yo, .int .i64 ys, .int .i64 yf, .int .i64 ym, .int .i64 yk, .int .i64 ye]) ∧ Kept w w') : Calls Tryd.prog 3 #[.agg #[.bool on, .int .i64 s, .int .i64 f, .int .i64 m, .int .i64 k, .int .i64 es], .int .i64 a, .int .i64 b, .int .i64 c] w fun e w' => e = .returned (.bool true) ∧ Kept w w' := by
  have CC' := Lib.hid CC
  have KC' := Lib.hid KC_
  have FC' := Lib.hid FC
  have BC' := Lib.hid BC
  have SC' := Lib.hid SC
  have AW' := Lib.hid (fun w TT_ => awake11 CC KC_ FC BC SC w TT_)
  clear CC KC_ FC BC SC
  have T := Lib.hid T_
  clear T_
  have B1' := Lib.hid B1
  have B2' := Lib.hid B2
  have K1' := Lib.hid K1
  have K2' := Lib.hid K2
  have F1' := Lib.hid F1
  have F2' := Lib.hid F2
  have C1' := Lib.hid C1
  have C2' := Lib.hid C2
  have S1' := Lib.hid S1
  have S2' := Lib.hid S2
  clear B1 B2 K1 K2 F1 F2 C1 C2 S1 S2
  go_enter Tryd.func3, Tryd.ntmps3
  go_upto_region 1 with fail
  generalize hW : World.alloc w (.cells #[.bool on, .int .i64 s, .int .i64 f, .int .i64 m, .int .i64 k, .int .i64 es] 23) = W_e
  have K_e : Kept w W_e := by subst hW; exact (Kept.refl _).alloc _ _
  have H_e := Lib.hid (show W_e.cell? ⟨w.heap.size, 0, none⟩ = some (.bool on) ∧ W_e.cell? ⟨w.heap.size, 1, none⟩ = some (.int .i64 s) ∧ W_e.cell? ⟨w.heap.size, 2, none⟩ = some (.int .i64 f) ∧ W_e.cell? ⟨w.heap.size, 3, none⟩ = some (.int .i64 m) ∧ W_e.cell? ⟨w.heap.size, 4, none⟩ = some (.int .i64 k) ∧ W_e.cell? ⟨w.heap.size, 5, none⟩ = some (.int .i64 es) from by subst hW; simp [go_sem])
  clear hW
  generalize w.heap.size = g_e at *
  go_wp2_with fail
  refine (AW'.out _ (Tens.kept T.out (by (repeat (first | with_reducible exact Kept.refl _ | with_reducible apply Kept.drew | with_reducible apply Kept.alloc | ((with_reducible apply Kept.set); focus (simp <;> omega)) | ((with_reducible apply Kept.via); focus with_reducible assumption)))))).mono ?_
  rintro e w21 ⟨rfl, k21⟩
  go_wp2_with fail
  refine (B1'.out _ (Tens.kept T.out (by (repeat (first | with_reducible exact Kept.refl _ | with_reducible apply Kept.drew | with_reducible apply Kept.alloc | ((with_reducible apply Kept.set); focus (simp <;> omega)) | ((with_reducible apply Kept.via); focus with_reducible assumption)))))).mono ?_
  rintro e w22 ⟨rfl, k22⟩
  go_upto_region 3 with fail
  generalize hW : World.alloc w22 (.cells #[.bool xo, .int .i64 xs, .int .i64 xf, .int .i64 xm, .int .i64 xk, .int .i64 xe] 23) = W_x
  have K_x : Kept w22 W_x := by subst hW; exact (Kept.refl _).alloc _ _
  have H_x := Lib.hid (show W_x.cell? ⟨w22.heap.size, 0, none⟩ = some (.bool xo) ∧ W_x.cell? ⟨w22.heap.size, 1, none⟩ = some (.int .i64 xs) ∧ W_x.cell? ⟨w22.heap.size, 2, none⟩ = some (.int .i64 xf) ∧ W_x.cell? ⟨w22.heap.size, 3, none⟩ = some (.int .i64 xm) ∧ W_x.cell? ⟨w22.heap.size, 4, none⟩ = some (.int .i64 xk) ∧ W_x.cell? ⟨w22.heap.size, 5, none⟩ = some (.int .i64 xe) from by subst hW; simp [go_sem])
  clear hW
  generalize w22.heap.size = g_x at *
  go_wp2_with fail
  refine (B2'.out _).mono ?_
  rintro e w23 ⟨rfl, k23⟩
  go_upto_region 4 with fail
  generalize hW : World.alloc w23 (.cells #[.bool xo, .int .i64 xs, .int .i64 xf, .int .i64 xm, .int .i64 xk, .int .i64 xe] 23) = W_y
  have K_y : Kept w23 W_y := by subst hW; exact (Kept.refl _).alloc _ _
  have H_y := Lib.hid (show W_y.cell? ⟨w23.heap.size, 0, none⟩ = some (.bool xo) ∧ W_y.cell? ⟨w23.heap.size, 1, none⟩ = some (.int .i64 xs) ∧ W_y.cell? ⟨w23.heap.size, 2, none⟩ = some (.int .i64 xf) ∧ W_y.cell? ⟨w23.heap.size, 3, none⟩ = some (.int .i64 xm) ∧ W_y.cell? ⟨w23.heap.size, 4, none⟩ = some (.int .i64 xk) ∧ W_y.cell? ⟨w23.heap.size, 5, none⟩ = some (.int .i64 xe) from by subst hW; simp [go_sem])
  clear hW
  generalize w23.heap.size = g_y at *
  have TQ := Lib.hid (show Tens W_y from Tens.kept T.out (by (repeat (first | with_reducible exact Kept.refl _ | with_reducible apply Kept.drew | with_reducible apply Kept.alloc | ((with_reducible apply Kept.set); focus (simp <;> omega)) | ((with_reducible apply Kept.via); focus with_reducible assumption)))))
  have B_e := Lib.hid (Kept.alln6 (show Kept W_e W_y from (by (repeat (first | with_reducible exact Kept.refl _ | with_reducible apply Kept.drew | with_reducible apply Kept.alloc | ((with_reducible apply Kept.set); focus (simp <;> omega)) | ((with_reducible apply Kept.via); focus with_reducible assumption))))) H_e)
  have B_x := Lib.hid (Kept.alln6 (show Kept W_x W_y from (by (repeat (first | with_reducible exact Kept.refl _ | with_reducible apply Kept.drew | with_reducible apply Kept.alloc | ((with_reducible apply Kept.set); focus (simp <;> omega)) | ((with_reducible apply Kept.via); focus with_reducible assumption))))) H_x)
  have B_y := Lib.hid (Kept.alln6 (show Kept W_y W_y from (by (repeat (first | with_reducible exact Kept.refl _ | with_reducible apply Kept.drew | with_reducible apply Kept.alloc | ((with_reducible apply Kept.set); focus (simp <;> omega)) | ((with_reducible apply Kept.via); focus with_reducible assumption))))) H_y)
  have kall : Kept w W_y := (by (repeat (first | with_reducible exact Kept.refl _ | with_reducible apply Kept.drew | with_reducible apply Kept.alloc | ((with_reducible apply Kept.set); focus (simp <;> omega)) | ((with_reducible apply Kept.via); focus with_reducible assumption))))
  obtain ⟨q_e0, q_e1, q_e2, q_e3, q_e4, q_e5⟩ := kwn6 B_e
  obtain ⟨q_x0, q_x1, q_x2, q_x3, q_x4, q_x5⟩ := kwn6 B_x
  obtain ⟨q_y0, q_y1, q_y2, q_y3, q_y4, q_y5⟩ := kwn6 B_y
  clear B_e B_x B_y
  refine wp_region_kept (by kernel_rfl) (by as_aux_lemma => kernel_rfl) ?_
  repeat (go_big_quiet_step (first | (with_reducible exact kept_of (K1'.out _ (Tens.kept TQ.out (KW.k _)))) | (with_reducible exact kept_of (K2'.out _)) | (with_reducible exact kept_of (F1'.out _)) | (with_reducible exact kept_of (F2'.out _)) | (with_reducible exact kept_of (C1'.out _ (Tens.kept TQ.out (KW.k _)))) | (with_reducible exact kept_of (C2'.out _)) | (with_reducible exact kept_of (S1'.out _)) | (with_reducible exact kept_of (S2'.out _))))
  refine wpQuiet_nil ?_
  intro wq hw'
  have kq : Kept W_y wq := by obtain ⟨p, rfl⟩ := hw'; exact p.k
  clear hw'
  clear kall
  have kz : Kept w W_y := Kept.trans (Kept.trans (Kept.trans (Kept.trans (Kept.trans K_e k21) k22) K_x) k23) K_y
  have kq2 := Kept.trans kz kq
  go_wp2
  go_ret
  exact ⟨rfl, kq2⟩
theorem epochTells_walk (CC : ECheckC) (KC_ : EKC) (FC : EFastC) (BC : EBeginC) (SC : EShiftC) (on : Bool) (s f m k es a b c : Int) (w : World) (T_ : Tens w) (hi : In64E ⟨on, s, f, m, k, es⟩) (ha : In64 a) (hb : In64 b) (hc : In64 c) : Calls Tryd.prog 3 #[.agg #[.bool on, .int .i64 s, .int .i64 f, .int .i64 m, .int .i64 k, .int .i64 es], .int .i64 a, .int .i64 b, .int .i64 c] w fun e w' => e = .returned (.bool true) ∧ Kept w w' := by
  obtain ⟨n, hn⟩ := k_ex a
  obtain ⟨⟨xo, xs, xf, xm, xk, xe⟩, er, hx⟩ := begin_ex a b c
  obtain ⟨yo, ys, yf, ym, yk, ye, hy⟩ : ∃ yo ys yf ym yk ye, shiftE ⟨on, s, f, m, k, es⟩ a = ⟨yo, ys, yf, ym, yk, ye⟩ := ⟨_, _, _, _, _, _, rfl⟩
  have hv : decide (MayE ⟨on, s, f, m, k, es⟩) = true ↔ MayE ⟨on, s, f, m, k, es⟩ := by simp
  exact tells11_any CC KC_ FC BC SC on (decide (MayE ⟨on, s, f, m, k, es⟩)) xo yo s f m k es a b c er n (fastN a b) xs xf xm xk xe ys yf ym yk ye w T_
    (fun w TT_ => BC a b c _ er ha hb hc hx w TT_) (fun w => refBegin_ok hx w) (fun w TT_ => KC_ a n ha hn w TT_) (fun w => refK_ok ha hn w) (fun w => FC a b _ ha hb rfl w) (fun w => refFast_ok ha hb rfl w)
    (fun w TT_ => CC ⟨on, s, f, m, k, es⟩ _ hi hv w TT_) (fun w => refCheck11_ok (h := ⟨on, s, f, m, k, es⟩) hv w) (fun w => SC ⟨on, s, f, m, k, es⟩ _ a hi ha hy w) (fun w => refShift_ok (h := ⟨on, s, f, m, k, es⟩) hi ha hy w)
end Go.Proofs.YtjdccfaifdokpaaDoor
