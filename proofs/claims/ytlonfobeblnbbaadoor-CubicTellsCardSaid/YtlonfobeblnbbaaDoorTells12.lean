/-
  The walk of CubicTells: it answers true, if the calls do what they are to do.
-/
import Derived.Test.YtlonfobeblnbbaaDoorAwake12
import Derived.Test.YtlonfobeblnbbaaDoorRefR12
import Derived.Deep.RegionHeld3
import Derived.Deep.DeepCutAuto
namespace Go.Proofs.YtlonfobeblnbbaaDoor
open Go.RowKit Go.BigFrame
set_option linter.unusedVariables false

set_option maxRecDepth 100000 in
set_option maxHeartbeats 1600000 in
theorem tells12_any (CC : ECheckC) (BC : EBeginC) (SC : EShiftC) (RC : URiseC) (AC : UAtC) (TC : UTargetC) (XC : UReachC) (on b : Bool) (s f m k es d now x n r a g : Int) (w : World) (T_ : Tens w) (X1 : ∀ w, Tens w → Calls Tryd.prog 11 #[.agg #[.bool on, .int .i64 s, .int .i64 f, .int .i64 m, .int .i64 k, .int .i64 es], .int .i64 x] w fun e w' => e = .returned (.tuple #[.int .i64 n, .bool b]) ∧ Kept w w') (X2 : ∀ w, Calls Tryd.prog 12 #[.agg #[.bool on, .int .i64 s, .int .i64 f, .int .i64 m, .int .i64 k, .int .i64 es], .int .i64 x] w fun e w' => e = .returned (.tuple #[.int .i64 n, .bool b]) ∧ Kept w w') (R1 : ∀ w, Calls Tryd.prog 13 #[.int .i64 d] w fun e w' => e = .returned (.int .i64 r) ∧ Kept w w') (R2 : ∀ w, Calls Tryd.prog 14 #[.int .i64 d] w fun e w' => e = .returned (.int .i64 r) ∧ Kept w w') (A1 : ∀ w, Tens w → Calls Tryd.prog 15 #[.agg #[.bool on, .int .i64 s, .int .i64 f, .int .i64 m, .int .i64 k, .int .i64 es], .int .i64 now] w fun e w' => e = .returned (.int .i64 a) ∧ Kept w w') (A2 : ∀ w, Calls Tryd.prog 16 #[.agg #[.bool on, .int .i64 s, .int .i64 f, .int .i64 m, .int .i64 k, .int .i64 es], .int .i64 now] w fun e w' => e = .returned (.int .i64 a) ∧ Kept w w') (T1 : ∀ w, Tens w → Calls Tryd.prog 17 #[.agg #[.bool on, .int .i64 s, .int .i64 f, .int .i64 m, .int .i64 k, .int .i64 es], .int .i64 now, .int .i64 x] w fun e w' => e = .returned (.int .i64 g) ∧ Kept w w') (T2 : ∀ w, Calls Tryd.prog 18 #[.agg #[.bool on, .int .i64 s, .int .i64 f, .int .i64 m, .int .i64 k, .int .i64 es], .int .i64 now, .int .i64 x] w fun e w' => e = .returned (.int .i64 g) ∧ Kept w w') : Calls Tryd.prog 3 #[.agg #[.bool on, .int .i64 s, .int .i64 f, .int .i64 m, .int .i64 k, .int .i64 es], .int .i64 d, .int .i64 now, .int .i64 x] w fun e w' => e = .returned (.bool true) ∧ Kept w w' := by
  have CC' := Lib.hid CC
  have BC' := Lib.hid BC
  have SC' := Lib.hid SC
  have RC' := Lib.hid RC
  have AC' := Lib.hid AC
  have TC' := Lib.hid TC
  have XC' := Lib.hid XC
  have AW' := Lib.hid (fun w TT_ => awake12 CC BC SC RC AC TC XC w TT_)
  clear CC BC SC RC AC TC XC
  have T := Lib.hid T_
  clear T_
  have X1' := Lib.hid X1
  have X2' := Lib.hid X2
  have R1' := Lib.hid R1
  have R2' := Lib.hid R2
  have A1' := Lib.hid A1
  have A2' := Lib.hid A2
  have T1' := Lib.hid T1
  have T2' := Lib.hid T2
  clear X1 X2 R1 R2 A1 A2 T1 T2
  go_enter Tryd.func3, Tryd.ntmps3
  go_upto_region 1 with fail
  generalize hW : World.alloc w (.cells #[.bool on, .int .i64 s, .int .i64 f, .int .i64 m, .int .i64 k, .int .i64 es] 23) = We
  have KWe : Kept w We := by subst hW; exact (Kept.refl _).alloc _ _
  have RWe := Lib.hid (show RE We w.heap.size (⟨on, s, f, m, k, es⟩ : Ep) from by subst hW; exact re_new w (⟨on, s, f, m, k, es⟩ : Ep) _)
  have LWe : w.heap.size < We.heap.size := by subst hW; simp
  clear hW
  generalize hgWe : w.heap.size = gWe at *
  clear LWe
  have kz1 := KWe
  go_wp2_with fail
  refine (AW'.out _ (Tens.kept T.out (by (repeat (first | with_reducible exact Kept.refl _ | with_reducible apply Kept.drew | with_reducible apply Kept.alloc | ((with_reducible apply Kept.set); focus (simp <;> omega)) | ((with_reducible apply Kept.via); focus with_reducible assumption)))))).mono ?_
  rintro e w2 ⟨rfl, k2⟩
  have Re2 := Lib.hid (RWe.out.kept k2)
  clear RWe
  have kz2 := Kept.trans kz1 k2
  clear kz1 k2
  obtain ⟨ce0, ce1, ce2, ce3, ce4, ce5⟩ := (Re2.out).1
  go_wp2_with fail
  refine (X1'.out _ (Tens.kept T.out (by (repeat (first | with_reducible exact Kept.refl _ | with_reducible apply Kept.drew | with_reducible apply Kept.alloc | ((with_reducible apply Kept.set); focus (simp <;> omega)) | ((with_reducible apply Kept.via); focus with_reducible assumption)))))).mono ?_
  rintro e w3 ⟨rfl, k3⟩
  clear ce0 ce1 ce2 ce3 ce4 ce5
  have Re3 := Lib.hid (Re2.out.kept k3)
  clear Re2
  have kz3 := Kept.trans kz2 k3
  clear kz2 k3
  obtain ⟨ce0, ce1, ce2, ce3, ce4, ce5⟩ := (Re3.out).1
  go_wp2_with fail
  refine (X2'.out _).mono ?_
  rintro e w4 ⟨rfl, k4⟩
  clear ce0 ce1 ce2 ce3 ce4 ce5
  have Re4 := Lib.hid (Re3.out.kept k4)
  clear Re3
  have kz4 := Kept.trans kz3 k4
  clear kz3 k4
  go_upto_region 4 with fail
  have H_e := Lib.hid (show w4.cell? ⟨gWe, 0, none⟩ = some (.bool on) ∧ w4.cell? ⟨gWe, 1, none⟩ = some (.int .i64 s) ∧ w4.cell? ⟨gWe, 2, none⟩ = some (.int .i64 f) ∧ w4.cell? ⟨gWe, 3, none⟩ = some (.int .i64 m) ∧ w4.cell? ⟨gWe, 4, none⟩ = some (.int .i64 k) ∧ w4.cell? ⟨gWe, 5, none⟩ = some (.int .i64 es) from (Re4.out).1)
  have TQ := Lib.hid (show Tens w4 from Tens.kept T.out (by (repeat (first | with_reducible exact Kept.refl _ | with_reducible apply Kept.drew | with_reducible apply Kept.alloc | ((with_reducible apply Kept.set); focus (simp <;> omega)) | ((with_reducible apply Kept.via); focus with_reducible assumption)))))
  have B_e := Lib.hid (Kept.alln6 (show Kept w4 w4 from (by (repeat (first | with_reducible exact Kept.refl _ | with_reducible apply Kept.drew | with_reducible apply Kept.alloc | ((with_reducible apply Kept.set); focus (simp <;> omega)) | ((with_reducible apply Kept.via); focus with_reducible assumption))))) H_e)
  have kall : Kept w w4 := (by (repeat (first | with_reducible exact Kept.refl _ | with_reducible apply Kept.drew | with_reducible apply Kept.alloc | ((with_reducible apply Kept.set); focus (simp <;> omega)) | ((with_reducible apply Kept.via); focus with_reducible assumption))))
  obtain ⟨q_e0, q_e1, q_e2, q_e3, q_e4, q_e5⟩ := kwn6 B_e
  clear B_e
  refine wp_region_kept (by kernel_rfl) (by as_aux_lemma => kernel_rfl) ?_
  repeat (go_big_quiet_step (first | (with_reducible exact kept_of (R1'.out _)) | (with_reducible exact kept_of (R2'.out _)) | (with_reducible exact kept_of (A1'.out _ (Tens.kept TQ.out (KW.k _)))) | (with_reducible exact kept_of (A2'.out _)) | (with_reducible exact kept_of (T1'.out _ (Tens.kept TQ.out (KW.k _)))) | (with_reducible exact kept_of (T2'.out _))))
  refine wpQuiet_nil ?_
  intro wq hw'
  have kq : Kept w4 wq := by obtain ⟨p, rfl⟩ := hw'; exact p.k
  clear hw'
  clear kall
  have kq2 := Kept.trans kz4 kq
  go_wp2
  go_ret
  exact ⟨rfl, kq2⟩
theorem cubicTells_walk (CC : ECheckC) (BC : EBeginC) (SC : EShiftC) (RC : URiseC) (AC : UAtC) (TC : UTargetC) (XC : UReachC) (on : Bool) (s f m k es d now x : Int) (w : World) (T_ : Tens w) (hi : In64E ⟨on, s, f, m, k, es⟩) (hd : In64 d) (hnow : In64 now) (hx : In64 x) : Calls Tryd.prog 3 #[.agg #[.bool on, .int .i64 s, .int .i64 f, .int .i64 m, .int .i64 k, .int .i64 es], .int .i64 d, .int .i64 now, .int .i64 x] w fun e w' => e = .returned (.bool true) ∧ Kept w w' := by
  obtain ⟨n, b, e⟩ := reach_ex ⟨on, s, f, m, k, es⟩ x
  exact tells12_any CC BC SC RC AC TC XC on b s f m k es d now x n (riseN d) (atN ⟨on, s, f, m, k, es⟩ now) (targetN ⟨on, s, f, m, k, es⟩ now x) w T_ (fun w TT_ => XC ⟨on, s, f, m, k, es⟩ x n b hi hx e w TT_) (fun w => refReach_ok hi e w) (fun w => RC d _ hd rfl w) (fun w => refRise_ok rfl w) (fun w TT_ => AC ⟨on, s, f, m, k, es⟩ now _ hi hnow rfl w TT_) (fun w => refAt_ok hi hnow rfl w) (fun w TT_ => TC ⟨on, s, f, m, k, es⟩ now x _ hi hnow hx rfl w TT_) (fun w => refTarget_ok hi hnow hx rfl w)
end Go.Proofs.YtlonfobeblnbbaaDoor
