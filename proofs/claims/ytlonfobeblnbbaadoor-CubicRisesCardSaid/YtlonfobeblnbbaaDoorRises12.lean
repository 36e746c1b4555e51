/-
  The walk of CubicRises: it answers true, if the calls do what they are to do.
-/
import Derived.Test.YtlonfobeblnbbaaDoorAwake12
import Derived.Deep.RegionHeld3
import Derived.Deep.DeepCutAuto
namespace Go.Proofs.YtlonfobeblnbbaaDoor
open Go.RowKit Go.BigFrame
set_option linter.unusedVariables false

set_option maxRecDepth 100000 in
set_option maxHeartbeats 1600000 in
theorem rises12 (CC : ECheckC) (BC : EBeginC) (SC : EShiftC) (RC : URiseC) (AC : UAtC) (TC : UTargetC) (XC : UReachC) {on : Bool} {s f m k es : Int} {a b lo hgh rl rh al ah aa : Int} (hi : In64E (⟨on, s, f, m, k, es⟩ : Ep)) (ha : In64 a) (hl : In64 lo) (hh : In64 hgh) (e1 : (if b < a then b else a) = lo) (e2 : (if a < b then b else a) = hgh) (e3 : riseN lo = rl) (e4 : riseN hgh = rh) (e5 : atN (⟨on, s, f, m, k, es⟩ : Ep) lo = al) (e6 : atN (⟨on, s, f, m, k, es⟩ : Ep) hgh = ah) (e7 : atN (⟨on, s, f, m, k, es⟩ : Ep) a = aa) (o0 : rl ≤ rh) (o1 : al ≤ ah) (o2 : 0 ≤ aa) (o3 : aa ≤ 68719476736) (w : World) (T_ : Tens w) : Calls Tryd.prog 5 #[.agg #[.bool on, .int .i64 s, .int .i64 f, .int .i64 m, .int .i64 k, .int .i64 es], .int .i64 a, .int .i64 b] w fun e w' => e = .returned (.bool true) ∧ Kept w w' := by
  have CC' := Lib.hid CC
  have BC' := Lib.hid BC
  have SC' := Lib.hid SC
  have RC' := Lib.hid RC
  have AC' := Lib.hid AC
  have TC' := Lib.hid TC
  have XC' := Lib.hid XC
  have AW' := Lib.hid (fun w TT_ => awake12 CC BC SC RC AC TC XC w TT_)
  clear CC BC SC RC AC TC XC
  have T := Lib.hid T_
  clear T_
  have QL := Lib.hid (fun w => RC'.out lo rl hl e3 w)
  have QH := Lib.hid (fun w => RC'.out hgh rh hh e4 w)
  have QAL := Lib.hid (fun w TT_ => AC'.out (⟨on, s, f, m, k, es⟩ : Ep) lo al hi hl e5 w TT_)
  have QAH := Lib.hid (fun w TT_ => AC'.out (⟨on, s, f, m, k, es⟩ : Ep) hgh ah hi hh e6 w TT_)
  have QA := Lib.hid (fun w TT_ => AC'.out (⟨on, s, f, m, k, es⟩ : Ep) a aa hi ha e7 w TT_)
  have d0 : decide (rl ≤ rh) = true := by simp [o0]
  have d1 : decide (al ≤ ah) = true := by simp [o1]
  have d2 : decide (0 ≤ aa) = true := by simp [o2]
  have d3 : decide (aa ≤ 68719476736) = true := by simp [o3]
  clear e3 e4 e5 e6 e7 o0 o1 o2 o3 hi ha hl hh
  go_enter Tryd.func5, Tryd.ntmps5
  go_upto_region 1 with fail
  generalize hW : World.alloc w (.cells #[.bool on, .int .i64 s, .int .i64 f, .int .i64 m, .int .i64 k, .int .i64 es] 23) = We
  have KWe : Kept w We := by subst hW; exact (Kept.refl _).alloc _ _
  have RWe := Lib.hid (show RE We w.heap.size (⟨on, s, f, m, k, es⟩ : Ep) from by subst hW; exact re_new w (⟨on, s, f, m, k, es⟩ : Ep) _)
  have LWe : w.heap.size < We.heap.size := by subst hW; simp
  clear hW
  generalize hgWe : w.heap.size = gWe at *
  clear LWe
  have kz1 := KWe
  go_wp2_with fail
  refine (AW'.out _ (Tens.kept T.out (by (repeat (first | with_reducible exact Kept.refl _ | with_reducible apply Kept.drew | with_reducible apply Kept.alloc | ((with_reducible apply Kept.set); focus (simp <;> omega)) | ((with_reducible apply Kept.via); focus with_reducible assumption)))))).mono ?_
  rintro e w2 ⟨rfl, k2⟩
  have Re2 := Lib.hid (RWe.out.kept k2)
  clear RWe
  have kz2 := Kept.trans kz1 k2
  clear kz1 k2
  go_upto_region 4 with fail
  have H_e := Lib.hid (show w2.cell? ⟨gWe, 0, none⟩ = some (.bool on) ∧ w2.cell? ⟨gWe, 1, none⟩ = some (.int .i64 s) ∧ w2.cell? ⟨gWe, 2, none⟩ = some (.int .i64 f) ∧ w2.cell? ⟨gWe, 3, none⟩ = some (.int .i64 m) ∧ w2.cell? ⟨gWe, 4, none⟩ = some (.int .i64 k) ∧ w2.cell? ⟨gWe, 5, none⟩ = some (.int .i64 es) from (Re2.out).1)
  have TQ := Lib.hid (show Tens w2 from Tens.kept T.out (by (repeat (first | with_reducible exact Kept.refl _ | with_reducible apply Kept.drew | with_reducible apply Kept.alloc | ((with_reducible apply Kept.set); focus (simp <;> omega)) | ((with_reducible apply Kept.via); focus with_reducible assumption)))))
  have B_e := Lib.hid (Kept.alln6 (show Kept w2 w2 from (by (repeat (first | with_reducible exact Kept.refl _ | with_reducible apply Kept.drew | with_reducible apply Kept.alloc | ((with_reducible apply Kept.set); focus (simp <;> omega)) | ((with_reducible apply Kept.via); focus with_reducible assumption))))) H_e)
  have kall : Kept w w2 := (by (repeat (first | with_reducible exact Kept.refl _ | with_reducible apply Kept.drew | with_reducible apply Kept.alloc | ((with_reducible apply Kept.set); focus (simp <;> omega)) | ((with_reducible apply Kept.via); focus with_reducible assumption))))
  obtain ⟨q_e0, q_e1, q_e2, q_e3, q_e4, q_e5⟩ := kwn6 B_e
  clear B_e
  refine wp_region_kept (by kernel_rfl) (by as_aux_lemma => kernel_rfl) ?_
  repeat (go_big_quiet_step (first | (with_reducible exact kept_of (QL.out _)) | (with_reducible exact kept_of (QH.out _)) | (with_reducible exact kept_of (QAL.out _ (Tens.kept TQ.out (KW.k _)))) | (with_reducible exact kept_of (QAH.out _ (Tens.kept TQ.out (KW.k _)))) | (with_reducible exact kept_of (QA.out _ (Tens.kept TQ.out (KW.k _))))))
  refine wpQuiet_nil ?_
  intro wq hw'
  have kq : Kept w2 wq := by obtain ⟨p, rfl⟩ := hw'; exact p.k
  clear hw'
  clear kall
  have kq2 := Kept.trans kz2 kq
  go_wp2
  go_ret
  exact ⟨rfl, kq2⟩
theorem cubicRises_walk (CC : ECheckC) (BC : EBeginC) (SC : EShiftC) (RC : URiseC) (AC : UAtC) (TC : UTargetC) (XC : UReachC) (on : Bool) (s f m k es a b : Int) (w : World) (T_ : Tens w) (hi : In64E ⟨on, s, f, m, k, es⟩) (ha : In64 a) (hb : In64 b) : Calls Tryd.prog 5 #[.agg #[.bool on, .int .i64 s, .int .i64 f, .int .i64 m, .int .i64 k, .int .i64 es], .int .i64 a, .int .i64 b] w fun e w' => e = .returned (.bool true) ∧ Kept w w' := by
  have o : (if b < a then b else a) ≤ (if a < b then b else a) := by split <;> split <;> omega
  exact rises12 CC BC SC RC AC TC XC hi ha (by split <;> assumption) (by split <;> assumption) rfl rfl rfl rfl rfl rfl rfl (rise_mono o) (atN_mono _ o) (atN_range _ _).1 (atN_range _ _).2 w T_
end Go.Proofs.YtlonfobeblnbbaaDoor
