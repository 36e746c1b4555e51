/-
  The walk of CubicTarget: it answers true, if the calls do what they are to do.
-/
import Derived.Test.YtlonfobeblnbbaaDoorAwake12
import Derived.Deep.RegionHeld3
import Derived.Deep.DeepCutAuto
namespace Go.Proofs.YtlonfobeblnbbaaDoor
open Go.RowKit Go.BigFrame
set_option linter.unusedVariables false

set_option maxRecDepth 100000 in
set_option maxHeartbeats 1600000 in
theorem target12_no (CC : ECheckC) (BC : EBeginC) (SC : EShiftC) (RC : URiseC) (AC : UAtC) (TC : UTargetC) (XC : UReachC) {s f m k es now x law : Int} (hi : In64E (⟨true, s, f, m, k, es⟩ : Ep)) (hnow : In64 now) (x0 : 0 ≤ x) (x1 : x ≤ 4294967295) (e1 : targetN (⟨true, s, f, m, k, es⟩ : Ep) now x = x) (e2 : atN (⟨true, s, f, m, k, es⟩ : Ep) now = 0) (e3 : false = true ↔ MayE (⟨true, s, f, m, k, es⟩ : Ep))  (w : World) (T_ : Tens w) : Calls Tryd.prog 7 #[.agg #[.bool true, .int .i64 s, .int .i64 f, .int .i64 m, .int .i64 k, .int .i64 es], .int .i64 now, .int .u32 x] w fun e w' => e = .returned (.bool true) ∧ Kept w w' := by
  have CC' := Lib.hid CC
  have BC' := Lib.hid BC
  have SC' := Lib.hid SC
  have RC' := Lib.hid RC
  have AC' := Lib.hid AC
  have TC' := Lib.hid TC
  have XC' := Lib.hid XC
  have AW' := Lib.hid (fun w TT_ => awake12 CC BC SC RC AC TC XC w TT_)
  clear CC BC SC RC AC TC XC
  have T := Lib.hid T_
  clear T_
  have QT := Lib.hid (fun w_ TT_ => TC'.out (⟨true, s, f, m, k, es⟩ : Ep) now x x hi hnow (by unfold In64; omega) e1 w_ TT_)
  have QA := Lib.hid (fun w_ TT_ => AC'.out (⟨true, s, f, m, k, es⟩ : Ep) now 0 hi hnow e2 w_ TT_)
  have QC := Lib.hid (fun w_ TT_ => CC'.out (⟨true, s, f, m, k, es⟩ : Ep) false hi e3 w_ TT_)
  have hq : x.tdiv 2 = x / 2 := Int.tdiv_eq_ediv_of_nonneg x0
  clear e1 e2 e3 hi hnow
  have d0 : decide (x ≤ x + x / 2) = true := by simp; omega
  go_enter Tryd.func7, Tryd.ntmps7
  go_upto_region 1 with fail
  generalize hW : World.alloc w (.cells #[.bool true, .int .i64 s, .int .i64 f, .int .i64 m, .int .i64 k, .int .i64 es] 23) = We
  have KWe : Kept w We := by subst hW; exact (Kept.refl _).alloc _ _
  have RWe := Lib.hid (show RE We w.heap.size (⟨true, s, f, m, k, es⟩ : Ep) from by subst hW; exact re_new w (⟨true, s, f, m, k, es⟩ : Ep) _)
  have LWe : w.heap.size < We.heap.size := by subst hW; simp
  clear hW
  generalize hgWe : w.heap.size = gWe at *
  clear LWe
  have kz1 := KWe
  go_wp2_with fail
  refine (AW'.out _ (Tens.kept T.out (by (repeat (first | with_reducible exact Kept.refl _ | with_reducible apply Kept.drew | with_reducible apply Kept.alloc | ((with_reducible apply Kept.set); focus (simp <;> omega)) | ((with_reducible apply Kept.via); focus with_reducible assumption)))))).mono ?_
  rintro e w2 ⟨rfl, k2⟩
  have Re2 := Lib.hid (RWe.out.kept k2)
  clear RWe
  have kz2 := Kept.trans kz1 k2
  clear kz1 k2
  obtain ⟨ce0, ce1, ce2, ce3, ce4, ce5⟩ := (Re2.out).1
  go_wp2_with fail
  refine (QT.out _ (Tens.kept T.out (by (repeat (first | with_reducible exact Kept.refl _ | with_reducible apply Kept.drew | with_reducible apply Kept.alloc | ((with_reducible apply Kept.set); focus (simp <;> omega)) | ((with_reducible apply Kept.via); focus with_reducible assumption)))))).mono ?_
  rintro e w3 ⟨rfl, k3⟩
  clear ce0 ce1 ce2 ce3 ce4 ce5
  have Re3 := Lib.hid (Re2.out.kept k3)
  clear Re2
  have kz3 := Kept.trans kz2 k3
  clear kz2 k3
  obtain ⟨ce0, ce1, ce2, ce3, ce4, ce5⟩ := (Re3.out).1
  go_wp2_with fail
  refine (QA.out _ (Tens.kept T.out (by (repeat (first | with_reducible exact Kept.refl _ | with_reducible apply Kept.drew | with_reducible apply Kept.alloc | ((with_reducible apply Kept.set); focus (simp <;> omega)) | ((with_reducible apply Kept.via); focus with_reducible assumption)))))).mono ?_
  rintro e w4 ⟨rfl, k4⟩
  clear ce0 ce1 ce2 ce3 ce4 ce5
  have Re4 := Lib.hid (Re3.out.kept k4)
  clear Re3
  have kz4 := Kept.trans kz3 k4
  clear kz3 k4
  obtain ⟨ce0, ce1, ce2, ce3, ce4, ce5⟩ := (Re4.out).1
  go_wp2_with fail
  refine (QC.out _ (Tens.kept T.out (by (repeat (first | with_reducible exact Kept.refl _ | with_reducible apply Kept.drew | with_reducible apply Kept.alloc | ((with_reducible apply Kept.set); focus (simp <;> omega)) | ((with_reducible apply Kept.via); focus with_reducible assumption)))))).mono ?_
  rintro e w5 ⟨rfl, k5⟩
  clear ce0 ce1 ce2 ce3 ce4 ce5
  have Re5 := Lib.hid (Re4.out.kept k5)
  clear Re4
  have kz5 := Kept.trans kz4 k5
  clear kz4 k5
  obtain ⟨ce0, ce1, ce2, ce3, ce4, ce5⟩ := (Re5.out).1
  go_wp2
  go_ret
  exact ⟨rfl, kz5⟩
set_option maxRecDepth 100000 in
set_option maxHeartbeats 1600000 in
theorem target12_non (CC : ECheckC) (BC : EBeginC) (SC : EShiftC) (RC : URiseC) (AC : UAtC) (TC : UTargetC) (XC : UReachC) {s f m k es now x law : Int} (hi : In64E (⟨false, s, f, m, k, es⟩ : Ep)) (hnow : In64 now) (x0 : 0 ≤ x) (x1 : x ≤ 4294967295) (e1 : targetN (⟨false, s, f, m, k, es⟩ : Ep) now x = x) (e2 : atN (⟨false, s, f, m, k, es⟩ : Ep) now = 0) (e3 : false = true ↔ MayE (⟨false, s, f, m, k, es⟩ : Ep))  (w : World) (T_ : Tens w) : Calls Tryd.prog 7 #[.agg #[.bool false, .int .i64 s, .int .i64 f, .int .i64 m, .int .i64 k, .int .i64 es], .int .i64 now, .int .u32 x] w fun e w' => e = .returned (.bool true) ∧ Kept w w' := by
  have CC' := Lib.hid CC
  have BC' := Lib.hid BC
  have SC' := Lib.hid SC
  have RC' := Lib.hid RC
  have AC' := Lib.hid AC
  have TC' := Lib.hid TC
  have XC' := Lib.hid XC
  have AW' := Lib.hid (fun w TT_ => awake12 CC BC SC RC AC TC XC w TT_)
  clear CC BC SC RC AC TC XC
  have T := Lib.hid T_
  clear T_
  have QT := Lib.hid (fun w_ TT_ => TC'.out (⟨false, s, f, m, k, es⟩ : Ep) now x x hi hnow (by unfold In64; omega) e1 w_ TT_)
  have QA := Lib.hid (fun w_ TT_ => AC'.out (⟨false, s, f, m, k, es⟩ : Ep) now 0 hi hnow e2 w_ TT_)
  have QC := Lib.hid (fun w_ TT_ => CC'.out (⟨false, s, f, m, k, es⟩ : Ep) false hi e3 w_ TT_)
  have hq : x.tdiv 2 = x / 2 := Int.tdiv_eq_ediv_of_nonneg x0
  clear e1 e2 e3 hi hnow
  have d0 : decide (x ≤ x + x / 2) = true := by simp; omega
  go_enter Tryd.func7, Tryd.ntmps7
  go_upto_region 1 with fail
  generalize hW : World.alloc w (.cells #[.bool false, .int .i64 s, .int .i64 f, .int .i64 m, .int .i64 k, .int .i64 es] 23) = We
  have KWe : Kept w We := by subst hW; exact (Kept.refl _).alloc _ _
  have RWe := Lib.hid (show RE We w.heap.size (⟨false, s, f, m, k, es⟩ : Ep) from by subst hW; exact re_new w (⟨false, s, f, m, k, es⟩ : Ep) _)
  have LWe : w.heap.size < We.heap.size := by subst hW; simp
  clear hW
  generalize hgWe : w.heap.size = gWe at *
  clear LWe
  have kz1 := KWe
  go_wp2_with fail
  refine (AW'.out _ (Tens.kept T.out (by (repeat (first | with_reducible exact Kept.refl _ | with_reducible apply Kept.drew | with_reducible apply Kept.alloc | ((with_reducible apply Kept.set); focus (simp <;> omega)) | ((with_reducible apply Kept.via); focus with_reducible assumption)))))).mono ?_
  rintro e w2 ⟨rfl, k2⟩
  have Re2 := Lib.hid (RWe.out.kept k2)
  clear RWe
  have kz2 := Kept.trans kz1 k2
  clear kz1 k2
  obtain ⟨ce0, ce1, ce2, ce3, ce4, ce5⟩ := (Re2.out).1
  go_wp2_with fail
  refine (QT.out _ (Tens.kept T.out (by (repeat (first | with_reducible exact Kept.refl _ | with_reducible apply Kept.drew | with_reducible apply Kept.alloc | ((with_reducible apply Kept.set); focus (simp <;> omega)) | ((with_reducible apply Kept.via); focus with_reducible assumption)))))).mono ?_
  rintro e w3 ⟨rfl, k3⟩
  clear ce0 ce1 ce2 ce3 ce4 ce5
  have Re3 := Lib.hid (Re2.out.kept k3)
  clear Re2
  have kz3 := Kept.trans kz2 k3
  clear kz2 k3
  obtain ⟨ce0, ce1, ce2, ce3, ce4, ce5⟩ := (Re3.out).1
  go_wp2_with fail
  refine (QA.out _ (Tens.kept T.out (by (repeat (first | with_reducible exact Kept.refl _ | with_reducible apply Kept.drew | with_reducible apply Kept.alloc | ((with_reducible apply Kept.set); focus (simp <;> omega)) | ((with_reducible apply Kept.via); focus with_reducible assumption)))))).mono ?_
  rintro e w4 ⟨rfl, k4⟩
  clear ce0 ce1 ce2 ce3 ce4 ce5
  have Re4 := Lib.hid (Re3.out.kept k4)
  clear Re3
  have kz4 := Kept.trans kz3 k4
  clear kz3 k4
  obtain ⟨ce0, ce1, ce2, ce3, ce4, ce5⟩ := (Re4.out).1
  go_wp2_with fail
  refine (QC.out _ (Tens.kept T.out (by (repeat (first | with_reducible exact Kept.refl _ | with_reducible apply Kept.drew | with_reducible apply Kept.alloc | ((with_reducible apply Kept.set); focus (simp <;> omega)) | ((with_reducible apply Kept.via); focus with_reducible assumption)))))).mono ?_
  rintro e w5 ⟨rfl, k5⟩
  clear ce0 ce1 ce2 ce3 ce4 ce5
  have Re5 := Lib.hid (Re4.out.kept k5)
  clear Re4
  have kz5 := Kept.trans kz4 k5
  clear kz4 k5
  obtain ⟨ce0, ce1, ce2, ce3, ce4, ce5⟩ := (Re5.out).1
  go_wp2
  go_ret
  exact ⟨rfl, kz5⟩
set_option maxRecDepth 100000 in
set_option maxHeartbeats 1600000 in
theorem target12_off (CC : ECheckC) (BC : EBeginC) (SC : EShiftC) (RC : URiseC) (AC : UAtC) (TC : UTargetC) (XC : UReachC) {s f m k es now x law : Int} (hi : In64E (⟨false, s, f, m, k, es⟩ : Ep)) (hnow : In64 now) (x0 : 0 ≤ x) (x1 : x ≤ 4294967295) (e1 : targetN (⟨false, s, f, m, k, es⟩ : Ep) now x = x) (e2 : atN (⟨false, s, f, m, k, es⟩ : Ep) now = 0) (e3 : true = true ↔ MayE (⟨false, s, f, m, k, es⟩ : Ep))  (w : World) (T_ : Tens w) : Calls Tryd.prog 7 #[.agg #[.bool false, .int .i64 s, .int .i64 f, .int .i64 m, .int .i64 k, .int .i64 es], .int .i64 now, .int .u32 x] w fun e w' => e = .returned (.bool true) ∧ Kept w w' := by
  have CC' := Lib.hid CC
  have BC' := Lib.hid BC
  have SC' := Lib.hid SC
  have RC' := Lib.hid RC
  have AC' := Lib.hid AC
  have TC' := Lib.hid TC
  have XC' := Lib.hid XC
  have AW' := Lib.hid (fun w TT_ => awake12 CC BC SC RC AC TC XC w TT_)
  clear CC BC SC RC AC TC XC
  have T := Lib.hid T_
  clear T_
  have QT := Lib.hid (fun w_ TT_ => TC'.out (⟨false, s, f, m, k, es⟩ : Ep) now x x hi hnow (by unfold In64; omega) e1 w_ TT_)
  have QA := Lib.hid (fun w_ TT_ => AC'.out (⟨false, s, f, m, k, es⟩ : Ep) now 0 hi hnow e2 w_ TT_)
  have QC := Lib.hid (fun w_ TT_ => CC'.out (⟨false, s, f, m, k, es⟩ : Ep) true hi e3 w_ TT_)
  have hq : x.tdiv 2 = x / 2 := Int.tdiv_eq_ediv_of_nonneg x0
  clear e1 e2 e3 hi hnow
  have d0 : decide (x ≤ x + x / 2) = true := by simp; omega
  go_enter Tryd.func7, Tryd.ntmps7
  go_upto_region 1 with fail
  generalize hW : World.alloc w (.cells #[.bool false, .int .i64 s, .int .i64 f, .int .i64 m, .int .i64 k, .int .i64 es] 23) = We
  have KWe : Kept w We := by subst hW; exact (Kept.refl _).alloc _ _
  have RWe := Lib.hid (show RE We w.heap.size (⟨false, s, f, m, k, es⟩ : Ep) from by subst hW; exact re_new w (⟨false, s, f, m, k, es⟩ : Ep) _)
  have LWe : w.heap.size < We.heap.size := by subst hW; simp
  clear hW
  generalize hgWe : w.heap.size = gWe at *
  clear LWe
  have kz1 := KWe
  go_wp2_with fail
  refine (AW'.out _ (Tens.kept T.out (by (repeat (first | with_reducible exact Kept.refl _ | with_reducible apply Kept.drew | with_reducible apply Kept.alloc | ((with_reducible apply Kept.set); focus (simp <;> omega)) | ((with_reducible apply Kept.via); focus with_reducible assumption)))))).mono ?_
  rintro e w2 ⟨rfl, k2⟩
  have Re2 := Lib.hid (RWe.out.kept k2)
  clear RWe
  have kz2 := Kept.trans kz1 k2
  clear kz1 k2
  obtain ⟨ce0, ce1, ce2, ce3, ce4, ce5⟩ := (Re2.out).1
  go_wp2_with fail
  refine (QT.out _ (Tens.kept T.out (by (repeat (first | with_reducible exact Kept.refl _ | with_reducible apply Kept.drew | with_reducible apply Kept.alloc | ((with_reducible apply Kept.set); focus (simp <;> omega)) | ((with_reducible apply Kept.via); focus with_reducible assumption)))))).mono ?_
  rintro e w3 ⟨rfl, k3⟩
  clear ce0 ce1 ce2 ce3 ce4 ce5
  have Re3 := Lib.hid (Re2.out.kept k3)
  clear Re2
  have kz3 := Kept.trans kz2 k3
  clear kz2 k3
  obtain ⟨ce0, ce1, ce2, ce3, ce4, ce5⟩ := (Re3.out).1
  go_wp2_with fail
  refine (QA.out _ (Tens.kept T.out (by (repeat (first | with_reducible exact Kept.refl _ | with_reducible apply Kept.drew | with_reducible apply Kept.alloc | ((with_reducible apply Kept.set); focus (simp <;> omega)) | ((with_reducible apply Kept.via); focus with_reducible assumption)))))).mono ?_
  rintro e w4 ⟨rfl, k4⟩
  clear ce0 ce1 ce2 ce3 ce4 ce5
  have Re4 := Lib.hid (Re3.out.kept k4)
  clear Re3
  have kz4 := Kept.trans kz3 k4
  clear kz3 k4
  obtain ⟨ce0, ce1, ce2, ce3, ce4, ce5⟩ := (Re4.out).1
  go_wp2_with fail
  refine (QC.out _ (Tens.kept T.out (by (repeat (first | with_reducible exact Kept.refl _ | with_reducible apply Kept.drew | with_reducible apply Kept.alloc | ((with_reducible apply Kept.set); focus (simp <;> omega)) | ((with_reducible apply Kept.via); focus with_reducible assumption)))))).mono ?_
  rintro e w5 ⟨rfl, k5⟩
  clear ce0 ce1 ce2 ce3 ce4 ce5
  have Re5 := Lib.hid (Re4.out.kept k5)
  clear Re4
  have kz5 := Kept.trans kz4 k5
  clear kz4 k5
  obtain ⟨ce0, ce1, ce2, ce3, ce4, ce5⟩ := (Re5.out).1
  go_wp2
  go_ret
  exact ⟨rfl, kz5⟩
set_option maxRecDepth 100000 in
set_option maxHeartbeats 1600000 in
theorem target12_lo (CC : ECheckC) (BC : EBeginC) (SC : EShiftC) (RC : URiseC) (AC : UAtC) (TC : UTargetC) (XC : UReachC) {s f m k es now x law : Int} (hi : In64E (⟨true, s, f, m, k, es⟩ : Ep)) (hnow : In64 now) (x0 : 0 ≤ x) (x1 : x ≤ 4294967295) (e1 : targetN (⟨true, s, f, m, k, es⟩ : Ep) now x = x) (e2 : atN (⟨true, s, f, m, k, es⟩ : Ep) now = law) (e3 : true = true ↔ MayE (⟨true, s, f, m, k, es⟩ : Ep)) (h : law < x) (w : World) (T_ : Tens w) : Calls Tryd.prog 7 #[.agg #[.bool true, .int .i64 s, .int .i64 f, .int .i64 m, .int .i64 k, .int .i64 es], .int .i64 now, .int .u32 x] w fun e w' => e = .returned (.bool true) ∧ Kept w w' := by
  have CC' := Lib.hid CC
  have BC' := Lib.hid BC
  have SC' := Lib.hid SC
  have RC' := Lib.hid RC
  have AC' := Lib.hid AC
  have TC' := Lib.hid TC
  have XC' := Lib.hid XC
  have AW' := Lib.hid (fun w TT_ => awake12 CC BC SC RC AC TC XC w TT_)
  clear CC BC SC RC AC TC XC
  have T := Lib.hid T_
  clear T_
  have QT := Lib.hid (fun w_ TT_ => TC'.out (⟨true, s, f, m, k, es⟩ : Ep) now x x hi hnow (by unfold In64; omega) e1 w_ TT_)
  have QA := Lib.hid (fun w_ TT_ => AC'.out (⟨true, s, f, m, k, es⟩ : Ep) now law hi hnow e2 w_ TT_)
  have QC := Lib.hid (fun w_ TT_ => CC'.out (⟨true, s, f, m, k, es⟩ : Ep) true hi e3 w_ TT_)
  have hq : x.tdiv 2 = x / 2 := Int.tdiv_eq_ediv_of_nonneg x0
  clear e1 e2 e3 hi hnow
  have d0 : decide (x ≤ x + x / 2) = true := by simp; omega
  have d1 : decide (law < x) = true := by simp; omega
  have d2 : decide (x ≤ law) = false := by simp; omega
  go_enter Tryd.func7, Tryd.ntmps7
  go_upto_region 1 with fail
  generalize hW : World.alloc w (.cells #[.bool true, .int .i64 s, .int .i64 f, .int .i64 m, .int .i64 k, .int .i64 es] 23) = We
  have KWe : Kept w We := by subst hW; exact (Kept.refl _).alloc _ _
  have RWe := Lib.hid (show RE We w.heap.size (⟨true, s, f, m, k, es⟩ : Ep) from by subst hW; exact re_new w (⟨true, s, f, m, k, es⟩ : Ep) _)
  have LWe : w.heap.size < We.heap.size := by subst hW; simp
  clear hW
  generalize hgWe : w.heap.size = gWe at *
  clear LWe
  have kz1 := KWe
  go_wp2_with fail
  refine (AW'.out _ (Tens.kept T.out (by (repeat (first | with_reducible exact Kept.refl _ | with_reducible apply Kept.drew | with_reducible apply Kept.alloc | ((with_reducible apply Kept.set); focus (simp <;> omega)) | ((with_reducible apply Kept.via); focus with_reducible assumption)))))).mono ?_
  rintro e w2 ⟨rfl, k2⟩
  have Re2 := Lib.hid (RWe.out.kept k2)
  clear RWe
  have kz2 := Kept.trans kz1 k2
  clear kz1 k2
  obtain ⟨ce0, ce1, ce2, ce3, ce4, ce5⟩ := (Re2.out).1
  go_wp2_with fail
  refine (QT.out _ (Tens.kept T.out (by (repeat (first | with_reducible exact Kept.refl _ | with_reducible apply Kept.drew | with_reducible apply Kept.alloc | ((with_reducible apply Kept.set); focus (simp <;> omega)) | ((with_reducible apply Kept.via); focus with_reducible assumption)))))).mono ?_
  rintro e w3 ⟨rfl, k3⟩
  clear ce0 ce1 ce2 ce3 ce4 ce5
  have Re3 := Lib.hid (Re2.out.kept k3)
  clear Re2
  have kz3 := Kept.trans kz2 k3
  clear kz2 k3
  obtain ⟨ce0, ce1, ce2, ce3, ce4, ce5⟩ := (Re3.out).1
  go_wp2_with fail
  refine (QA.out _ (Tens.kept T.out (by (repeat (first | with_reducible exact Kept.refl _ | with_reducible apply Kept.drew | with_reducible apply Kept.alloc | ((with_reducible apply Kept.set); focus (simp <;> omega)) | ((with_reducible apply Kept.via); focus with_reducible assumption)))))).mono ?_
  rintro e w4 ⟨rfl, k4⟩
  clear ce0 ce1 ce2 ce3 ce4 ce5
  have Re4 := Lib.hid (Re3.out.kept k4)
  clear Re3
  have kz4 := Kept.trans kz3 k4
  clear kz3 k4
  obtain ⟨ce0, ce1, ce2, ce3, ce4, ce5⟩ := (Re4.out).1
  go_wp2_with fail
  refine (QC.out _ (Tens.kept T.out (by (repeat (first | with_reducible exact Kept.refl _ | with_reducible apply Kept.drew | with_reducible apply Kept.alloc | ((with_reducible apply Kept.set); focus (simp <;> omega)) | ((with_reducible apply Kept.via); focus with_reducible assumption)))))).mono ?_
  rintro e w5 ⟨rfl, k5⟩
  clear ce0 ce1 ce2 ce3 ce4 ce5
  have Re5 := Lib.hid (Re4.out.kept k5)
  clear Re4
  have kz5 := Kept.trans kz4 k5
  clear kz4 k5
  obtain ⟨ce0, ce1, ce2, ce3, ce4, ce5⟩ := (Re5.out).1
  go_wp2
  go_ret
  exact ⟨rfl, kz5⟩
set_option maxRecDepth 100000 in
set_option maxHeartbeats 1600000 in
theorem target12_hi (CC : ECheckC) (BC : EBeginC) (SC : EShiftC) (RC : URiseC) (AC : UAtC) (TC : UTargetC) (XC : UReachC) {s f m k es now x law : Int} (hi : In64E (⟨true, s, f, m, k, es⟩ : Ep)) (hnow : In64 now) (x0 : 0 ≤ x) (x1 : x ≤ 4294967295) (e1 : targetN (⟨true, s, f, m, k, es⟩ : Ep) now x = (x + x / 2)) (e2 : atN (⟨true, s, f, m, k, es⟩ : Ep) now = law) (e3 : true = true ↔ MayE (⟨true, s, f, m, k, es⟩ : Ep)) (h0 : x ≤ law) (h : x + x / 2 < law) (w : World) (T_ : Tens w) : Calls Tryd.prog 7 #[.agg #[.bool true, .int .i64 s, .int .i64 f, .int .i64 m, .int .i64 k, .int .i64 es], .int .i64 now, .int .u32 x] w fun e w' => e = .returned (.bool true) ∧ Kept w w' := by
  have CC' := Lib.hid CC
  have BC' := Lib.hid BC
  have SC' := Lib.hid SC
  have RC' := Lib.hid RC
  have AC' := Lib.hid AC
  have TC' := Lib.hid TC
  have XC' := Lib.hid XC
  have AW' := Lib.hid (fun w TT_ => awake12 CC BC SC RC AC TC XC w TT_)
  clear CC BC SC RC AC TC XC
  have T := Lib.hid T_
  clear T_
  have QT := Lib.hid (fun w_ TT_ => TC'.out (⟨true, s, f, m, k, es⟩ : Ep) now x (x + x / 2) hi hnow (by unfold In64; omega) e1 w_ TT_)
  have QA := Lib.hid (fun w_ TT_ => AC'.out (⟨true, s, f, m, k, es⟩ : Ep) now law hi hnow e2 w_ TT_)
  have QC := Lib.hid (fun w_ TT_ => CC'.out (⟨true, s, f, m, k, es⟩ : Ep) true hi e3 w_ TT_)
  have hq : x.tdiv 2 = x / 2 := Int.tdiv_eq_ediv_of_nonneg x0
  clear e1 e2 e3 hi hnow
  have d0 : decide (x ≤ x + x / 2) = true := by simp; omega
  have d1 : decide (law < x) = false := by simp; omega
  have d2 : decide (x ≤ law) = true := by simp; omega
  have d3 : decide (x + x / 2 < law) = true := by simp; omega
  go_enter Tryd.func7, Tryd.ntmps7
  go_upto_region 1 with fail
  generalize hW : World.alloc w (.cells #[.bool true, .int .i64 s, .int .i64 f, .int .i64 m, .int .i64 k, .int .i64 es] 23) = We
  have KWe : Kept w We := by subst hW; exact (Kept.refl _).alloc _ _
  have RWe := Lib.hid (show RE We w.heap.size (⟨true, s, f, m, k, es⟩ : Ep) from by subst hW; exact re_new w (⟨true, s, f, m, k, es⟩ : Ep) _)
  have LWe : w.heap.size < We.heap.size := by subst hW; simp
  clear hW
  generalize hgWe : w.heap.size = gWe at *
  clear LWe
  have kz1 := KWe
  go_wp2_with fail
  refine (AW'.out _ (Tens.kept T.out (by (repeat (first | with_reducible exact Kept.refl _ | with_reducible apply Kept.drew | with_reducible apply Kept.alloc | ((with_reducible apply Kept.set); focus (simp <;> omega)) | ((with_reducible apply Kept.via); focus with_reducible assumption)))))).mono ?_
  rintro e w2 ⟨rfl, k2⟩
  have Re2 := Lib.hid (RWe.out.kept k2)
  clear RWe
  have kz2 := Kept.trans kz1 k2
  clear kz1 k2
  obtain ⟨ce0, ce1, ce2, ce3, ce4, ce5⟩ := (Re2.out).1
  go_wp2_with fail
  refine (QT.out _ (Tens.kept T.out (by (repeat (first | with_reducible exact Kept.refl _ | with_reducible apply Kept.drew | with_reducible apply Kept.alloc | ((with_reducible apply Kept.set); focus (simp <;> omega)) | ((with_reducible apply Kept.via); focus with_reducible assumption)))))).mono ?_
  rintro e w3 ⟨rfl, k3⟩
  clear ce0 ce1 ce2 ce3 ce4 ce5
  have Re3 := Lib.hid (Re2.out.kept k3)
  clear Re2
  have kz3 := Kept.trans kz2 k3
  clear kz2 k3
  obtain ⟨ce0, ce1, ce2, ce3, ce4, ce5⟩ := (Re3.out).1
  go_wp2_with fail
  refine (QA.out _ (Tens.kept T.out (by (repeat (first | with_reducible exact Kept.refl _ | with_reducible apply Kept.drew | with_reducible apply Kept.alloc | ((with_reducible apply Kept.set); focus (simp <;> omega)) | ((with_reducible apply Kept.via); focus with_reducible assumption)))))).mono ?_
  rintro e w4 ⟨rfl, k4⟩
  clear ce0 ce1 ce2 ce3 ce4 ce5
  have Re4 := Lib.hid (Re3.out.kept k4)
  clear Re3
  have kz4 := Kept.trans kz3 k4
  clear kz3 k4
  obtain ⟨ce0, ce1, ce2, ce3, ce4, ce5⟩ := (Re4.out).1
  go_wp2_with fail
  refine (QC.out _ (Tens.kept T.out (by (repeat (first | with_reducible exact Kept.refl _ | with_reducible apply Kept.drew | with_reducible apply Kept.alloc | ((with_reducible apply Kept.set); focus (simp <;> omega)) | ((with_reducible apply Kept.via); focus with_reducible assumption)))))).mono ?_
  rintro e w5 ⟨rfl, k5⟩
  clear ce0 ce1 ce2 ce3 ce4 ce5
  have Re5 := Lib.hid (Re4.out.kept k5)
  clear Re4
  have kz5 := Kept.trans kz4 k5
  clear kz4 k5
  obtain ⟨ce0, ce1, ce2, ce3, ce4, ce5⟩ := (Re5.out).1
  go_wp2
  go_ret
  exact ⟨rfl, kz5⟩
set_option maxRecDepth 100000 in
set_option maxHeartbeats 1600000 in
theorem target12_mid (CC : ECheckC) (BC : EBeginC) (SC : EShiftC) (RC : URiseC) (AC : UAtC) (TC : UTargetC) (XC : UReachC) {s f m k es now x law : Int} (hi : In64E (⟨true, s, f, m, k, es⟩ : Ep)) (hnow : In64 now) (x0 : 0 ≤ x) (x1 : x ≤ 4294967295) (e1 : targetN (⟨true, s, f, m, k, es⟩ : Ep) now x = law) (e2 : atN (⟨true, s, f, m, k, es⟩ : Ep) now = law) (e3 : true = true ↔ MayE (⟨true, s, f, m, k, es⟩ : Ep)) (h0 : x ≤ law) (h : law ≤ x + x / 2) (w : World) (T_ : Tens w) : Calls Tryd.prog 7 #[.agg #[.bool true, .int .i64 s, .int .i64 f, .int .i64 m, .int .i64 k, .int .i64 es], .int .i64 now, .int .u32 x] w fun e w' => e = .returned (.bool true) ∧ Kept w w' := by
  have CC' := Lib.hid CC
  have BC' := Lib.hid BC
  have SC' := Lib.hid SC
  have RC' := Lib.hid RC
  have AC' := Lib.hid AC
  have TC' := Lib.hid TC
  have XC' := Lib.hid XC
  have AW' := Lib.hid (fun w TT_ => awake12 CC BC SC RC AC TC XC w TT_)
  clear CC BC SC RC AC TC XC
  have T := Lib.hid T_
  clear T_
  have QT := Lib.hid (fun w_ TT_ => TC'.out (⟨true, s, f, m, k, es⟩ : Ep) now x law hi hnow (by unfold In64; omega) e1 w_ TT_)
  have QA := Lib.hid (fun w_ TT_ => AC'.out (⟨true, s, f, m, k, es⟩ : Ep) now law hi hnow e2 w_ TT_)
  have QC := Lib.hid (fun w_ TT_ => CC'.out (⟨true, s, f, m, k, es⟩ : Ep) true hi e3 w_ TT_)
  have hq : x.tdiv 2 = x / 2 := Int.tdiv_eq_ediv_of_nonneg x0
  clear e1 e2 e3 hi hnow
  have d0 : decide (law ≤ x + x / 2) = true := by simp; omega
  have d1 : decide (law < x) = false := by simp; omega
  have d2 : decide (x ≤ law) = true := by simp; omega
  have d3 : decide (x + x / 2 < law) = false := by simp; omega
  go_enter Tryd.func7, Tryd.ntmps7
  go_upto_region 1 with fail
  generalize hW : World.alloc w (.cells #[.bool true, .int .i64 s, .int .i64 f, .int .i64 m, .int .i64 k, .int .i64 es] 23) = We
  have KWe : Kept w We := by subst hW; exact (Kept.refl _).alloc _ _
  have RWe := Lib.hid (show RE We w.heap.size (⟨true, s, f, m, k, es⟩ : Ep) from by subst hW; exact re_new w (⟨true, s, f, m, k, es⟩ : Ep) _)
  have LWe : w.heap.size < We.heap.size := by subst hW; simp
  clear hW
  generalize hgWe : w.heap.size = gWe at *
  clear LWe
  have kz1 := KWe
  go_wp2_with fail
  refine (AW'.out _ (Tens.kept T.out (by (repeat (first | with_reducible exact Kept.refl _ | with_reducible apply Kept.drew | with_reducible apply Kept.alloc | ((with_reducible apply Kept.set); focus (simp <;> omega)) | ((with_reducible apply Kept.via); focus with_reducible assumption)))))).mono ?_
  rintro e w2 ⟨rfl, k2⟩
  have Re2 := Lib.hid (RWe.out.kept k2)
  clear RWe
  have kz2 := Kept.trans kz1 k2
  clear kz1 k2
  obtain ⟨ce0, ce1, ce2, ce3, ce4, ce5⟩ := (Re2.out).1
  go_wp2_with fail
  refine (QT.out _ (Tens.kept T.out (by (repeat (first | with_reducible exact Kept.refl _ | with_reducible apply Kept.drew | with_reducible apply Kept.alloc | ((with_reducible apply Kept.set); focus (simp <;> omega)) | ((with_reducible apply Kept.via); focus with_reducible assumption)))))).mono ?_
  rintro e w3 ⟨rfl, k3⟩
  clear ce0 ce1 ce2 ce3 ce4 ce5
  have Re3 := Lib.hid (Re2.out.kept k3)
  clear Re2
  have kz3 := Kept.trans kz2 k3
  clear kz2 k3
  obtain ⟨ce0, ce1, ce2, ce3, ce4, ce5⟩ := (Re3.out).1
  go_wp2_with fail
  refine (QA.out _ (Tens.kept T.out (by (repeat (first | with_reducible exact Kept.refl _ | with_reducible apply Kept.drew | with_reducible apply Kept.alloc | ((with_reducible apply Kept.set); focus (simp <;> omega)) | ((with_reducible apply Kept.via); focus with_reducible assumption)))))).mono ?_
  rintro e w4 ⟨rfl, k4⟩
  clear ce0 ce1 ce2 ce3 ce4 ce5
  have Re4 := Lib.hid (Re3.out.kept k4)
  clear Re3
  have kz4 := Kept.trans kz3 k4
  clear kz3 k4
  obtain ⟨ce0, ce1, ce2, ce3, ce4, ce5⟩ := (Re4.out).1
  go_wp2_with fail
  refine (QC.out _ (Tens.kept T.out (by (repeat (first | with_reducible exact Kept.refl _ | with_reducible apply Kept.drew | with_reducible apply Kept.alloc | ((with_reducible apply Kept.set); focus (simp <;> omega)) | ((with_reducible apply Kept.via); focus with_reducible assumption)))))).mono ?_
  rintro e w5 ⟨rfl, k5⟩
  clear ce0 ce1 ce2 ce3 ce4 ce5
  have Re5 := Lib.hid (Re4.out.kept k5)
  clear Re4
  have kz5 := Kept.trans kz4 k5
  clear kz4 k5
  obtain ⟨ce0, ce1, ce2, ce3, ce4, ce5⟩ := (Re5.out).1
  go_wp2
  go_ret
  exact ⟨rfl, kz5⟩
theorem cubicTarget_walk (CC : ECheckC) (BC : EBeginC) (SC : EShiftC) (RC : URiseC) (AC : UAtC) (TC : UTargetC) (XC : UReachC) (on : Bool) (s f m k es now x : Int) (w : World) (T_ : Tens w) (hi : In64E ⟨on, s, f, m, k, es⟩) (hnow : In64 now) (x0 : 0 ≤ x) (x1 : x ≤ 4294967295) : Calls Tryd.prog 7 #[.agg #[.bool on, .int .i64 s, .int .i64 f, .int .i64 m, .int .i64 k, .int .i64 es], .int .i64 now, .int .u32 x] w fun e w' => e = .returned (.bool true) ∧ Kept w w' := by
  have no : ¬ OnE ⟨on, s, f, m, k, es⟩ → targetN ⟨on, s, f, m, k, es⟩ now x = x ∧ atN ⟨on, s, f, m, k, es⟩ now = 0 := fun h => ⟨if_neg (fun z => h z.1), if_neg h⟩
  by_cases hm : MayE ⟨on, s, f, m, k, es⟩
  · cases on with
    | false =>
      have q := no (fun z => by have := z.2; cases this)
      exact target12_off CC BC SC RC AC TC XC (law := 0) hi hnow x0 x1 q.1 q.2 ⟨fun _ => hm, fun _ => rfl⟩ w T_
    | true =>
      have O : OnE ⟨true, s, f, m, k, es⟩ := ⟨hm, rfl⟩
      have e2 := atN_on O now
      have e1 : targetN ⟨true, s, f, m, k, es⟩ now x = (if atN ⟨true, s, f, m, k, es⟩ now < x then x else if x + x / 2 < atN ⟨true, s, f, m, k, es⟩ now then x + x / 2 else atN ⟨true, s, f, m, k, es⟩ now) := by
        unfold targetN; rw [if_pos ⟨O, x0⟩, e2, heldAt_of (n := x + x / 2) (by unfold In64; omega)]
      have e3 : true = true ↔ MayE ⟨true, s, f, m, k, es⟩ := ⟨fun _ => hm, fun _ => rfl⟩
      generalize hl : atN ⟨true, s, f, m, k, es⟩ now = law at *
      by_cases h0 : law < x
      · exact target12_lo CC BC SC RC AC TC XC hi hnow x0 x1 (by rw [e1, if_pos h0]) hl e3 h0 w T_
      · by_cases h1 : x + x / 2 < law
        · exact target12_hi CC BC SC RC AC TC XC hi hnow x0 x1 (by rw [e1, if_neg h0, if_pos h1]) hl e3 (by omega) h1 w T_
        · exact target12_mid CC BC SC RC AC TC XC hi hnow x0 x1 (by rw [e1, if_neg h0, if_neg h1]) hl e3 (by omega) (by omega) w T_
  · have q := no (fun x => hm x.1)
    have e3 : false = true ↔ MayE ⟨on, s, f, m, k, es⟩ := ⟨fun z => (by cases z), fun z => absurd z hm⟩
    cases on with
    | false => exact target12_non CC BC SC RC AC TC XC (law := 0) hi hnow x0 x1 q.1 q.2 e3 w T_
    | true => exact target12_no CC BC SC RC AC TC XC (law := 0) hi hnow x0 x1 q.1 q.2 e3 w T_
end Go.Proofs.YtlonfobeblnbbaaDoor
