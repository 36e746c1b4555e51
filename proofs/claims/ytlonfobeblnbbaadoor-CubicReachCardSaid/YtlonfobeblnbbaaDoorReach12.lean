/-
  The walk of CubicReach: it answers true, if the calls do what they are to do.
-/
import Derived.Test.YtlonfobeblnbbaaDoorAwake12
import Derived.Deep.RegionHeld3
import Derived.Deep.DeepCutAuto
namespace Go.Proofs.YtlonfobeblnbbaaDoor
open Go.RowKit Go.BigFrame
set_option linter.unusedVariables false

set_option maxRecDepth 100000 in
set_option maxHeartbeats 1600000 in
theorem reach12_far (CC : ECheckC) (BC : EBeginC) (SC : EShiftC) (RC : URiseC) (AC : UAtC) (TC : UTargetC) (XC : UReachC) {on : Bool} {b : Bool} {s f m k es x mo q m2 : Int} (hi : In64E (⟨on, s, f, m, k, es⟩ : Ep)) (hx : In64 x) (p0 : 0 ≤ mo) (p1 : mo ≤ 4294967295) (hq : x.tdiv 2 = q) (q0 : -4611686018427387904 ≤ q) (q1 : q ≤ 4611686018427387904) (e1 : ReachIs (⟨on, s, f, m, k, es⟩ : Ep) x 0 false) (e2 : ReachIs (⟨on, s, f, m, k, es⟩ : Ep) (q + mo) m2 b) (h : 68719476736 < x) (w : World) (T_ : Tens w) : Calls Tryd.prog 8 #[.agg #[.bool on, .int .i64 s, .int .i64 f, .int .i64 m, .int .i64 k, .int .i64 es], .int .i64 x, .int .u32 mo] w fun e w' => e = .returned (.bool true) ∧ Kept w w' := by
  have CC' := Lib.hid CC
  have BC' := Lib.hid BC
  have SC' := Lib.hid SC
  have RC' := Lib.hid RC
  have AC' := Lib.hid AC
  have TC' := Lib.hid TC
  have XC' := Lib.hid XC
  have AW' := Lib.hid (fun w TT_ => awake12 CC BC SC RC AC TC XC w TT_)
  clear CC BC SC RC AC TC XC
  have T := Lib.hid T_
  clear T_
  have Q1 := Lib.hid (fun w_ TT_ => XC'.out (⟨on, s, f, m, k, es⟩ : Ep) x 0 false hi hx e1 w_ TT_)
  have Q2 := Lib.hid (fun w_ TT_ => XC'.out (⟨on, s, f, m, k, es⟩ : Ep) (q + mo) m2 b hi (by unfold In64; omega) e2 w_ TT_)
  clear e1 e2 hi hx
  have d0 : decide (68719476736 < x) = true := by simp; omega
  go_enter Tryd.func8, Tryd.ntmps8
  go_upto_region 1 with fail
  generalize hW : World.alloc w (.cells #[.bool on, .int .i64 s, .int .i64 f, .int .i64 m, .int .i64 k, .int .i64 es] 23) = We
  have KWe : Kept w We := by subst hW; exact (Kept.refl _).alloc _ _
  have RWe := Lib.hid (show RE We w.heap.size (⟨on, s, f, m, k, es⟩ : Ep) from by subst hW; exact re_new w (⟨on, s, f, m, k, es⟩ : Ep) _)
  have LWe : w.heap.size < We.heap.size := by subst hW; simp
  clear hW
  generalize hgWe : w.heap.size = gWe at *
  clear LWe
  have kz1 := KWe
  go_wp2_with fail
  refine (AW'.out _ (Tens.kept T.out (by (repeat (first | with_reducible exact Kept.refl _ | with_reducible apply Kept.drew | with_reducible apply Kept.alloc | ((with_reducible apply Kept.set); focus (simp <;> omega)) | ((with_reducible apply Kept.via); focus with_reducible assumption)))))).mono ?_
  rintro e w2 ⟨rfl, k2⟩
  have Re2 := Lib.hid (RWe.out.kept k2)
  clear RWe
  have kz2 := Kept.trans kz1 k2
  clear kz1 k2
  obtain ⟨ce0, ce1, ce2, ce3, ce4, ce5⟩ := (Re2.out).1
  go_wp2_with fail
  refine (Q1.out _ (Tens.kept T.out (by (repeat (first | with_reducible exact Kept.refl _ | with_reducible apply Kept.drew | with_reducible apply Kept.alloc | ((with_reducible apply Kept.set); focus (simp <;> omega)) | ((with_reducible apply Kept.via); focus with_reducible assumption)))))).mono ?_
  rintro e w3 ⟨rfl, k3⟩
  clear ce0 ce1 ce2 ce3 ce4 ce5
  have Re3 := Lib.hid (Re2.out.kept k3)
  clear Re2
  have kz3 := Kept.trans kz2 k3
  clear kz2 k3
  obtain ⟨ce0, ce1, ce2, ce3, ce4, ce5⟩ := (Re3.out).1
  go_wp2_with fail
  refine (Q2.out _ (Tens.kept T.out (by (repeat (first | with_reducible exact Kept.refl _ | with_reducible apply Kept.drew | with_reducible apply Kept.alloc | ((with_reducible apply Kept.set); focus (simp <;> omega)) | ((with_reducible apply Kept.via); focus with_reducible assumption)))))).mono ?_
  rintro e w4 ⟨rfl, k4⟩
  clear ce0 ce1 ce2 ce3 ce4 ce5
  have Re4 := Lib.hid (Re3.out.kept k4)
  clear Re3
  have kz4 := Kept.trans kz3 k4
  clear kz3 k4
  obtain ⟨ce0, ce1, ce2, ce3, ce4, ce5⟩ := (Re4.out).1
  go_wp2
  go_ret
  exact ⟨rfl, kz4⟩
set_option maxRecDepth 100000 in
set_option maxHeartbeats 1600000 in
theorem reach12_off (CC : ECheckC) (BC : EBeginC) (SC : EShiftC) (RC : URiseC) (AC : UAtC) (TC : UTargetC) (XC : UReachC) {b : Bool} {s f m k es x mo q m2 : Int} (hi : In64E (⟨false, s, f, m, k, es⟩ : Ep)) (hx : In64 x) (p0 : 0 ≤ mo) (p1 : mo ≤ 4294967295) (hq : x.tdiv 2 = q) (q0 : -4611686018427387904 ≤ q) (q1 : q ≤ 4611686018427387904) (e1 : ReachIs (⟨false, s, f, m, k, es⟩ : Ep) x 0 false) (e2 : ReachIs (⟨false, s, f, m, k, es⟩ : Ep) (q + mo) m2 b) (h : x ≤ 68719476736) (w : World) (T_ : Tens w) : Calls Tryd.prog 8 #[.agg #[.bool false, .int .i64 s, .int .i64 f, .int .i64 m, .int .i64 k, .int .i64 es], .int .i64 x, .int .u32 mo] w fun e w' => e = .returned (.bool true) ∧ Kept w w' := by
  have CC' := Lib.hid CC
  have BC' := Lib.hid BC
  have SC' := Lib.hid SC
  have RC' := Lib.hid RC
  have AC' := Lib.hid AC
  have TC' := Lib.hid TC
  have XC' := Lib.hid XC
  have AW' := Lib.hid (fun w TT_ => awake12 CC BC SC RC AC TC XC w TT_)
  clear CC BC SC RC AC TC XC
  have T := Lib.hid T_
  clear T_
  have Q1 := Lib.hid (fun w_ TT_ => XC'.out (⟨false, s, f, m, k, es⟩ : Ep) x 0 false hi hx e1 w_ TT_)
  have Q2 := Lib.hid (fun w_ TT_ => XC'.out (⟨false, s, f, m, k, es⟩ : Ep) (q + mo) m2 b hi (by unfold In64; omega) e2 w_ TT_)
  clear e1 e2 hi hx
  have d0 : decide (68719476736 < x) = false := by simp; omega
  go_enter Tryd.func8, Tryd.ntmps8
  go_upto_region 1 with fail
  generalize hW : World.alloc w (.cells #[.bool false, .int .i64 s, .int .i64 f, .int .i64 m, .int .i64 k, .int .i64 es] 23) = We
  have KWe : Kept w We := by subst hW; exact (Kept.refl _).alloc _ _
  have RWe := Lib.hid (show RE We w.heap.size (⟨false, s, f, m, k, es⟩ : Ep) from by subst hW; exact re_new w (⟨false, s, f, m, k, es⟩ : Ep) _)
  have LWe : w.heap.size < We.heap.size := by subst hW; simp
  clear hW
  generalize hgWe : w.heap.size = gWe at *
  clear LWe
  have kz1 := KWe
  go_wp2_with fail
  refine (AW'.out _ (Tens.kept T.out (by (repeat (first | with_reducible exact Kept.refl _ | with_reducible apply Kept.drew | with_reducible apply Kept.alloc | ((with_reducible apply Kept.set); focus (simp <;> omega)) | ((with_reducible apply Kept.via); focus with_reducible assumption)))))).mono ?_
  rintro e w2 ⟨rfl, k2⟩
  have Re2 := Lib.hid (RWe.out.kept k2)
  clear RWe
  have kz2 := Kept.trans kz1 k2
  clear kz1 k2
  obtain ⟨ce0, ce1, ce2, ce3, ce4, ce5⟩ := (Re2.out).1
  go_wp2_with fail
  refine (Q1.out _ (Tens.kept T.out (by (repeat (first | with_reducible exact Kept.refl _ | with_reducible apply Kept.drew | with_reducible apply Kept.alloc | ((with_reducible apply Kept.set); focus (simp <;> omega)) | ((with_reducible apply Kept.via); focus with_reducible assumption)))))).mono ?_
  rintro e w3 ⟨rfl, k3⟩
  clear ce0 ce1 ce2 ce3 ce4 ce5
  have Re3 := Lib.hid (Re2.out.kept k3)
  clear Re2
  have kz3 := Kept.trans kz2 k3
  clear kz2 k3
  obtain ⟨ce0, ce1, ce2, ce3, ce4, ce5⟩ := (Re3.out).1
  go_wp2_with fail
  refine (Q2.out _ (Tens.kept T.out (by (repeat (first | with_reducible exact Kept.refl _ | with_reducible apply Kept.drew | with_reducible apply Kept.alloc | ((with_reducible apply Kept.set); focus (simp <;> omega)) | ((with_reducible apply Kept.via); focus with_reducible assumption)))))).mono ?_
  rintro e w4 ⟨rfl, k4⟩
  clear ce0 ce1 ce2 ce3 ce4 ce5
  have Re4 := Lib.hid (Re3.out.kept k4)
  clear Re3
  have kz4 := Kept.trans kz3 k4
  clear kz3 k4
  obtain ⟨ce0, ce1, ce2, ce3, ce4, ce5⟩ := (Re4.out).1
  go_wp2
  go_ret
  exact ⟨rfl, kz4⟩
set_option maxRecDepth 100000 in
set_option maxHeartbeats 1600000 in
theorem reach12_no (CC : ECheckC) (BC : EBeginC) (SC : EShiftC) (RC : URiseC) (AC : UAtC) (TC : UTargetC) (XC : UReachC) {b : Bool} {s f m k es x mo q m2 : Int} (hi : In64E (⟨true, s, f, m, k, es⟩ : Ep)) (hx : In64 x) (p0 : 0 ≤ mo) (p1 : mo ≤ 4294967295) (hq : x.tdiv 2 = q) (q0 : -4611686018427387904 ≤ q) (q1 : q ≤ 4611686018427387904) (e1 : ReachIs (⟨true, s, f, m, k, es⟩ : Ep) x 0 false) (e2 : ReachIs (⟨true, s, f, m, k, es⟩ : Ep) (q + mo) m2 b) (h : x ≤ 68719476736) (e3 : false = true ↔ MayE (⟨true, s, f, m, k, es⟩ : Ep)) (w : World) (T_ : Tens w) : Calls Tryd.prog 8 #[.agg #[.bool true, .int .i64 s, .int .i64 f, .int .i64 m, .int .i64 k, .int .i64 es], .int .i64 x, .int .u32 mo] w fun e w' => e = .returned (.bool true) ∧ Kept w w' := by
  have CC' := Lib.hid CC
  have BC' := Lib.hid BC
  have SC' := Lib.hid SC
  have RC' := Lib.hid RC
  have AC' := Lib.hid AC
  have TC' := Lib.hid TC
  have XC' := Lib.hid XC
  have AW' := Lib.hid (fun w TT_ => awake12 CC BC SC RC AC TC XC w TT_)
  clear CC BC SC RC AC TC XC
  have T := Lib.hid T_
  clear T_
  have Q1 := Lib.hid (fun w_ TT_ => XC'.out (⟨true, s, f, m, k, es⟩ : Ep) x 0 false hi hx e1 w_ TT_)
  have Q2 := Lib.hid (fun w_ TT_ => XC'.out (⟨true, s, f, m, k, es⟩ : Ep) (q + mo) m2 b hi (by unfold In64; omega) e2 w_ TT_)
  have QC := Lib.hid (fun w_ TT_ => CC'.out (⟨true, s, f, m, k, es⟩ : Ep) false hi e3 w_ TT_)
  clear e3
  clear e1 e2 hi hx
  have d0 : decide (68719476736 < x) = false := by simp; omega
  go_enter Tryd.func8, Tryd.ntmps8
  go_upto_region 1 with fail
  generalize hW : World.alloc w (.cells #[.bool true, .int .i64 s, .int .i64 f, .int .i64 m, .int .i64 k, .int .i64 es] 23) = We
  have KWe : Kept w We := by subst hW; exact (Kept.refl _).alloc _ _
  have RWe := Lib.hid (show RE We w.heap.size (⟨true, s, f, m, k, es⟩ : Ep) from by subst hW; exact re_new w (⟨true, s, f, m, k, es⟩ : Ep) _)
  have LWe : w.heap.size < We.heap.size := by subst hW; simp
  clear hW
  generalize hgWe : w.heap.size = gWe at *
  clear LWe
  have kz1 := KWe
  go_wp2_with fail
  refine (AW'.out _ (Tens.kept T.out (by (repeat (first | with_reducible exact Kept.refl _ | with_reducible apply Kept.drew | with_reducible apply Kept.alloc | ((with_reducible apply Kept.set); focus (simp <;> omega)) | ((with_reducible apply Kept.via); focus with_reducible assumption)))))).mono ?_
  rintro e w2 ⟨rfl, k2⟩
  have Re2 := Lib.hid (RWe.out.kept k2)
  clear RWe
  have kz2 := Kept.trans kz1 k2
  clear kz1 k2
  obtain ⟨ce0, ce1, ce2, ce3, ce4, ce5⟩ := (Re2.out).1
  go_wp2_with fail
  refine (Q1.out _ (Tens.kept T.out (by (repeat (first | with_reducible exact Kept.refl _ | with_reducible apply Kept.drew | with_reducible apply Kept.alloc | ((with_reducible apply Kept.set); focus (simp <;> omega)) | ((with_reducible apply Kept.via); focus with_reducible assumption)))))).mono ?_
  rintro e w3 ⟨rfl, k3⟩
  clear ce0 ce1 ce2 ce3 ce4 ce5
  have Re3 := Lib.hid (Re2.out.kept k3)
  clear Re2
  have kz3 := Kept.trans kz2 k3
  clear kz2 k3
  obtain ⟨ce0, ce1, ce2, ce3, ce4, ce5⟩ := (Re3.out).1
  go_wp2_with fail
  refine (Q2.out _ (Tens.kept T.out (by (repeat (first | with_reducible exact Kept.refl _ | with_reducible apply Kept.drew | with_reducible apply Kept.alloc | ((with_reducible apply Kept.set); focus (simp <;> omega)) | ((with_reducible apply Kept.via); focus with_reducible assumption)))))).mono ?_
  rintro e w4 ⟨rfl, k4⟩
  clear ce0 ce1 ce2 ce3 ce4 ce5
  have Re4 := Lib.hid (Re3.out.kept k4)
  clear Re3
  have kz4 := Kept.trans kz3 k4
  clear kz3 k4
  obtain ⟨ce0, ce1, ce2, ce3, ce4, ce5⟩ := (Re4.out).1
  go_wp2_with fail
  refine (QC.out _ (Tens.kept T.out (by (repeat (first | with_reducible exact Kept.refl _ | with_reducible apply Kept.drew | with_reducible apply Kept.alloc | ((with_reducible apply Kept.set); focus (simp <;> omega)) | ((with_reducible apply Kept.via); focus with_reducible assumption)))))).mono ?_
  rintro e w5 ⟨rfl, k5⟩
  clear ce0 ce1 ce2 ce3 ce4 ce5
  have Re5 := Lib.hid (Re4.out.kept k5)
  clear Re4
  have kz5 := Kept.trans kz4 k5
  clear kz4 k5
  obtain ⟨ce0, ce1, ce2, ce3, ce4, ce5⟩ := (Re5.out).1
  go_wp2
  go_ret
  exact ⟨rfl, kz5⟩
set_option maxRecDepth 100000 in
set_option maxHeartbeats 1600000 in
theorem reach12_z0 (CC : ECheckC) (BC : EBeginC) (SC : EShiftC) (RC : URiseC) (AC : UAtC) (TC : UTargetC) (XC : UReachC) {s f m k es x mo q m2 : Int} (hi : In64E (⟨true, s, f, m, k, es⟩ : Ep)) (hx : In64 x) (p0 : 0 ≤ mo) (p1 : mo ≤ 4294967295) (hq : x.tdiv 2 = q) (q0 : -4611686018427387904 ≤ q) (q1 : q ≤ 4611686018427387904) (e1 : ReachIs (⟨true, s, f, m, k, es⟩ : Ep) x 0 true) (e2 : ReachIs (⟨true, s, f, m, k, es⟩ : Ep) (q + mo) m2 false) (s0 : 0 ≤ s) (s1 : s ≤ 1099511627776) {v1 : Int} (a1 : atN (⟨true, s, f, m, k, es⟩ : Ep) (s + 0) = v1) (h1 : x ≤ v1)  (w : World) (T_ : Tens w) : Calls Tryd.prog 8 #[.agg #[.bool true, .int .i64 s, .int .i64 f, .int .i64 m, .int .i64 k, .int .i64 es], .int .i64 x, .int .u32 mo] w fun e w' => e = .returned (.bool true) ∧ Kept w w' := by
  have CC' := Lib.hid CC
  have BC' := Lib.hid BC
  have SC' := Lib.hid SC
  have RC' := Lib.hid RC
  have AC' := Lib.hid AC
  have TC' := Lib.hid TC
  have XC' := Lib.hid XC
  have AW' := Lib.hid (fun w TT_ => awake12 CC BC SC RC AC TC XC w TT_)
  clear CC BC SC RC AC TC XC
  have T := Lib.hid T_
  clear T_
  have Q1 := Lib.hid (fun w_ TT_ => XC'.out (⟨true, s, f, m, k, es⟩ : Ep) x 0 true hi hx e1 w_ TT_)
  have Q2 := Lib.hid (fun w_ TT_ => XC'.out (⟨true, s, f, m, k, es⟩ : Ep) (q + mo) m2 false hi (by unfold In64; omega) e2 w_ TT_)
  have QA1 := Lib.hid (fun w_ TT_ => AC'.out (⟨true, s, f, m, k, es⟩ : Ep) (s + 0) v1 hi (by unfold In64; omega) a1 w_ TT_)
  rw [Int.add_zero] at QA1
  clear a1
  clear e1 e2 hi hx
  have d1 : decide (x ≤ v1) = true := by simp; omega
  go_enter Tryd.func8, Tryd.ntmps8
  go_upto_region 1 with fail
  generalize hW : World.alloc w (.cells #[.bool true, .int .i64 s, .int .i64 f, .int .i64 m, .int .i64 k, .int .i64 es] 23) = We
  have KWe : Kept w We := by subst hW; exact (Kept.refl _).alloc _ _
  have RWe := Lib.hid (show RE We w.heap.size (⟨true, s, f, m, k, es⟩ : Ep) from by subst hW; exact re_new w (⟨true, s, f, m, k, es⟩ : Ep) _)
  have LWe : w.heap.size < We.heap.size := by subst hW; simp
  clear hW
  generalize hgWe : w.heap.size = gWe at *
  clear LWe
  have kz1 := KWe
  go_wp2_with fail
  refine (AW'.out _ (Tens.kept T.out (by (repeat (first | with_reducible exact Kept.refl _ | with_reducible apply Kept.drew | with_reducible apply Kept.alloc | ((with_reducible apply Kept.set); focus (simp <;> omega)) | ((with_reducible apply Kept.via); focus with_reducible assumption)))))).mono ?_
  rintro e w2 ⟨rfl, k2⟩
  have Re2 := Lib.hid (RWe.out.kept k2)
  clear RWe
  have kz2 := Kept.trans kz1 k2
  clear kz1 k2
  obtain ⟨ce0, ce1, ce2, ce3, ce4, ce5⟩ := (Re2.out).1
  go_wp2_with fail
  refine (Q1.out _ (Tens.kept T.out (by (repeat (first | with_reducible exact Kept.refl _ | with_reducible apply Kept.drew | with_reducible apply Kept.alloc | ((with_reducible apply Kept.set); focus (simp <;> omega)) | ((with_reducible apply Kept.via); focus with_reducible assumption)))))).mono ?_
  rintro e w3 ⟨rfl, k3⟩
  clear ce0 ce1 ce2 ce3 ce4 ce5
  have Re3 := Lib.hid (Re2.out.kept k3)
  clear Re2
  have kz3 := Kept.trans kz2 k3
  clear kz2 k3
  obtain ⟨ce0, ce1, ce2, ce3, ce4, ce5⟩ := (Re3.out).1
  go_wp2_with fail
  refine (Q2.out _ (Tens.kept T.out (by (repeat (first | with_reducible exact Kept.refl _ | with_reducible apply Kept.drew | with_reducible apply Kept.alloc | ((with_reducible apply Kept.set); focus (simp <;> omega)) | ((with_reducible apply Kept.via); focus with_reducible assumption)))))).mono ?_
  rintro e w4 ⟨rfl, k4⟩
  clear ce0 ce1 ce2 ce3 ce4 ce5
  have Re4 := Lib.hid (Re3.out.kept k4)
  clear Re3
  have kz4 := Kept.trans kz3 k4
  clear kz3 k4
  obtain ⟨ce0, ce1, ce2, ce3, ce4, ce5⟩ := (Re4.out).1
  go_wp2_with fail
  refine (QA1.out _ (Tens.kept T.out (by (repeat (first | with_reducible exact Kept.refl _ | with_reducible apply Kept.drew | with_reducible apply Kept.alloc | ((with_reducible apply Kept.set); focus (simp <;> omega)) | ((with_reducible apply Kept.via); focus with_reducible assumption)))))).mono ?_
  rintro e w5 ⟨rfl, k5⟩
  clear ce0 ce1 ce2 ce3 ce4 ce5
  have Re5 := Lib.hid (Re4.out.kept k5)
  clear Re4
  have kz5 := Kept.trans kz4 k5
  clear kz4 k5
  obtain ⟨ce0, ce1, ce2, ce3, ce4, ce5⟩ := (Re5.out).1
  go_wp2
  go_ret
  exact ⟨rfl, kz5⟩
set_option maxRecDepth 100000 in
set_option maxHeartbeats 1600000 in
theorem reach12_z1 (CC : ECheckC) (BC : EBeginC) (SC : EShiftC) (RC : URiseC) (AC : UAtC) (TC : UTargetC) (XC : UReachC) {s f m k es x mo q m2 : Int} (hi : In64E (⟨true, s, f, m, k, es⟩ : Ep)) (hx : In64 x) (p0 : 0 ≤ mo) (p1 : mo ≤ 4294967295) (hq : x.tdiv 2 = q) (q0 : -4611686018427387904 ≤ q) (q1 : q ≤ 4611686018427387904) (e1 : ReachIs (⟨true, s, f, m, k, es⟩ : Ep) x 0 true) (e2 : ReachIs (⟨true, s, f, m, k, es⟩ : Ep) (q + mo) m2 true) (s0 : 0 ≤ s) (s1 : s ≤ 1099511627776) {v1 : Int} (a1 : atN (⟨true, s, f, m, k, es⟩ : Ep) (s + 0) = v1) (h1 : x ≤ v1) (h5 : q + mo < x) (w : World) (T_ : Tens w) : Calls Tryd.prog 8 #[.agg #[.bool true, .int .i64 s, .int .i64 f, .int .i64 m, .int .i64 k, .int .i64 es], .int .i64 x, .int .u32 mo] w fun e w' => e = .returned (.bool true) ∧ Kept w w' := by
  have CC' := Lib.hid CC
  have BC' := Lib.hid BC
  have SC' := Lib.hid SC
  have RC' := Lib.hid RC
  have AC' := Lib.hid AC
  have TC' := Lib.hid TC
  have XC' := Lib.hid XC
  have AW' := Lib.hid (fun w TT_ => awake12 CC BC SC RC AC TC XC w TT_)
  clear CC BC SC RC AC TC XC
  have T := Lib.hid T_
  clear T_
  have Q1 := Lib.hid (fun w_ TT_ => XC'.out (⟨true, s, f, m, k, es⟩ : Ep) x 0 true hi hx e1 w_ TT_)
  have Q2 := Lib.hid (fun w_ TT_ => XC'.out (⟨true, s, f, m, k, es⟩ : Ep) (q + mo) m2 true hi (by unfold In64; omega) e2 w_ TT_)
  have QA1 := Lib.hid (fun w_ TT_ => AC'.out (⟨true, s, f, m, k, es⟩ : Ep) (s + 0) v1 hi (by unfold In64; omega) a1 w_ TT_)
  rw [Int.add_zero] at QA1
  clear a1
  clear e1 e2 hi hx
  have d1 : decide (x ≤ v1) = true := by simp; omega
  have d5 : decide (q + mo < x) = true := by simp; omega
  go_enter Tryd.func8, Tryd.ntmps8
  go_upto_region 1 with fail
  generalize hW : World.alloc w (.cells #[.bool true, .int .i64 s, .int .i64 f, .int .i64 m, .int .i64 k, .int .i64 es] 23) = We
  have KWe : Kept w We := by subst hW; exact (Kept.refl _).alloc _ _
  have RWe := Lib.hid (show RE We w.heap.size (⟨true, s, f, m, k, es⟩ : Ep) from by subst hW; exact re_new w (⟨true, s, f, m, k, es⟩ : Ep) _)
  have LWe : w.heap.size < We.heap.size := by subst hW; simp
  clear hW
  generalize hgWe : w.heap.size = gWe at *
  clear LWe
  have kz1 := KWe
  go_wp2_with fail
  refine (AW'.out _ (Tens.kept T.out (by (repeat (first | with_reducible exact Kept.refl _ | with_reducible apply Kept.drew | with_reducible apply Kept.alloc | ((with_reducible apply Kept.set); focus (simp <;> omega)) | ((with_reducible apply Kept.via); focus with_reducible assumption)))))).mono ?_
  rintro e w2 ⟨rfl, k2⟩
  have Re2 := Lib.hid (RWe.out.kept k2)
  clear RWe
  have kz2 := Kept.trans kz1 k2
  clear kz1 k2
  obtain ⟨ce0, ce1, ce2, ce3, ce4, ce5⟩ := (Re2.out).1
  go_wp2_with fail
  refine (Q1.out _ (Tens.kept T.out (by (repeat (first | with_reducible exact Kept.refl _ | with_reducible apply Kept.drew | with_reducible apply Kept.alloc | ((with_reducible apply Kept.set); focus (simp <;> omega)) | ((with_reducible apply Kept.via); focus with_reducible assumption)))))).mono ?_
  rintro e w3 ⟨rfl, k3⟩
  clear ce0 ce1 ce2 ce3 ce4 ce5
  have Re3 := Lib.hid (Re2.out.kept k3)
  clear Re2
  have kz3 := Kept.trans kz2 k3
  clear kz2 k3
  obtain ⟨ce0, ce1, ce2, ce3, ce4, ce5⟩ := (Re3.out).1
  go_wp2_with fail
  refine (Q2.out _ (Tens.kept T.out (by (repeat (first | with_reducible exact Kept.refl _ | with_reducible apply Kept.drew | with_reducible apply Kept.alloc | ((with_reducible apply Kept.set); focus (simp <;> omega)) | ((with_reducible apply Kept.via); focus with_reducible assumption)))))).mono ?_
  rintro e w4 ⟨rfl, k4⟩
  clear ce0 ce1 ce2 ce3 ce4 ce5
  have Re4 := Lib.hid (Re3.out.kept k4)
  clear Re3
  have kz4 := Kept.trans kz3 k4
  clear kz3 k4
  obtain ⟨ce0, ce1, ce2, ce3, ce4, ce5⟩ := (Re4.out).1
  go_wp2_with fail
  refine (QA1.out _ (Tens.kept T.out (by (repeat (first | with_reducible exact Kept.refl _ | with_reducible apply Kept.drew | with_reducible apply Kept.alloc | ((with_reducible apply Kept.set); focus (simp <;> omega)) | ((with_reducible apply Kept.via); focus with_reducible assumption)))))).mono ?_
  rintro e w5 ⟨rfl, k5⟩
  clear ce0 ce1 ce2 ce3 ce4 ce5
  have Re5 := Lib.hid (Re4.out.kept k5)
  clear Re4
  have kz5 := Kept.trans kz4 k5
  clear kz4 k5
  obtain ⟨ce0, ce1, ce2, ce3, ce4, ce5⟩ := (Re5.out).1
  go_wp2
  go_ret
  exact ⟨rfl, kz5⟩
set_option maxRecDepth 100000 in
set_option maxHeartbeats 1600000 in
theorem reach12_z2 (CC : ECheckC) (BC : EBeginC) (SC : EShiftC) (RC : URiseC) (AC : UAtC) (TC : UTargetC) (XC : UReachC) {s f m k es x mo q m2 : Int} (hi : In64E (⟨true, s, f, m, k, es⟩ : Ep)) (hx : In64 x) (p0 : 0 ≤ mo) (p1 : mo ≤ 4294967295) (hq : x.tdiv 2 = q) (q0 : -4611686018427387904 ≤ q) (q1 : q ≤ 4611686018427387904) (e1 : ReachIs (⟨true, s, f, m, k, es⟩ : Ep) x 0 true) (e2 : ReachIs (⟨true, s, f, m, k, es⟩ : Ep) (q + mo) m2 true) (s0 : 0 ≤ s) (s1 : s ≤ 1099511627776) {v1 : Int} (a1 : atN (⟨true, s, f, m, k, es⟩ : Ep) (s + 0) = v1) (h1 : x ≤ v1) (h5 : x ≤ q + mo) (h6 : 0 ≤ m2) (w : World) (T_ : Tens w) : Calls Tryd.prog 8 #[.agg #[.bool true, .int .i64 s, .int .i64 f, .int .i64 m, .int .i64 k, .int .i64 es], .int .i64 x, .int .u32 mo] w fun e w' => e = .returned (.bool true) ∧ Kept w w' := by
  have CC' := Lib.hid CC
  have BC' := Lib.hid BC
  have SC' := Lib.hid SC
  have RC' := Lib.hid RC
  have AC' := Lib.hid AC
  have TC' := Lib.hid TC
  have XC' := Lib.hid XC
  have AW' := Lib.hid (fun w TT_ => awake12 CC BC SC RC AC TC XC w TT_)
  clear CC BC SC RC AC TC XC
  have T := Lib.hid T_
  clear T_
  have Q1 := Lib.hid (fun w_ TT_ => XC'.out (⟨true, s, f, m, k, es⟩ : Ep) x 0 true hi hx e1 w_ TT_)
  have Q2 := Lib.hid (fun w_ TT_ => XC'.out (⟨true, s, f, m, k, es⟩ : Ep) (q + mo) m2 true hi (by unfold In64; omega) e2 w_ TT_)
  have QA1 := Lib.hid (fun w_ TT_ => AC'.out (⟨true, s, f, m, k, es⟩ : Ep) (s + 0) v1 hi (by unfold In64; omega) a1 w_ TT_)
  rw [Int.add_zero] at QA1
  clear a1
  clear e1 e2 hi hx
  have d1 : decide (x ≤ v1) = true := by simp; omega
  have d5 : decide (q + mo < x) = false := by simp; omega
  have d6 : decide (0 ≤ m2) = true := by simp; omega
  go_enter Tryd.func8, Tryd.ntmps8
  go_upto_region 1 with fail
  generalize hW : World.alloc w (.cells #[.bool true, .int .i64 s, .int .i64 f, .int .i64 m, .int .i64 k, .int .i64 es] 23) = We
  have KWe : Kept w We := by subst hW; exact (Kept.refl _).alloc _ _
  have RWe := Lib.hid (show RE We w.heap.size (⟨true, s, f, m, k, es⟩ : Ep) from by subst hW; exact re_new w (⟨true, s, f, m, k, es⟩ : Ep) _)
  have LWe : w.heap.size < We.heap.size := by subst hW; simp
  clear hW
  generalize hgWe : w.heap.size = gWe at *
  clear LWe
  have kz1 := KWe
  go_wp2_with fail
  refine (AW'.out _ (Tens.kept T.out (by (repeat (first | with_reducible exact Kept.refl _ | with_reducible apply Kept.drew | with_reducible apply Kept.alloc | ((with_reducible apply Kept.set); focus (simp <;> omega)) | ((with_reducible apply Kept.via); focus with_reducible assumption)))))).mono ?_
  rintro e w2 ⟨rfl, k2⟩
  have Re2 := Lib.hid (RWe.out.kept k2)
  clear RWe
  have kz2 := Kept.trans kz1 k2
  clear kz1 k2
  obtain ⟨ce0, ce1, ce2, ce3, ce4, ce5⟩ := (Re2.out).1
  go_wp2_with fail
  refine (Q1.out _ (Tens.kept T.out (by (repeat (first | with_reducible exact Kept.refl _ | with_reducible apply Kept.drew | with_reducible apply Kept.alloc | ((with_reducible apply Kept.set); focus (simp <;> omega)) | ((with_reducible apply Kept.via); focus with_reducible assumption)))))).mono ?_
  rintro e w3 ⟨rfl, k3⟩
  clear ce0 ce1 ce2 ce3 ce4 ce5
  have Re3 := Lib.hid (Re2.out.kept k3)
  clear Re2
  have kz3 := Kept.trans kz2 k3
  clear kz2 k3
  obtain ⟨ce0, ce1, ce2, ce3, ce4, ce5⟩ := (Re3.out).1
  go_wp2_with fail
  refine (Q2.out _ (Tens.kept T.out (by (repeat (first | with_reducible exact Kept.refl _ | with_reducible apply Kept.drew | with_reducible apply Kept.alloc | ((with_reducible apply Kept.set); focus (simp <;> omega)) | ((with_reducible apply Kept.via); focus with_reducible assumption)))))).mono ?_
  rintro e w4 ⟨rfl, k4⟩
  clear ce0 ce1 ce2 ce3 ce4 ce5
  have Re4 := Lib.hid (Re3.out.kept k4)
  clear Re3
  have kz4 := Kept.trans kz3 k4
  clear kz3 k4
  obtain ⟨ce0, ce1, ce2, ce3, ce4, ce5⟩ := (Re4.out).1
  go_wp2_with fail
  refine (QA1.out _ (Tens.kept T.out (by (repeat (first | with_reducible exact Kept.refl _ | with_reducible apply Kept.drew | with_reducible apply Kept.alloc | ((with_reducible apply Kept.set); focus (simp <;> omega)) | ((with_reducible apply Kept.via); focus with_reducible assumption)))))).mono ?_
  rintro e w5 ⟨rfl, k5⟩
  clear ce0 ce1 ce2 ce3 ce4 ce5
  have Re5 := Lib.hid (Re4.out.kept k5)
  clear Re4
  have kz5 := Kept.trans kz4 k5
  clear kz4 k5
  obtain ⟨ce0, ce1, ce2, ce3, ce4, ce5⟩ := (Re5.out).1
  go_wp2
  go_ret
  exact ⟨rfl, kz5⟩
set_option maxRecDepth 100000 in
set_option maxHeartbeats 1600000 in
theorem reach12_n0 (CC : ECheckC) (BC : EBeginC) (SC : EShiftC) (RC : URiseC) (AC : UAtC) (TC : UTargetC) (XC : UReachC) {s f m k es x mo q m2 n : Int} (hi : In64E (⟨true, s, f, m, k, es⟩ : Ep)) (hx : In64 x) (p0 : 0 ≤ mo) (p1 : mo ≤ 4294967295) (hq : x.tdiv 2 = q) (q0 : -4611686018427387904 ≤ q) (q1 : q ≤ 4611686018427387904) (e1 : ReachIs (⟨true, s, f, m, k, es⟩ : Ep) x n true) (e2 : ReachIs (⟨true, s, f, m, k, es⟩ : Ep) (q + mo) m2 false) (n0 : 0 < n) (n1 : n ≤ 2285367468) {v0 : Int} (a0 : atN (⟨true, s, f, m, k, es⟩ : Ep) (s + n - 1) = v0) (h0 : v0 < x) (s0 : 0 ≤ s) (s1 : s ≤ 1099511627776) {v1 : Int} (a1 : atN (⟨true, s, f, m, k, es⟩ : Ep) (s + n) = v1) (h1 : x ≤ v1)  (w : World) (T_ : Tens w) : Calls Tryd.prog 8 #[.agg #[.bool true, .int .i64 s, .int .i64 f, .int .i64 m, .int .i64 k, .int .i64 es], .int .i64 x, .int .u32 mo] w fun e w' => e = .returned (.bool true) ∧ Kept w w' := by
  have CC' := Lib.hid CC
  have BC' := Lib.hid BC
  have SC' := Lib.hid SC
  have RC' := Lib.hid RC
  have AC' := Lib.hid AC
  have TC' := Lib.hid TC
  have XC' := Lib.hid XC
  have AW' := Lib.hid (fun w TT_ => awake12 CC BC SC RC AC TC XC w TT_)
  clear CC BC SC RC AC TC XC
  have T := Lib.hid T_
  clear T_
  have Q1 := Lib.hid (fun w_ TT_ => XC'.out (⟨true, s, f, m, k, es⟩ : Ep) x n true hi hx e1 w_ TT_)
  have Q2 := Lib.hid (fun w_ TT_ => XC'.out (⟨true, s, f, m, k, es⟩ : Ep) (q + mo) m2 false hi (by unfold In64; omega) e2 w_ TT_)
  have QA0 := Lib.hid (fun w_ TT_ => AC'.out (⟨true, s, f, m, k, es⟩ : Ep) (s + n - 1) v0 hi (by unfold In64; omega) a0 w_ TT_)
  have QA1 := Lib.hid (fun w_ TT_ => AC'.out (⟨true, s, f, m, k, es⟩ : Ep) (s + n) v1 hi (by unfold In64; omega) a1 w_ TT_)
  clear a0 a1
  clear e1 e2 hi hx
  have n2 : ¬ n = 0 := by omega
  have d0 : decide (v0 < x) = true := by simp; omega
  have d1 : decide (x ≤ v1) = true := by simp; omega
  go_enter Tryd.func8, Tryd.ntmps8
  go_upto_region 1 with fail
  generalize hW : World.alloc w (.cells #[.bool true, .int .i64 s, .int .i64 f, .int .i64 m, .int .i64 k, .int .i64 es] 23) = We
  have KWe : Kept w We := by subst hW; exact (Kept.refl _).alloc _ _
  have RWe := Lib.hid (show RE We w.heap.size (⟨true, s, f, m, k, es⟩ : Ep) from by subst hW; exact re_new w (⟨true, s, f, m, k, es⟩ : Ep) _)
  have LWe : w.heap.size < We.heap.size := by subst hW; simp
  clear hW
  generalize hgWe : w.heap.size = gWe at *
  clear LWe
  have kz1 := KWe
  go_wp2_with fail
  refine (AW'.out _ (Tens.kept T.out (by (repeat (first | with_reducible exact Kept.refl _ | with_reducible apply Kept.drew | with_reducible apply Kept.alloc | ((with_reducible apply Kept.set); focus (simp <;> omega)) | ((with_reducible apply Kept.via); focus with_reducible assumption)))))).mono ?_
  rintro e w2 ⟨rfl, k2⟩
  have Re2 := Lib.hid (RWe.out.kept k2)
  clear RWe
  have kz2 := Kept.trans kz1 k2
  clear kz1 k2
  obtain ⟨ce0, ce1, ce2, ce3, ce4, ce5⟩ := (Re2.out).1
  go_wp2_with fail
  refine (Q1.out _ (Tens.kept T.out (by (repeat (first | with_reducible exact Kept.refl _ | with_reducible apply Kept.drew | with_reducible apply Kept.alloc | ((with_reducible apply Kept.set); focus (simp <;> omega)) | ((with_reducible apply Kept.via); focus with_reducible assumption)))))).mono ?_
  rintro e w3 ⟨rfl, k3⟩
  clear ce0 ce1 ce2 ce3 ce4 ce5
  have Re3 := Lib.hid (Re2.out.kept k3)
  clear Re2
  have kz3 := Kept.trans kz2 k3
  clear kz2 k3
  obtain ⟨ce0, ce1, ce2, ce3, ce4, ce5⟩ := (Re3.out).1
  go_wp2_with fail
  refine (Q2.out _ (Tens.kept T.out (by (repeat (first | with_reducible exact Kept.refl _ | with_reducible apply Kept.drew | with_reducible apply Kept.alloc | ((with_reducible apply Kept.set); focus (simp <;> omega)) | ((with_reducible apply Kept.via); focus with_reducible assumption)))))).mono ?_
  rintro e w4 ⟨rfl, k4⟩
  clear ce0 ce1 ce2 ce3 ce4 ce5
  have Re4 := Lib.hid (Re3.out.kept k4)
  clear Re3
  have kz4 := Kept.trans kz3 k4
  clear kz3 k4
  obtain ⟨ce0, ce1, ce2, ce3, ce4, ce5⟩ := (Re4.out).1
  go_wp2_with fail
  refine (QA0.out _ (Tens.kept T.out (by (repeat (first | with_reducible exact Kept.refl _ | with_reducible apply Kept.drew | with_reducible apply Kept.alloc | ((with_reducible apply Kept.set); focus (simp <;> omega)) | ((with_reducible apply Kept.via); focus with_reducible assumption)))))).mono ?_
  rintro e w5 ⟨rfl, k5⟩
  clear ce0 ce1 ce2 ce3 ce4 ce5
  have Re5 := Lib.hid (Re4.out.kept k5)
  clear Re4
  have kz5 := Kept.trans kz4 k5
  clear kz4 k5
  obtain ⟨ce0, ce1, ce2, ce3, ce4, ce5⟩ := (Re5.out).1
  go_wp2_with fail
  refine (QA1.out _ (Tens.kept T.out (by (repeat (first | with_reducible exact Kept.refl _ | with_reducible apply Kept.drew | with_reducible apply Kept.alloc | ((with_reducible apply Kept.set); focus (simp <;> omega)) | ((with_reducible apply Kept.via); focus with_reducible assumption)))))).mono ?_
  rintro e w6 ⟨rfl, k6⟩
  clear ce0 ce1 ce2 ce3 ce4 ce5
  have Re6 := Lib.hid (Re5.out.kept k6)
  clear Re5
  have kz6 := Kept.trans kz5 k6
  clear kz5 k6
  obtain ⟨ce0, ce1, ce2, ce3, ce4, ce5⟩ := (Re6.out).1
  go_wp2
  go_ret
  exact ⟨rfl, kz6⟩
set_option maxRecDepth 100000 in
set_option maxHeartbeats 1600000 in
theorem reach12_n1 (CC : ECheckC) (BC : EBeginC) (SC : EShiftC) (RC : URiseC) (AC : UAtC) (TC : UTargetC) (XC : UReachC) {s f m k es x mo q m2 n : Int} (hi : In64E (⟨true, s, f, m, k, es⟩ : Ep)) (hx : In64 x) (p0 : 0 ≤ mo) (p1 : mo ≤ 4294967295) (hq : x.tdiv 2 = q) (q0 : -4611686018427387904 ≤ q) (q1 : q ≤ 4611686018427387904) (e1 : ReachIs (⟨true, s, f, m, k, es⟩ : Ep) x n true) (e2 : ReachIs (⟨true, s, f, m, k, es⟩ : Ep) (q + mo) m2 true) (n0 : 0 < n) (n1 : n ≤ 2285367468) {v0 : Int} (a0 : atN (⟨true, s, f, m, k, es⟩ : Ep) (s + n - 1) = v0) (h0 : v0 < x) (s0 : 0 ≤ s) (s1 : s ≤ 1099511627776) {v1 : Int} (a1 : atN (⟨true, s, f, m, k, es⟩ : Ep) (s + n) = v1) (h1 : x ≤ v1) (h5 : q + mo < x) (w : World) (T_ : Tens w) : Calls Tryd.prog 8 #[.agg #[.bool true, .int .i64 s, .int .i64 f, .int .i64 m, .int .i64 k, .int .i64 es], .int .i64 x, .int .u32 mo] w fun e w' => e = .returned (.bool true) ∧ Kept w w' := by
  have CC' := Lib.hid CC
  have BC' := Lib.hid BC
  have SC' := Lib.hid SC
  have RC' := Lib.hid RC
  have AC' := Lib.hid AC
  have TC' := Lib.hid TC
  have XC' := Lib.hid XC
  have AW' := Lib.hid (fun w TT_ => awake12 CC BC SC RC AC TC XC w TT_)
  clear CC BC SC RC AC TC XC
  have T := Lib.hid T_
  clear T_
  have Q1 := Lib.hid (fun w_ TT_ => XC'.out (⟨true, s, f, m, k, es⟩ : Ep) x n true hi hx e1 w_ TT_)
  have Q2 := Lib.hid (fun w_ TT_ => XC'.out (⟨true, s, f, m, k, es⟩ : Ep) (q + mo) m2 true hi (by unfold In64; omega) e2 w_ TT_)
  have QA0 := Lib.hid (fun w_ TT_ => AC'.out (⟨true, s, f, m, k, es⟩ : Ep) (s + n - 1) v0 hi (by unfold In64; omega) a0 w_ TT_)
  have QA1 := Lib.hid (fun w_ TT_ => AC'.out (⟨true, s, f, m, k, es⟩ : Ep) (s + n) v1 hi (by unfold In64; omega) a1 w_ TT_)
  clear a0 a1
  clear e1 e2 hi hx
  have n2 : ¬ n = 0 := by omega
  have d0 : decide (v0 < x) = true := by simp; omega
  have d1 : decide (x ≤ v1) = true := by simp; omega
  have d5 : decide (q + mo < x) = true := by simp; omega
  go_enter Tryd.func8, Tryd.ntmps8
  go_upto_region 1 with fail
  generalize hW : World.alloc w (.cells #[.bool true, .int .i64 s, .int .i64 f, .int .i64 m, .int .i64 k, .int .i64 es] 23) = We
  have KWe : Kept w We := by subst hW; exact (Kept.refl _).alloc _ _
  have RWe := Lib.hid (show RE We w.heap.size (⟨true, s, f, m, k, es⟩ : Ep) from by subst hW; exact re_new w (⟨true, s, f, m, k, es⟩ : Ep) _)
  have LWe : w.heap.size < We.heap.size := by subst hW; simp
  clear hW
  generalize hgWe : w.heap.size = gWe at *
  clear LWe
  have kz1 := KWe
  go_wp2_with fail
  refine (AW'.out _ (Tens.kept T.out (by (repeat (first | with_reducible exact Kept.refl _ | with_reducible apply Kept.drew | with_reducible apply Kept.alloc | ((with_reducible apply Kept.set); focus (simp <;> omega)) | ((with_reducible apply Kept.via); focus with_reducible assumption)))))).mono ?_
  rintro e w2 ⟨rfl, k2⟩
  have Re2 := Lib.hid (RWe.out.kept k2)
  clear RWe
  have kz2 := Kept.trans kz1 k2
  clear kz1 k2
  obtain ⟨ce0, ce1, ce2, ce3, ce4, ce5⟩ := (Re2.out).1
  go_wp2_with fail
  refine (Q1.out _ (Tens.kept T.out (by (repeat (first | with_reducible exact Kept.refl _ | with_reducible apply Kept.drew | with_reducible apply Kept.alloc | ((with_reducible apply Kept.set); focus (simp <;> omega)) | ((with_reducible apply Kept.via); focus with_reducible assumption)))))).mono ?_
  rintro e w3 ⟨rfl, k3⟩
  clear ce0 ce1 ce2 ce3 ce4 ce5
  have Re3 := Lib.hid (Re2.out.kept k3)
  clear Re2
  have kz3 := Kept.trans kz2 k3
  clear kz2 k3
  obtain ⟨ce0, ce1, ce2, ce3, ce4, ce5⟩ := (Re3.out).1
  go_wp2_with fail
  refine (Q2.out _ (Tens.kept T.out (by (repeat (first | with_reducible exact Kept.refl _ | with_reducible apply Kept.drew | with_reducible apply Kept.alloc | ((with_reducible apply Kept.set); focus (simp <;> omega)) | ((with_reducible apply Kept.via); focus with_reducible assumption)))))).mono ?_
  rintro e w4 ⟨rfl, k4⟩
  clear ce0 ce1 ce2 ce3 ce4 ce5
  have Re4 := Lib.hid (Re3.out.kept k4)
  clear Re3
  have kz4 := Kept.trans kz3 k4
  clear kz3 k4
  obtain ⟨ce0, ce1, ce2, ce3, ce4, ce5⟩ := (Re4.out).1
  go_wp2_with fail
  refine (QA0.out _ (Tens.kept T.out (by (repeat (first | with_reducible exact Kept.refl _ | with_reducible apply Kept.drew | with_reducible apply Kept.alloc | ((with_reducible apply Kept.set); focus (simp <;> omega)) | ((with_reducible apply Kept.via); focus with_reducible assumption)))))).mono ?_
  rintro e w5 ⟨rfl, k5⟩
  clear ce0 ce1 ce2 ce3 ce4 ce5
  have Re5 := Lib.hid (Re4.out.kept k5)
  clear Re4
  have kz5 := Kept.trans kz4 k5
  clear kz4 k5
  obtain ⟨ce0, ce1, ce2, ce3, ce4, ce5⟩ := (Re5.out).1
  go_wp2_with fail
  refine (QA1.out _ (Tens.kept T.out (by (repeat (first | with_reducible exact Kept.refl _ | with_reducible apply Kept.drew | with_reducible apply Kept.alloc | ((with_reducible apply Kept.set); focus (simp <;> omega)) | ((with_reducible apply Kept.via); focus with_reducible assumption)))))).mono ?_
  rintro e w6 ⟨rfl, k6⟩
  clear ce0 ce1 ce2 ce3 ce4 ce5
  have Re6 := Lib.hid (Re5.out.kept k6)
  clear Re5
  have kz6 := Kept.trans kz5 k6
  clear kz5 k6
  obtain ⟨ce0, ce1, ce2, ce3, ce4, ce5⟩ := (Re6.out).1
  go_wp2
  go_ret
  exact ⟨rfl, kz6⟩
set_option maxRecDepth 100000 in
set_option maxHeartbeats 1600000 in
theorem reach12_n2 (CC : ECheckC) (BC : EBeginC) (SC : EShiftC) (RC : URiseC) (AC : UAtC) (TC : UTargetC) (XC : UReachC) {s f m k es x mo q m2 n : Int} (hi : In64E (⟨true, s, f, m, k, es⟩ : Ep)) (hx : In64 x) (p0 : 0 ≤ mo) (p1 : mo ≤ 4294967295) (hq : x.tdiv 2 = q) (q0 : -4611686018427387904 ≤ q) (q1 : q ≤ 4611686018427387904) (e1 : ReachIs (⟨true, s, f, m, k, es⟩ : Ep) x n true) (e2 : ReachIs (⟨true, s, f, m, k, es⟩ : Ep) (q + mo) m2 true) (n0 : 0 < n) (n1 : n ≤ 2285367468) {v0 : Int} (a0 : atN (⟨true, s, f, m, k, es⟩ : Ep) (s + n - 1) = v0) (h0 : v0 < x) (s0 : 0 ≤ s) (s1 : s ≤ 1099511627776) {v1 : Int} (a1 : atN (⟨true, s, f, m, k, es⟩ : Ep) (s + n) = v1) (h1 : x ≤ v1) (h5 : x ≤ q + mo) (h6 : n ≤ m2) (w : World) (T_ : Tens w) : Calls Tryd.prog 8 #[.agg #[.bool true, .int .i64 s, .int .i64 f, .int .i64 m, .int .i64 k, .int .i64 es], .int .i64 x, .int .u32 mo] w fun e w' => e = .returned (.bool true) ∧ Kept w w' := by
  have CC' := Lib.hid CC
  have BC' := Lib.hid BC
  have SC' := Lib.hid SC
  have RC' := Lib.hid RC
  have AC' := Lib.hid AC
  have TC' := Lib.hid TC
  have XC' := Lib.hid XC
  have AW' := Lib.hid (fun w TT_ => awake12 CC BC SC RC AC TC XC w TT_)
  clear CC BC SC RC AC TC XC
  have T := Lib.hid T_
  clear T_
  have Q1 := Lib.hid (fun w_ TT_ => XC'.out (⟨true, s, f, m, k, es⟩ : Ep) x n true hi hx e1 w_ TT_)
  have Q2 := Lib.hid (fun w_ TT_ => XC'.out (⟨true, s, f, m, k, es⟩ : Ep) (q + mo) m2 true hi (by unfold In64; omega) e2 w_ TT_)
  have QA0 := Lib.hid (fun w_ TT_ => AC'.out (⟨true, s, f, m, k, es⟩ : Ep) (s + n - 1) v0 hi (by unfold In64; omega) a0 w_ TT_)
  have QA1 := Lib.hid (fun w_ TT_ => AC'.out (⟨true, s, f, m, k, es⟩ : Ep) (s + n) v1 hi (by unfold In64; omega) a1 w_ TT_)
  clear a0 a1
  clear e1 e2 hi hx
  have n2 : ¬ n = 0 := by omega
  have d0 : decide (v0 < x) = true := by simp; omega
  have d1 : decide (x ≤ v1) = true := by simp; omega
  have d5 : decide (q + mo < x) = false := by simp; omega
  have d6 : decide (n ≤ m2) = true := by simp; omega
  go_enter Tryd.func8, Tryd.ntmps8
  go_upto_region 1 with fail
  generalize hW : World.alloc w (.cells #[.bool true, .int .i64 s, .int .i64 f, .int .i64 m, .int .i64 k, .int .i64 es] 23) = We
  have KWe : Kept w We := by subst hW; exact (Kept.refl _).alloc _ _
  have RWe := Lib.hid (show RE We w.heap.size (⟨true, s, f, m, k, es⟩ : Ep) from by subst hW; exact re_new w (⟨true, s, f, m, k, es⟩ : Ep) _)
  have LWe : w.heap.size < We.heap.size := by subst hW; simp
  clear hW
  generalize hgWe : w.heap.size = gWe at *
  clear LWe
  have kz1 := KWe
  go_wp2_with fail
  refine (AW'.out _ (Tens.kept T.out (by (repeat (first | with_reducible exact Kept.refl _ | with_reducible apply Kept.drew | with_reducible apply Kept.alloc | ((with_reducible apply Kept.set); focus (simp <;> omega)) | ((with_reducible apply Kept.via); focus with_reducible assumption)))))).mono ?_
  rintro e w2 ⟨rfl, k2⟩
  have Re2 := Lib.hid (RWe.out.kept k2)
  clear RWe
  have kz2 := Kept.trans kz1 k2
  clear kz1 k2
  obtain ⟨ce0, ce1, ce2, ce3, ce4, ce5⟩ := (Re2.out).1
  go_wp2_with fail
  refine (Q1.out _ (Tens.kept T.out (by (repeat (first | with_reducible exact Kept.refl _ | with_reducible apply Kept.drew | with_reducible apply Kept.alloc | ((with_reducible apply Kept.set); focus (simp <;> omega)) | ((with_reducible apply Kept.via); focus with_reducible assumption)))))).mono ?_
  rintro e w3 ⟨rfl, k3⟩
  clear ce0 ce1 ce2 ce3 ce4 ce5
  have Re3 := Lib.hid (Re2.out.kept k3)
  clear Re2
  have kz3 := Kept.trans kz2 k3
  clear kz2 k3
  obtain ⟨ce0, ce1, ce2, ce3, ce4, ce5⟩ := (Re3.out).1
  go_wp2_with fail
  refine (Q2.out _ (Tens.kept T.out (by (repeat (first | with_reducible exact Kept.refl _ | with_reducible apply Kept.drew | with_reducible apply Kept.alloc | ((with_reducible apply Kept.set); focus (simp <;> omega)) | ((with_reducible apply Kept.via); focus with_reducible assumption)))))).mono ?_
  rintro e w4 ⟨rfl, k4⟩
  clear ce0 ce1 ce2 ce3 ce4 ce5
  have Re4 := Lib.hid (Re3.out.kept k4)
  clear Re3
  have kz4 := Kept.trans kz3 k4
  clear kz3 k4
  obtain ⟨ce0, ce1, ce2, ce3, ce4, ce5⟩ := (Re4.out).1
  go_wp2_with fail
  refine (QA0.out _ (Tens.kept T.out (by (repeat (first | with_reducible exact Kept.refl _ | with_reducible apply Kept.drew | with_reducible apply Kept.alloc | ((with_reducible apply Kept.set); focus (simp <;> omega)) | ((with_reducible apply Kept.via); focus with_reducible assumption)))))).mono ?_
  rintro e w5 ⟨rfl, k5⟩
  clear ce0 ce1 ce2 ce3 ce4 ce5
  have Re5 := Lib.hid (Re4.out.kept k5)
  clear Re4
  have kz5 := Kept.trans kz4 k5
  clear kz4 k5
  obtain ⟨ce0, ce1, ce2, ce3, ce4, ce5⟩ := (Re5.out).1
  go_wp2_with fail
  refine (QA1.out _ (Tens.kept T.out (by (repeat (first | with_reducible exact Kept.refl _ | with_reducible apply Kept.drew | with_reducible apply Kept.alloc | ((with_reducible apply Kept.set); focus (simp <;> omega)) | ((with_reducible apply Kept.via); focus with_reducible assumption)))))).mono ?_
  rintro e w6 ⟨rfl, k6⟩
  clear ce0 ce1 ce2 ce3 ce4 ce5
  have Re6 := Lib.hid (Re5.out.kept k6)
  clear Re5
  have kz6 := Kept.trans kz5 k6
  clear kz5 k6
  obtain ⟨ce0, ce1, ce2, ce3, ce4, ce5⟩ := (Re6.out).1
  go_wp2
  go_ret
  exact ⟨rfl, kz6⟩
theorem cubicReach_walk (CC : ECheckC) (BC : EBeginC) (SC : EShiftC) (RC : URiseC) (AC : UAtC) (TC : UTargetC) (XC : UReachC) (on : Bool) (s f m k es x mo : Int) (w : World) (T_ : Tens w) (hi : In64E ⟨on, s, f, m, k, es⟩) (hx : In64 x) (p0 : 0 ≤ mo) (p1 : mo ≤ 4294967295) : Calls Tryd.prog 8 #[.agg #[.bool on, .int .i64 s, .int .i64 f, .int .i64 m, .int .i64 k, .int .i64 es], .int .i64 x, .int .u32 mo] w fun e w' => e = .returned (.bool true) ∧ Kept w w' := by
  obtain ⟨n, b, e1⟩ := reach_ex ⟨on, s, f, m, k, es⟩ x
  obtain ⟨q, hq⟩ : ∃ q, x.tdiv 2 = q := ⟨_, rfl⟩
  have qb : -4611686018427387904 ≤ q ∧ q ≤ 4611686018427387904 := by
    unfold In64 at hx
    have : q = if 0 ≤ x then x / 2 else -(-x / 2) := by
      rw [← hq]
      split
      · exact Int.tdiv_eq_ediv_of_nonneg (by assumption)
      · rw [← Int.tdiv_eq_ediv_of_nonneg (a := -x) (by omega), Int.neg_tdiv, Int.neg_neg]
    split at this <;> omega
  obtain ⟨m2, b2, e2⟩ := reach_ex ⟨on, s, f, m, k, es⟩ (q + mo)
  rcases e1 with ⟨h0, rfl, rfl⟩ | ⟨h0, h1, rfl, h2, h3, h4, h5⟩
  · have e1 : ReachIs ⟨on, s, f, m, k, es⟩ x 0 false := Or.inl ⟨h0, rfl, rfl⟩
    by_cases c : 68719476736 < x
    · exact reach12_far CC BC SC RC AC TC XC hi hx p0 p1 hq qb.1 qb.2 e1 e2 c w T_
    · cases on with
      | false => exact reach12_off CC BC SC RC AC TC XC hi hx p0 p1 hq qb.1 qb.2 e1 e2 (by omega) w T_
      | true => exact reach12_no CC BC SC RC AC TC XC hi hx p0 p1 hq qb.1 qb.2 e1 e2 (by omega) ⟨fun z => (by cases z), fun z => absurd ⟨⟨z, rfl⟩, by omega⟩ h0⟩ w T_
  · have e1 : ReachIs ⟨on, s, f, m, k, es⟩ x n true := Or.inr ⟨h0, h1, rfl, h2, h3, h4, h5⟩
    have r := onE_in h0
    have ri := reach_in e1
    obtain rfl : on = true := h0.2
    have a1 := atN_on h0 (s + n)
    have h4' : x ≤ atV ⟨true, s, f, m, k, es⟩ (s + n) := h4
    have rs : 0 ≤ s ∧ s ≤ 1099511627776 := r.1
    have rise : b2 = true → x ≤ q + mo → n ≤ m2 := fun z y => by subst z; exact reach_rises e1 e2 y
    by_cases z : n = 0
    · subst z
      cases b2 with
      | false => exact reach12_z0 CC BC SC RC AC TC XC hi hx p0 p1 hq qb.1 qb.2 e1 e2 rs.1 rs.2 a1 h4' w T_
      | true =>
        by_cases c : q + mo < x
        · exact reach12_z1 CC BC SC RC AC TC XC hi hx p0 p1 hq qb.1 qb.2 e1 e2 rs.1 rs.2 a1 h4' c w T_
        · exact reach12_z2 CC BC SC RC AC TC XC hi hx p0 p1 hq qb.1 qb.2 e1 e2 rs.1 rs.2 a1 h4' (by omega) (rise rfl (by omega)) w T_
    · have a0 := atN_on h0 (s + n - 1)
      have h5' : atV ⟨true, s, f, m, k, es⟩ (s + n - 1) < x := by
        rcases h5 with y | y
        · exact absurd y z
        · exact y
      cases b2 with
      | false => exact reach12_n0 CC BC SC RC AC TC XC hi hx p0 p1 hq qb.1 qb.2 e1 e2 (by omega) ri.2 a0 h5' rs.1 rs.2 a1 h4' w T_
      | true =>
        by_cases c : q + mo < x
        · exact reach12_n1 CC BC SC RC AC TC XC hi hx p0 p1 hq qb.1 qb.2 e1 e2 (by omega) ri.2 a0 h5' rs.1 rs.2 a1 h4' c w T_
        · exact reach12_n2 CC BC SC RC AC TC XC hi hx p0 p1 hq qb.1 qb.2 e1 e2 (by omega) ri.2 a0 h5' rs.1 rs.2 a1 h4' (by omega) (rise rfl (by omega)) w T_
end Go.Proofs.YtlonfobeblnbbaaDoor
