/-
  The call 'awake' of layer 12's statements answers true, if the calls do what they are to do.
-/
import Derived.Test.YtlonfobeblnbbaaDoorCon12
import Derived.Test.YtlonfobeblnbbaaDoorRoom
import Derived.Deep.RegionHeld3
import Derived.Deep.DeepCutAuto
namespace Go.Proofs.YtlonfobeblnbbaaDoor
open Go.RowKit Go.BigFrame
set_option linter.unusedVariables false

theorem k12 : KIs 262144 2154434 := by unfold KIs gapK IsThird; decide
theorem b12 : BeginIs 1000 393216 655360 (⟨true, 1000, 393216, 655360, 2154434, 393216⟩ : Ep) 0 := Or.inr ⟨by unfold IsTime; decide, by decide, by decide, rfl, _, k12, rfl⟩
theorem on12 : OnE (⟨true, 1000, 393216, 655360, 2154434, 393216⟩ : Ep) := ⟨begin_may b12, rfl⟩
theorem off12 (w n : Int) (b : Bool) (h : n = 0 ∧ b = false) : ReachIs (⟨false, 0, 0, 0, 0, 0⟩ : Ep) w n b := Or.inl ⟨fun x => (by have := x.1.2; cases this), h.1, h.2⟩
theorem over12 : ReachIs (⟨true, 1000, 393216, 655360, 2154434, 393216⟩ : Ep) 68719476737 0 false := Or.inl ⟨fun x => absurd x.2 (by decide), rfl, rfl⟩
theorem at12 {now v : Int} (h : atV (⟨true, 1000, 393216, 655360, 2154434, 393216⟩ : Ep) now = v) : atN (⟨true, 1000, 393216, 655360, 2154434, 393216⟩ : Ep) now = v := by rw [atN_on on12]; exact h
theorem tg12 {now w v : Int} (h0 : 0 ≤ w) (h : (if atV (⟨true, 1000, 393216, 655360, 2154434, 393216⟩ : Ep) now < w then w else if heldAt (w + w / 2) < atV (⟨true, 1000, 393216, 655360, 2154434, 393216⟩ : Ep) now then heldAt (w + w / 2) else atV (⟨true, 1000, 393216, 655360, 2154434, 393216⟩ : Ep) now) = v) : targetN (⟨true, 1000, 393216, 655360, 2154434, 393216⟩ : Ep) now w = v := by unfold targetN; rw [if_pos ⟨on12, h0⟩]; exact h
theorem reach12 : ∃ n, ReachIs (⟨true, 1000, 393216, 655360, 2154434, 393216⟩ : Ep) 655360 n true ∧ 2100000 < n ∧ n ≤ 2154434 := by
  obtain ⟨n, b, h⟩ := reach_ex (⟨true, 1000, 393216, 655360, 2154434, 393216⟩ : Ep) 655360
  rcases h with ⟨h0, _⟩ | ⟨h0, h1, rfl, h2, h3, h4, h5⟩
  · exact absurd ⟨on12, by decide⟩ h0
  · refine ⟨n, Or.inr ⟨h0, h1, rfl, h2, h3, h4, h5⟩, ?_, ?_⟩
    · by_cases x : n ≤ 2100000
      · have m := atV_mono (⟨true, 1000, 393216, 655360, 2154434, 393216⟩ : Ep) (a := 1000 + n) (b := 2101000) (by omega)
        have e : atV (⟨true, 1000, 393216, 655360, 2154434, 393216⟩ : Ep) 2101000 = 655355 := by decide
        have h4' : 655360 ≤ atV (⟨true, 1000, 393216, 655360, 2154434, 393216⟩ : Ep) (1000 + n) := h4
        omega
      · omega
    · by_cases x : n ≤ 2154434
      · exact x
      · have m := atV_mono (⟨true, 1000, 393216, 655360, 2154434, 393216⟩ : Ep) (a := 2155434) (b := 1000 + n - 1) (by omega)
        have e : atV (⟨true, 1000, 393216, 655360, 2154434, 393216⟩ : Ep) 2155434 = 655360 := by decide
        rcases h5 with y | y
        · omega
        · have y' : atV (⟨true, 1000, 393216, 655360, 2154434, 393216⟩ : Ep) (1000 + n - 1) < 655360 := y
          omega
set_option maxRecDepth 100000 in
set_option maxHeartbeats 6400000 in
theorem awake12 (CC : ECheckC) (BC : EBeginC) (SC : EShiftC) (RC : URiseC) (AC : UAtC) (TC : UTargetC) (XC : UReachC) (w : World) (T_ : Tens w) : Calls Tryd.prog 10 #[] w fun e w' => e = .returned (.bool true) ∧ Kept w w' := by
  have CC' := Lib.hid CC
  have BC' := Lib.hid BC
  have SC' := Lib.hid SC
  have RC' := Lib.hid RC
  have AC' := Lib.hid AC
  have TC' := Lib.hid TC
  have XC' := Lib.hid XC
  clear CC BC SC RC AC TC XC
  have T := Lib.hid T_
  clear T_
  obtain ⟨n, rn, n0, n1⟩ := reach12
  go_enter Tryd.func10, Tryd.ntmps10
  go_wp2_with fail
  refine (BC'.out 1000 393216 655360 (⟨true, 1000, 393216, 655360, 2154434, 393216⟩ : Ep) 0 (by unfold In64; decide) (by unfold In64; decide) (by unfold In64; decide) b12 _ (Tens.kept T.out (by (repeat (first | with_reducible exact Kept.refl _ | with_reducible apply Kept.drew | with_reducible apply Kept.alloc | ((with_reducible apply Kept.set); focus (simp <;> omega)) | ((with_reducible apply Kept.via); focus with_reducible assumption)))))).mono ?_
  rintro e w1 ⟨rfl, k1⟩
  go_upto_region 2 with fail
  generalize hW : World.alloc w1 (.cells #[.bool true, .int .i64 1000, .int .i64 393216, .int .i64 655360, .int .i64 2154434, .int .i64 393216] 23) = Wa
  have KWa : Kept w1 Wa := by subst hW; exact (Kept.refl _).alloc _ _
  have RWa := Lib.hid (show RE Wa w1.heap.size (⟨true, 1000, 393216, 655360, 2154434, 393216⟩ : Ep) from by subst hW; exact re_new w1 (⟨true, 1000, 393216, 655360, 2154434, 393216⟩ : Ep) _)
  have LWa : w1.heap.size < Wa.heap.size := by subst hW; simp
  clear hW
  generalize hgWa : w1.heap.size = gWa at *
  obtain ⟨c0, c1, c2, c3, c4, c5⟩ := (RWa.out).1
  go_wp2_with fail
  refine (XC'.out (⟨true, 1000, 393216, 655360, 2154434, 393216⟩ : Ep) 655360 n true (by unfold In64E In64; decide) (by unfold In64; decide) rn _ (Tens.kept T.out (by (repeat (first | with_reducible exact Kept.refl _ | with_reducible apply Kept.drew | with_reducible apply Kept.alloc | ((with_reducible apply Kept.set); focus (simp <;> omega)) | ((with_reducible apply Kept.via); focus with_reducible assumption)))))).mono ?_
  rintro e w2 ⟨rfl, k2⟩
  have Ra2 := Lib.hid (RWa.out.kept k2)
  clear c0 c1 c2 c3 c4 c5
  obtain ⟨c0, c1, c2, c3, c4, c5⟩ := (Ra2.out).1
  go_wp2_with fail
  refine (XC'.out (⟨true, 1000, 393216, 655360, 2154434, 393216⟩ : Ep) 68719476737 0 false (by unfold In64E In64; decide) (by unfold In64; decide) over12 _ (Tens.kept T.out (by (repeat (first | with_reducible exact Kept.refl _ | with_reducible apply Kept.drew | with_reducible apply Kept.alloc | ((with_reducible apply Kept.set); focus (simp <;> omega)) | ((with_reducible apply Kept.via); focus with_reducible assumption)))))).mono ?_
  rintro e w3 ⟨rfl, k3⟩
  have Ra3 := Lib.hid (Ra2.out.kept k3)
  clear c0 c1 c2 c3 c4 c5
  obtain ⟨c0, c1, c2, c3, c4, c5⟩ := (Ra3.out).1
  go_wp2_with fail
  refine (XC'.out (⟨false, 0, 0, 0, 0, 0⟩ : Ep) 0 0 false (by unfold In64E In64; decide) (by unfold In64; decide) (off12 _ _ _ ⟨rfl, rfl⟩) _ (Tens.kept T.out (by (repeat (first | with_reducible exact Kept.refl _ | with_reducible apply Kept.drew | with_reducible apply Kept.alloc | ((with_reducible apply Kept.set); focus (simp <;> omega)) | ((with_reducible apply Kept.via); focus with_reducible assumption)))))).mono ?_
  rintro e w4 ⟨rfl, k4⟩
  have Ra4 := Lib.hid (Ra3.out.kept k4)
  clear c0 c1 c2 c3 c4 c5
  have kz := Kept.trans (Kept.trans (Kept.trans (Kept.trans k1 KWa) k2) k3) k4
  have e1 : decide (n ≤ 2154434) = true := by simp [n1]
  have e2 : decide (2100000 < n) = true := by simp [n0]
  have RR := Ra4
  clear rn RWa Ra2 Ra3 Ra4 LWa k1 KWa k2 k3 k4
  have QR0 := Lib.hid (fun w => RC'.out 1000000 26214 (by unfold In64; decide) (by decide) w)
  have QR1 := Lib.hid (fun w => RC'.out 2000000 209715 (by unfold In64; decide) (by decide) w)
  have QR2 := Lib.hid (fun w => RC'.out (-1000000) (-26215) (by unfold In64; decide) (by decide) w)
  have QR3 := Lib.hid (fun w => RC'.out 0 0 (by unfold In64; decide) (by decide) w)
  have QR4 := Lib.hid (fun w => RC'.out 1099511627776 259614842926741 (by unfold In64; decide) (by decide) w)
  have QR5 := Lib.hid (fun w => RC'.out 2147483648 259614842926741 (by unfold In64; decide) (by decide) w)
  have QA0 := Lib.hid (fun w TT_ => AC'.out (⟨true, 1000, 393216, 655360, 2154434, 393216⟩ : Ep) 2155434 655360 (by unfold In64E In64; decide) (by unfold In64; decide) (at12 (by decide)) w TT_)
  have QA1 := Lib.hid (fun w TT_ => AC'.out (⟨true, 1000, 393216, 655360, 2154434, 393216⟩ : Ep) 4611686018427387904 68719476736 (by unfold In64E In64; decide) (by unfold In64; decide) (at12 (by decide)) w TT_)
  have QA2 := Lib.hid (fun w TT_ => AC'.out (⟨true, 1000, 393216, 655360, 2154434, 393216⟩ : Ep) (-4611686018427387904) 0 (by unfold In64E In64; decide) (by unfold In64; decide) (at12 (by decide)) w TT_)
  have QZ := Lib.hid (fun w TT_ => AC'.out (⟨false, 0, 0, 0, 0, 0⟩ : Ep) 5 0 (by unfold In64E In64; decide) (by unfold In64; decide) (if_neg (fun x => by have := x.2; cases this)) w TT_)
  have QT0 := Lib.hid (fun w TT_ => TC'.out (⟨true, 1000, 393216, 655360, 2154434, 393216⟩ : Ep) 1099511627776 524288 786432 (by unfold In64E In64; decide) (by unfold In64; decide) (by unfold In64; decide) (tg12 (by decide) (by decide)) w TT_)
  have QT1 := Lib.hid (fun w TT_ => TC'.out (⟨true, 1000, 393216, 655360, 2154434, 393216⟩ : Ep) 1000 524288 524288 (by unfold In64E In64; decide) (by unfold In64; decide) (by unfold In64; decide) (tg12 (by decide) (by decide)) w TT_)
  have QT2 := Lib.hid (fun w TT_ => TC'.out (⟨true, 1000, 393216, 655360, 2154434, 393216⟩ : Ep) 1000 (-4) (-4) (by unfold In64E In64; decide) (by unfold In64; decide) (by unfold In64; decide) (if_neg (fun x => absurd x.2 (by decide))) w TT_)
  obtain ⟨c0, c1, c2, c3, c4, c5⟩ := (RR.out).1
  go_wp2_with fail
  refine (QR0.out _).mono ?_
  rintro e w5 ⟨rfl, k5⟩
  clear c0 c1 c2 c3 c4 c5
  have RR' := Lib.hid (RR.out.kept k5)
  clear RR
  have RR := RR'
  clear RR'
  have kz' := Kept.trans kz k5
  clear kz k5
  have kz := kz'
  clear kz'
  obtain ⟨c0, c1, c2, c3, c4, c5⟩ := (RR.out).1
  go_wp2_with fail
  refine (QR1.out _).mono ?_
  rintro e w6 ⟨rfl, k6⟩
  clear c0 c1 c2 c3 c4 c5
  have RR' := Lib.hid (RR.out.kept k6)
  clear RR
  have RR := RR'
  clear RR'
  have kz' := Kept.trans kz k6
  clear kz k6
  have kz := kz'
  clear kz'
  obtain ⟨c0, c1, c2, c3, c4, c5⟩ := (RR.out).1
  go_wp2_with fail
  refine (QR2.out _).mono ?_
  rintro e w7 ⟨rfl, k7⟩
  clear c0 c1 c2 c3 c4 c5
  have RR' := Lib.hid (RR.out.kept k7)
  clear RR
  have RR := RR'
  clear RR'
  have kz' := Kept.trans kz k7
  clear kz k7
  have kz := kz'
  clear kz'
  obtain ⟨c0, c1, c2, c3, c4, c5⟩ := (RR.out).1
  go_wp2_with fail
  refine (QR3.out _).mono ?_
  rintro e w8 ⟨rfl, k8⟩
  clear c0 c1 c2 c3 c4 c5
  have RR' := Lib.hid (RR.out.kept k8)
  clear RR
  have RR := RR'
  clear RR'
  have kz' := Kept.trans kz k8
  clear kz k8
  have kz := kz'
  clear kz'
  obtain ⟨c0, c1, c2, c3, c4, c5⟩ := (RR.out).1
  go_wp2_with fail
  refine (QR4.out _).mono ?_
  rintro e w9 ⟨rfl, k9⟩
  clear c0 c1 c2 c3 c4 c5
  have RR' := Lib.hid (RR.out.kept k9)
  clear RR
  have RR := RR'
  clear RR'
  have kz' := Kept.trans kz k9
  clear kz k9
  have kz := kz'
  clear kz'
  obtain ⟨c0, c1, c2, c3, c4, c5⟩ := (RR.out).1
  go_wp2_with fail
  refine (QR5.out _).mono ?_
  rintro e w10 ⟨rfl, k10⟩
  clear c0 c1 c2 c3 c4 c5
  have RR' := Lib.hid (RR.out.kept k10)
  clear RR
  have RR := RR'
  clear RR'
  have kz' := Kept.trans kz k10
  clear kz k10
  have kz := kz'
  clear kz'
  obtain ⟨c0, c1, c2, c3, c4, c5⟩ := (RR.out).1
  go_wp2_with fail
  refine (QA0.out _ (Tens.kept T.out (by (repeat (first | with_reducible exact Kept.refl _ | with_reducible apply Kept.drew | with_reducible apply Kept.alloc | ((with_reducible apply Kept.set); focus (simp <;> omega)) | ((with_reducible apply Kept.via); focus with_reducible assumption)))))).mono ?_
  rintro e w11 ⟨rfl, k11⟩
  clear c0 c1 c2 c3 c4 c5
  have RR' := Lib.hid (RR.out.kept k11)
  clear RR
  have RR := RR'
  clear RR'
  have kz' := Kept.trans kz k11
  clear kz k11
  have kz := kz'
  clear kz'
  obtain ⟨c0, c1, c2, c3, c4, c5⟩ := (RR.out).1
  go_wp2_with fail
  refine (QA1.out _ (Tens.kept T.out (by (repeat (first | with_reducible exact Kept.refl _ | with_reducible apply Kept.drew | with_reducible apply Kept.alloc | ((with_reducible apply Kept.set); focus (simp <;> omega)) | ((with_reducible apply Kept.via); focus with_reducible assumption)))))).mono ?_
  rintro e w12 ⟨rfl, k12⟩
  clear c0 c1 c2 c3 c4 c5
  have RR' := Lib.hid (RR.out.kept k12)
  clear RR
  have RR := RR'
  clear RR'
  have kz' := Kept.trans kz k12
  clear kz k12
  have kz := kz'
  clear kz'
  obtain ⟨c0, c1, c2, c3, c4, c5⟩ := (RR.out).1
  go_wp2_with fail
  refine (QA2.out _ (Tens.kept T.out (by (repeat (first | with_reducible exact Kept.refl _ | with_reducible apply Kept.drew | with_reducible apply Kept.alloc | ((with_reducible apply Kept.set); focus (simp <;> omega)) | ((with_reducible apply Kept.via); focus with_reducible assumption)))))).mono ?_
  rintro e w13 ⟨rfl, k13⟩
  clear c0 c1 c2 c3 c4 c5
  have RR' := Lib.hid (RR.out.kept k13)
  clear RR
  have RR := RR'
  clear RR'
  have kz' := Kept.trans kz k13
  clear kz k13
  have kz := kz'
  clear kz'
  obtain ⟨c0, c1, c2, c3, c4, c5⟩ := (RR.out).1
  go_wp2_with fail
  refine (QZ.out _ (Tens.kept T.out (by (repeat (first | with_reducible exact Kept.refl _ | with_reducible apply Kept.drew | with_reducible apply Kept.alloc | ((with_reducible apply Kept.set); focus (simp <;> omega)) | ((with_reducible apply Kept.via); focus with_reducible assumption)))))).mono ?_
  rintro e w14 ⟨rfl, k14⟩
  clear c0 c1 c2 c3 c4 c5
  have RR' := Lib.hid (RR.out.kept k14)
  clear RR
  have RR := RR'
  clear RR'
  have kz' := Kept.trans kz k14
  clear kz k14
  have kz := kz'
  clear kz'
  obtain ⟨c0, c1, c2, c3, c4, c5⟩ := (RR.out).1
  go_wp2_with fail
  refine (QT0.out _ (Tens.kept T.out (by (repeat (first | with_reducible exact Kept.refl _ | with_reducible apply Kept.drew | with_reducible apply Kept.alloc | ((with_reducible apply Kept.set); focus (simp <;> omega)) | ((with_reducible apply Kept.via); focus with_reducible assumption)))))).mono ?_
  rintro e w15 ⟨rfl, k15⟩
  clear c0 c1 c2 c3 c4 c5
  have RR' := Lib.hid (RR.out.kept k15)
  clear RR
  have RR := RR'
  clear RR'
  have kz' := Kept.trans kz k15
  clear kz k15
  have kz := kz'
  clear kz'
  obtain ⟨c0, c1, c2, c3, c4, c5⟩ := (RR.out).1
  go_wp2_with fail
  refine (QT1.out _ (Tens.kept T.out (by (repeat (first | with_reducible exact Kept.refl _ | with_reducible apply Kept.drew | with_reducible apply Kept.alloc | ((with_reducible apply Kept.set); focus (simp <;> omega)) | ((with_reducible apply Kept.via); focus with_reducible assumption)))))).mono ?_
  rintro e w16 ⟨rfl, k16⟩
  clear c0 c1 c2 c3 c4 c5
  have RR' := Lib.hid (RR.out.kept k16)
  clear RR
  have RR := RR'
  clear RR'
  have kz' := Kept.trans kz k16
  clear kz k16
  have kz := kz'
  clear kz'
  obtain ⟨c0, c1, c2, c3, c4, c5⟩ := (RR.out).1
  go_wp2_with fail
  refine (QT2.out _ (Tens.kept T.out (by (repeat (first | with_reducible exact Kept.refl _ | with_reducible apply Kept.drew | with_reducible apply Kept.alloc | ((with_reducible apply Kept.set); focus (simp <;> omega)) | ((with_reducible apply Kept.via); focus with_reducible assumption)))))).mono ?_
  rintro e w17 ⟨rfl, k17⟩
  clear c0 c1 c2 c3 c4 c5
  have RR' := Lib.hid (RR.out.kept k17)
  clear RR
  have RR := RR'
  clear RR'
  have kz' := Kept.trans kz k17
  clear kz k17
  have kz := kz'
  clear kz'
  go_wp2
  go_ret
  exact ⟨rfl, kz⟩
end Go.Proofs.YtlonfobeblnbbaaDoor
