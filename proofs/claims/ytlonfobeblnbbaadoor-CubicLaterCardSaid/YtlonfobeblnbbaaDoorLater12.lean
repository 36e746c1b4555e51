/-
  The walk of CubicLater: it answers true, if the calls do what they are to do.
-/
import Derived.Test.YtlonfobeblnbbaaDoorAwake12
import Derived.Deep.RegionHeld3
import Derived.Deep.DeepCutAuto
namespace Go.Proofs.YtlonfobeblnbbaaDoor
open Go.RowKit Go.BigFrame
set_option linter.unusedVariables false

set_option maxRecDepth 100000 in
set_option maxHeartbeats 1600000 in
theorem later12_bad (CC : ECheckC) (BC : EBeginC) (SC : EShiftC) (RC : URiseC) (AC : UAtC) (TC : UTargetC) (XC : UReachC) {a n h b u x : Int} (a0 : 0 ≤ a) (a1 : a ≤ 4294967295) (b0 : 0 ≤ b) (b1 : b ≤ 4294967295) (u0 : 0 ≤ u) (u1 : u ≤ 4294967295) (hn : In64 n) (hh : In64 h) (hx : In64 x) (hb : BeginIs a n h (⟨false, 0, 0, 0, 0, 0⟩ : Ep) 201) (w : World) (T_ : Tens w) : Calls Tryd.prog 9 #[.int .u32 a, .int .i64 n, .int .i64 h, .int .u32 b, .int .u32 u, .int .i64 x] w fun e w' => e = .returned (.bool true) ∧ Kept w w' := by
  have CC' := Lib.hid CC
  have BC' := Lib.hid BC
  have SC' := Lib.hid SC
  have RC' := Lib.hid RC
  have AC' := Lib.hid AC
  have TC' := Lib.hid TC
  have XC' := Lib.hid XC
  have AW' := Lib.hid (fun w TT_ => awake12 CC BC SC RC AC TC XC w TT_)
  clear CC BC SC RC AC TC XC
  have T := Lib.hid T_
  clear T_
  have QB := Lib.hid (fun w_ TT_ => BC'.out a n h _ 201 (by unfold In64; omega) hn hh hb w_ TT_)
  have QS := Lib.hid (fun w_ => SC'.out (⟨false, 0, 0, 0, 0, 0⟩ : Ep) (⟨false, 0, 0, 0, 0, 0⟩ : Ep) b (by unfold In64E In64; decide) (by unfold In64; omega) rfl w_)
  clear hb
  go_enter Tryd.func9, Tryd.ntmps9
  go_wp2_with fail
  refine (AW'.out _ (Tens.kept T.out (by (repeat (first | with_reducible exact Kept.refl _ | with_reducible apply Kept.drew | with_reducible apply Kept.alloc | ((with_reducible apply Kept.set); focus (simp <;> omega)) | ((with_reducible apply Kept.via); focus with_reducible assumption)))))).mono ?_
  rintro e w1 ⟨rfl, k1⟩
  have kz1 := k1
  go_wp2_with fail
  refine (QB.out _ (Tens.kept T.out (by (repeat (first | with_reducible exact Kept.refl _ | with_reducible apply Kept.drew | with_reducible apply Kept.alloc | ((with_reducible apply Kept.set); focus (simp <;> omega)) | ((with_reducible apply Kept.via); focus with_reducible assumption)))))).mono ?_
  rintro e w2 ⟨rfl, k2⟩
  have kz2 := Kept.trans kz1 k2
  clear kz1 k2
  go_upto_region 3 with fail
  generalize hW : World.alloc w2 (.cells #[.bool false, .int .i64 0, .int .i64 0, .int .i64 0, .int .i64 0, .int .i64 0] 23) = We
  have KWe : Kept w2 We := by subst hW; exact (Kept.refl _).alloc _ _
  have RWe := Lib.hid (show RE We w2.heap.size (⟨false, 0, 0, 0, 0, 0⟩ : Ep) from by subst hW; exact re_new w2 (⟨false, 0, 0, 0, 0, 0⟩ : Ep) _)
  have LWe : w2.heap.size < We.heap.size := by subst hW; simp
  clear hW
  generalize hgWe : w2.heap.size = gWe at *
  clear LWe
  have kz3 := Kept.trans kz2 KWe
  clear kz2 KWe
  obtain ⟨ce0, ce1, ce2, ce3, ce4, ce5⟩ := (RWe.out).1
  go_wp2_with fail
  refine (QS.out _).mono ?_
  rintro e w4 ⟨rfl, k4⟩
  clear ce0 ce1 ce2 ce3 ce4 ce5
  have Re4 := Lib.hid (RWe.out.kept k4)
  clear RWe
  have kz4 := Kept.trans kz3 k4
  clear kz3 k4
  go_upto_region 4 with fail
  generalize hW : World.alloc w4 (.cells #[.bool false, .int .i64 0, .int .i64 0, .int .i64 0, .int .i64 0, .int .i64 0] 23) = Wg
  have KWg : Kept w4 Wg := by subst hW; exact (Kept.refl _).alloc _ _
  have RWg := Lib.hid (show RE Wg w4.heap.size (⟨false, 0, 0, 0, 0, 0⟩ : Ep) from by subst hW; exact re_new w4 (⟨false, 0, 0, 0, 0, 0⟩ : Ep) _)
  have LWg : w4.heap.size < Wg.heap.size := by subst hW; simp
  clear hW
  generalize hgWg : w4.heap.size = gWg at *
  clear LWg
  have Re5 := Lib.hid (Re4.out.kept KWg)
  clear Re4
  have kz5 := Kept.trans kz4 KWg
  clear kz4 KWg
  obtain ⟨ce0, ce1, ce2, ce3, ce4, ce5⟩ := (Re5.out).1
  obtain ⟨cg0, cg1, cg2, cg3, cg4, cg5⟩ := (RWg.out).1
  go_wp2
  go_ret
  exact ⟨rfl, kz5⟩
set_option maxRecDepth 100000 in
set_option maxHeartbeats 1600000 in
theorem later12_good (CC : ECheckC) (BC : EBeginC) (SC : EShiftC) (RC : URiseC) (AC : UAtC) (TC : UTargetC) (XC : UReachC) {is : Bool} {a n h b u x y k g t v : Int} (a0 : 0 ≤ a) (a1 : a ≤ 4294967295) (b0 : 0 ≤ b) (b1 : b ≤ 4294967295) (u0 : 0 ≤ u) (u1 : u ≤ 4294967295) (hn : In64 n) (hh : In64 h) (hx : In64 x) (hi : In64E (⟨true, a, n, y, k, n⟩ : Ep)) (hi2 : In64E (⟨true, g, n, y, k, n⟩ : Ep)) (hb : BeginIs a n h (⟨true, a, n, y, k, n⟩ : Ep) 0) (hs : shiftE (⟨true, a, n, y, k, n⟩ : Ep) b = (⟨true, g, n, y, k, n⟩ : Ep)) (e1 : ReachIs (⟨true, a, n, y, k, n⟩ : Ep) x t is) (e2 : ReachIs (⟨true, g, n, y, k, n⟩ : Ep) x t is) (e3 : atN (⟨true, g, n, y, k, n⟩ : Ep) (a + b + u) = v) (e4 : atN (⟨true, a, n, y, k, n⟩ : Ep) (a + u) = v) (w : World) (T_ : Tens w) : Calls Tryd.prog 9 #[.int .u32 a, .int .i64 n, .int .i64 h, .int .u32 b, .int .u32 u, .int .i64 x] w fun e w' => e = .returned (.bool true) ∧ Kept w w' := by
  have CC' := Lib.hid CC
  have BC' := Lib.hid BC
  have SC' := Lib.hid SC
  have RC' := Lib.hid RC
  have AC' := Lib.hid AC
  have TC' := Lib.hid TC
  have XC' := Lib.hid XC
  have AW' := Lib.hid (fun w TT_ => awake12 CC BC SC RC AC TC XC w TT_)
  clear CC BC SC RC AC TC XC
  have T := Lib.hid T_
  clear T_
  have QB := Lib.hid (fun w_ TT_ => BC'.out a n h _ 0 (by unfold In64; omega) hn hh hb w_ TT_)
  have QS := Lib.hid (fun w_ => SC'.out (⟨true, a, n, y, k, n⟩ : Ep) (⟨true, g, n, y, k, n⟩ : Ep) b hi (by unfold In64; omega) hs w_)
  have QE := Lib.hid (fun w_ TT_ => XC'.out (⟨true, a, n, y, k, n⟩ : Ep) x t is hi hx e1 w_ TT_)
  have QG := Lib.hid (fun w_ TT_ => XC'.out (⟨true, g, n, y, k, n⟩ : Ep) x t is hi2 hx e2 w_ TT_)
  have QA := Lib.hid (fun w_ TT_ => AC'.out (⟨true, g, n, y, k, n⟩ : Ep) (a + b + u) v hi2 (by unfold In64; omega) e3 w_ TT_)
  have QZ := Lib.hid (fun w_ TT_ => AC'.out (⟨true, a, n, y, k, n⟩ : Ep) (a + u) v hi (by unfold In64; omega) e4 w_ TT_)
  have W0_ : IntKind.i64.wrap a = a := by rw [IntKind.wrap_i64]; omega
  have W1_ : IntKind.i64.wrap b = b := by rw [IntKind.wrap_i64]; omega
  have W2_ : IntKind.i64.wrap u = u := by rw [IntKind.wrap_i64]; omega
  have W3_ : IntKind.i64.wrap (a + b) = (a + b) := by rw [IntKind.wrap_i64]; omega
  have W4_ : IntKind.i64.wrap (a + b + u) = (a + b + u) := by rw [IntKind.wrap_i64]; omega
  have W5_ : IntKind.i64.wrap (a + u) = (a + u) := by rw [IntKind.wrap_i64]; omega
  clear hb hs e1 e2 e3 e4 hi hi2 hn hh hx
  go_enter Tryd.func9, Tryd.ntmps9
  go_wp2_with fail
  refine (AW'.out _ (Tens.kept T.out (by (repeat (first | with_reducible exact Kept.refl _ | with_reducible apply Kept.drew | with_reducible apply Kept.alloc | ((with_reducible apply Kept.set); focus (simp <;> omega)) | ((with_reducible apply Kept.via); focus with_reducible assumption)))))).mono ?_
  rintro e w1 ⟨rfl, k1⟩
  have kz1 := k1
  go_wp2_with fail
  refine (QB.out _ (Tens.kept T.out (by (repeat (first | with_reducible exact Kept.refl _ | with_reducible apply Kept.drew | with_reducible apply Kept.alloc | ((with_reducible apply Kept.set); focus (simp <;> omega)) | ((with_reducible apply Kept.via); focus with_reducible assumption)))))).mono ?_
  rintro e w2 ⟨rfl, k2⟩
  have kz2 := Kept.trans kz1 k2
  clear kz1 k2
  go_upto_region 3 with fail
  generalize hW : World.alloc w2 (.cells #[.bool true, .int .i64 a, .int .i64 n, .int .i64 y, .int .i64 k, .int .i64 n] 23) = We
  have KWe : Kept w2 We := by subst hW; exact (Kept.refl _).alloc _ _
  have RWe := Lib.hid (show RE We w2.heap.size (⟨true, a, n, y, k, n⟩ : Ep) from by subst hW; exact re_new w2 (⟨true, a, n, y, k, n⟩ : Ep) _)
  have LWe : w2.heap.size < We.heap.size := by subst hW; simp
  clear hW
  generalize hgWe : w2.heap.size = gWe at *
  clear LWe
  have kz3 := Kept.trans kz2 KWe
  clear kz2 KWe
  obtain ⟨ce0, ce1, ce2, ce3, ce4, ce5⟩ := (RWe.out).1
  go_wp2_with fail
  refine (QS.out _).mono ?_
  rintro e w4 ⟨rfl, k4⟩
  clear ce0 ce1 ce2 ce3 ce4 ce5
  have Re4 := Lib.hid (RWe.out.kept k4)
  clear RWe
  have kz4 := Kept.trans kz3 k4
  clear kz3 k4
  go_upto_region 4 with fail
  generalize hW : World.alloc w4 (.cells #[.bool true, .int .i64 g, .int .i64 n, .int .i64 y, .int .i64 k, .int .i64 n] 23) = Wg
  have KWg : Kept w4 Wg := by subst hW; exact (Kept.refl _).alloc _ _
  have RWg := Lib.hid (show RE Wg w4.heap.size (⟨true, g, n, y, k, n⟩ : Ep) from by subst hW; exact re_new w4 (⟨true, g, n, y, k, n⟩ : Ep) _)
  have LWg : w4.heap.size < Wg.heap.size := by subst hW; simp
  clear hW
  generalize hgWg : w4.heap.size = gWg at *
  clear LWg
  have Re5 := Lib.hid (Re4.out.kept KWg)
  clear Re4
  have kz5 := Kept.trans kz4 KWg
  clear kz4 KWg
  obtain ⟨ce0, ce1, ce2, ce3, ce4, ce5⟩ := (Re5.out).1
  go_wp2_with fail
  refine (QE.out _ (Tens.kept T.out (by (repeat (first | with_reducible exact Kept.refl _ | with_reducible apply Kept.drew | with_reducible apply Kept.alloc | ((with_reducible apply Kept.set); focus (simp <;> omega)) | ((with_reducible apply Kept.via); focus with_reducible assumption)))))).mono ?_
  rintro e w6 ⟨rfl, k6⟩
  clear ce0 ce1 ce2 ce3 ce4 ce5
  have Re6 := Lib.hid (Re5.out.kept k6)
  clear Re5
  have Rg6 := Lib.hid (RWg.out.kept k6)
  clear RWg
  have kz6 := Kept.trans kz5 k6
  clear kz5 k6
  obtain ⟨cg0, cg1, cg2, cg3, cg4, cg5⟩ := (Rg6.out).1
  go_wp2_with fail
  refine (QG.out _ (Tens.kept T.out (by (repeat (first | with_reducible exact Kept.refl _ | with_reducible apply Kept.drew | with_reducible apply Kept.alloc | ((with_reducible apply Kept.set); focus (simp <;> omega)) | ((with_reducible apply Kept.via); focus with_reducible assumption)))))).mono ?_
  rintro e w7 ⟨rfl, k7⟩
  clear cg0 cg1 cg2 cg3 cg4 cg5
  have Re7 := Lib.hid (Re6.out.kept k7)
  clear Re6
  have Rg7 := Lib.hid (Rg6.out.kept k7)
  clear Rg6
  have kz7 := Kept.trans kz6 k7
  clear kz6 k7
  go_upto_region 8 with fail
  have H_e := Lib.hid (show w7.cell? ⟨gWe, 0, none⟩ = some (.bool true) ∧ w7.cell? ⟨gWe, 1, none⟩ = some (.int .i64 a) ∧ w7.cell? ⟨gWe, 2, none⟩ = some (.int .i64 n) ∧ w7.cell? ⟨gWe, 3, none⟩ = some (.int .i64 y) ∧ w7.cell? ⟨gWe, 4, none⟩ = some (.int .i64 k) ∧ w7.cell? ⟨gWe, 5, none⟩ = some (.int .i64 n) from (Re7.out).1)
  have H_g := Lib.hid (show w7.cell? ⟨gWg, 0, none⟩ = some (.bool true) ∧ w7.cell? ⟨gWg, 1, none⟩ = some (.int .i64 g) ∧ w7.cell? ⟨gWg, 2, none⟩ = some (.int .i64 n) ∧ w7.cell? ⟨gWg, 3, none⟩ = some (.int .i64 y) ∧ w7.cell? ⟨gWg, 4, none⟩ = some (.int .i64 k) ∧ w7.cell? ⟨gWg, 5, none⟩ = some (.int .i64 n) from (Rg7.out).1)
  have TQ := Lib.hid (show Tens w7 from Tens.kept T.out (by (repeat (first | with_reducible exact Kept.refl _ | with_reducible apply Kept.drew | with_reducible apply Kept.alloc | ((with_reducible apply Kept.set); focus (simp <;> omega)) | ((with_reducible apply Kept.via); focus with_reducible assumption)))))
  have B_e := Lib.hid (Kept.alln6 (show Kept w7 w7 from (by (repeat (first | with_reducible exact Kept.refl _ | with_reducible apply Kept.drew | with_reducible apply Kept.alloc | ((with_reducible apply Kept.set); focus (simp <;> omega)) | ((with_reducible apply Kept.via); focus with_reducible assumption))))) H_e)
  have B_g := Lib.hid (Kept.alln6 (show Kept w7 w7 from (by (repeat (first | with_reducible exact Kept.refl _ | with_reducible apply Kept.drew | with_reducible apply Kept.alloc | ((with_reducible apply Kept.set); focus (simp <;> omega)) | ((with_reducible apply Kept.via); focus with_reducible assumption))))) H_g)
  have kall : Kept w w7 := (by (repeat (first | with_reducible exact Kept.refl _ | with_reducible apply Kept.drew | with_reducible apply Kept.alloc | ((with_reducible apply Kept.set); focus (simp <;> omega)) | ((with_reducible apply Kept.via); focus with_reducible assumption))))
  obtain ⟨q_e0, q_e1, q_e2, q_e3, q_e4, q_e5⟩ := kwn6 B_e
  obtain ⟨q_g0, q_g1, q_g2, q_g3, q_g4, q_g5⟩ := kwn6 B_g
  clear B_e B_g
  refine wp_region_kept (by kernel_rfl) (by as_aux_lemma => kernel_rfl) ?_
  repeat (go_big_quiet_step (first | (with_reducible exact kept_of (QA.out _ (Tens.kept TQ.out (KW.k _)))) | (with_reducible exact kept_of (QZ.out _ (Tens.kept TQ.out (KW.k _))))))
  refine wpQuiet_nil ?_
  intro wq hw'
  have kq : Kept w7 wq := by obtain ⟨p, rfl⟩ := hw'; exact p.k
  clear hw'
  clear kall
  have kq2 := Kept.trans kz7 kq
  go_wp2
  go_ret
  exact ⟨rfl, kq2⟩
theorem cubicLater_walk (CC : ECheckC) (BC : EBeginC) (SC : EShiftC) (RC : URiseC) (AC : UAtC) (TC : UTargetC) (XC : UReachC) (a n h b u x : Int) (w : World) (T_ : Tens w) (a0 : 0 ≤ a) (a1 : a ≤ 4294967295) (b0 : 0 ≤ b) (b1 : b ≤ 4294967295) (u0 : 0 ≤ u) (u1 : u ≤ 4294967295) (hn : In64 n) (hh : In64 h) (hx : In64 x) : Calls Tryd.prog 9 #[.int .u32 a, .int .i64 n, .int .i64 h, .int .u32 b, .int .u32 u, .int .i64 x] w fun e w' => e = .returned (.bool true) ∧ Kept w w' := by
  by_cases hb : IsTime a ∧ IsWin n ∧ IsWin h
  · obtain ⟨k, hk⟩ := k_ex ((if h < n then n else h) - n)
    obtain ⟨y, hy⟩ : ∃ y, (if h < n then n else h) = y := ⟨_, rfl⟩
    have B : BeginIs a n h ⟨true, a, n, y, k, n⟩ 0 := Or.inr ⟨hb.1, hb.2.1, hb.2.2, rfl, k, hk, by rw [hy]⟩
    have O : OnE ⟨true, a, n, y, k, n⟩ := ⟨begin_may B, rfl⟩
    have I := begin_in64 B
    have hs : shiftE ⟨true, a, n, y, k, n⟩ b = ⟨true, a + b, n, y, k, n⟩ := by
      unfold shiftE
      by_cases z : b < 1
      · rw [if_pos (Or.inr z)]; have : b = 0 := by omega
        subst this; simp
      · rw [if_neg (by simp; omega)]
        simp only []
        rw [if_neg (by omega)]
    have I2 : In64E ⟨true, a + b, n, y, k, n⟩ := by rw [← hs]; exact shift_in64 I (by unfold In64; omega)
    obtain ⟨t, is, e1⟩ := reach_ex ⟨true, a, n, y, k, n⟩ x
    have e2 := later_reach O b0 (by show a + b ≤ _; omega) e1
    rw [hs] at e2
    have l := later_on O b0 (by show a + b ≤ _; omega)
    rw [hs] at l
    have e3 := later_at (t := u) O b0 (by show a + b ≤ _; omega) (by omega) (by omega)
    rw [hs] at e3
    exact later12_good CC BC SC RC AC TC XC a0 a1 b0 b1 u0 u1 hn hh hx I I2 B hs e1 e2 ((atN_on l.1 _).trans e3) (atN_on O _) w T_
  · exact later12_bad CC BC SC RC AC TC XC a0 a1 b0 b1 u0 u1 hn hh hx (Or.inl ⟨hb, rfl, rfl⟩) w T_
end Go.Proofs.YtlonfobeblnbbaaDoor
