/-
  The call 'awake' of layer 11's statements answers true, if the calls do what they are to do.
-/
import Derived.Test.YtjdccfaifdokpaaDoorCon11
import Derived.Test.YtjdccfaifdokpaaDoorRoom
import Derived.Deep.RegionHeld3
import Derived.Deep.DeepCutAuto
namespace Go.Proofs.YtjdccfaifdokpaaDoor
open Go.RowKit Go.BigFrame
set_option linter.unusedVariables false

theorem k11_0 : KIs (0) 0 := by unfold KIs gapK IsThird; decide
theorem k11_m5 : KIs (-5) 0 := by unfold KIs gapK IsThird; decide
theorem k11_26214 : KIs (26214) 999994 := by unfold KIs gapK IsThird; decide
theorem k11_262144 : KIs (262144) 2154434 := by unfold KIs gapK IsThird; decide
theorem k11_393216 : KIs (393216) 2466212 := by unfold KIs gapK IsThird; decide
theorem b11_a : BeginIs 5 196608 589824 (⟨true, 5, 196608, 589824, 2466212, 196608⟩ : Ep) 0 := Or.inr ⟨by unfold IsTime; decide, by decide, by decide, rfl, _, k11_393216, rfl⟩
theorem b11_b : BeginIs 5 589824 196608 (⟨true, 5, 589824, 589824, 0, 589824⟩ : Ep) 0 := Or.inr ⟨by unfold IsTime; decide, by decide, by decide, rfl, _, k11_0, rfl⟩
theorem b11_c : BeginIs (-1) 0 0 (⟨false, 0, 0, 0, 0, 0⟩ : Ep) 201 := Or.inl ⟨by unfold IsTime; decide, rfl, rfl⟩
theorem b11_d : BeginIs 0 68719476737 0 (⟨false, 0, 0, 0, 0, 0⟩ : Ep) 201 := Or.inl ⟨by unfold IsTime; decide, rfl, rfl⟩
theorem m11_a : MayE (⟨true, 5, 196608, 589824, 2466212, 196608⟩ : Ep) := Or.inr ⟨rfl, by unfold IsTime; decide, by decide, by decide, by decide, by decide, k11_393216⟩
theorem m11_n : MayE (⟨false, 0, 0, 0, 0, 0⟩ : Ep) := Or.inl ⟨rfl, rfl, rfl, rfl, rfl, rfl⟩
theorem m11_b : ¬ MayE (⟨false, 0, 0, 0, 1, 0⟩ : Ep) := fun h => by rcases h with ⟨_, _, _, _, h, _⟩ | ⟨h, _⟩ <;> exact absurd h (by decide)
theorem field11_12 (w : World) : (Instr.field 23 (.agg #[.bool true, .int .i64 12, .int .i64 196608, .int .i64 589824, .int .i64 2466212, .int .i64 196608]) 1).run Tryd.prog w = .ok (.int .i64 12) w := by rfl
theorem field11_1099511627776 (w : World) : (Instr.field 23 (.agg #[.bool true, .int .i64 1099511627776, .int .i64 196608, .int .i64 589824, .int .i64 2466212, .int .i64 196608]) 1).run Tryd.prog w = .ok (.int .i64 1099511627776) w := by rfl
set_option maxRecDepth 100000 in
set_option maxHeartbeats 6400000 in
theorem awake11 (CC : ECheckC) (KC_ : EKC) (FC : EFastC) (BC : EBeginC) (SC : EShiftC) (w : World) (T_ : Tens w) : Calls Tryd.prog 10 #[] w fun e w' => e = .returned (.bool true) ∧ Kept w w' := by
  have CC' := Lib.hid CC
  have KC' := Lib.hid KC_
  have FC' := Lib.hid FC
  have BC' := Lib.hid BC
  have SC' := Lib.hid SC
  clear CC KC_ FC BC SC
  have T := Lib.hid T_
  clear T_
  go_enter Tryd.func10, Tryd.ntmps10
  go_wp2_with fail
  refine (BC'.out 5 196608 589824 (⟨true, 5, 196608, 589824, 2466212, 196608⟩ : Ep) 0 (by unfold In64; decide) (by unfold In64; decide) (by unfold In64; decide) b11_a _ (Tens.kept T.out (by (repeat (first | with_reducible exact Kept.refl _ | with_reducible apply Kept.drew | with_reducible apply Kept.alloc | ((with_reducible apply Kept.set); focus (simp <;> omega)) | ((with_reducible apply Kept.via); focus with_reducible assumption)))))).mono ?_
  rintro e w1 ⟨rfl, k1⟩
  go_upto_region 2 with fail
  generalize hW : World.alloc w1 (.cells #[.bool true, .int .i64 5, .int .i64 196608, .int .i64 589824, .int .i64 2466212, .int .i64 196608] 23) = Wa
  have KWa : Kept w1 Wa := by subst hW; exact (Kept.refl _).alloc _ _
  have RWa := Lib.hid (show RE Wa w1.heap.size (⟨true, 5, 196608, 589824, 2466212, 196608⟩ : Ep) from by subst hW; exact re_new w1 (⟨true, 5, 196608, 589824, 2466212, 196608⟩ : Ep) _)
  have LWa : w1.heap.size < Wa.heap.size := by subst hW; simp
  clear hW
  generalize hgWa : w1.heap.size = gWa at *
  go_wp2_with fail
  refine (BC'.out 5 589824 196608 (⟨true, 5, 589824, 589824, 0, 589824⟩ : Ep) 0 (by unfold In64; decide) (by unfold In64; decide) (by unfold In64; decide) b11_b _ (Tens.kept T.out (by (repeat (first | with_reducible exact Kept.refl _ | with_reducible apply Kept.drew | with_reducible apply Kept.alloc | ((with_reducible apply Kept.set); focus (simp <;> omega)) | ((with_reducible apply Kept.via); focus with_reducible assumption)))))).mono ?_
  rintro e w2 ⟨rfl, k2⟩
  go_upto_region 3 with fail
  generalize hW : World.alloc w2 (.cells #[.bool true, .int .i64 5, .int .i64 589824, .int .i64 589824, .int .i64 0, .int .i64 589824] 23) = Wb
  have KWb : Kept w2 Wb := by subst hW; exact (Kept.refl _).alloc _ _
  have RWb := Lib.hid (show RE Wb w2.heap.size (⟨true, 5, 589824, 589824, 0, 589824⟩ : Ep) from by subst hW; exact re_new w2 (⟨true, 5, 589824, 589824, 0, 589824⟩ : Ep) _)
  have LWb : w2.heap.size < Wb.heap.size := by subst hW; simp
  clear hW
  generalize hgWb : w2.heap.size = gWb at *
  go_wp2_with fail
  refine (BC'.out (-1) 0 0 (⟨false, 0, 0, 0, 0, 0⟩ : Ep) 201 (by unfold In64; decide) (by unfold In64; decide) (by unfold In64; decide) b11_c _ (Tens.kept T.out (by (repeat (first | with_reducible exact Kept.refl _ | with_reducible apply Kept.drew | with_reducible apply Kept.alloc | ((with_reducible apply Kept.set); focus (simp <;> omega)) | ((with_reducible apply Kept.via); focus with_reducible assumption)))))).mono ?_
  rintro e w3 ⟨rfl, k3⟩
  go_upto_region 4 with fail
  generalize hW : World.alloc w3 (.cells #[.bool false, .int .i64 0, .int .i64 0, .int .i64 0, .int .i64 0, .int .i64 0] 23) = Wc
  have KWc : Kept w3 Wc := by subst hW; exact (Kept.refl _).alloc _ _
  have RWc := Lib.hid (show RE Wc w3.heap.size (⟨false, 0, 0, 0, 0, 0⟩ : Ep) from by subst hW; exact re_new w3 (⟨false, 0, 0, 0, 0, 0⟩ : Ep) _)
  have LWc : w3.heap.size < Wc.heap.size := by subst hW; simp
  clear hW
  generalize hgWc : w3.heap.size = gWc at *
  go_wp2_with fail
  refine (BC'.out 0 68719476737 0 (⟨false, 0, 0, 0, 0, 0⟩ : Ep) 201 (by unfold In64; decide) (by unfold In64; decide) (by unfold In64; decide) b11_d _ (Tens.kept T.out (by (repeat (first | with_reducible exact Kept.refl _ | with_reducible apply Kept.drew | with_reducible apply Kept.alloc | ((with_reducible apply Kept.set); focus (simp <;> omega)) | ((with_reducible apply Kept.via); focus with_reducible assumption)))))).mono ?_
  rintro e w4 ⟨rfl, k4⟩
  go_upto_region 5 with fail
  generalize hW : World.alloc w4 (.cells #[.bool false, .int .i64 0, .int .i64 0, .int .i64 0, .int .i64 0, .int .i64 0] 23) = Wd
  have KWd : Kept w4 Wd := by subst hW; exact (Kept.refl _).alloc _ _
  have RWd := Lib.hid (show RE Wd w4.heap.size (⟨false, 0, 0, 0, 0, 0⟩ : Ep) from by subst hW; exact re_new w4 (⟨false, 0, 0, 0, 0, 0⟩ : Ep) _)
  have LWd : w4.heap.size < Wd.heap.size := by subst hW; simp
  clear hW
  generalize hgWd : w4.heap.size = gWd at *
  have kz := (Kept.trans (Kept.trans (Kept.trans (Kept.trans (Kept.trans (Kept.trans (Kept.trans k1 KWa) k2) KWb) k3) KWc) k4) KWd)
  have HA := Lib.hid (RWa.out.kept (Kept.trans (Kept.trans (Kept.trans (Kept.trans (Kept.trans k2 KWb) k3) KWc) k4) KWd))
  have HB := Lib.hid (RWb.out.kept (Kept.trans (Kept.trans (Kept.trans k3 KWc) k4) KWd))
  clear RWa RWb RWc RWd LWa LWb LWc LWd k1 k2 k3 k4 KWa KWb KWc KWd
  have Qk11_0 := Lib.hid (fun w TT_ => KC'.out (0) 0 (by unfold In64; decide) k11_0 w TT_)
  have Qk11_m5 := Lib.hid (fun w TT_ => KC'.out (-5) 0 (by unfold In64; decide) k11_m5 w TT_)
  have Qk11_26214 := Lib.hid (fun w TT_ => KC'.out (26214) 999994 (by unfold In64; decide) k11_26214 w TT_)
  have Qk11_262144 := Lib.hid (fun w TT_ => KC'.out (262144) 2154434 (by unfold In64; decide) k11_262144 w TT_)
  have Qk11_393216 := Lib.hid (fun w TT_ => KC'.out (393216) 2466212 (by unfold In64; decide) k11_393216 w TT_)
  have QF10 := Lib.hid (fun w => FC'.out 10 (20) 20 (by unfold In64; decide) (by unfold In64; decide) (by decide) w)
  have QF21 := Lib.hid (fun w => FC'.out 21 (20) 17 (by unfold In64; decide) (by unfold In64; decide) (by decide) w)
  have QF0 := Lib.hid (fun w => FC'.out 0 (-20) 0 (by unfold In64; decide) (by unfold In64; decide) (by decide) w)
  have QA := Lib.hid (fun w TT_ => CC'.out (⟨true, 5, 196608, 589824, 2466212, 196608⟩ : Ep) true (by unfold In64E In64; decide) ⟨fun _ => m11_a, fun _ => rfl⟩ w TT_)
  have QN := Lib.hid (fun w TT_ => CC'.out (⟨false, 0, 0, 0, 0, 0⟩ : Ep) true (by unfold In64E In64; decide) ⟨fun _ => m11_n, fun _ => rfl⟩ w TT_)
  have QB := Lib.hid (fun w TT_ => CC'.out (⟨false, 0, 0, 0, 1, 0⟩ : Ep) false (by unfold In64E In64; decide) ⟨fun h => absurd h (by simp), fun h => absurd h m11_b⟩ w TT_)
  have QS12 := Lib.hid (fun w => SC'.out (⟨true, 5, 196608, 589824, 2466212, 196608⟩ : Ep) (⟨true, 12, 196608, 589824, 2466212, 196608⟩ : Ep) 7 (by unfold In64E In64; decide) (by unfold In64; decide) (by rfl) w)
  have QS1099511627776 := Lib.hid (fun w => SC'.out (⟨true, 5, 196608, 589824, 2466212, 196608⟩ : Ep) (⟨true, 1099511627776, 196608, 589824, 2466212, 196608⟩ : Ep) 9223372036854775807 (by unfold In64E In64; decide) (by unfold In64; decide) (by rfl) w)
  have fl1 := field11_12
  have fl2 := field11_1099511627776
  have H_a := Lib.hid (show Wd.cell? ⟨gWa, 0, none⟩ = some (.bool true) ∧ Wd.cell? ⟨gWa, 1, none⟩ = some (.int .i64 5) ∧ Wd.cell? ⟨gWa, 2, none⟩ = some (.int .i64 196608) ∧ Wd.cell? ⟨gWa, 3, none⟩ = some (.int .i64 589824) ∧ Wd.cell? ⟨gWa, 4, none⟩ = some (.int .i64 2466212) ∧ Wd.cell? ⟨gWa, 5, none⟩ = some (.int .i64 196608) from HA.out.1)
  have H_b := Lib.hid (show Wd.cell? ⟨gWb, 0, none⟩ = some (.bool true) ∧ Wd.cell? ⟨gWb, 1, none⟩ = some (.int .i64 5) ∧ Wd.cell? ⟨gWb, 2, none⟩ = some (.int .i64 589824) ∧ Wd.cell? ⟨gWb, 3, none⟩ = some (.int .i64 589824) ∧ Wd.cell? ⟨gWb, 4, none⟩ = some (.int .i64 0) ∧ Wd.cell? ⟨gWb, 5, none⟩ = some (.int .i64 589824) from HB.out.1)
  clear HA HB
  have TQ := Lib.hid (show Tens Wd from Tens.kept T.out (by (repeat (first | with_reducible exact Kept.refl _ | with_reducible apply Kept.drew | with_reducible apply Kept.alloc | ((with_reducible apply Kept.set); focus (simp <;> omega)) | ((with_reducible apply Kept.via); focus with_reducible assumption)))))
  have B_a := Lib.hid (Kept.alln6 (show Kept Wd Wd from (by (repeat (first | with_reducible exact Kept.refl _ | with_reducible apply Kept.drew | with_reducible apply Kept.alloc | ((with_reducible apply Kept.set); focus (simp <;> omega)) | ((with_reducible apply Kept.via); focus with_reducible assumption))))) H_a)
  have B_b := Lib.hid (Kept.alln6 (show Kept Wd Wd from (by (repeat (first | with_reducible exact Kept.refl _ | with_reducible apply Kept.drew | with_reducible apply Kept.alloc | ((with_reducible apply Kept.set); focus (simp <;> omega)) | ((with_reducible apply Kept.via); focus with_reducible assumption))))) H_b)
  have kall : Kept w Wd := (by (repeat (first | with_reducible exact Kept.refl _ | with_reducible apply Kept.drew | with_reducible apply Kept.alloc | ((with_reducible apply Kept.set); focus (simp <;> omega)) | ((with_reducible apply Kept.via); focus with_reducible assumption))))
  obtain ⟨q_a0, q_a1, q_a2, q_a3, q_a4, q_a5⟩ := kwn6 B_a
  obtain ⟨q_b0, q_b1, q_b2, q_b3, q_b4, q_b5⟩ := kwn6 B_b
  clear B_a B_b
  simp only [List.append_eq, List.cons_append, List.nil_append]
  refine wp_region_kept (by kernel_rfl) (by as_aux_lemma => kernel_rfl) ?_
  repeat (go_big_quiet_step (first | (with_reducible exact kept_of (Qk11_0.out _ (Tens.kept TQ.out (KW.k _)))) | (with_reducible exact kept_of (Qk11_m5.out _ (Tens.kept TQ.out (KW.k _)))) | (with_reducible exact kept_of (Qk11_26214.out _ (Tens.kept TQ.out (KW.k _)))) | (with_reducible exact kept_of (Qk11_262144.out _ (Tens.kept TQ.out (KW.k _)))) | (with_reducible exact kept_of (Qk11_393216.out _ (Tens.kept TQ.out (KW.k _)))) | (with_reducible exact kept_of (QF10.out _)) | (with_reducible exact kept_of (QF21.out _)) | (with_reducible exact kept_of (QF0.out _)) | (with_reducible exact kept_of (QA.out _ (Tens.kept TQ.out (KW.k _)))) | (with_reducible exact kept_of (QN.out _ (Tens.kept TQ.out (KW.k _)))) | (with_reducible exact kept_of (QB.out _ (Tens.kept TQ.out (KW.k _)))) | (with_reducible exact kept_of (QS12.out _)) | (with_reducible exact kept_of (QS1099511627776.out _))))
  refine wpQuiet_nil ?_
  intro wq hw'
  have kq : Kept Wd wq := by obtain ⟨p, rfl⟩ := hw'; exact p.k
  clear hw'
  clear kall
  have kq2 := Kept.trans kz kq
  go_wp2
  go_ret
  exact ⟨rfl, kq2⟩
end Go.Proofs.YtjdccfaifdokpaaDoor
