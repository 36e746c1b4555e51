/-
  The walk of CubicEnds: it answers true, if the calls do what they are to do.
-/
import Derived.Test.YtlonfobeblnbbaaDoorAwake12
import Derived.Deep.RegionHeld3
import Derived.Deep.DeepCutAuto
namespace Go.Proofs.YtlonfobeblnbbaaDoor
open Go.RowKit Go.BigFrame
set_option linter.unusedVariables false

set_option maxRecDepth 100000 in
set_option maxHeartbeats 1600000 in
theorem ends12_bad (CC : ECheckC) (BC : EBeginC) (SC : EShiftC) (RC : URiseC) (AC : UAtC) (TC : UTargetC) (XC : UReachC) {a n h l : Int} (ha : In64 a) (hn : In64 n) (hh : In64 h) (hb : BeginIs a n h (⟨false, 0, 0, 0, 0, 0⟩ : Ep) 201) (w : World) (T_ : Tens w) : Calls Tryd.prog 6 #[.int .i64 a, .int .i64 n, .int .i64 h, .int .u32 l] w fun e w' => e = .returned (.bool true) ∧ Kept w w' := by
  have CC' := Lib.hid CC
  have BC' := Lib.hid BC
  have SC' := Lib.hid SC
  have RC' := Lib.hid RC
  have AC' := Lib.hid AC
  have TC' := Lib.hid TC
  have XC' := Lib.hid XC
  have AW' := Lib.hid (fun w TT_ => awake12 CC BC SC RC AC TC XC w TT_)
  clear CC BC SC RC AC TC XC
  have T := Lib.hid T_
  clear T_
  have QB := Lib.hid (fun w TT_ => BC'.out a n h _ 201 ha hn hh hb w TT_)
  clear hb
  go_enter Tryd.func6, Tryd.ntmps6
  go_wp2_with fail
  refine (AW'.out _ (Tens.kept T.out (by (repeat (first | with_reducible exact Kept.refl _ | with_reducible apply Kept.drew | with_reducible apply Kept.alloc | ((with_reducible apply Kept.set); focus (simp <;> omega)) | ((with_reducible apply Kept.via); focus with_reducible assumption)))))).mono ?_
  rintro e w1 ⟨rfl, k1⟩
  have kz1 := k1
  go_wp2_with fail
  refine (QB.out _ (Tens.kept T.out (by (repeat (first | with_reducible exact Kept.refl _ | with_reducible apply Kept.drew | with_reducible apply Kept.alloc | ((with_reducible apply Kept.set); focus (simp <;> omega)) | ((with_reducible apply Kept.via); focus with_reducible assumption)))))).mono ?_
  rintro e w2 ⟨rfl, k2⟩
  have kz2 := Kept.trans kz1 k2
  clear kz1 k2
  go_upto_region 3 with fail
  generalize hW : World.alloc w2 (.cells #[.bool false, .int .i64 0, .int .i64 0, .int .i64 0, .int .i64 0, .int .i64 0] 23) = We
  have KWe : Kept w2 We := by subst hW; exact (Kept.refl _).alloc _ _
  have RWe := Lib.hid (show RE We w2.heap.size (⟨false, 0, 0, 0, 0, 0⟩ : Ep) from by subst hW; exact re_new w2 (⟨false, 0, 0, 0, 0, 0⟩ : Ep) _)
  have LWe : w2.heap.size < We.heap.size := by subst hW; simp
  clear hW
  generalize hgWe : w2.heap.size = gWe at *
  clear LWe
  have kz3 := Kept.trans kz2 KWe
  clear kz2 KWe
  obtain ⟨ce0, ce1, ce2, ce3, ce4, ce5⟩ := (RWe.out).1
  go_wp2
  go_ret
  exact ⟨rfl, kz3⟩
set_option maxRecDepth 100000 in
set_option maxHeartbeats 1600000 in
theorem ends12_good (CC : ECheckC) (BC : EBeginC) (SC : EShiftC) (RC : URiseC) (AC : UAtC) (TC : UTargetC) (XC : UReachC) {a n h x k l v u : Int} (ha : In64 a) (hn : In64 n) (hh : In64 h) (hi : In64E (⟨true, a, n, x, k, n⟩ : Ep)) (hb : BeginIs a n h (⟨true, a, n, x, k, n⟩ : Ep) 0) (a0 : 0 ≤ a) (a1 : a ≤ 1099511627776) (n0 : 0 ≤ n) (n1 : n ≤ 68719476736) (k0 : 0 ≤ k) (k1 : k ≤ 137883820) (l0 : 0 ≤ l) (l1 : l ≤ 4294967295) (e1 : atN (⟨true, a, n, x, k, n⟩ : Ep) a = v) (e2 : atN (⟨true, a, n, x, k, n⟩ : Ep) (a + k) = x) (e3 : atN (⟨true, a, n, x, k, n⟩ : Ep) (a + k + l) = u) (o0 : n ≤ v) (o1 : v ≤ n + 1500) (o2 : v ≤ x) (o3 : x ≤ u) (w : World) (T_ : Tens w) : Calls Tryd.prog 6 #[.int .i64 a, .int .i64 n, .int .i64 h, .int .u32 l] w fun e w' => e = .returned (.bool true) ∧ Kept w w' := by
  have CC' := Lib.hid CC
  have BC' := Lib.hid BC
  have SC' := Lib.hid SC
  have RC' := Lib.hid RC
  have AC' := Lib.hid AC
  have TC' := Lib.hid TC
  have XC' := Lib.hid XC
  have AW' := Lib.hid (fun w TT_ => awake12 CC BC SC RC AC TC XC w TT_)
  clear CC BC SC RC AC TC XC
  have T := Lib.hid T_
  clear T_
  have QB := Lib.hid (fun w TT_ => BC'.out a n h _ 0 ha hn hh hb w TT_)
  have QF := Lib.hid (fun w TT_ => AC'.out (⟨true, a, n, x, k, n⟩ : Ep) a v hi ha e1 w TT_)
  have QK := Lib.hid (fun w TT_ => AC'.out (⟨true, a, n, x, k, n⟩ : Ep) (a + k) x hi (by unfold In64; omega) e2 w TT_)
  have QL := Lib.hid (fun w TT_ => AC'.out (⟨true, a, n, x, k, n⟩ : Ep) (a + k + l) u hi (by unfold In64; omega) e3 w TT_)
  have w0 : IntKind.i64.wrap (a + k) = a + k := by rw [IntKind.wrap_i64]; omega
  have w1_ : IntKind.i64.wrap (a + k + l) = a + k + l := by rw [IntKind.wrap_i64]; omega
  have w2_ : IntKind.i64.wrap (n + 1500) = n + 1500 := by rw [IntKind.wrap_i64]; omega
  have w3_ : IntKind.i64.wrap l = l := by rw [IntKind.wrap_i64]; omega
  have d0 : decide (n ≤ v) = true := by simp [o0]
  have d1 : decide (v ≤ n + 1500) = true := by simp [o1]
  have d2 : decide (v ≤ x) = true := by simp [o2]
  have d3 : decide (x ≤ u) = true := by simp [o3]
  clear hb e1 e2 e3 hi o0 o1 o2 o3 hh hn ha
  go_enter Tryd.func6, Tryd.ntmps6
  go_wp2_with fail
  refine (AW'.out _ (Tens.kept T.out (by (repeat (first | with_reducible exact Kept.refl _ | with_reducible apply Kept.drew | with_reducible apply Kept.alloc | ((with_reducible apply Kept.set); focus (simp <;> omega)) | ((with_reducible apply Kept.via); focus with_reducible assumption)))))).mono ?_
  rintro e w1 ⟨rfl, k1⟩
  have kz1 := k1
  go_wp2_with fail
  refine (QB.out _ (Tens.kept T.out (by (repeat (first | with_reducible exact Kept.refl _ | with_reducible apply Kept.drew | with_reducible apply Kept.alloc | ((with_reducible apply Kept.set); focus (simp <;> omega)) | ((with_reducible apply Kept.via); focus with_reducible assumption)))))).mono ?_
  rintro e w2 ⟨rfl, k2⟩
  have kz2 := Kept.trans kz1 k2
  clear kz1 k2
  go_upto_region 3 with fail
  generalize hW : World.alloc w2 (.cells #[.bool true, .int .i64 a, .int .i64 n, .int .i64 x, .int .i64 k, .int .i64 n] 23) = We
  have KWe : Kept w2 We := by subst hW; exact (Kept.refl _).alloc _ _
  have RWe := Lib.hid (show RE We w2.heap.size (⟨true, a, n, x, k, n⟩ : Ep) from by subst hW; exact re_new w2 (⟨true, a, n, x, k, n⟩ : Ep) _)
  have LWe : w2.heap.size < We.heap.size := by subst hW; simp
  clear hW
  generalize hgWe : w2.heap.size = gWe at *
  clear LWe
  have kz3 := Kept.trans kz2 KWe
  clear kz2 KWe
  obtain ⟨ce0, ce1, ce2, ce3, ce4, ce5⟩ := (RWe.out).1
  go_wp2_with fail
  refine (QF.out _ (Tens.kept T.out (by (repeat (first | with_reducible exact Kept.refl _ | with_reducible apply Kept.drew | with_reducible apply Kept.alloc | ((with_reducible apply Kept.set); focus (simp <;> omega)) | ((with_reducible apply Kept.via); focus with_reducible assumption)))))).mono ?_
  rintro e w4 ⟨rfl, k4⟩
  clear ce0 ce1 ce2 ce3 ce4 ce5
  have Re4 := Lib.hid (RWe.out.kept k4)
  clear RWe
  have kz4 := Kept.trans kz3 k4
  clear kz3 k4
  go_upto_region 6 with fail
  have H_e := Lib.hid (show w4.cell? ⟨gWe, 0, none⟩ = some (.bool true) ∧ w4.cell? ⟨gWe, 1, none⟩ = some (.int .i64 a) ∧ w4.cell? ⟨gWe, 2, none⟩ = some (.int .i64 n) ∧ w4.cell? ⟨gWe, 3, none⟩ = some (.int .i64 x) ∧ w4.cell? ⟨gWe, 4, none⟩ = some (.int .i64 k) ∧ w4.cell? ⟨gWe, 5, none⟩ = some (.int .i64 n) from (Re4.out).1)
  have TQ := Lib.hid (show Tens w4 from Tens.kept T.out (by (repeat (first | with_reducible exact Kept.refl _ | with_reducible apply Kept.drew | with_reducible apply Kept.alloc | ((with_reducible apply Kept.set); focus (simp <;> omega)) | ((with_reducible apply Kept.via); focus with_reducible assumption)))))
  have B_e := Lib.hid (Kept.alln6 (show Kept w4 w4 from (by (repeat (first | with_reducible exact Kept.refl _ | with_reducible apply Kept.drew | with_reducible apply Kept.alloc | ((with_reducible apply Kept.set); focus (simp <;> omega)) | ((with_reducible apply Kept.via); focus with_reducible assumption))))) H_e)
  have kall : Kept w w4 := (by (repeat (first | with_reducible exact Kept.refl _ | with_reducible apply Kept.drew | with_reducible apply Kept.alloc | ((with_reducible apply Kept.set); focus (simp <;> omega)) | ((with_reducible apply Kept.via); focus with_reducible assumption))))
  obtain ⟨q_e0, q_e1, q_e2, q_e3, q_e4, q_e5⟩ := kwn6 B_e
  clear B_e
  refine wp_region_kept (by kernel_rfl) (by as_aux_lemma => kernel_rfl) ?_
  repeat (go_big_quiet_step (first | (with_reducible exact kept_of (QK.out _ (Tens.kept TQ.out (KW.k _)))) | (with_reducible exact kept_of (QL.out _ (Tens.kept TQ.out (KW.k _))))))
  refine wpQuiet_nil ?_
  intro wq hw'
  have kq : Kept w4 wq := by obtain ⟨p, rfl⟩ := hw'; exact p.k
  clear hw'
  clear kall
  have kq2 := Kept.trans kz4 kq
  go_wp2
  go_ret
  exact ⟨rfl, kq2⟩
theorem cubicEnds_walk (CC : ECheckC) (BC : EBeginC) (SC : EShiftC) (RC : URiseC) (AC : UAtC) (TC : UTargetC) (XC : UReachC) (a n h l : Int) (w : World) (T_ : Tens w) (ha : In64 a) (hn : In64 n) (hh : In64 h) (l0 : 0 ≤ l) (l1 : l ≤ 4294967295) : Calls Tryd.prog 6 #[.int .i64 a, .int .i64 n, .int .i64 h, .int .u32 l] w fun e w' => e = .returned (.bool true) ∧ Kept w w' := by
  by_cases hb : IsTime a ∧ IsWin n ∧ IsWin h
  · obtain ⟨k, hk⟩ := k_ex ((if h < n then n else h) - n)
    obtain ⟨x, hx⟩ : ∃ x, (if h < n then n else h) = x := ⟨_, rfl⟩
    have B : BeginIs a n h ⟨true, a, n, x, k, n⟩ 0 := Or.inr ⟨hb.1, hb.2.1, hb.2.2, rfl, k, hk, by rw [hx]⟩
    have O : OnE ⟨true, a, n, x, k, n⟩ := ⟨begin_may B, rfl⟩
    have q := onE_in O
    have e := atV_first O
    have g := atV_later O l0 (by omega)
    have j := atV_at_k O
    obtain ⟨q1, q2, q3, q4, q5, q6⟩ := q
    unfold IsTime at q1
    unfold IsWin at q2
    exact ends12_good CC BC SC RC AC TC XC ha hn hh (begin_in64 B) B q1.1 q1.2 q2.1 q2.2 q5 q6 l0 l1 (atN_on O _) ((atN_on O _).trans j) (atN_on O _) e.1 e.2.1 e.2.2 g w T_
  · exact ends12_bad CC BC SC RC AC TC XC ha hn hh (Or.inl ⟨hb, rfl, rfl⟩) w T_
end Go.Proofs.YtlonfobeblnbbaaDoor
