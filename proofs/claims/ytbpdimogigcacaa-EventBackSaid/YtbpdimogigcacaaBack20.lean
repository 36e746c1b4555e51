/-
  The walk of EventBack: it answers true, if the calls do what they are to do.
-/
import Derived.Test.YtbpdimogigcacaaAwake20
import Derived.Test.YtbpdimogigcacaaRefA20
import Derived.Laws.StructEq
import Derived.Deep.RegionHeld3
import Derived.Deep.DeepCutAuto
namespace Go.Proofs.Ytbpdimogigcacaa
open Go.RowKit Go.BigFrame
set_option linter.unusedVariables false

set_option maxRecDepth 100000 in
set_option maxHeartbeats 1600000 in
theorem back20_long (CC : EvCheckC) (DC : EvDecC) (NC : EvEncC) (AC : EvAllC) {k a b r : Int} {A : Option Addr} {len cap : Nat} (hl : 10 < len) (w : World) : Calls Try.prog 4 #[.agg #[.int .i64 k, .int .i64 a, .int .i64 b, .int .i64 r], .slice A len cap] w fun e w' => e = .returned (.bool true) ∧ Kept w w' := by
  have CC' := Lib.hid CC
  have DC' := Lib.hid DC
  have NC' := Lib.hid NC
  have AC' := Lib.hid AC
  have AW' := Lib.hid (fun w => awake20 CC DC NC AC w)
  clear CC DC NC AC
  have d0 : decide ((10 : Int) < (len : Int)) = true := decide_eq_true (by omega)
  have d1 : (10 : Int) < (len : Int) := by omega
  go_enter Try.func4, Try.ntmps4
  go_upto_region 1 with fail
  generalize hW : World.alloc w (.cells #[.int .i64 k, .int .i64 a, .int .i64 b, .int .i64 r] 23) = W_e
  have K_e : Kept w W_e := by subst hW; exact (Kept.refl _).alloc _ _
  have H_e := Lib.hid (show W_e.cell? ⟨w.heap.size, 0, none⟩ = some (.int .i64 k) ∧ W_e.cell? ⟨w.heap.size, 1, none⟩ = some (.int .i64 a) ∧ W_e.cell? ⟨w.heap.size, 2, none⟩ = some (.int .i64 b) ∧ W_e.cell? ⟨w.heap.size, 3, none⟩ = some (.int .i64 r) from by subst hW; simp [go_sem])
  clear hW
  generalize w.heap.size = g_e at *
  go_wp2_with fail
  refine (AW'.out _).mono ?_
  rintro e w20 ⟨rfl, k20⟩
  go_wp2
  go_ret
  exact ⟨rfl, (by (repeat (first | with_reducible exact Kept.refl _ | with_reducible apply Kept.drew | with_reducible apply Kept.alloc | ((with_reducible apply Kept.set); focus (simp <;> omega)) | ((with_reducible apply Kept.via); focus with_reducible assumption))))⟩
theorem four_in {k a b r : Int} (ik : In64 k) (ia : In64 a) (ib : In64 b) (ir : In64 r) : ∀ x ∈ [k, a, b, r], In64 x := by
  intro x hx
  have hm : x = k ∨ x = a ∨ x = b ∨ x = r := by simpa using hx
  rcases hm with rfl | rfl | rfl | rfl <;> assumption
set_option maxRecDepth 100000 in
set_option maxHeartbeats 6400000 in
theorem back20_yy (CC : EvCheckC) (DC : EvDecC) (NC : EvEncC) (AC : EvAllC) {k a b r yk ya yb yr : Int} {A : Option Addr} {cap : Nat} (ik : In64 k) (ia : In64 a) (ib : In64 b) (ir : In64 r) (iy : In64 yk ∧ In64 ya ∧ In64 yb ∧ In64 yr) (hz : [yk, ya, yb, yr].length = 4 ∧ SliceOk A 4 cap ∧ ∀ x ∈ [yk, ya, yb, yr], In64 x) (ef : chkV (k, a, b, r) = 0) (ev : decV [yk, ya, yb, yr] = (yk, ya, yb, yr) ∧ decE [yk, ya, yb, yr] = 0) (ec : chkV (yk, ya, yb, yr) = 0)  (w : World) (hr1 : RowK .i64 w A [yk, ya, yb, yr]) : Calls Try.prog 4 #[.agg #[.int .i64 k, .int .i64 a, .int .i64 b, .int .i64 r], .slice A 4 cap] w fun e w' => e = .returned (.bool true) ∧ Kept w w' := by
  have CC' := Lib.hid CC
  have DC' := Lib.hid DC
  have NC' := Lib.hid NC
  have AC' := Lib.hid AC
  have AW' := Lib.hid (fun w => awake20 CC DC NC AC w)
  clear CC DC NC AC
  have C1 := Lib.hid (fun w_ => CC'.out k a b r 0 ik ia ib ir ef w_)
  have C2 := Lib.hid (fun w_ => CC'.out yk ya yb yr 0 iy.1 iy.2.1 iy.2.2.1 iy.2.2.2 ec w_)
  have IK := Lib.hid (And.intro ik (And.intro ia (And.intro ib ir)))
  have IY := Lib.hid iy
  have AL := Lib.hid (four_in ik ia ib ir)
  have DV := Lib.hid (show decV [k, a, b, r] = (k, a, b, r) ∧ decE [k, a, b, r] = 0 from by unfold decV decE evOf; simp [ef])
  have HZ := Lib.hid hz
  have EV := Lib.hid ev
  have HL := Lib.hid hr1
  clear ik ia ib ir ef ev hz hr1 iy ec
  go_enter Try.func4, Try.ntmps4
  go_upto_region 1 with fail
  generalize hW : World.alloc w (.cells #[.int .i64 k, .int .i64 a, .int .i64 b, .int .i64 r] 23) = W_e
  have K_e : Kept w W_e := by subst hW; exact (Kept.refl _).alloc _ _
  have H_e := Lib.hid (show W_e.cell? ⟨w.heap.size, 0, none⟩ = some (.int .i64 k) ∧ W_e.cell? ⟨w.heap.size, 1, none⟩ = some (.int .i64 a) ∧ W_e.cell? ⟨w.heap.size, 2, none⟩ = some (.int .i64 b) ∧ W_e.cell? ⟨w.heap.size, 3, none⟩ = some (.int .i64 r) from by subst hW; simp [go_sem])
  clear hW
  generalize w.heap.size = g_e at *
  go_wp2_with fail
  refine (AW'.out _).mono ?_
  rintro e w20 ⟨rfl, k20⟩
  obtain ⟨ce0, ce1, ce2, ce3⟩ := Kept.alln4 (show Kept W_e w20 from (by (repeat (first | with_reducible exact Kept.refl _ | with_reducible apply Kept.drew | with_reducible apply Kept.alloc | ((with_reducible apply Kept.set); focus (simp <;> omega)) | ((with_reducible apply Kept.via); focus with_reducible assumption))))) H_e
  go_wp2_with fail
  refine (NC'.out k a b r IK.out.1 IK.out.2.1 IK.out.2.2.1 IK.out.2.2.2 _).mono ?_
  rintro e w30 ⟨B0, c0, rfl, s0, r0, _, k30⟩
  clear ce0 ce1 ce2 ce3
  go_wp2_with fail
  refine (DC'.out B0 4 c0 [k, a, b, r] k a b r 0 rfl s0 AL.out DV.out.1 DV.out.2 _ r0).mono ?_
  rintro e w31 ⟨rfl, k31⟩
  clear s0 r0
  go_upto_region 5 with fail
  generalize hW : World.alloc w31 (.cells #[.int .i64 k, .int .i64 a, .int .i64 b, .int .i64 r] 23) = W_x
  have K_x : Kept w31 W_x := by subst hW; exact (Kept.refl _).alloc _ _
  have H_x := Lib.hid (show W_x.cell? ⟨w31.heap.size, 0, none⟩ = some (.int .i64 k) ∧ W_x.cell? ⟨w31.heap.size, 1, none⟩ = some (.int .i64 a) ∧ W_x.cell? ⟨w31.heap.size, 2, none⟩ = some (.int .i64 b) ∧ W_x.cell? ⟨w31.heap.size, 3, none⟩ = some (.int .i64 r) from by subst hW; simp [go_sem])
  clear hW
  generalize w31.heap.size = g_x at *
  go_wp2_with fail
  refine (DC'.out A 4 cap [yk, ya, yb, yr] yk ya yb yr 0 HZ.out.1 HZ.out.2.1 HZ.out.2.2 EV.out.1 EV.out.2 _ (HL.out.kept (by (repeat (first | with_reducible exact Kept.refl _ | with_reducible apply Kept.drew | with_reducible apply Kept.alloc | ((with_reducible apply Kept.set); focus (simp <;> omega)) | ((with_reducible apply Kept.via); focus with_reducible assumption)))))).mono ?_
  rintro e w33 ⟨rfl, k33⟩
  go_upto_region 6 with fail
  generalize hW : World.alloc w33 (.cells #[.int .i64 yk, .int .i64 ya, .int .i64 yb, .int .i64 yr] 23) = W_y
  have K_y : Kept w33 W_y := by subst hW; exact (Kept.refl _).alloc _ _
  have H_y := Lib.hid (show W_y.cell? ⟨w33.heap.size, 0, none⟩ = some (.int .i64 yk) ∧ W_y.cell? ⟨w33.heap.size, 1, none⟩ = some (.int .i64 ya) ∧ W_y.cell? ⟨w33.heap.size, 2, none⟩ = some (.int .i64 yb) ∧ W_y.cell? ⟨w33.heap.size, 3, none⟩ = some (.int .i64 yr) from by subst hW; simp [go_sem])
  clear hW
  generalize w33.heap.size = g_y at *
  obtain ⟨cy0, cy1, cy2, cy3⟩ := Kept.alln4 (show Kept W_y W_y from (by (repeat (first | with_reducible exact Kept.refl _ | with_reducible apply Kept.drew | with_reducible apply Kept.alloc | ((with_reducible apply Kept.set); focus (simp <;> omega)) | ((with_reducible apply Kept.via); focus with_reducible assumption))))) H_y
  go_wp2_with fail
  refine (NC'.out yk ya yb yr IY.out.1 IY.out.2.1 IY.out.2.2.1 IY.out.2.2.2 _).mono ?_
  rintro e w35 ⟨BN, cN, rfl, _, rN, _, k35⟩
  have RN := Lib.hid rN
  have HL5 := Lib.hid (HL.out.kept (show Kept w w35 from (by (repeat (first | with_reducible exact Kept.refl _ | with_reducible apply Kept.drew | with_reducible apply Kept.alloc | ((with_reducible apply Kept.set); focus (simp <;> omega)) | ((with_reducible apply Kept.via); focus with_reducible assumption))))))
  clear rN
  clear cy0 cy1 cy2 cy3
  go_wp2
  go_loopw [11] (fun i wr => ∃ j : Nat, j ≤ 4 ∧ i = .int .i64 j ∧ Kept w35 wr) (fun i _ => 4 - (intOf i).toNat)
  case atStart => exact ⟨0, Nat.zero_le _, rfl, Kept.refl _⟩
  case round =>
    obtain ⟨j, hj, rfl, kw⟩ := hrel
    by_cases hlt : j < 4
    · have hltI : (j : Int) < 4 := by omega
      have h0 : (0 : Int) ≤ (j : Int) := by omega
      have hd : decide ((4 : Int) ≤ (j : Int)) = false := by simp; omega
      obtain ⟨b1, o1, rfl, hc1⟩ := (RN.out.kept kw) (by simp)
      obtain ⟨b2, o2, rfl, hc2⟩ := (HL5.out.kept kw) (by simp)
      have c1 : wr.cell? ⟨b1, o1 + j, none⟩ = some (.int .i64 ([yk, ya, yb, yr].getD j 0)) := hc1 j hlt
      have c2 : wr.cell? ⟨b2, o2 + j, none⟩ = some (.int .i64 ([yk, ya, yb, yr].getD j 0)) := hc2 j hlt
      generalize ([yk, ya, yb, yr] : List Int).getD j 0 = v at *
      have H_q := Lib.hid (And.intro c1 c2)
      clear hc1 hc2 c1 c2
      go_upto_region 10 with fail
      have B_q := Lib.hid (Kept.alln2 (show Kept wr wr from (by (repeat (first | with_reducible exact Kept.refl _ | with_reducible apply Kept.drew | with_reducible apply Kept.alloc | ((with_reducible apply Kept.set); focus (simp <;> omega)) | ((with_reducible apply Kept.via); focus with_reducible assumption))))) H_q)
      have kall : Kept w wr := (by (repeat (first | with_reducible exact Kept.refl _ | with_reducible apply Kept.drew | with_reducible apply Kept.alloc | ((with_reducible apply Kept.set); focus (simp <;> omega)) | ((with_reducible apply Kept.via); focus with_reducible assumption))))
      obtain ⟨q_q0, q_q1⟩ := kwn2 B_q
      clear B_q
      refine wp_region_kept (by kernel_rfl) (by as_aux_lemma => kernel_rfl) ?_
      repeat (go_big_quiet_step (first | fail))
      refine wpQuiet_nil ?_
      intro wq hw'
      have kq : Kept wr wq := by obtain ⟨p, rfl⟩ := hw'; exact p.k
      clear hw'
      clear kall
      go_wp2
      go_roundw
      case rel => exact ⟨j + 1, by omega, by go_num, Kept.trans kw kq⟩
      case measure => simp [intOf]; omega
    · obtain rfl : j = 4 := by omega
      obtain ⟨ce0, ce1, ce2, ce3⟩ := Kept.alln4 (show Kept W_e wr from (by (repeat (first | with_reducible exact Kept.refl _ | with_reducible apply Kept.drew | with_reducible apply Kept.alloc | ((with_reducible apply Kept.set); focus (simp <;> omega)) | ((with_reducible apply Kept.via); focus with_reducible assumption))))) H_e
      go_wp2_with fail
      refine (C1.out _).mono ?_
      rintro e w40 ⟨rfl, k40⟩
      clear ce0 ce1 ce2 ce3
      obtain ⟨cx0, cx1, cx2, cx3⟩ := Kept.alln4 (show Kept W_x w40 from (by (repeat (first | with_reducible exact Kept.refl _ | with_reducible apply Kept.drew | with_reducible apply Kept.alloc | ((with_reducible apply Kept.set); focus (simp <;> omega)) | ((with_reducible apply Kept.via); focus with_reducible assumption))))) H_x
      obtain ⟨ce0, ce1, ce2, ce3⟩ := Kept.alln4 (show Kept W_e w40 from (by (repeat (first | with_reducible exact Kept.refl _ | with_reducible apply Kept.drew | with_reducible apply Kept.alloc | ((with_reducible apply Kept.set); focus (simp <;> omega)) | ((with_reducible apply Kept.via); focus with_reducible assumption))))) H_e
      obtain ⟨cy0, cy1, cy2, cy3⟩ := Kept.alln4 (show Kept W_y w40 from (by (repeat (first | with_reducible exact Kept.refl _ | with_reducible apply Kept.drew | with_reducible apply Kept.alloc | ((with_reducible apply Kept.set); focus (simp <;> omega)) | ((with_reducible apply Kept.via); focus with_reducible assumption))))) H_y
      go_wp2_with fail
      refine (C2.out _).mono ?_
      rintro e w41 ⟨rfl, k41⟩
      clear cy0 cy1 cy2 cy3
      clear cx0 cx1 cx2 cx3
      clear ce0 ce1 ce2 ce3
      go_wp2
      go_ret
      exact ⟨rfl, (by (repeat (first | with_reducible exact Kept.refl _ | with_reducible apply Kept.drew | with_reducible apply Kept.alloc | ((with_reducible apply Kept.set); focus (simp <;> omega)) | ((with_reducible apply Kept.via); focus with_reducible assumption))))⟩
set_option maxRecDepth 100000 in
set_option maxHeartbeats 6400000 in
theorem back20_yn (CC : EvCheckC) (DC : EvDecC) (NC : EvEncC) (AC : EvAllC) {k a b r ge : Int} {A : Option Addr} {len cap : Nat} {zs : List Int} (ik : In64 k) (ia : In64 a) (ib : In64 b) (ir : In64 r) (hz : zs.length = len ∧ SliceOk A len cap ∧ ∀ x ∈ zs, In64 x) (hl : len ≤ 10) (g1 : (ge == 0) = false) (g3 : (ge != 0) = true) (g2 : ¬ ge = 0) (ef : chkV (k, a, b, r) = 0) (ev : decV zs = (0, 0, 0, 0) ∧ decE zs = ge)  (w : World) (hr1 : RowK .i64 w A zs) : Calls Try.prog 4 #[.agg #[.int .i64 k, .int .i64 a, .int .i64 b, .int .i64 r], .slice A len cap] w fun e w' => e = .returned (.bool true) ∧ Kept w w' := by
  have CC' := Lib.hid CC
  have DC' := Lib.hid DC
  have NC' := Lib.hid NC
  have AC' := Lib.hid AC
  have AW' := Lib.hid (fun w => awake20 CC DC NC AC w)
  clear CC DC NC AC
  have C1 := Lib.hid (fun w_ => CC'.out k a b r 0 ik ia ib ir ef w_)
  have IK := Lib.hid (And.intro ik (And.intro ia (And.intro ib ir)))
  have IY := Lib.hid (show In64 0 ∧ In64 0 ∧ In64 0 ∧ In64 0 from by unfold In64; decide)
  have AL := Lib.hid (four_in ik ia ib ir)
  have DV := Lib.hid (show decV [k, a, b, r] = (k, a, b, r) ∧ decE [k, a, b, r] = 0 from by unfold decV decE evOf; simp [ef])
  have HZ := Lib.hid hz
  have EV := Lib.hid ev
  have HL := Lib.hid hr1
  clear ik ia ib ir ef ev hz hr1
  have d0 : decide ((10 : Int) < (len : Int)) = false := by simp; omega
  have d1 : ¬ (10 : Int) < (len : Int) := by omega
  go_enter Try.func4, Try.ntmps4
  go_upto_region 1 with fail
  generalize hW : World.alloc w (.cells #[.int .i64 k, .int .i64 a, .int .i64 b, .int .i64 r] 23) = W_e
  have K_e : Kept w W_e := by subst hW; exact (Kept.refl _).alloc _ _
  have H_e := Lib.hid (show W_e.cell? ⟨w.heap.size, 0, none⟩ = some (.int .i64 k) ∧ W_e.cell? ⟨w.heap.size, 1, none⟩ = some (.int .i64 a) ∧ W_e.cell? ⟨w.heap.size, 2, none⟩ = some (.int .i64 b) ∧ W_e.cell? ⟨w.heap.size, 3, none⟩ = some (.int .i64 r) from by subst hW; simp [go_sem])
  clear hW
  generalize w.heap.size = g_e at *
  go_wp2_with fail
  refine (AW'.out _).mono ?_
  rintro e w20 ⟨rfl, k20⟩
  obtain ⟨ce0, ce1, ce2, ce3⟩ := Kept.alln4 (show Kept W_e w20 from (by (repeat (first | with_reducible exact Kept.refl _ | with_reducible apply Kept.drew | with_reducible apply Kept.alloc | ((with_reducible apply Kept.set); focus (simp <;> omega)) | ((with_reducible apply Kept.via); focus with_reducible assumption))))) H_e
  go_wp2_with fail
  refine (NC'.out k a b r IK.out.1 IK.out.2.1 IK.out.2.2.1 IK.out.2.2.2 _).mono ?_
  rintro e w30 ⟨B0, c0, rfl, s0, r0, _, k30⟩
  clear ce0 ce1 ce2 ce3
  go_wp2_with fail
  refine (DC'.out B0 4 c0 [k, a, b, r] k a b r 0 rfl s0 AL.out DV.out.1 DV.out.2 _ r0).mono ?_
  rintro e w31 ⟨rfl, k31⟩
  clear s0 r0
  go_upto_region 5 with fail
  generalize hW : World.alloc w31 (.cells #[.int .i64 k, .int .i64 a, .int .i64 b, .int .i64 r] 23) = W_x
  have K_x : Kept w31 W_x := by subst hW; exact (Kept.refl _).alloc _ _
  have H_x := Lib.hid (show W_x.cell? ⟨w31.heap.size, 0, none⟩ = some (.int .i64 k) ∧ W_x.cell? ⟨w31.heap.size, 1, none⟩ = some (.int .i64 a) ∧ W_x.cell? ⟨w31.heap.size, 2, none⟩ = some (.int .i64 b) ∧ W_x.cell? ⟨w31.heap.size, 3, none⟩ = some (.int .i64 r) from by subst hW; simp [go_sem])
  clear hW
  generalize w31.heap.size = g_x at *
  go_wp2_with fail
  refine (DC'.out A len cap zs 0 0 0 0 ge HZ.out.1 HZ.out.2.1 HZ.out.2.2 EV.out.1 EV.out.2 _ (HL.out.kept (by (repeat (first | with_reducible exact Kept.refl _ | with_reducible apply Kept.drew | with_reducible apply Kept.alloc | ((with_reducible apply Kept.set); focus (simp <;> omega)) | ((with_reducible apply Kept.via); focus with_reducible assumption)))))).mono ?_
  rintro e w33 ⟨rfl, k33⟩
  go_upto_region 6 with fail
  generalize hW : World.alloc w33 (.cells #[.int .i64 0, .int .i64 0, .int .i64 0, .int .i64 0] 23) = W_y
  have K_y : Kept w33 W_y := by subst hW; exact (Kept.refl _).alloc _ _
  have H_y := Lib.hid (show W_y.cell? ⟨w33.heap.size, 0, none⟩ = some (.int .i64 0) ∧ W_y.cell? ⟨w33.heap.size, 1, none⟩ = some (.int .i64 0) ∧ W_y.cell? ⟨w33.heap.size, 2, none⟩ = some (.int .i64 0) ∧ W_y.cell? ⟨w33.heap.size, 3, none⟩ = some (.int .i64 0) from by subst hW; simp [go_sem])
  clear hW
  generalize w33.heap.size = g_y at *
  obtain ⟨cy0, cy1, cy2, cy3⟩ := Kept.alln4 (show Kept W_y W_y from (by (repeat (first | with_reducible exact Kept.refl _ | with_reducible apply Kept.drew | with_reducible apply Kept.alloc | ((with_reducible apply Kept.set); focus (simp <;> omega)) | ((with_reducible apply Kept.via); focus with_reducible assumption))))) H_y
  go_wp2_with fail
  refine (NC'.out 0 0 0 0 IY.out.1 IY.out.2.1 IY.out.2.2.1 IY.out.2.2.2 _).mono ?_
  rintro e w35 ⟨BN, cN, rfl, _, rN, _, k35⟩
  have RN := Lib.hid rN
  have HL5 := Lib.hid (HL.out.kept (show Kept w w35 from (by (repeat (first | with_reducible exact Kept.refl _ | with_reducible apply Kept.drew | with_reducible apply Kept.alloc | ((with_reducible apply Kept.set); focus (simp <;> omega)) | ((with_reducible apply Kept.via); focus with_reducible assumption))))))
  clear rN
  clear cy0 cy1 cy2 cy3
  go_wp2
  go_loopw [11] (fun i wr => i = .int .i64 0 ∧ Kept w35 wr) (fun i _ => 0)
  case atStart => exact ⟨rfl, Kept.refl _⟩
  case round =>
    obtain ⟨rfl, kw⟩ := hrel
    by_cases h0 : 0 < len
    · have hd : (0 : Int) < (len : Int) := by omega
      obtain ⟨ce0, ce1, ce2, ce3⟩ := Kept.alln4 (show Kept W_e wr from (by (repeat (first | with_reducible exact Kept.refl _ | with_reducible apply Kept.drew | with_reducible apply Kept.alloc | ((with_reducible apply Kept.set); focus (simp <;> omega)) | ((with_reducible apply Kept.via); focus with_reducible assumption))))) H_e
      go_wp2_with fail
      refine (C1.out _).mono ?_
      rintro e w40 ⟨rfl, k40⟩
      clear ce0 ce1 ce2 ce3
      obtain ⟨cx0, cx1, cx2, cx3⟩ := Kept.alln4 (show Kept W_x w40 from (by (repeat (first | with_reducible exact Kept.refl _ | with_reducible apply Kept.drew | with_reducible apply Kept.alloc | ((with_reducible apply Kept.set); focus (simp <;> omega)) | ((with_reducible apply Kept.via); focus with_reducible assumption))))) H_x
      obtain ⟨ce0, ce1, ce2, ce3⟩ := Kept.alln4 (show Kept W_e w40 from (by (repeat (first | with_reducible exact Kept.refl _ | with_reducible apply Kept.drew | with_reducible apply Kept.alloc | ((with_reducible apply Kept.set); focus (simp <;> omega)) | ((with_reducible apply Kept.via); focus with_reducible assumption))))) H_e
      go_wp2
      go_ret
      exact ⟨rfl, (by (repeat (first | with_reducible exact Kept.refl _ | with_reducible apply Kept.drew | with_reducible apply Kept.alloc | ((with_reducible apply Kept.set); focus (simp <;> omega)) | ((with_reducible apply Kept.via); focus with_reducible assumption))))⟩
    · obtain rfl : len = 0 := by omega
      obtain ⟨ce0, ce1, ce2, ce3⟩ := Kept.alln4 (show Kept W_e wr from (by (repeat (first | with_reducible exact Kept.refl _ | with_reducible apply Kept.drew | with_reducible apply Kept.alloc | ((with_reducible apply Kept.set); focus (simp <;> omega)) | ((with_reducible apply Kept.via); focus with_reducible assumption))))) H_e
      go_wp2_with fail
      refine (C1.out _).mono ?_
      rintro e w40 ⟨rfl, k40⟩
      clear ce0 ce1 ce2 ce3
      obtain ⟨cx0, cx1, cx2, cx3⟩ := Kept.alln4 (show Kept W_x w40 from (by (repeat (first | with_reducible exact Kept.refl _ | with_reducible apply Kept.drew | with_reducible apply Kept.alloc | ((with_reducible apply Kept.set); focus (simp <;> omega)) | ((with_reducible apply Kept.via); focus with_reducible assumption))))) H_x
      obtain ⟨ce0, ce1, ce2, ce3⟩ := Kept.alln4 (show Kept W_e w40 from (by (repeat (first | with_reducible exact Kept.refl _ | with_reducible apply Kept.drew | with_reducible apply Kept.alloc | ((with_reducible apply Kept.set); focus (simp <;> omega)) | ((with_reducible apply Kept.via); focus with_reducible assumption))))) H_e
      go_wp2
      go_ret
      exact ⟨rfl, (by (repeat (first | with_reducible exact Kept.refl _ | with_reducible apply Kept.drew | with_reducible apply Kept.alloc | ((with_reducible apply Kept.set); focus (simp <;> omega)) | ((with_reducible apply Kept.via); focus with_reducible assumption))))⟩
set_option maxRecDepth 100000 in
set_option maxHeartbeats 6400000 in
theorem back20_ny (CC : EvCheckC) (DC : EvDecC) (NC : EvEncC) (AC : EvAllC) {k a b r fe yk ya yb yr : Int} {A : Option Addr} {cap : Nat} (ik : In64 k) (ia : In64 a) (ib : In64 b) (ir : In64 r) (iy : In64 yk ∧ In64 ya ∧ In64 yb ∧ In64 yr) (hz : [yk, ya, yb, yr].length = 4 ∧ SliceOk A 4 cap ∧ ∀ x ∈ [yk, ya, yb, yr], In64 x) (f1 : (fe == 0) = false) (f3 : (fe != 0) = true) (f2 : ¬ fe = 0) (ef : chkV (k, a, b, r) = fe) (ev : decV [yk, ya, yb, yr] = (yk, ya, yb, yr) ∧ decE [yk, ya, yb, yr] = 0) (ec : chkV (yk, ya, yb, yr) = 0)  (w : World) (hr1 : RowK .i64 w A [yk, ya, yb, yr]) : Calls Try.prog 4 #[.agg #[.int .i64 k, .int .i64 a, .int .i64 b, .int .i64 r], .slice A 4 cap] w fun e w' => e = .returned (.bool true) ∧ Kept w w' := by
  have CC' := Lib.hid CC
  have DC' := Lib.hid DC
  have NC' := Lib.hid NC
  have AC' := Lib.hid AC
  have AW' := Lib.hid (fun w => awake20 CC DC NC AC w)
  clear CC DC NC AC
  have C1 := Lib.hid (fun w_ => CC'.out k a b r fe ik ia ib ir ef w_)
  have C2 := Lib.hid (fun w_ => CC'.out yk ya yb yr 0 iy.1 iy.2.1 iy.2.2.1 iy.2.2.2 ec w_)
  have IK := Lib.hid (And.intro ik (And.intro ia (And.intro ib ir)))
  have IY := Lib.hid iy
  have AL := Lib.hid (four_in ik ia ib ir)
  have DV := Lib.hid (show decV [k, a, b, r] = (0, 0, 0, 0) ∧ decE [k, a, b, r] = fe from by unfold decV decE evOf; simp [ef, f2])
  have HZ := Lib.hid hz
  have EV := Lib.hid ev
  have HL := Lib.hid hr1
  clear ik ia ib ir ef ev hz hr1 iy ec
  go_enter Try.func4, Try.ntmps4
  go_upto_region 1 with fail
  generalize hW : World.alloc w (.cells #[.int .i64 k, .int .i64 a, .int .i64 b, .int .i64 r] 23) = W_e
  have K_e : Kept w W_e := by subst hW; exact (Kept.refl _).alloc _ _
  have H_e := Lib.hid (show W_e.cell? ⟨w.heap.size, 0, none⟩ = some (.int .i64 k) ∧ W_e.cell? ⟨w.heap.size, 1, none⟩ = some (.int .i64 a) ∧ W_e.cell? ⟨w.heap.size, 2, none⟩ = some (.int .i64 b) ∧ W_e.cell? ⟨w.heap.size, 3, none⟩ = some (.int .i64 r) from by subst hW; simp [go_sem])
  clear hW
  generalize w.heap.size = g_e at *
  go_wp2_with fail
  refine (AW'.out _).mono ?_
  rintro e w20 ⟨rfl, k20⟩
  obtain ⟨ce0, ce1, ce2, ce3⟩ := Kept.alln4 (show Kept W_e w20 from (by (repeat (first | with_reducible exact Kept.refl _ | with_reducible apply Kept.drew | with_reducible apply Kept.alloc | ((with_reducible apply Kept.set); focus (simp <;> omega)) | ((with_reducible apply Kept.via); focus with_reducible assumption))))) H_e
  go_wp2_with fail
  refine (NC'.out k a b r IK.out.1 IK.out.2.1 IK.out.2.2.1 IK.out.2.2.2 _).mono ?_
  rintro e w30 ⟨B0, c0, rfl, s0, r0, _, k30⟩
  clear ce0 ce1 ce2 ce3
  go_wp2_with fail
  refine (DC'.out B0 4 c0 [k, a, b, r] 0 0 0 0 fe rfl s0 AL.out DV.out.1 DV.out.2 _ r0).mono ?_
  rintro e w31 ⟨rfl, k31⟩
  clear s0 r0
  go_upto_region 5 with fail
  generalize hW : World.alloc w31 (.cells #[.int .i64 0, .int .i64 0, .int .i64 0, .int .i64 0] 23) = W_x
  have K_x : Kept w31 W_x := by subst hW; exact (Kept.refl _).alloc _ _
  have H_x := Lib.hid (show W_x.cell? ⟨w31.heap.size, 0, none⟩ = some (.int .i64 0) ∧ W_x.cell? ⟨w31.heap.size, 1, none⟩ = some (.int .i64 0) ∧ W_x.cell? ⟨w31.heap.size, 2, none⟩ = some (.int .i64 0) ∧ W_x.cell? ⟨w31.heap.size, 3, none⟩ = some (.int .i64 0) from by subst hW; simp [go_sem])
  clear hW
  generalize w31.heap.size = g_x at *
  go_wp2_with fail
  refine (DC'.out A 4 cap [yk, ya, yb, yr] yk ya yb yr 0 HZ.out.1 HZ.out.2.1 HZ.out.2.2 EV.out.1 EV.out.2 _ (HL.out.kept (by (repeat (first | with_reducible exact Kept.refl _ | with_reducible apply Kept.drew | with_reducible apply Kept.alloc | ((with_reducible apply Kept.set); focus (simp <;> omega)) | ((with_reducible apply Kept.via); focus with_reducible assumption)))))).mono ?_
  rintro e w33 ⟨rfl, k33⟩
  go_upto_region 6 with fail
  generalize hW : World.alloc w33 (.cells #[.int .i64 yk, .int .i64 ya, .int .i64 yb, .int .i64 yr] 23) = W_y
  have K_y : Kept w33 W_y := by subst hW; exact (Kept.refl _).alloc _ _
  have H_y := Lib.hid (show W_y.cell? ⟨w33.heap.size, 0, none⟩ = some (.int .i64 yk) ∧ W_y.cell? ⟨w33.heap.size, 1, none⟩ = some (.int .i64 ya) ∧ W_y.cell? ⟨w33.heap.size, 2, none⟩ = some (.int .i64 yb) ∧ W_y.cell? ⟨w33.heap.size, 3, none⟩ = some (.int .i64 yr) from by subst hW; simp [go_sem])
  clear hW
  generalize w33.heap.size = g_y at *
  obtain ⟨cy0, cy1, cy2, cy3⟩ := Kept.alln4 (show Kept W_y W_y from (by (repeat (first | with_reducible exact Kept.refl _ | with_reducible apply Kept.drew | with_reducible apply Kept.alloc | ((with_reducible apply Kept.set); focus (simp <;> omega)) | ((with_reducible apply Kept.via); focus with_reducible assumption))))) H_y
  go_wp2_with fail
  refine (NC'.out yk ya yb yr IY.out.1 IY.out.2.1 IY.out.2.2.1 IY.out.2.2.2 _).mono ?_
  rintro e w35 ⟨BN, cN, rfl, _, rN, _, k35⟩
  have RN := Lib.hid rN
  have HL5 := Lib.hid (HL.out.kept (show Kept w w35 from (by (repeat (first | with_reducible exact Kept.refl _ | with_reducible apply Kept.drew | with_reducible apply Kept.alloc | ((with_reducible apply Kept.set); focus (simp <;> omega)) | ((with_reducible apply Kept.via); focus with_reducible assumption))))))
  clear rN
  clear cy0 cy1 cy2 cy3
  go_wp2
  go_loopw [11] (fun i wr => ∃ j : Nat, j ≤ 4 ∧ i = .int .i64 j ∧ Kept w35 wr) (fun i _ => 4 - (intOf i).toNat)
  case atStart => exact ⟨0, Nat.zero_le _, rfl, Kept.refl _⟩
  case round =>
    obtain ⟨j, hj, rfl, kw⟩ := hrel
    by_cases hlt : j < 4
    · have hltI : (j : Int) < 4 := by omega
      have h0 : (0 : Int) ≤ (j : Int) := by omega
      have hd : decide ((4 : Int) ≤ (j : Int)) = false := by simp; omega
      obtain ⟨b1, o1, rfl, hc1⟩ := (RN.out.kept kw) (by simp)
      obtain ⟨b2, o2, rfl, hc2⟩ := (HL5.out.kept kw) (by simp)
      have c1 : wr.cell? ⟨b1, o1 + j, none⟩ = some (.int .i64 ([yk, ya, yb, yr].getD j 0)) := hc1 j hlt
      have c2 : wr.cell? ⟨b2, o2 + j, none⟩ = some (.int .i64 ([yk, ya, yb, yr].getD j 0)) := hc2 j hlt
      generalize ([yk, ya, yb, yr] : List Int).getD j 0 = v at *
      have H_q := Lib.hid (And.intro c1 c2)
      clear hc1 hc2 c1 c2
      go_upto_region 10 with fail
      have B_q := Lib.hid (Kept.alln2 (show Kept wr wr from (by (repeat (first | with_reducible exact Kept.refl _ | with_reducible apply Kept.drew | with_reducible apply Kept.alloc | ((with_reducible apply Kept.set); focus (simp <;> omega)) | ((with_reducible apply Kept.via); focus with_reducible assumption))))) H_q)
      have kall : Kept w wr := (by (repeat (first | with_reducible exact Kept.refl _ | with_reducible apply Kept.drew | with_reducible apply Kept.alloc | ((with_reducible apply Kept.set); focus (simp <;> omega)) | ((with_reducible apply Kept.via); focus with_reducible assumption))))
      obtain ⟨q_q0, q_q1⟩ := kwn2 B_q
      clear B_q
      refine wp_region_kept (by kernel_rfl) (by as_aux_lemma => kernel_rfl) ?_
      repeat (go_big_quiet_step (first | fail))
      refine wpQuiet_nil ?_
      intro wq hw'
      have kq : Kept wr wq := by obtain ⟨p, rfl⟩ := hw'; exact p.k
      clear hw'
      clear kall
      go_wp2
      go_roundw
      case rel => exact ⟨j + 1, by omega, by go_num, Kept.trans kw kq⟩
      case measure => simp [intOf]; omega
    · obtain rfl : j = 4 := by omega
      obtain ⟨ce0, ce1, ce2, ce3⟩ := Kept.alln4 (show Kept W_e wr from (by (repeat (first | with_reducible exact Kept.refl _ | with_reducible apply Kept.drew | with_reducible apply Kept.alloc | ((with_reducible apply Kept.set); focus (simp <;> omega)) | ((with_reducible apply Kept.via); focus with_reducible assumption))))) H_e
      go_wp2_with fail
      refine (C1.out _).mono ?_
      rintro e w40 ⟨rfl, k40⟩
      clear ce0 ce1 ce2 ce3
      obtain ⟨cx0, cx1, cx2, cx3⟩ := Kept.alln4 (show Kept W_x w40 from (by (repeat (first | with_reducible exact Kept.refl _ | with_reducible apply Kept.drew | with_reducible apply Kept.alloc | ((with_reducible apply Kept.set); focus (simp <;> omega)) | ((with_reducible apply Kept.via); focus with_reducible assumption))))) H_x
      obtain ⟨ce0, ce1, ce2, ce3⟩ := Kept.alln4 (show Kept W_e w40 from (by (repeat (first | with_reducible exact Kept.refl _ | with_reducible apply Kept.drew | with_reducible apply Kept.alloc | ((with_reducible apply Kept.set); focus (simp <;> omega)) | ((with_reducible apply Kept.via); focus with_reducible assumption))))) H_e
      obtain ⟨cy0, cy1, cy2, cy3⟩ := Kept.alln4 (show Kept W_y w40 from (by (repeat (first | with_reducible exact Kept.refl _ | with_reducible apply Kept.drew | with_reducible apply Kept.alloc | ((with_reducible apply Kept.set); focus (simp <;> omega)) | ((with_reducible apply Kept.via); focus with_reducible assumption))))) H_y
      go_wp2_with fail
      refine (C2.out _).mono ?_
      rintro e w41 ⟨rfl, k41⟩
      clear cy0 cy1 cy2 cy3
      clear cx0 cx1 cx2 cx3
      clear ce0 ce1 ce2 ce3
      go_wp2
      go_ret
      exact ⟨rfl, (by (repeat (first | with_reducible exact Kept.refl _ | with_reducible apply Kept.drew | with_reducible apply Kept.alloc | ((with_reducible apply Kept.set); focus (simp <;> omega)) | ((with_reducible apply Kept.via); focus with_reducible assumption))))⟩
set_option maxRecDepth 100000 in
set_option maxHeartbeats 6400000 in
theorem back20_nn (CC : EvCheckC) (DC : EvDecC) (NC : EvEncC) (AC : EvAllC) {k a b r fe ge : Int} {A : Option Addr} {len cap : Nat} {zs : List Int} (ik : In64 k) (ia : In64 a) (ib : In64 b) (ir : In64 r) (hz : zs.length = len ∧ SliceOk A len cap ∧ ∀ x ∈ zs, In64 x) (hl : len ≤ 10) (f1 : (fe == 0) = false) (f3 : (fe != 0) = true) (f2 : ¬ fe = 0) (g1 : (ge == 0) = false) (g3 : (ge != 0) = true) (g2 : ¬ ge = 0) (ef : chkV (k, a, b, r) = fe) (ev : decV zs = (0, 0, 0, 0) ∧ decE zs = ge)  (w : World) (hr1 : RowK .i64 w A zs) : Calls Try.prog 4 #[.agg #[.int .i64 k, .int .i64 a, .int .i64 b, .int .i64 r], .slice A len cap] w fun e w' => e = .returned (.bool true) ∧ Kept w w' := by
  have CC' := Lib.hid CC
  have DC' := Lib.hid DC
  have NC' := Lib.hid NC
  have AC' := Lib.hid AC
  have AW' := Lib.hid (fun w => awake20 CC DC NC AC w)
  clear CC DC NC AC
  have C1 := Lib.hid (fun w_ => CC'.out k a b r fe ik ia ib ir ef w_)
  have IK := Lib.hid (And.intro ik (And.intro ia (And.intro ib ir)))
  have IY := Lib.hid (show In64 0 ∧ In64 0 ∧ In64 0 ∧ In64 0 from by unfold In64; decide)
  have AL := Lib.hid (four_in ik ia ib ir)
  have DV := Lib.hid (show decV [k, a, b, r] = (0, 0, 0, 0) ∧ decE [k, a, b, r] = fe from by unfold decV decE evOf; simp [ef, f2])
  have HZ := Lib.hid hz
  have EV := Lib.hid ev
  have HL := Lib.hid hr1
  clear ik ia ib ir ef ev hz hr1
  have d0 : decide ((10 : Int) < (len : Int)) = false := by simp; omega
  have d1 : ¬ (10 : Int) < (len : Int) := by omega
  go_enter Try.func4, Try.ntmps4
  go_upto_region 1 with fail
  generalize hW : World.alloc w (.cells #[.int .i64 k, .int .i64 a, .int .i64 b, .int .i64 r] 23) = W_e
  have K_e : Kept w W_e := by subst hW; exact (Kept.refl _).alloc _ _
  have H_e := Lib.hid (show W_e.cell? ⟨w.heap.size, 0, none⟩ = some (.int .i64 k) ∧ W_e.cell? ⟨w.heap.size, 1, none⟩ = some (.int .i64 a) ∧ W_e.cell? ⟨w.heap.size, 2, none⟩ = some (.int .i64 b) ∧ W_e.cell? ⟨w.heap.size, 3, none⟩ = some (.int .i64 r) from by subst hW; simp [go_sem])
  clear hW
  generalize w.heap.size = g_e at *
  go_wp2_with fail
  refine (AW'.out _).mono ?_
  rintro e w20 ⟨rfl, k20⟩
  obtain ⟨ce0, ce1, ce2, ce3⟩ := Kept.alln4 (show Kept W_e w20 from (by (repeat (first | with_reducible exact Kept.refl _ | with_reducible apply Kept.drew | with_reducible apply Kept.alloc | ((with_reducible apply Kept.set); focus (simp <;> omega)) | ((with_reducible apply Kept.via); focus with_reducible assumption))))) H_e
  go_wp2_with fail
  refine (NC'.out k a b r IK.out.1 IK.out.2.1 IK.out.2.2.1 IK.out.2.2.2 _).mono ?_
  rintro e w30 ⟨B0, c0, rfl, s0, r0, _, k30⟩
  clear ce0 ce1 ce2 ce3
  go_wp2_with fail
  refine (DC'.out B0 4 c0 [k, a, b, r] 0 0 0 0 fe rfl s0 AL.out DV.out.1 DV.out.2 _ r0).mono ?_
  rintro e w31 ⟨rfl, k31⟩
  clear s0 r0
  go_upto_region 5 with fail
  generalize hW : World.alloc w31 (.cells #[.int .i64 0, .int .i64 0, .int .i64 0, .int .i64 0] 23) = W_x
  have K_x : Kept w31 W_x := by subst hW; exact (Kept.refl _).alloc _ _
  have H_x := Lib.hid (show W_x.cell? ⟨w31.heap.size, 0, none⟩ = some (.int .i64 0) ∧ W_x.cell? ⟨w31.heap.size, 1, none⟩ = some (.int .i64 0) ∧ W_x.cell? ⟨w31.heap.size, 2, none⟩ = some (.int .i64 0) ∧ W_x.cell? ⟨w31.heap.size, 3, none⟩ = some (.int .i64 0) from by subst hW; simp [go_sem])
  clear hW
  generalize w31.heap.size = g_x at *
  go_wp2_with fail
  refine (DC'.out A len cap zs 0 0 0 0 ge HZ.out.1 HZ.out.2.1 HZ.out.2.2 EV.out.1 EV.out.2 _ (HL.out.kept (by (repeat (first | with_reducible exact Kept.refl _ | with_reducible apply Kept.drew | with_reducible apply Kept.alloc | ((with_reducible apply Kept.set); focus (simp <;> omega)) | ((with_reducible apply Kept.via); focus with_reducible assumption)))))).mono ?_
  rintro e w33 ⟨rfl, k33⟩
  go_upto_region 6 with fail
  generalize hW : World.alloc w33 (.cells #[.int .i64 0, .int .i64 0, .int .i64 0, .int .i64 0] 23) = W_y
  have K_y : Kept w33 W_y := by subst hW; exact (Kept.refl _).alloc _ _
  have H_y := Lib.hid (show W_y.cell? ⟨w33.heap.size, 0, none⟩ = some (.int .i64 0) ∧ W_y.cell? ⟨w33.heap.size, 1, none⟩ = some (.int .i64 0) ∧ W_y.cell? ⟨w33.heap.size, 2, none⟩ = some (.int .i64 0) ∧ W_y.cell? ⟨w33.heap.size, 3, none⟩ = some (.int .i64 0) from by subst hW; simp [go_sem])
  clear hW
  generalize w33.heap.size = g_y at *
  obtain ⟨cy0, cy1, cy2, cy3⟩ := Kept.alln4 (show Kept W_y W_y from (by (repeat (first | with_reducible exact Kept.refl _ | with_reducible apply Kept.drew | with_reducible apply Kept.alloc | ((with_reducible apply Kept.set); focus (simp <;> omega)) | ((with_reducible apply Kept.via); focus with_reducible assumption))))) H_y
  go_wp2_with fail
  refine (NC'.out 0 0 0 0 IY.out.1 IY.out.2.1 IY.out.2.2.1 IY.out.2.2.2 _).mono ?_
  rintro e w35 ⟨BN, cN, rfl, _, rN, _, k35⟩
  have RN := Lib.hid rN
  have HL5 := Lib.hid (HL.out.kept (show Kept w w35 from (by (repeat (first | with_reducible exact Kept.refl _ | with_reducible apply Kept.drew | with_reducible apply Kept.alloc | ((with_reducible apply Kept.set); focus (simp <;> omega)) | ((with_reducible apply Kept.via); focus with_reducible assumption))))))
  clear rN
  clear cy0 cy1 cy2 cy3
  go_wp2
  go_loopw [11] (fun i wr => i = .int .i64 0 ∧ Kept w35 wr) (fun i _ => 0)
  case atStart => exact ⟨rfl, Kept.refl _⟩
  case round =>
    obtain ⟨rfl, kw⟩ := hrel
    by_cases h0 : 0 < len
    · have hd : (0 : Int) < (len : Int) := by omega
      obtain ⟨ce0, ce1, ce2, ce3⟩ := Kept.alln4 (show Kept W_e wr from (by (repeat (first | with_reducible exact Kept.refl _ | with_reducible apply Kept.drew | with_reducible apply Kept.alloc | ((with_reducible apply Kept.set); focus (simp <;> omega)) | ((with_reducible apply Kept.via); focus with_reducible assumption))))) H_e
      go_wp2_with fail
      refine (C1.out _).mono ?_
      rintro e w40 ⟨rfl, k40⟩
      clear ce0 ce1 ce2 ce3
      obtain ⟨cx0, cx1, cx2, cx3⟩ := Kept.alln4 (show Kept W_x w40 from (by (repeat (first | with_reducible exact Kept.refl _ | with_reducible apply Kept.drew | with_reducible apply Kept.alloc | ((with_reducible apply Kept.set); focus (simp <;> omega)) | ((with_reducible apply Kept.via); focus with_reducible assumption))))) H_x
      obtain ⟨ce0, ce1, ce2, ce3⟩ := Kept.alln4 (show Kept W_e w40 from (by (repeat (first | with_reducible exact Kept.refl _ | with_reducible apply Kept.drew | with_reducible apply Kept.alloc | ((with_reducible apply Kept.set); focus (simp <;> omega)) | ((with_reducible apply Kept.via); focus with_reducible assumption))))) H_e
      go_wp2
      go_ret
      exact ⟨rfl, (by (repeat (first | with_reducible exact Kept.refl _ | with_reducible apply Kept.drew | with_reducible apply Kept.alloc | ((with_reducible apply Kept.set); focus (simp <;> omega)) | ((with_reducible apply Kept.via); focus with_reducible assumption))))⟩
    · obtain rfl : len = 0 := by omega
      obtain ⟨ce0, ce1, ce2, ce3⟩ := Kept.alln4 (show Kept W_e wr from (by (repeat (first | with_reducible exact Kept.refl _ | with_reducible apply Kept.drew | with_reducible apply Kept.alloc | ((with_reducible apply Kept.set); focus (simp <;> omega)) | ((with_reducible apply Kept.via); focus with_reducible assumption))))) H_e
      go_wp2_with fail
      refine (C1.out _).mono ?_
      rintro e w40 ⟨rfl, k40⟩
      clear ce0 ce1 ce2 ce3
      obtain ⟨cx0, cx1, cx2, cx3⟩ := Kept.alln4 (show Kept W_x w40 from (by (repeat (first | with_reducible exact Kept.refl _ | with_reducible apply Kept.drew | with_reducible apply Kept.alloc | ((with_reducible apply Kept.set); focus (simp <;> omega)) | ((with_reducible apply Kept.via); focus with_reducible assumption))))) H_x
      obtain ⟨ce0, ce1, ce2, ce3⟩ := Kept.alln4 (show Kept W_e w40 from (by (repeat (first | with_reducible exact Kept.refl _ | with_reducible apply Kept.drew | with_reducible apply Kept.alloc | ((with_reducible apply Kept.set); focus (simp <;> omega)) | ((with_reducible apply Kept.via); focus with_reducible assumption))))) H_e
      go_wp2
      go_ret
      exact ⟨rfl, (by (repeat (first | with_reducible exact Kept.refl _ | with_reducible apply Kept.drew | with_reducible apply Kept.alloc | ((with_reducible apply Kept.set); focus (simp <;> omega)) | ((with_reducible apply Kept.via); focus with_reducible assumption))))⟩
theorem eventBack_walk (CC : EvCheckC) (DC : EvDecC) (NC : EvEncC) (AC : EvAllC) {k a b r : Int} {A : Option Addr} {len cap : Nat} {zs : List Int} (w : World) (ik : In64 k) (ia : In64 a) (ib : In64 b) (ir : In64 r) (hs : SliceOk A len cap) (hlen : zs.length = len) (hz : ∀ x ∈ zs, In64 x) (hr1 : RowK .i64 w A zs) : Calls Try.prog 4 #[.agg #[.int .i64 k, .int .i64 a, .int .i64 b, .int .i64 r], .slice A len cap] w fun e w' => e = .returned (.bool true) ∧ Kept w w' := by
  by_cases hl : 10 < len
  · exact back20_long CC DC NC AC hl w
  · by_cases g : decE zs = 0
    · have d := dec_ok g
      obtain ⟨yk, ya, yb, yr, rfl⟩ : ∃ yk ya yb yr, zs = [yk, ya, yb, yr] := by
        match zs, d.1 with
        | [x, y, z, u], _ => exact ⟨x, y, z, u, rfl⟩
      have ev : decV [yk, ya, yb, yr] = (yk, ya, yb, yr) := d.2.1
      have ec : chkV (yk, ya, yb, yr) = 0 := by have := chk_may.2 d.2.2; rwa [ev] at this
      have iy : In64 yk ∧ In64 ya ∧ In64 yb ∧ In64 yr := ⟨hz _ (by simp), hz _ (by simp), hz _ (by simp), hz _ (by simp)⟩
      have l4 : len = 4 := by rw [← hlen]; rfl
      subst l4
      by_cases f : chkV (k, a, b, r) = 0
      · exact back20_yy CC DC NC AC ik ia ib ir iy ⟨rfl, hs, hz⟩ f ⟨ev, g⟩ ec w hr1
      · exact back20_ny CC DC NC AC ik ia ib ir iy ⟨rfl, hs, hz⟩ (by simp [f]) (by simp [f]) f rfl ⟨ev, g⟩ ec w hr1
    · by_cases f : chkV (k, a, b, r) = 0
      · exact back20_yn CC DC NC AC ik ia ib ir ⟨hlen, hs, hz⟩ (by omega) (by simp [g]) (by simp [g]) g f ⟨dec_no g, rfl⟩ w hr1
      · exact back20_nn CC DC NC AC ik ia ib ir ⟨hlen, hs, hz⟩ (by omega) (by simp [f]) (by simp [f]) f (by simp [g]) (by simp [g]) g rfl ⟨dec_no g, rfl⟩ w hr1
end Go.Proofs.Ytbpdimogigcacaa
