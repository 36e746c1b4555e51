/-
  The walk of CubicExact: it answers true, if the calls do what they are to do.
-/
import Derived.Test.YtlonfobeblnbbaaDoorAwake12
import Derived.Test.YtlonfobeblnbbaaDoorRef12
import Derived.Deep.RegionHeld3
import Derived.Deep.DeepCutAuto
namespace Go.Proofs.YtlonfobeblnbbaaDoor
open Go.RowKit Go.BigFrame
set_option linter.unusedVariables false

set_option maxRecDepth 100000 in
set_option maxHeartbeats 1600000 in
theorem exact12_same (CC : ECheckC) (BC : EBeginC) (SC : EShiftC) (RC : URiseC) (AC : UAtC) (TC : UTargetC) (XC : UReachC) (d n ch cl oh ol xh xl ph pl yh yl g h : Int) (cb ob xb pb yb : Bool) (d0 : -2147483648 ≤ d) (d1 : d ≤ 2147483647) (n0 : -259614842926742 ≤ n) (n1 : n ≤ 259614842926741) (hg : decide (g ≤ 0) = true) (hh : decide (0 < h) = true)  (w : World) (T_ : Tens w) (R1 : ∀ w, Calls Tryd.prog 13 #[.int .i64 d] w fun e w' => e = .returned (.int .i64 n) ∧ Kept w w') (CU : ∀ w, Calls Tryd.prog 19 #[.int .i64 d] w fun e w' => e = .returned (.agg #[.bool cb, .int .u64 ch, .int .u64 cl]) ∧ Kept w w') (O1 : ∀ w, Calls Tryd.prog 21 #[.int .i64 n] w fun e w' => e = .returned (.agg #[.bool ob, .int .u64 oh, .int .u64 ol]) ∧ Kept w w') (S1 : ∀ w, Calls Tryd.prog 20 #[.agg #[.bool ob, .int .u64 oh, .int .u64 ol], .int .u64 10000000000000000000] w fun e w' => e = .returned (.tuple #[.agg #[.bool xb, .int .u64 xh, .int .u64 xl], .int .i64 0]) ∧ Kept w w') (O2 : ∀ w, Calls Tryd.prog 21 #[.int .i64 (n + 1)] w fun e w' => e = .returned (.agg #[.bool pb, .int .u64 ph, .int .u64 pl]) ∧ Kept w w') (S2 : ∀ w, Calls Tryd.prog 20 #[.agg #[.bool pb, .int .u64 ph, .int .u64 pl], .int .u64 10000000000000000000] w fun e w' => e = .returned (.tuple #[.agg #[.bool yb, .int .u64 yh, .int .u64 yl], .int .i64 0]) ∧ Kept w w') (R2 : ∀ w, Calls Tryd.prog 13 #[.int .i64 (-d)] w fun e w' => e = .returned (.int .i64 (-n)) ∧ Kept w w') (M1 : ∀ w, Calls Tryd.prog 22 #[.agg #[.bool xb, .int .u64 xh, .int .u64 xl], .agg #[.bool cb, .int .u64 ch, .int .u64 cl]] w fun e w' => e = .returned (.int .i64 g) ∧ Kept w w') (M2 : ∀ w, Calls Tryd.prog 22 #[.agg #[.bool yb, .int .u64 yh, .int .u64 yl], .agg #[.bool cb, .int .u64 ch, .int .u64 cl]] w fun e w' => e = .returned (.int .i64 h) ∧ Kept w w') : Calls Tryd.prog 4 #[.int .i32 d] w fun e w' => e = .returned (.bool true) ∧ Kept w w' := by
  have CC' := Lib.hid CC
  have BC' := Lib.hid BC
  have SC' := Lib.hid SC
  have RC' := Lib.hid RC
  have AC' := Lib.hid AC
  have TC' := Lib.hid TC
  have XC' := Lib.hid XC
  have AW' := Lib.hid (fun w TT_ => awake12 CC BC SC RC AC TC XC w TT_)
  clear CC BC SC RC AC TC XC
  have T := Lib.hid T_
  clear T_
  have R1' := Lib.hid R1
  have CU' := Lib.hid CU
  have O1' := Lib.hid O1
  have S1' := Lib.hid S1
  have O2' := Lib.hid O2
  have S2' := Lib.hid S2
  have R2' := Lib.hid R2
  have M1' := Lib.hid M1
  have M2' := Lib.hid M2
  clear R1 CU O1 S1 O2 S2 R2 M1 M2
  go_enter Tryd.func4, Tryd.ntmps4
  go_wp2_with fail
  refine (AW'.out _ (Tens.kept T.out (by (repeat (first | with_reducible exact Kept.refl _ | with_reducible apply Kept.drew | with_reducible apply Kept.alloc | ((with_reducible apply Kept.set); focus (simp <;> omega)) | ((with_reducible apply Kept.via); focus with_reducible assumption)))))).mono ?_
  rintro e w21 ⟨rfl, k21⟩
  go_wp2_with fail
  refine (R1'.out _).mono ?_
  rintro e w22 ⟨rfl, k22⟩
  go_wp2_with fail
  refine (CU'.out _).mono ?_
  rintro e w23 ⟨rfl, k23⟩
  go_upto_region 4 with fail
  generalize hW : World.alloc w23 (.cells #[.bool cb, .int .u64 ch, .int .u64 cl] 33) = W_c
  have K_c : Kept w23 W_c := by subst hW; exact (Kept.refl _).alloc _ _
  have H_c := Lib.hid (show W_c.cell? ⟨w23.heap.size, 0, none⟩ = some (.bool cb) ∧ W_c.cell? ⟨w23.heap.size, 1, none⟩ = some (.int .u64 ch) ∧ W_c.cell? ⟨w23.heap.size, 2, none⟩ = some (.int .u64 cl) from by subst hW; simp [go_sem])
  clear hW
  generalize w23.heap.size = g_c at *
  go_wp2_with fail
  refine (O1'.out _).mono ?_
  rintro e w24 ⟨rfl, k24⟩
  go_wp2_with fail
  refine (S1'.out _).mono ?_
  rintro e w25 ⟨rfl, k25⟩
  go_upto_region 5 with fail
  generalize hW : World.alloc w25 (.cells #[.bool xb, .int .u64 xh, .int .u64 xl] 33) = W_x
  have K_x : Kept w25 W_x := by subst hW; exact (Kept.refl _).alloc _ _
  have H_x := Lib.hid (show W_x.cell? ⟨w25.heap.size, 0, none⟩ = some (.bool xb) ∧ W_x.cell? ⟨w25.heap.size, 1, none⟩ = some (.int .u64 xh) ∧ W_x.cell? ⟨w25.heap.size, 2, none⟩ = some (.int .u64 xl) from by subst hW; simp [go_sem])
  clear hW
  generalize w25.heap.size = g_x at *
  go_wp2_with fail
  refine (O2'.out _).mono ?_
  rintro e w26 ⟨rfl, k26⟩
  go_wp2_with fail
  refine (S2'.out _).mono ?_
  rintro e w27 ⟨rfl, k27⟩
  go_upto_region 6 with fail
  generalize hW : World.alloc w27 (.cells #[.bool yb, .int .u64 yh, .int .u64 yl] 33) = W_y
  have K_y : Kept w27 W_y := by subst hW; exact (Kept.refl _).alloc _ _
  have H_y := Lib.hid (show W_y.cell? ⟨w27.heap.size, 0, none⟩ = some (.bool yb) ∧ W_y.cell? ⟨w27.heap.size, 1, none⟩ = some (.int .u64 yh) ∧ W_y.cell? ⟨w27.heap.size, 2, none⟩ = some (.int .u64 yl) from by subst hW; simp [go_sem])
  clear hW
  generalize w27.heap.size = g_y at *
  go_wp2_with fail
  refine (R2'.out _).mono ?_
  rintro e w28 ⟨rfl, k28⟩
  obtain ⟨c_x0, c_x1, c_x2⟩ := Kept.all3 (show Kept W_x w28 from (by (repeat (first | with_reducible exact Kept.refl _ | with_reducible apply Kept.drew | with_reducible apply Kept.alloc | ((with_reducible apply Kept.set); focus (simp <;> omega)) | ((with_reducible apply Kept.via); focus with_reducible assumption))))) H_x
  obtain ⟨c_c0, c_c1, c_c2⟩ := Kept.all3 (show Kept W_c w28 from (by (repeat (first | with_reducible exact Kept.refl _ | with_reducible apply Kept.drew | with_reducible apply Kept.alloc | ((with_reducible apply Kept.set); focus (simp <;> omega)) | ((with_reducible apply Kept.via); focus with_reducible assumption))))) H_c
  go_wp2_with fail
  refine (M1'.out _).mono ?_
  rintro e w29 ⟨rfl, k29⟩
  clear c_x0 c_x1 c_x2 c_c0 c_c1 c_c2
  obtain ⟨c_y0, c_y1, c_y2⟩ := Kept.all3 (show Kept W_y w29 from (by (repeat (first | with_reducible exact Kept.refl _ | with_reducible apply Kept.drew | with_reducible apply Kept.alloc | ((with_reducible apply Kept.set); focus (simp <;> omega)) | ((with_reducible apply Kept.via); focus with_reducible assumption))))) H_y
  obtain ⟨c_c0, c_c1, c_c2⟩ := Kept.all3 (show Kept W_c w29 from (by (repeat (first | with_reducible exact Kept.refl _ | with_reducible apply Kept.drew | with_reducible apply Kept.alloc | ((with_reducible apply Kept.set); focus (simp <;> omega)) | ((with_reducible apply Kept.via); focus with_reducible assumption))))) H_c
  go_wp2_with fail
  refine (M2'.out _).mono ?_
  rintro e w30 ⟨rfl, k30⟩
  clear c_y0 c_y1 c_y2 c_c0 c_c1 c_c2
  go_wp2
  go_ret
  exact ⟨rfl, (by (repeat (first | with_reducible exact Kept.refl _ | with_reducible apply Kept.drew | with_reducible apply Kept.alloc | ((with_reducible apply Kept.set); focus (simp <;> omega)) | ((with_reducible apply Kept.via); focus with_reducible assumption))))⟩
set_option maxRecDepth 100000 in
set_option maxHeartbeats 1600000 in
theorem exact12_less (CC : ECheckC) (BC : EBeginC) (SC : EShiftC) (RC : URiseC) (AC : UAtC) (TC : UTargetC) (XC : UReachC) (d n ch cl oh ol xh xl ph pl yh yl g h : Int) (cb ob xb pb yb : Bool) (d0 : -2147483648 ≤ d) (d1 : d ≤ 2147483647) (n0 : -259614842926742 ≤ n) (n1 : n ≤ 259614842926741) (hg : decide (g ≤ 0) = true) (hh : decide (0 < h) = true) (h1 : ¬ (-n - 1 = -n)) (h2 : (-n - 1 == -n) = false) (w : World) (T_ : Tens w) (R1 : ∀ w, Calls Tryd.prog 13 #[.int .i64 d] w fun e w' => e = .returned (.int .i64 n) ∧ Kept w w') (CU : ∀ w, Calls Tryd.prog 19 #[.int .i64 d] w fun e w' => e = .returned (.agg #[.bool cb, .int .u64 ch, .int .u64 cl]) ∧ Kept w w') (O1 : ∀ w, Calls Tryd.prog 21 #[.int .i64 n] w fun e w' => e = .returned (.agg #[.bool ob, .int .u64 oh, .int .u64 ol]) ∧ Kept w w') (S1 : ∀ w, Calls Tryd.prog 20 #[.agg #[.bool ob, .int .u64 oh, .int .u64 ol], .int .u64 10000000000000000000] w fun e w' => e = .returned (.tuple #[.agg #[.bool xb, .int .u64 xh, .int .u64 xl], .int .i64 0]) ∧ Kept w w') (O2 : ∀ w, Calls Tryd.prog 21 #[.int .i64 (n + 1)] w fun e w' => e = .returned (.agg #[.bool pb, .int .u64 ph, .int .u64 pl]) ∧ Kept w w') (S2 : ∀ w, Calls Tryd.prog 20 #[.agg #[.bool pb, .int .u64 ph, .int .u64 pl], .int .u64 10000000000000000000] w fun e w' => e = .returned (.tuple #[.agg #[.bool yb, .int .u64 yh, .int .u64 yl], .int .i64 0]) ∧ Kept w w') (R2 : ∀ w, Calls Tryd.prog 13 #[.int .i64 (-d)] w fun e w' => e = .returned (.int .i64 (-n - 1)) ∧ Kept w w') (M1 : ∀ w, Calls Tryd.prog 22 #[.agg #[.bool xb, .int .u64 xh, .int .u64 xl], .agg #[.bool cb, .int .u64 ch, .int .u64 cl]] w fun e w' => e = .returned (.int .i64 g) ∧ Kept w w') (M2 : ∀ w, Calls Tryd.prog 22 #[.agg #[.bool yb, .int .u64 yh, .int .u64 yl], .agg #[.bool cb, .int .u64 ch, .int .u64 cl]] w fun e w' => e = .returned (.int .i64 h) ∧ Kept w w') : Calls Tryd.prog 4 #[.int .i32 d] w fun e w' => e = .returned (.bool true) ∧ Kept w w' := by
  have CC' := Lib.hid CC
  have BC' := Lib.hid BC
  have SC' := Lib.hid SC
  have RC' := Lib.hid RC
  have AC' := Lib.hid AC
  have TC' := Lib.hid TC
  have XC' := Lib.hid XC
  have AW' := Lib.hid (fun w TT_ => awake12 CC BC SC RC AC TC XC w TT_)
  clear CC BC SC RC AC TC XC
  have T := Lib.hid T_
  clear T_
  have R1' := Lib.hid R1
  have CU' := Lib.hid CU
  have O1' := Lib.hid O1
  have S1' := Lib.hid S1
  have O2' := Lib.hid O2
  have S2' := Lib.hid S2
  have R2' := Lib.hid R2
  have M1' := Lib.hid M1
  have M2' := Lib.hid M2
  clear R1 CU O1 S1 O2 S2 R2 M1 M2
  go_enter Tryd.func4, Tryd.ntmps4
  go_wp2_with fail
  refine (AW'.out _ (Tens.kept T.out (by (repeat (first | with_reducible exact Kept.refl _ | with_reducible apply Kept.drew | with_reducible apply Kept.alloc | ((with_reducible apply Kept.set); focus (simp <;> omega)) | ((with_reducible apply Kept.via); focus with_reducible assumption)))))).mono ?_
  rintro e w21 ⟨rfl, k21⟩
  go_wp2_with fail
  refine (R1'.out _).mono ?_
  rintro e w22 ⟨rfl, k22⟩
  go_wp2_with fail
  refine (CU'.out _).mono ?_
  rintro e w23 ⟨rfl, k23⟩
  go_upto_region 4 with fail
  generalize hW : World.alloc w23 (.cells #[.bool cb, .int .u64 ch, .int .u64 cl] 33) = W_c
  have K_c : Kept w23 W_c := by subst hW; exact (Kept.refl _).alloc _ _
  have H_c := Lib.hid (show W_c.cell? ⟨w23.heap.size, 0, none⟩ = some (.bool cb) ∧ W_c.cell? ⟨w23.heap.size, 1, none⟩ = some (.int .u64 ch) ∧ W_c.cell? ⟨w23.heap.size, 2, none⟩ = some (.int .u64 cl) from by subst hW; simp [go_sem])
  clear hW
  generalize w23.heap.size = g_c at *
  go_wp2_with fail
  refine (O1'.out _).mono ?_
  rintro e w24 ⟨rfl, k24⟩
  go_wp2_with fail
  refine (S1'.out _).mono ?_
  rintro e w25 ⟨rfl, k25⟩
  go_upto_region 5 with fail
  generalize hW : World.alloc w25 (.cells #[.bool xb, .int .u64 xh, .int .u64 xl] 33) = W_x
  have K_x : Kept w25 W_x := by subst hW; exact (Kept.refl _).alloc _ _
  have H_x := Lib.hid (show W_x.cell? ⟨w25.heap.size, 0, none⟩ = some (.bool xb) ∧ W_x.cell? ⟨w25.heap.size, 1, none⟩ = some (.int .u64 xh) ∧ W_x.cell? ⟨w25.heap.size, 2, none⟩ = some (.int .u64 xl) from by subst hW; simp [go_sem])
  clear hW
  generalize w25.heap.size = g_x at *
  go_wp2_with fail
  refine (O2'.out _).mono ?_
  rintro e w26 ⟨rfl, k26⟩
  go_wp2_with fail
  refine (S2'.out _).mono ?_
  rintro e w27 ⟨rfl, k27⟩
  go_upto_region 6 with fail
  generalize hW : World.alloc w27 (.cells #[.bool yb, .int .u64 yh, .int .u64 yl] 33) = W_y
  have K_y : Kept w27 W_y := by subst hW; exact (Kept.refl _).alloc _ _
  have H_y := Lib.hid (show W_y.cell? ⟨w27.heap.size, 0, none⟩ = some (.bool yb) ∧ W_y.cell? ⟨w27.heap.size, 1, none⟩ = some (.int .u64 yh) ∧ W_y.cell? ⟨w27.heap.size, 2, none⟩ = some (.int .u64 yl) from by subst hW; simp [go_sem])
  clear hW
  generalize w27.heap.size = g_y at *
  go_wp2_with fail
  refine (R2'.out _).mono ?_
  rintro e w28 ⟨rfl, k28⟩
  obtain ⟨c_x0, c_x1, c_x2⟩ := Kept.all3 (show Kept W_x w28 from (by (repeat (first | with_reducible exact Kept.refl _ | with_reducible apply Kept.drew | with_reducible apply Kept.alloc | ((with_reducible apply Kept.set); focus (simp <;> omega)) | ((with_reducible apply Kept.via); focus with_reducible assumption))))) H_x
  obtain ⟨c_c0, c_c1, c_c2⟩ := Kept.all3 (show Kept W_c w28 from (by (repeat (first | with_reducible exact Kept.refl _ | with_reducible apply Kept.drew | with_reducible apply Kept.alloc | ((with_reducible apply Kept.set); focus (simp <;> omega)) | ((with_reducible apply Kept.via); focus with_reducible assumption))))) H_c
  go_wp2_with fail
  refine (M1'.out _).mono ?_
  rintro e w29 ⟨rfl, k29⟩
  clear c_x0 c_x1 c_x2 c_c0 c_c1 c_c2
  obtain ⟨c_y0, c_y1, c_y2⟩ := Kept.all3 (show Kept W_y w29 from (by (repeat (first | with_reducible exact Kept.refl _ | with_reducible apply Kept.drew | with_reducible apply Kept.alloc | ((with_reducible apply Kept.set); focus (simp <;> omega)) | ((with_reducible apply Kept.via); focus with_reducible assumption))))) H_y
  obtain ⟨c_c0, c_c1, c_c2⟩ := Kept.all3 (show Kept W_c w29 from (by (repeat (first | with_reducible exact Kept.refl _ | with_reducible apply Kept.drew | with_reducible apply Kept.alloc | ((with_reducible apply Kept.set); focus (simp <;> omega)) | ((with_reducible apply Kept.via); focus with_reducible assumption))))) H_c
  go_wp2_with fail
  refine (M2'.out _).mono ?_
  rintro e w30 ⟨rfl, k30⟩
  clear c_y0 c_y1 c_y2 c_c0 c_c1 c_c2
  go_wp2
  go_ret
  exact ⟨rfl, (by (repeat (first | with_reducible exact Kept.refl _ | with_reducible apply Kept.drew | with_reducible apply Kept.alloc | ((with_reducible apply Kept.set); focus (simp <;> omega)) | ((with_reducible apply Kept.via); focus with_reducible assumption))))⟩
theorem cubicExact_walk (CC : ECheckC) (BC : EBeginC) (SC : EShiftC) (RC : URiseC) (AC : UAtC) (TC : UTargetC) (XC : UReachC) (d : Int) (w : World) (T_ : Tens w) (d0 : -2147483648 ≤ d) (d1 : d ≤ 2147483647) : Calls Tryd.prog 4 #[.int .i32 d] w fun e w' => e = .returned (.bool true) ∧ Kept w w' := by
  obtain ⟨n, hn⟩ : ∃ n, riseN d = n := ⟨_, rfl⟩
  have rr := rise_range d
  have c := cube_range (d := d) (by omega)
  have ex := rise_exact (d := d) (by omega)
  have tu := rise_turned (d := d) (by omega)
  rw [hn] at rr ex tu
  have n64 : In64 n := by unfold In64; omega
  have m64 : In64 (n + 1) := by unfold In64; omega
  obtain ⟨cb, ch, cl, rc⟩ := rep_ex (cubeN d) (by unfold InBig; omega)
  obtain ⟨xb, xh, xl, rx⟩ := rep_ex (n * 10000000000000000000) (by unfold InBig; omega)
  obtain ⟨yb, yh, yl, ry⟩ := rep_ex ((n + 1) * 10000000000000000000) (by unfold InBig; omega)
  have o1 := Of_repr n n64
  have o2 := Of_repr (n + 1) m64
  have hg : decide (cmpI (numOf xb xh xl) (numOf cb ch cl) ≤ 0) = true := by
    rw [rx.2.2.1, rc.2.2.1]
    generalize n * 10000000000000000000 = a at *
    generalize cubeN d = b at *
    unfold cmpI; simp; split
    · omega
    · rw [if_pos (by omega)]; omega
  have hh : decide (0 < cmpI (numOf yb yh yl) (numOf cb ch cl)) = true := by
    rw [ry.2.2.1, rc.2.2.1]
    generalize (n + 1) * 10000000000000000000 = a at *
    generalize cubeN d = b at *
    unfold cmpI; simp
    rw [if_neg (by omega), if_neg (by omega)]; omega
  have S1 := fun w => refScale_yes (n := 10000000000000000000) (b1 := decide (n < 0)) word_zero (mag_word n64) ⟨by omega, by omega⟩ (by rw [o1]; exact rx) w
  have S2 := fun w => refScale_yes (n := 10000000000000000000) (b1 := decide (n + 1 < 0)) word_zero (mag_word m64) ⟨by omega, by omega⟩ (by rw [o2]; exact ry) w
  have R1 := fun w => RC d n (by unfold In64; omega) hn w
  rcases tu with tu | tu
  · exact exact12_same CC BC SC RC AC TC XC d n ch cl 0 (mag n) xh xl 0 (mag (n + 1)) yh yl _ _ cb (decide (n < 0)) xb (decide (n + 1 < 0)) yb d0 d1 rr.1 rr.2 hg hh w T_ R1 (fun w => refCubed_ok (by omega) rc w) (fun w => refOf_ok n n64 w) S1 (fun w => refOf_ok (n + 1) m64 w) S2 (fun w => RC (-d) (-n) (by unfold In64; omega) tu w) (fun w => refCmp_ok rx.1 rx.2.1 rc.1 rc.2.1 w) (fun w => refCmp_ok ry.1 ry.2.1 rc.1 rc.2.1 w)
  · exact exact12_less CC BC SC RC AC TC XC d n ch cl 0 (mag n) xh xl 0 (mag (n + 1)) yh yl _ _ cb (decide (n < 0)) xb (decide (n + 1 < 0)) yb d0 d1 rr.1 rr.2 hg hh (by omega) (by simp; omega) w T_ R1 (fun w => refCubed_ok (by omega) rc w) (fun w => refOf_ok n n64 w) S1 (fun w => refOf_ok (n + 1) m64 w) S2 (fun w => RC (-d) (-n - 1) (by unfold In64; omega) tu w) (fun w => refCmp_ok rx.1 rx.2.1 rc.1 rc.2.1 w) (fun w => refCmp_ok ry.1 ry.2.1 rc.1 rc.2.1 w)
end Go.Proofs.YtlonfobeblnbbaaDoor
