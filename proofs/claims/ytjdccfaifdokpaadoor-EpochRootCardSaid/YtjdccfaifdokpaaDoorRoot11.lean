/-
  The walk of EpochRoot: it answers true, if the calls do what they are to do.
-/
import Derived.Test.YtjdccfaifdokpaaDoorAwake11
import Derived.Test.YtjdccfaifdokpaaDoorPow03
import Derived.Deep.RegionHeld3
import Derived.Deep.DeepCutAuto
namespace Go.Proofs.YtjdccfaifdokpaaDoor
open Go.RowKit Go.BigFrame
set_option linter.unusedVariables false

set_option maxRecDepth 100000 in
set_option maxHeartbeats 1600000 in
theorem root11_any (CC : ECheckC) (KC_ : EKC) (FC : EFastC) (BC : EBeginC) (SC : EShiftC) (g r k ch cl dh dl xh xl yh yl oh ol zh zl p q : Int) (xb yb ob zb : Bool) (g0 : 0 ≤ g) (g1 : g ≤ 18446744073709551615) (er : g % 68719476737 = r) (r0 : 0 ≤ r) (r1 : r ≤ 68719476736) (k0 : 0 ≤ k) (k1 : k ≤ 137883820) (hp : decide (p ≤ 0) = true) (hq : decide (0 < q) = true) (w : World) (T_ : Tens w) (KX : ∀ w, Tens w → Calls Tryd.prog 13 #[.int .i64 r] w fun e w' => e = .returned (.int .i64 k) ∧ Kept w w') (C1 : ∀ w, Calls Tryd.prog 21 #[.int .u64 k] w fun e w' => e = .returned (.tuple #[.agg #[.bool false, .int .u64 ch, .int .u64 cl], .int .i64 0]) ∧ Kept w w') (C2 : ∀ w, Calls Tryd.prog 21 #[.int .u64 (k + 1)] w fun e w' => e = .returned (.tuple #[.agg #[.bool false, .int .u64 dh, .int .u64 dl], .int .i64 0]) ∧ Kept w w') (S1 : ∀ w, Calls Tryd.prog 22 #[.agg #[.bool false, .int .u64 ch, .int .u64 cl], .int .u64 262144] w fun e w' => e = .returned (.tuple #[.agg #[.bool xb, .int .u64 xh, .int .u64 xl], .int .i64 0]) ∧ Kept w w') (S2 : ∀ w, Calls Tryd.prog 22 #[.agg #[.bool false, .int .u64 dh, .int .u64 dl], .int .u64 262144] w fun e w' => e = .returned (.tuple #[.agg #[.bool yb, .int .u64 yh, .int .u64 yl], .int .i64 0]) ∧ Kept w w') (OF : ∀ w, Calls Tryd.prog 23 #[.int .i64 r] w fun e w' => e = .returned (.agg #[.bool ob, .int .u64 oh, .int .u64 ol]) ∧ Kept w w') (S3 : ∀ w, Calls Tryd.prog 22 #[.agg #[.bool ob, .int .u64 oh, .int .u64 ol], .int .u64 10000000000000000000] w fun e w' => e = .returned (.tuple #[.agg #[.bool zb, .int .u64 zh, .int .u64 zl], .int .i64 0]) ∧ Kept w w') (M1 : ∀ w, Calls Tryd.prog 24 #[.agg #[.bool xb, .int .u64 xh, .int .u64 xl], .agg #[.bool zb, .int .u64 zh, .int .u64 zl]] w fun e w' => e = .returned (.int .i64 p) ∧ Kept w w') (M2 : ∀ w, Calls Tryd.prog 24 #[.agg #[.bool yb, .int .u64 yh, .int .u64 yl], .agg #[.bool zb, .int .u64 zh, .int .u64 zl]] w fun e w' => e = .returned (.int .i64 q) ∧ Kept w w') : Calls Tryd.prog 4 #[.int .u64 g] w fun e w' => e = .returned (.bool true) ∧ Kept w w' := by
  have CC' := Lib.hid CC
  have KC' := Lib.hid KC_
  have FC' := Lib.hid FC
  have BC' := Lib.hid BC
  have SC' := Lib.hid SC
  have AW' := Lib.hid (fun w TT_ => awake11 CC KC_ FC BC SC w TT_)
  clear CC KC_ FC BC SC
  have T := Lib.hid T_
  clear T_
  have KX' := Lib.hid KX
  have C1' := Lib.hid C1
  have C2' := Lib.hid C2
  have S1' := Lib.hid S1
  have S2' := Lib.hid S2
  have OF' := Lib.hid OF
  have S3' := Lib.hid S3
  have M1' := Lib.hid M1
  have M2' := Lib.hid M2
  clear KX C1 C2 S1 S2 OF S3 M1 M2
  go_enter Tryd.func4, Tryd.ntmps4
  go_wp2_with fail
  refine (AW'.out _ (Tens.kept T.out (by (repeat (first | with_reducible exact Kept.refl _ | with_reducible apply Kept.drew | with_reducible apply Kept.alloc | ((with_reducible apply Kept.set); focus (simp <;> omega)) | ((with_reducible apply Kept.via); focus with_reducible assumption)))))).mono ?_
  rintro e w21 ⟨rfl, k21⟩
  go_upto_region 3 with fail
  try rw [er]
  clear er
  go_wp2_with fail
  refine (KX'.out _ (Tens.kept T.out (by (repeat (first | with_reducible exact Kept.refl _ | with_reducible apply Kept.drew | with_reducible apply Kept.alloc | ((with_reducible apply Kept.set); focus (simp <;> omega)) | ((with_reducible apply Kept.via); focus with_reducible assumption)))))).mono ?_
  rintro e w22 ⟨rfl, k22⟩
  go_wp2_with fail
  refine (C1'.out _).mono ?_
  rintro e w23 ⟨rfl, k23⟩
  go_upto_region 5 with fail
  generalize hW : World.alloc w23 (.cells #[.bool false, .int .u64 ch, .int .u64 cl] 35) = W_c
  have K_c : Kept w23 W_c := by subst hW; exact (Kept.refl _).alloc _ _
  have H_c := Lib.hid (show W_c.cell? ⟨w23.heap.size, 0, none⟩ = some (.bool false) ∧ W_c.cell? ⟨w23.heap.size, 1, none⟩ = some (.int .u64 ch) ∧ W_c.cell? ⟨w23.heap.size, 2, none⟩ = some (.int .u64 cl) from by subst hW; simp [go_sem])
  clear hW
  generalize w23.heap.size = g_c at *
  go_wp2_with fail
  refine (C2'.out _).mono ?_
  rintro e w24 ⟨rfl, k24⟩
  go_upto_region 6 with fail
  generalize hW : World.alloc w24 (.cells #[.bool false, .int .u64 dh, .int .u64 dl] 35) = W_d
  have K_d : Kept w24 W_d := by subst hW; exact (Kept.refl _).alloc _ _
  have H_d := Lib.hid (show W_d.cell? ⟨w24.heap.size, 0, none⟩ = some (.bool false) ∧ W_d.cell? ⟨w24.heap.size, 1, none⟩ = some (.int .u64 dh) ∧ W_d.cell? ⟨w24.heap.size, 2, none⟩ = some (.int .u64 dl) from by subst hW; simp [go_sem])
  clear hW
  generalize w24.heap.size = g_d at *
  obtain ⟨c_c0, c_c1, c_c2⟩ := Kept.all3 (show Kept W_c W_d from (by (repeat (first | with_reducible exact Kept.refl _ | with_reducible apply Kept.drew | with_reducible apply Kept.alloc | ((with_reducible apply Kept.set); focus (simp <;> omega)) | ((with_reducible apply Kept.via); focus with_reducible assumption))))) H_c
  go_wp2_with fail
  refine (S1'.out _).mono ?_
  rintro e w25 ⟨rfl, k25⟩
  clear c_c0 c_c1 c_c2
  go_upto_region 7 with fail
  generalize hW : World.alloc w25 (.cells #[.bool xb, .int .u64 xh, .int .u64 xl] 35) = W_x
  have K_x : Kept w25 W_x := by subst hW; exact (Kept.refl _).alloc _ _
  have H_x := Lib.hid (show W_x.cell? ⟨w25.heap.size, 0, none⟩ = some (.bool xb) ∧ W_x.cell? ⟨w25.heap.size, 1, none⟩ = some (.int .u64 xh) ∧ W_x.cell? ⟨w25.heap.size, 2, none⟩ = some (.int .u64 xl) from by subst hW; simp [go_sem])
  clear hW
  generalize w25.heap.size = g_x at *
  obtain ⟨c_d0, c_d1, c_d2⟩ := Kept.all3 (show Kept W_d W_x from (by (repeat (first | with_reducible exact Kept.refl _ | with_reducible apply Kept.drew | with_reducible apply Kept.alloc | ((with_reducible apply Kept.set); focus (simp <;> omega)) | ((with_reducible apply Kept.via); focus with_reducible assumption))))) H_d
  go_wp2_with fail
  refine (S2'.out _).mono ?_
  rintro e w26 ⟨rfl, k26⟩
  clear c_d0 c_d1 c_d2
  go_upto_region 8 with fail
  generalize hW : World.alloc w26 (.cells #[.bool yb, .int .u64 yh, .int .u64 yl] 35) = W_y
  have K_y : Kept w26 W_y := by subst hW; exact (Kept.refl _).alloc _ _
  have H_y := Lib.hid (show W_y.cell? ⟨w26.heap.size, 0, none⟩ = some (.bool yb) ∧ W_y.cell? ⟨w26.heap.size, 1, none⟩ = some (.int .u64 yh) ∧ W_y.cell? ⟨w26.heap.size, 2, none⟩ = some (.int .u64 yl) from by subst hW; simp [go_sem])
  clear hW
  generalize w26.heap.size = g_y at *
  go_wp2_with fail
  refine (OF'.out _).mono ?_
  rintro e w27 ⟨rfl, k27⟩
  go_wp2_with fail
  refine (S3'.out _).mono ?_
  rintro e w28 ⟨rfl, k28⟩
  go_upto_region 9 with fail
  generalize hW : World.alloc w28 (.cells #[.bool zb, .int .u64 zh, .int .u64 zl] 35) = W_z
  have K_z : Kept w28 W_z := by subst hW; exact (Kept.refl _).alloc _ _
  have H_z := Lib.hid (show W_z.cell? ⟨w28.heap.size, 0, none⟩ = some (.bool zb) ∧ W_z.cell? ⟨w28.heap.size, 1, none⟩ = some (.int .u64 zh) ∧ W_z.cell? ⟨w28.heap.size, 2, none⟩ = some (.int .u64 zl) from by subst hW; simp [go_sem])
  clear hW
  generalize w28.heap.size = g_z at *
  obtain ⟨c_x0, c_x1, c_x2⟩ := Kept.all3 (show Kept W_x W_z from (by (repeat (first | with_reducible exact Kept.refl _ | with_reducible apply Kept.drew | with_reducible apply Kept.alloc | ((with_reducible apply Kept.set); focus (simp <;> omega)) | ((with_reducible apply Kept.via); focus with_reducible assumption))))) H_x
  obtain ⟨c_z0, c_z1, c_z2⟩ := Kept.all3 (show Kept W_z W_z from (by (repeat (first | with_reducible exact Kept.refl _ | with_reducible apply Kept.drew | with_reducible apply Kept.alloc | ((with_reducible apply Kept.set); focus (simp <;> omega)) | ((with_reducible apply Kept.via); focus with_reducible assumption))))) H_z
  go_wp2_with fail
  refine (M1'.out _).mono ?_
  rintro e w29 ⟨rfl, k29⟩
  clear c_x0 c_x1 c_x2 c_z0 c_z1 c_z2
  obtain ⟨c_y0, c_y1, c_y2⟩ := Kept.all3 (show Kept W_y w29 from (by (repeat (first | with_reducible exact Kept.refl _ | with_reducible apply Kept.drew | with_reducible apply Kept.alloc | ((with_reducible apply Kept.set); focus (simp <;> omega)) | ((with_reducible apply Kept.via); focus with_reducible assumption))))) H_y
  obtain ⟨c_z0, c_z1, c_z2⟩ := Kept.all3 (show Kept W_z w29 from (by (repeat (first | with_reducible exact Kept.refl _ | with_reducible apply Kept.drew | with_reducible apply Kept.alloc | ((with_reducible apply Kept.set); focus (simp <;> omega)) | ((with_reducible apply Kept.via); focus with_reducible assumption))))) H_z
  go_wp2_with fail
  refine (M2'.out _).mono ?_
  rintro e w30 ⟨rfl, k30⟩
  clear c_y0 c_y1 c_y2 c_z0 c_z1 c_z2
  go_wp2
  go_ret
  exact ⟨rfl, (by (repeat (first | with_reducible exact Kept.refl _ | with_reducible apply Kept.drew | with_reducible apply Kept.alloc | ((with_reducible apply Kept.set); focus (simp <;> omega)) | ((with_reducible apply Kept.via); focus with_reducible assumption))))⟩
theorem epochRoot_walk (CC : ECheckC) (KC_ : EKC) (FC : EFastC) (BC : EBeginC) (SC : EShiftC) (g : Int) (w : World) (T_ : Tens w) (g0 : 0 ≤ g) (g1 : g ≤ 18446744073709551615) : Calls Tryd.prog 4 #[.int .u64 g] w fun e w' => e = .returned (.bool true) ∧ Kept w w' := by
  obtain ⟨r, er⟩ : ∃ r, g % 68719476737 = r := ⟨_, rfl⟩
  have r0 : 0 ≤ r := by omega
  have r1 : r ≤ 68719476736 := by omega
  have hr : In64 r := by unfold In64; omega
  obtain ⟨k, hk⟩ := k_ex r
  have kr := k_range hk
  have hn : Word k := ⟨kr.1, by omega⟩
  have hn1 : Word (k + 1) := ⟨by omega, by omega⟩
  obtain ⟨ch, cl, rc⟩ := cube_rep kr.1 (by omega)
  obtain ⟨dh, dl, rd⟩ := cube_rep (n := k + 1) (by omega) (by omega)
  have b1 : 0 ≤ k * k * k ∧ k * k * k ≤ 2621439999999999999999999999 := ⟨cu_nonneg kr.1, Int.le_trans (cu_le kr.1 kr.2) (by decide)⟩
  have b2 : 0 ≤ (k + 1) * (k + 1) * (k + 1) ∧ (k + 1) * (k + 1) * (k + 1) ≤ 2621439999999999999999999999 := ⟨cu_nonneg (by omega), Int.le_trans (cu_le (b := 137883821) (by omega) (by omega)) (by decide)⟩
  have l1 := (k_little hk kr.1).2 (Int.le_refl _)
  have l2 : ¬ (k + 1) * (k + 1) * (k + 1) * 262144 ≤ gapK r * 10000000000000000000 := fun x => by
    have := (k_little hk (m := k + 1) (by omega)).1 x; omega
  rw [gapK_in ⟨r0, r1⟩] at l1 l2
  obtain ⟨xb, xh, xl, rx⟩ := rep_ex (k * k * k * 262144) (by unfold InBig; omega)
  obtain ⟨yb, yh, yl, ry⟩ := rep_ex ((k + 1) * (k + 1) * (k + 1) * 262144) (by unfold InBig; omega)
  obtain ⟨zb, zh, zl, rz⟩ := rep_ex (r * 10000000000000000000) (by unfold InBig; omega)
  have ro : numOf (decide (r < 0)) 0 (mag r) = r := (Of_ok r hr).1.2.2.1
  refine root11_any CC KC_ FC BC SC g r k ch cl dh dl xh xl yh yl 0 (mag r) zh zl (cmpI (numOf xb xh xl) (numOf zb zh zl)) (cmpI (numOf yb yh yl) (numOf zb zh zl)) xb yb (decide (r < 0)) zb g0 g1 er r0 r1 kr.1 kr.2 ?_ ?_ w T_ (fun w TT_ => KC_ r k hr hk w TT_) (fun w => Cube_ok hn rc w) (fun w => Cube_ok hn1 rd w) (fun w => Scale_yes rc.1 rc.2.1 ⟨by omega, by omega⟩ (by rw [rc.2.2.1]; exact rx) w) (fun w => Scale_yes rd.1 rd.2.1 ⟨by omega, by omega⟩ (by rw [rd.2.2.1]; exact ry) w) (fun w => (Of_ok r hr).2 w) (fun w => Scale_yes word_zero (mag_word hr) ⟨by omega, by omega⟩ (by rw [ro]; exact rz) w) (fun w => Cmp_ok rx.1 rx.2.1 rz.1 rz.2.1 w) (fun w => Cmp_ok ry.1 ry.2.1 rz.1 rz.2.1 w)
  · rw [rx.2.2.1, rz.2.2.1]
    generalize k * k * k * 262144 = a at *
    generalize r * 10000000000000000000 = b at *
    unfold cmpI; simp; split
    · omega
    · rw [if_pos (by omega)]; omega
  · rw [ry.2.2.1, rz.2.2.1]
    generalize (k + 1) * (k + 1) * (k + 1) * 262144 = a at *
    generalize r * 10000000000000000000 = b at *
    unfold cmpI; simp
    rw [if_neg (by omega), if_neg (by omega)]; omega
end Go.Proofs.YtjdccfaifdokpaaDoor
