/-
  The call 'awake' of layer 16's statements answers true, if the calls do what they are to do.
-/
import Derived.Test.YtbaifhgjalaphaaCon16
import Derived.Test.YtbaifhgjalaphaaSame16
import Derived.Test.YtbaifhgjalaphaaRoom
import Derived.Deep.RegionHeld3
import Derived.Deep.DeepCutAuto
namespace Go.Proofs.Ytbaifhgjalaphaa
open Go.RowKit Go.BigFrame
set_option linter.unusedVariables false

def awActs : Nat → Nat → Int := fun i j => ([[0, 5, 8], [1, 2, 0], [9, 1, 1]].getD i []).getD j 0
theorem aw_do : doF (0, 0, 0) (actsL awActs 3) = (5, 2, 3) ∧ doE (0, 0, 0) (actsL awActs 3) = [0, 0, 201] := by
  have a0 := act_one (act_is (0, 0, 0) (0, 5, 8)) (show ActIs (0, 0, 0) (0, 5, 8) (5, 0, 5) 0 from by decide)
  have a1 := act_one (act_is (5, 0, 5) (1, 2, 0)) (show ActIs (5, 0, 5) (1, 2, 0) (5, 2, 3) 0 from by decide)
  have a2 := act_one (act_is (5, 2, 3) (9, 1, 1)) (show ActIs (5, 2, 3) (9, 1, 1) (5, 2, 3) 201 from by decide)
  have e : actsL awActs 3 = [(0, 5, 8), (1, 2, 0), (9, 1, 1)] := by decide
  rw [e]
  simp only [doF, doE, a0.1, a0.2, a1.1, a1.2, a2.1, a2.2]
  exact ⟨trivial, trivial⟩
set_option maxRecDepth 100000 in
set_option maxHeartbeats 3200000 in
theorem awake16 (CC : FlCheckC) (SC : FlSendC) (AC : FlAckC) (LC : FlLoseC) (RC_ : FlRoomC) (DC : FlDoC) (w : World) : Calls Try.prog 9 #[] w fun e w' => e = .returned (.bool true) ∧ Kept w w' := by
  have CC' := Lib.hid CC
  have SC' := Lib.hid SC
  have AC' := Lib.hid AC
  have LC' := Lib.hid LC
  have RC_' := Lib.hid RC_
  have DC' := Lib.hid DC
  clear CC SC AC LC RC_ DC
  go_enter Try.func9, Try.ntmps9
  go_wp2_with fail
  refine (SC'.out (0) (0) (0) (5) (8) (5) (0) (5) (0) (by unfold In64; decide) (by unfold In64; decide) (by unfold In64; decide) (by unfold In64; decide) (by unfold In64; decide) (by decide) _).mono ?_
  rintro e w20 ⟨rfl, k20⟩
  go_upto_region 2 with fail
  generalize hW : World.alloc w20 (.cells #[.int .i64 5, .int .i64 0, .int .i64 5] 23) = W_a
  have K_a : Kept w20 W_a := by subst hW; exact (Kept.refl _).alloc _ _
  have H_a := Lib.hid (show W_a.cell? ⟨w20.heap.size, 0, none⟩ = some (.int .i64 5) ∧ W_a.cell? ⟨w20.heap.size, 1, none⟩ = some (.int .i64 0) ∧ W_a.cell? ⟨w20.heap.size, 2, none⟩ = some (.int .i64 5) from by subst hW; simp [go_sem])
  clear hW
  generalize w20.heap.size = g_a at *
  obtain ⟨ca0, ca1, ca2⟩ := Kept.all3 (show Kept W_a W_a from (by (repeat (first | with_reducible exact Kept.refl _ | with_reducible apply Kept.drew | with_reducible apply Kept.alloc | ((with_reducible apply Kept.set); focus (simp <;> omega)) | ((with_reducible apply Kept.via); focus with_reducible assumption))))) H_a
  go_wp2_with fail
  refine (SC'.out (5) (0) (5) (4) (8) (5) (0) (5) (203) (by unfold In64; decide) (by unfold In64; decide) (by unfold In64; decide) (by unfold In64; decide) (by unfold In64; decide) (by decide) _).mono ?_
  rintro e w21 ⟨rfl, k21⟩
  clear ca0 ca1 ca2
  go_upto_region 3 with fail
  generalize hW : World.alloc w21 (.cells #[.int .i64 5, .int .i64 0, .int .i64 5] 23) = W_x
  have K_x : Kept w21 W_x := by subst hW; exact (Kept.refl _).alloc _ _
  have H_x := Lib.hid (show W_x.cell? ⟨w21.heap.size, 0, none⟩ = some (.int .i64 5) ∧ W_x.cell? ⟨w21.heap.size, 1, none⟩ = some (.int .i64 0) ∧ W_x.cell? ⟨w21.heap.size, 2, none⟩ = some (.int .i64 5) from by subst hW; simp [go_sem])
  clear hW
  generalize w21.heap.size = g_x at *
  obtain ⟨ca0, ca1, ca2⟩ := Kept.all3 (show Kept W_a W_x from (by (repeat (first | with_reducible exact Kept.refl _ | with_reducible apply Kept.drew | with_reducible apply Kept.alloc | ((with_reducible apply Kept.set); focus (simp <;> omega)) | ((with_reducible apply Kept.via); focus with_reducible assumption))))) H_a
  go_wp2_with fail
  refine (AC'.out (5) (0) (5) (2) (5) (2) (3) (0) (by unfold In64; decide) (by unfold In64; decide) (by unfold In64; decide) (by unfold In64; decide) (by decide) _).mono ?_
  rintro e w22 ⟨rfl, k22⟩
  clear ca0 ca1 ca2
  go_upto_region 4 with fail
  generalize hW : World.alloc w22 (.cells #[.int .i64 5, .int .i64 2, .int .i64 3] 23) = W_b
  have K_b : Kept w22 W_b := by subst hW; exact (Kept.refl _).alloc _ _
  have H_b := Lib.hid (show W_b.cell? ⟨w22.heap.size, 0, none⟩ = some (.int .i64 5) ∧ W_b.cell? ⟨w22.heap.size, 1, none⟩ = some (.int .i64 2) ∧ W_b.cell? ⟨w22.heap.size, 2, none⟩ = some (.int .i64 3) from by subst hW; simp [go_sem])
  clear hW
  generalize w22.heap.size = g_b at *
  obtain ⟨cb0, cb1, cb2⟩ := Kept.all3 (show Kept W_b W_b from (by (repeat (first | with_reducible exact Kept.refl _ | with_reducible apply Kept.drew | with_reducible apply Kept.alloc | ((with_reducible apply Kept.set); focus (simp <;> omega)) | ((with_reducible apply Kept.via); focus with_reducible assumption))))) H_b
  go_wp2_with fail
  refine (LC'.out (5) (2) (3) (1) (5) (2) (2) (0) (by unfold In64; decide) (by unfold In64; decide) (by unfold In64; decide) (by unfold In64; decide) (by decide) _).mono ?_
  rintro e w23 ⟨rfl, k23⟩
  clear cb0 cb1 cb2
  go_upto_region 5 with fail
  generalize hW : World.alloc w23 (.cells #[.int .i64 5, .int .i64 2, .int .i64 2] 23) = W_c
  have K_c : Kept w23 W_c := by subst hW; exact (Kept.refl _).alloc _ _
  have H_c := Lib.hid (show W_c.cell? ⟨w23.heap.size, 0, none⟩ = some (.int .i64 5) ∧ W_c.cell? ⟨w23.heap.size, 1, none⟩ = some (.int .i64 2) ∧ W_c.cell? ⟨w23.heap.size, 2, none⟩ = some (.int .i64 2) from by subst hW; simp [go_sem])
  clear hW
  generalize w23.heap.size = g_c at *
  obtain ⟨cc0, cc1, cc2⟩ := Kept.all3 (show Kept W_c W_c from (by (repeat (first | with_reducible exact Kept.refl _ | with_reducible apply Kept.drew | with_reducible apply Kept.alloc | ((with_reducible apply Kept.set); focus (simp <;> omega)) | ((with_reducible apply Kept.via); focus with_reducible assumption))))) H_c
  go_wp2_with fail
  refine (AC'.out (5) (2) (2) (3) (5) (2) (2) (202) (by unfold In64; decide) (by unfold In64; decide) (by unfold In64; decide) (by unfold In64; decide) (by decide) _).mono ?_
  rintro e w24 ⟨rfl, k24⟩
  clear cc0 cc1 cc2
  go_upto_region 6 with fail
  generalize hW : World.alloc w24 (.cells #[.int .i64 5, .int .i64 2, .int .i64 2] 23) = W_y
  have K_y : Kept w24 W_y := by subst hW; exact (Kept.refl _).alloc _ _
  have H_y := Lib.hid (show W_y.cell? ⟨w24.heap.size, 0, none⟩ = some (.int .i64 5) ∧ W_y.cell? ⟨w24.heap.size, 1, none⟩ = some (.int .i64 2) ∧ W_y.cell? ⟨w24.heap.size, 2, none⟩ = some (.int .i64 2) from by subst hW; simp [go_sem])
  clear hW
  generalize w24.heap.size = g_y at *
  obtain ⟨ca0, ca1, ca2⟩ := Kept.all3 (show Kept W_a W_y from (by (repeat (first | with_reducible exact Kept.refl _ | with_reducible apply Kept.drew | with_reducible apply Kept.alloc | ((with_reducible apply Kept.set); focus (simp <;> omega)) | ((with_reducible apply Kept.via); focus with_reducible assumption))))) H_a
  go_wp2_with fail
  refine (SC'.out (5) (0) (5) (0) (8) (5) (0) (5) (201) (by unfold In64; decide) (by unfold In64; decide) (by unfold In64; decide) (by unfold In64; decide) (by unfold In64; decide) (by decide) _).mono ?_
  rintro e w25 ⟨rfl, k25⟩
  clear ca0 ca1 ca2
  go_upto_region 7 with fail
  generalize hW : World.alloc w25 (.cells #[.int .i64 5, .int .i64 0, .int .i64 5] 23) = W_z
  have K_z : Kept w25 W_z := by subst hW; exact (Kept.refl _).alloc _ _
  have H_z := Lib.hid (show W_z.cell? ⟨w25.heap.size, 0, none⟩ = some (.int .i64 5) ∧ W_z.cell? ⟨w25.heap.size, 1, none⟩ = some (.int .i64 0) ∧ W_z.cell? ⟨w25.heap.size, 2, none⟩ = some (.int .i64 5) from by subst hW; simp [go_sem])
  clear hW
  generalize w25.heap.size = g_z at *
  go_wp2_with fail
  refine (SC'.out (9223372036854775807) (0) (0) (1) (8) (9223372036854775807) (0) (0) (10) (by unfold In64; decide) (by unfold In64; decide) (by unfold In64; decide) (by unfold In64; decide) (by unfold In64; decide) (by decide) _).mono ?_
  rintro e w26 ⟨rfl, k26⟩
  go_upto_region 8 with fail
  generalize hW : World.alloc w26 (.cells #[.int .i64 9223372036854775807, .int .i64 0, .int .i64 0] 23) = W_u
  have K_u : Kept w26 W_u := by subst hW; exact (Kept.refl _).alloc _ _
  have H_u := Lib.hid (show W_u.cell? ⟨w26.heap.size, 0, none⟩ = some (.int .i64 9223372036854775807) ∧ W_u.cell? ⟨w26.heap.size, 1, none⟩ = some (.int .i64 0) ∧ W_u.cell? ⟨w26.heap.size, 2, none⟩ = some (.int .i64 0) from by subst hW; simp [go_sem])
  clear hW
  generalize w26.heap.size = g_u at *
  go_wp2_with fail
  refine (DC'.out 0 0 0 (some ⟨_, 0, none⟩) 3 3 awActs 5 2 3 [0, 0, 201] (by unfold In64; decide) (by unfold In64; decide) (by unfold In64; decide) ⟨by omega, by omega, fun h => by cases h⟩ (by omega) ?_ aw_do.1 aw_do.2 _ ?_).mono ?_
  · intro i hi j hj
    rcases (show i = 0 ∨ i = 1 ∨ i = 2 by omega) with rfl | rfl | rfl <;> rcases (show j = 0 ∨ j = 1 ∨ j = 2 by omega) with rfl | rfl | rfl <;> (unfold In64; decide)
  · intro _
    refine ⟨_, 0, rfl, fun i hi j hj => ?_⟩
    rcases (show i = 0 ∨ i = 1 ∨ i = 2 by omega) with rfl | rfl | rfl <;> rcases (show j = 0 ∨ j = 1 ∨ j = 2 by omega) with rfl | rfl | rfl <;> (first | (simp [go_sem]; done) | (simp [go_sem]; rfl))
  rintro e w60 ⟨BL, cL, rfl, sk, rl, _, k60⟩
  have RL := Lib.hid rl
  clear rl
  obtain ⟨ca0, ca1, ca2⟩ := Kept.all3 (show Kept W_a (World.alloc w60 (.cells #[.int .i64 5, .int .i64 2, .int .i64 3] 23)) from (by (repeat (first | with_reducible exact Kept.refl _ | with_reducible apply Kept.drew | with_reducible apply Kept.alloc | ((with_reducible apply Kept.set); focus (simp <;> omega)) | ((with_reducible apply Kept.via); focus with_reducible assumption))))) H_a
  obtain ⟨cb0, cb1, cb2⟩ := Kept.all3 (show Kept W_b (World.alloc w60 (.cells #[.int .i64 5, .int .i64 2, .int .i64 3] 23)) from (by (repeat (first | with_reducible exact Kept.refl _ | with_reducible apply Kept.drew | with_reducible apply Kept.alloc | ((with_reducible apply Kept.set); focus (simp <;> omega)) | ((with_reducible apply Kept.via); focus with_reducible assumption))))) H_b
  obtain ⟨cc0, cc1, cc2⟩ := Kept.all3 (show Kept W_c (World.alloc w60 (.cells #[.int .i64 5, .int .i64 2, .int .i64 3] 23)) from (by (repeat (first | with_reducible exact Kept.refl _ | with_reducible apply Kept.drew | with_reducible apply Kept.alloc | ((with_reducible apply Kept.set); focus (simp <;> omega)) | ((with_reducible apply Kept.via); focus with_reducible assumption))))) H_c
  obtain ⟨cu0, cu1, cu2⟩ := Kept.all3 (show Kept W_u (World.alloc w60 (.cells #[.int .i64 5, .int .i64 2, .int .i64 3] 23)) from (by (repeat (first | with_reducible exact Kept.refl _ | with_reducible apply Kept.drew | with_reducible apply Kept.alloc | ((with_reducible apply Kept.set); focus (simp <;> omega)) | ((with_reducible apply Kept.via); focus with_reducible assumption))))) H_u
  obtain ⟨cy0, cy1, cy2⟩ := Kept.all3 (show Kept W_y (World.alloc w60 (.cells #[.int .i64 5, .int .i64 2, .int .i64 3] 23)) from (by (repeat (first | with_reducible exact Kept.refl _ | with_reducible apply Kept.drew | with_reducible apply Kept.alloc | ((with_reducible apply Kept.set); focus (simp <;> omega)) | ((with_reducible apply Kept.via); focus with_reducible assumption))))) H_y
  obtain ⟨cz0, cz1, cz2⟩ := Kept.all3 (show Kept W_z (World.alloc w60 (.cells #[.int .i64 5, .int .i64 2, .int .i64 3] 23)) from (by (repeat (first | with_reducible exact Kept.refl _ | with_reducible apply Kept.drew | with_reducible apply Kept.alloc | ((with_reducible apply Kept.set); focus (simp <;> omega)) | ((with_reducible apply Kept.via); focus with_reducible assumption))))) H_z
  obtain ⟨cx0, cx1, cx2⟩ := Kept.all3 (show Kept W_x (World.alloc w60 (.cells #[.int .i64 5, .int .i64 2, .int .i64 3] 23)) from (by (repeat (first | with_reducible exact Kept.refl _ | with_reducible apply Kept.drew | with_reducible apply Kept.alloc | ((with_reducible apply Kept.set); focus (simp <;> omega)) | ((with_reducible apply Kept.via); focus with_reducible assumption))))) H_x
  go_wp2_with fail
  refine (same16_ok (A := BL) (c := cL) (l := [0, 0, 201]) (A2 := some ⟨_, 0, none⟩) (c2 := 3) (m := [0, 0, 201]) (b := true) sk ⟨by simp, by omega, fun h => by cases h⟩ (by simp) (by simp) (by simp) _ (RL.out.kept (by (repeat (first | with_reducible exact Kept.refl _ | with_reducible apply Kept.drew | with_reducible apply Kept.alloc | ((with_reducible apply Kept.set); focus (simp <;> omega)) | ((with_reducible apply Kept.via); focus with_reducible assumption))))) ?_).mono ?_
  · intro _
    refine ⟨_, 0, rfl, fun k hk => ?_⟩
    have hk' : k < 3 := hk
    rcases (show k = 0 ∨ k = 1 ∨ k = 2 by omega) with rfl | rfl | rfl <;> (first | (simp [go_sem]; done) | (simp [go_sem]; rfl))
  rintro e w61 ⟨rfl, k61⟩
  clear ca0 ca1 ca2 cb0 cb1 cb2 cc0 cc1 cc2 cu0 cu1 cu2 cy0 cy1 cy2 cz0 cz1 cz2 cx0 cx1 cx2
  obtain ⟨cc0, cc1, cc2⟩ := Kept.all3 (show Kept W_c w61 from (by (repeat (first | with_reducible exact Kept.refl _ | with_reducible apply Kept.drew | with_reducible apply Kept.alloc | ((with_reducible apply Kept.set); focus (simp <;> omega)) | ((with_reducible apply Kept.via); focus with_reducible assumption))))) H_c
  go_wp2_with fail
  refine (CC'.out 5 2 2 true (by unfold In64; decide) (by unfold In64; decide) (by unfold In64; decide) (by decide) _).mono ?_
  rintro e w62 ⟨rfl, k62⟩
  clear cc0 cc1 cc2
  go_wp2_with fail
  refine (CC'.out 0 0 1 false (by unfold In64; decide) (by unfold In64; decide) (by unfold In64; decide) (by decide) _).mono ?_
  rintro e w63 ⟨rfl, k63⟩
  obtain ⟨cc0, cc1, cc2⟩ := Kept.all3 (show Kept W_c w63 from (by (repeat (first | with_reducible exact Kept.refl _ | with_reducible apply Kept.drew | with_reducible apply Kept.alloc | ((with_reducible apply Kept.set); focus (simp <;> omega)) | ((with_reducible apply Kept.via); focus with_reducible assumption))))) H_c
  go_wp2_with fail
  refine (RC_'.out 5 2 2 8 6 (by unfold In64; decide) (by unfold In64; decide) (by unfold In64; decide) (by unfold In64; decide) (by decide) _).mono ?_
  rintro e w64 ⟨rfl, k64⟩
  clear cc0 cc1 cc2
  obtain ⟨cc0, cc1, cc2⟩ := Kept.all3 (show Kept W_c w64 from (by (repeat (first | with_reducible exact Kept.refl _ | with_reducible apply Kept.drew | with_reducible apply Kept.alloc | ((with_reducible apply Kept.set); focus (simp <;> omega)) | ((with_reducible apply Kept.via); focus with_reducible assumption))))) H_c
  go_wp2_with fail
  refine (RC_'.out 5 2 2 1 0 (by unfold In64; decide) (by unfold In64; decide) (by unfold In64; decide) (by unfold In64; decide) (by decide) _).mono ?_
  rintro e w65 ⟨rfl, k65⟩
  clear cc0 cc1 cc2
  obtain ⟨ca0, ca1, ca2⟩ := Kept.all3 (show Kept W_a w65 from (by (repeat (first | with_reducible exact Kept.refl _ | with_reducible apply Kept.drew | with_reducible apply Kept.alloc | ((with_reducible apply Kept.set); focus (simp <;> omega)) | ((with_reducible apply Kept.via); focus with_reducible assumption))))) H_a
  obtain ⟨cb0, cb1, cb2⟩ := Kept.all3 (show Kept W_b w65 from (by (repeat (first | with_reducible exact Kept.refl _ | with_reducible apply Kept.drew | with_reducible apply Kept.alloc | ((with_reducible apply Kept.set); focus (simp <;> omega)) | ((with_reducible apply Kept.via); focus with_reducible assumption))))) H_b
  obtain ⟨cc0, cc1, cc2⟩ := Kept.all3 (show Kept W_c w65 from (by (repeat (first | with_reducible exact Kept.refl _ | with_reducible apply Kept.drew | with_reducible apply Kept.alloc | ((with_reducible apply Kept.set); focus (simp <;> omega)) | ((with_reducible apply Kept.via); focus with_reducible assumption))))) H_c
  go_wp2
  go_ret
  exact ⟨rfl, (by (repeat (first | with_reducible exact Kept.refl _ | with_reducible apply Kept.drew | with_reducible apply Kept.alloc | ((with_reducible apply Kept.set); focus (simp <;> omega)) | ((with_reducible apply Kept.via); focus with_reducible assumption))))⟩
end Go.Proofs.Ytbaifhgjalaphaa
