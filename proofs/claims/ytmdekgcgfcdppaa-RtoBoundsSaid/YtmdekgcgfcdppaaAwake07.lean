/-
  The call 'awake' of layer 7's statements answers true, if the calls do what they are to do.
-/
import Derived.Test.YtmdekgcgfcdppaaCon07
import Derived.Deep.DeepCutAuto
namespace Go.Proofs.Ytmdekgcgfcdppaa
open Go.RowKit Go.BigFrame
set_option linter.unusedVariables false

theorem ba_r : BaseIs true 800000 40000 1000 140000 := Or.inr ⟨Or.inr ⟨rfl, by omega, by omega, by omega, by omega⟩, rfl, by decide⟩
theorem ba_z : BaseIs true 800000 40000 0 140000 := Or.inr ⟨Or.inr ⟨rfl, by omega, by omega, by omega, by omega⟩, rfl, by decide⟩
theorem ba_n : BaseIs false 0 0 1000 1000000 := Or.inl ⟨by simp, rfl⟩
theorem ba_s : BaseIs true 80 0 1000 1010 := Or.inr ⟨Or.inr ⟨rfl, by omega, by omega, by omega, by omega⟩, rfl, by decide⟩
theorem o7_0 : OfIs true 800000 40000 1000 200000 60000000 0 200000 := ⟨140000, ba_r, by decide +kernel⟩
theorem o7_1 : OfIs true 800000 40000 1000 200000 60000000 1 400000 := ⟨140000, ba_r, by decide +kernel⟩
theorem o7_9 : OfIs true 800000 40000 1000 200000 60000000 9 60000000 := ⟨140000, ba_r, by decide +kernel⟩
theorem o7_99 : OfIs true 800000 40000 1000 200000 60000000 99 60000000 := ⟨140000, ba_r, by decide +kernel⟩
theorem o7_m5 : OfIs true 800000 40000 1000 200000 60000000 (-5) 200000 := ⟨140000, ba_r, by decide +kernel⟩
theorem o7_20 : OfIs true 800000 40000 1000 200000 60000000 20 60000000 := ⟨140000, ba_r, by decide +kernel⟩
theorem o7_n2 : OfIs false 0 0 1000 200000 60000000 2 4000000 := ⟨1000000, ba_n, by decide +kernel⟩
theorem o7_95 : OfIs true 800000 40000 0 9 5 3 5 := ⟨140000, ba_z, by decide +kernel⟩
theorem bk_0 : BackIs true 800000 40000 1000 200000 60000000 0 1 := Or.inr ⟨by omega, _, o7_0, Or.inl ⟨by decide, rfl⟩⟩
theorem bk_20 : BackIs true 800000 40000 1000 200000 60000000 20 20 := Or.inr ⟨by omega, _, o7_20, Or.inr ⟨by decide, rfl⟩⟩
theorem bk_m1 : BackIs true 800000 40000 1000 200000 60000000 (-1) 0 := Or.inl ⟨by omega, rfl⟩
/-- The timeouts of the four numbers. -/
def four07 (j : Nat) : Int := [200000, 400000, 60000000, 60000000].getD j 0
theorem four_of : ∀ k, k < 4 → In64 ([0, 1, 9, 99].getD k 0) ∧ OfIs true 800000 40000 1000 200000 60000000 ([0, 1, 9, 99].getD k 0) (four07 k)
  | 0, _ => ⟨by unfold In64; decide, o7_0⟩
  | 1, _ => ⟨by unfold In64; decide, o7_1⟩
  | 2, _ => ⟨by unfold In64; decide, o7_9⟩
  | 3, _ => ⟨by unfold In64; decide, o7_99⟩
  | k + 4, h => absurd h (by omega)
set_option maxRecDepth 100000 in
set_option maxHeartbeats 1600000 in
theorem awake07 (BC : BaseC) (OC : OfC) (UC : BackC) (AC : AllC) (w : World) : Calls Try.prog 9 #[] w fun e w' => e = .returned (.bool true) ∧ Kept w w' := by
  have BC' := Lib.hid BC
  have OC' := Lib.hid OC
  have UC' := Lib.hid UC
  have AC' := Lib.hid AC
  clear BC OC UC AC
  go_enter Try.func9, Try.ntmps9
  go_upto_region 2 with fail
  generalize hW : World.alloc w (.cells #[.int .i64 0, .int .i64 0, .int .i64 0, .int .i64 1000, .int .i64 200000, .int .i64 60000000, .int .i64 0] 25) = W_c
  have K_c : Kept w W_c := by subst hW; exact (Kept.refl _).alloc _ _
  have H_c := Lib.hid (show W_c.cell? ⟨w.heap.size, 0, none⟩ = some (.int .i64 0) ∧ W_c.cell? ⟨w.heap.size, 1, none⟩ = some (.int .i64 0) ∧ W_c.cell? ⟨w.heap.size, 2, none⟩ = some (.int .i64 0) ∧ W_c.cell? ⟨w.heap.size, 3, none⟩ = some (.int .i64 1000) ∧ W_c.cell? ⟨w.heap.size, 4, none⟩ = some (.int .i64 200000) ∧ W_c.cell? ⟨w.heap.size, 5, none⟩ = some (.int .i64 60000000) ∧ W_c.cell? ⟨w.heap.size, 6, none⟩ = some (.int .i64 0) from by subst hW; simp [go_sem])
  clear hW
  generalize w.heap.size = g_c at *
  go_upto_region 3 with fail
  generalize hW : World.alloc W_c (.cells #[.bool true, .int .i64 800000, .int .i64 40000] 23) = W_r
  have K_r : Kept W_c W_r := by subst hW; exact (Kept.refl _).alloc _ _
  have H_r := Lib.hid (show W_r.cell? ⟨W_c.heap.size, 0, none⟩ = some (.bool true) ∧ W_r.cell? ⟨W_c.heap.size, 1, none⟩ = some (.int .i64 800000) ∧ W_r.cell? ⟨W_c.heap.size, 2, none⟩ = some (.int .i64 40000) from by subst hW; simp [go_sem])
  clear hW
  generalize W_c.heap.size = g_r at *
  obtain ⟨c_r0, c_r1, c_r2⟩ := Kept.all3 (show Kept W_r W_r from (by (repeat (first | with_reducible exact Kept.refl _ | with_reducible apply Kept.drew | with_reducible apply Kept.alloc | ((with_reducible apply Kept.set); focus (simp <;> omega)) | ((with_reducible apply Kept.via); focus with_reducible assumption))))) H_r
  obtain ⟨c_c0, c_c1, c_c2, c_c3, c_c4, c_c5, c_c6⟩ := Kept.all7 (show Kept W_c W_r from (by (repeat (first | with_reducible exact Kept.refl _ | with_reducible apply Kept.drew | with_reducible apply Kept.alloc | ((with_reducible apply Kept.set); focus (simp <;> omega)) | ((with_reducible apply Kept.via); focus with_reducible assumption))))) H_c
  go_wp2_with fail
  refine (AC'.out true 800000 40000 0 0 0 1000 200000 60000000 0 (some ⟨_, 0, none⟩) 4 4 [0, 1, 9, 99] four07 (by omega) four_of _ (fun _ => ⟨_, 0, rfl, fun k hk => ?_⟩)).mono ?_
  · rcases (show k = 0 ∨ k = 1 ∨ k = 2 ∨ k = 3 by omega) with rfl | rfl | rfl | rfl <;> simp [go_sem]
  rintro e w1 ⟨B, cp, rfl, hrow, k1⟩
  clear c_r0 c_r1 c_r2 c_c0 c_c1 c_c2 c_c3 c_c4 c_c5 c_c6
  obtain ⟨bb, off, rfl, hc⟩ := hrow (by omega)
  have H_l := Lib.hid (show w1.cell? ⟨bb, off + 1, none⟩ = some (.int .i64 400000) ∧ w1.cell? ⟨bb, off + 3, none⟩ = some (.int .i64 60000000) from ⟨hc 1 (by omega), hc 3 (by omega)⟩)
  clear hc
  obtain ⟨c_c0, c_c1, c_c2, c_c3, c_c4, c_c5, c_c6⟩ := Kept.all7 (show Kept W_c w1 from (by (repeat (first | with_reducible exact Kept.refl _ | with_reducible apply Kept.drew | with_reducible apply Kept.alloc | ((with_reducible apply Kept.set); focus (simp <;> omega)) | ((with_reducible apply Kept.via); focus with_reducible assumption))))) H_c
  go_wp2_with fail
  refine (BC'.out false 0 0 0 0 0 1000 200000 60000000 0 1000000 ba_n _).mono ?_
  rintro e w2 ⟨rfl, k2⟩
  clear c_c0 c_c1 c_c2 c_c3 c_c4 c_c5 c_c6
  obtain ⟨c_c0, c_c1, c_c2, c_c3, c_c4, c_c5, c_c6⟩ := Kept.all7 (show Kept W_c w2 from (by (repeat (first | with_reducible exact Kept.refl _ | with_reducible apply Kept.drew | with_reducible apply Kept.alloc | ((with_reducible apply Kept.set); focus (simp <;> omega)) | ((with_reducible apply Kept.via); focus with_reducible assumption))))) H_c
  go_wp2_with fail
  refine (OC'.out false 0 0 0 0 0 1000 200000 60000000 0 2 4000000 (by unfold In64; omega) o7_n2 _).mono ?_
  rintro e w3 ⟨rfl, k3⟩
  clear c_c0 c_c1 c_c2 c_c3 c_c4 c_c5 c_c6
  obtain ⟨c_r0, c_r1, c_r2⟩ := Kept.all3 (show Kept W_r w3 from (by (repeat (first | with_reducible exact Kept.refl _ | with_reducible apply Kept.drew | with_reducible apply Kept.alloc | ((with_reducible apply Kept.set); focus (simp <;> omega)) | ((with_reducible apply Kept.via); focus with_reducible assumption))))) H_r
  obtain ⟨c_c0, c_c1, c_c2, c_c3, c_c4, c_c5, c_c6⟩ := Kept.all7 (show Kept W_c w3 from (by (repeat (first | with_reducible exact Kept.refl _ | with_reducible apply Kept.drew | with_reducible apply Kept.alloc | ((with_reducible apply Kept.set); focus (simp <;> omega)) | ((with_reducible apply Kept.via); focus with_reducible assumption))))) H_c
  go_wp2_with fail
  refine (BC'.out true 800000 40000 0 0 0 1000 200000 60000000 0 140000 ba_r _).mono ?_
  rintro e w4 ⟨rfl, k4⟩
  clear c_r0 c_r1 c_r2 c_c0 c_c1 c_c2 c_c3 c_c4 c_c5 c_c6
  obtain ⟨c_r0, c_r1, c_r2⟩ := Kept.all3 (show Kept W_r w4 from (by (repeat (first | with_reducible exact Kept.refl _ | with_reducible apply Kept.drew | with_reducible apply Kept.alloc | ((with_reducible apply Kept.set); focus (simp <;> omega)) | ((with_reducible apply Kept.via); focus with_reducible assumption))))) H_r
  obtain ⟨c_c0, c_c1, c_c2, c_c3, c_c4, c_c5, c_c6⟩ := Kept.all7 (show Kept W_c w4 from (by (repeat (first | with_reducible exact Kept.refl _ | with_reducible apply Kept.drew | with_reducible apply Kept.alloc | ((with_reducible apply Kept.set); focus (simp <;> omega)) | ((with_reducible apply Kept.via); focus with_reducible assumption))))) H_c
  go_wp2_with fail
  refine (OC'.out true 800000 40000 0 0 0 1000 200000 60000000 0 0 200000 (by unfold In64; omega) o7_0 _).mono ?_
  rintro e w5 ⟨rfl, k5⟩
  clear c_r0 c_r1 c_r2 c_c0 c_c1 c_c2 c_c3 c_c4 c_c5 c_c6
  obtain ⟨c_r0, c_r1, c_r2⟩ := Kept.all3 (show Kept W_r w5 from (by (repeat (first | with_reducible exact Kept.refl _ | with_reducible apply Kept.drew | with_reducible apply Kept.alloc | ((with_reducible apply Kept.set); focus (simp <;> omega)) | ((with_reducible apply Kept.via); focus with_reducible assumption))))) H_r
  obtain ⟨c_c0, c_c1, c_c2, c_c3, c_c4, c_c5, c_c6⟩ := Kept.all7 (show Kept W_c w5 from (by (repeat (first | with_reducible exact Kept.refl _ | with_reducible apply Kept.drew | with_reducible apply Kept.alloc | ((with_reducible apply Kept.set); focus (simp <;> omega)) | ((with_reducible apply Kept.via); focus with_reducible assumption))))) H_c
  go_wp2_with fail
  refine (OC'.out true 800000 40000 0 0 0 1000 200000 60000000 0 (-5) 200000 (by unfold In64; omega) o7_m5 _).mono ?_
  rintro e w6 ⟨rfl, k6⟩
  clear c_r0 c_r1 c_r2 c_c0 c_c1 c_c2 c_c3 c_c4 c_c5 c_c6
  obtain ⟨c_r0, c_r1, c_r2⟩ := Kept.all3 (show Kept W_r w6 from (by (repeat (first | with_reducible exact Kept.refl _ | with_reducible apply Kept.drew | with_reducible apply Kept.alloc | ((with_reducible apply Kept.set); focus (simp <;> omega)) | ((with_reducible apply Kept.via); focus with_reducible assumption))))) H_r
  obtain ⟨c_c0, c_c1, c_c2, c_c3, c_c4, c_c5, c_c6⟩ := Kept.all7 (show Kept W_c w6 from (by (repeat (first | with_reducible exact Kept.refl _ | with_reducible apply Kept.drew | with_reducible apply Kept.alloc | ((with_reducible apply Kept.set); focus (simp <;> omega)) | ((with_reducible apply Kept.via); focus with_reducible assumption))))) H_c
  go_wp2_with fail
  refine (OC'.out true 800000 40000 0 0 0 1000 200000 60000000 0 20 60000000 (by unfold In64; omega) o7_20 _).mono ?_
  rintro e w7 ⟨rfl, k7⟩
  clear c_r0 c_r1 c_r2 c_c0 c_c1 c_c2 c_c3 c_c4 c_c5 c_c6
  obtain ⟨c_r0, c_r1, c_r2⟩ := Kept.all3 (show Kept W_r w7 from (by (repeat (first | with_reducible exact Kept.refl _ | with_reducible apply Kept.drew | with_reducible apply Kept.alloc | ((with_reducible apply Kept.set); focus (simp <;> omega)) | ((with_reducible apply Kept.via); focus with_reducible assumption))))) H_r
  obtain ⟨c_c0, c_c1, c_c2, c_c3, c_c4, c_c5, c_c6⟩ := Kept.all7 (show Kept W_c w7 from (by (repeat (first | with_reducible exact Kept.refl _ | with_reducible apply Kept.drew | with_reducible apply Kept.alloc | ((with_reducible apply Kept.set); focus (simp <;> omega)) | ((with_reducible apply Kept.via); focus with_reducible assumption))))) H_c
  go_wp2_with fail
  refine (UC'.out true 800000 40000 0 0 0 1000 200000 60000000 0 0 1 (by unfold In64; omega) bk_0 _).mono ?_
  rintro e w8 ⟨rfl, k8⟩
  clear c_r0 c_r1 c_r2 c_c0 c_c1 c_c2 c_c3 c_c4 c_c5 c_c6
  obtain ⟨c_r0, c_r1, c_r2⟩ := Kept.all3 (show Kept W_r w8 from (by (repeat (first | with_reducible exact Kept.refl _ | with_reducible apply Kept.drew | with_reducible apply Kept.alloc | ((with_reducible apply Kept.set); focus (simp <;> omega)) | ((with_reducible apply Kept.via); focus with_reducible assumption))))) H_r
  obtain ⟨c_c0, c_c1, c_c2, c_c3, c_c4, c_c5, c_c6⟩ := Kept.all7 (show Kept W_c w8 from (by (repeat (first | with_reducible exact Kept.refl _ | with_reducible apply Kept.drew | with_reducible apply Kept.alloc | ((with_reducible apply Kept.set); focus (simp <;> omega)) | ((with_reducible apply Kept.via); focus with_reducible assumption))))) H_c
  go_wp2_with fail
  refine (UC'.out true 800000 40000 0 0 0 1000 200000 60000000 0 20 20 (by unfold In64; omega) bk_20 _).mono ?_
  rintro e w9 ⟨rfl, k9⟩
  clear c_r0 c_r1 c_r2 c_c0 c_c1 c_c2 c_c3 c_c4 c_c5 c_c6
  obtain ⟨c_r0, c_r1, c_r2⟩ := Kept.all3 (show Kept W_r w9 from (by (repeat (first | with_reducible exact Kept.refl _ | with_reducible apply Kept.drew | with_reducible apply Kept.alloc | ((with_reducible apply Kept.set); focus (simp <;> omega)) | ((with_reducible apply Kept.via); focus with_reducible assumption))))) H_r
  obtain ⟨c_c0, c_c1, c_c2, c_c3, c_c4, c_c5, c_c6⟩ := Kept.all7 (show Kept W_c w9 from (by (repeat (first | with_reducible exact Kept.refl _ | with_reducible apply Kept.drew | with_reducible apply Kept.alloc | ((with_reducible apply Kept.set); focus (simp <;> omega)) | ((with_reducible apply Kept.via); focus with_reducible assumption))))) H_c
  go_wp2_with fail
  refine (UC'.out true 800000 40000 0 0 0 1000 200000 60000000 0 (-1) 0 (by unfold In64; omega) bk_m1 _).mono ?_
  rintro e w10 ⟨rfl, k10⟩
  clear c_r0 c_r1 c_r2 c_c0 c_c1 c_c2 c_c3 c_c4 c_c5 c_c6
  obtain ⟨l1, l3⟩ := H_l.out
  have l1 := (show Kept w1 w10 from (by (repeat (first | with_reducible exact Kept.refl _ | with_reducible apply Kept.drew | with_reducible apply Kept.alloc | ((with_reducible apply Kept.set); focus (simp <;> omega)) | ((with_reducible apply Kept.via); focus with_reducible assumption))))).read l1
  have l3 := (show Kept w1 w10 from (by (repeat (first | with_reducible exact Kept.refl _ | with_reducible apply Kept.drew | with_reducible apply Kept.alloc | ((with_reducible apply Kept.set); focus (simp <;> omega)) | ((with_reducible apply Kept.via); focus with_reducible assumption))))).read l3
  obtain ⟨c_r0, c_r1, c_r2⟩ := Kept.all3 (show Kept W_r w10 from (by (repeat (first | with_reducible exact Kept.refl _ | with_reducible apply Kept.drew | with_reducible apply Kept.alloc | ((with_reducible apply Kept.set); focus (simp <;> omega)) | ((with_reducible apply Kept.via); focus with_reducible assumption))))) H_r
  obtain ⟨c_c0, c_c1, c_c2, c_c3, c_c4, c_c5, c_c6⟩ := Kept.all7 (show Kept W_c w10 from (by (repeat (first | with_reducible exact Kept.refl _ | with_reducible apply Kept.drew | with_reducible apply Kept.alloc | ((with_reducible apply Kept.set); focus (simp <;> omega)) | ((with_reducible apply Kept.via); focus with_reducible assumption))))) H_c
  go_wp2_with fail
  refine (OC'.out true 800000 40000 0 0 0 0 9 5 0 3 5 (by unfold In64; omega) o7_95 _).mono ?_
  rintro e w11 ⟨rfl, k11⟩
  clear c_r0 c_r1 c_r2 c_c0 c_c1 c_c2 c_c3 c_c4 c_c5 c_c6
  obtain ⟨c_c0, c_c1, c_c2, c_c3, c_c4, c_c5, c_c6⟩ := Kept.all7 (show Kept W_c w11 from (by (repeat (first | with_reducible exact Kept.refl _ | with_reducible apply Kept.drew | with_reducible apply Kept.alloc | ((with_reducible apply Kept.set); focus (simp <;> omega)) | ((with_reducible apply Kept.via); focus with_reducible assumption))))) H_c
  go_wp2_with fail
  refine (BC'.out true 80 0 0 0 0 1000 200000 60000000 0 1010 ba_s _).mono ?_
  rintro e w12 ⟨rfl, k12⟩
  clear c_c0 c_c1 c_c2 c_c3 c_c4 c_c5 c_c6
  go_wp2
  go_ret
  exact ⟨rfl, (by (repeat (first | with_reducible exact Kept.refl _ | with_reducible apply Kept.drew | with_reducible apply Kept.alloc | ((with_reducible apply Kept.set); focus (simp <;> omega)) | ((with_reducible apply Kept.via); focus with_reducible assumption))))⟩
end Go.Proofs.Ytmdekgcgfcdppaa
