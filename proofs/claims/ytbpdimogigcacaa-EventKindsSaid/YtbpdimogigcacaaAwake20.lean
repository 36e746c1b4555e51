/-
  The call 'awake' of layer 20's statements answers true, if the calls do what they are to do.
-/
import Derived.Test.YtbpdimogigcacaaCon20
import Derived.Test.YtbpdimogigcacaaSame16
import Derived.Test.YtbpdimogigcacaaRoom
import Derived.Laws.StructEq
import Derived.Deep.RegionHeld3
import Derived.Deep.DeepCutAuto
namespace Go.Proofs.Ytbpdimogigcacaa
open Go.RowKit Go.BigFrame
set_option linter.unusedVariables false

def aw20R : Nat → List Int := fun i => [[7, 5, 0, 0], [7, 4, 0, 0], [6, 5, 1, 0]].getD i []
theorem aw20_all : allV (firstR aw20R 3) = ([(7, 5, 0, 0), (6, 5, 1, 0)], [0, 50, 0]) := by decide
set_option maxRecDepth 100000 in
set_option maxHeartbeats 6400000 in
theorem awake20 (CC : EvCheckC) (DC : EvDecC) (NC : EvEncC) (AC : EvAllC) (w : World) : Calls Try.prog 9 #[] w fun e w' => e = .returned (.bool true) ∧ Kept w w' := by
  have CC' := Lib.hid CC
  have DC' := Lib.hid DC
  have NC' := Lib.hid NC
  have AC' := Lib.hid AC
  clear CC DC NC AC
  go_enter Try.func9, Try.ntmps9
  go_wp2_with fail
  refine (DC'.out (some ⟨_, 0, none⟩) 4 4 [1, 5, 1500, 100] (1) (5) (1500) (100) 0 rfl ⟨by omega, by omega, fun h => by cases h⟩ ?_ (by decide) (by decide) _ ?_).mono ?_
  · intro x hx
    have hm : x = 1 ∨ x = 5 ∨ x = 1500 ∨ x = 100 := by simpa using hx
    rcases hm with rfl | rfl | rfl | rfl <;> (unfold In64; decide)
  · intro _
    refine ⟨_, 0, rfl, fun k hk => ?_⟩
    have hk' : k < 4 := hk
    rcases (show k = 0 ∨ k = 1 ∨ k = 2 ∨ k = 3 by omega) with rfl | rfl | rfl | rfl <;> (first | (simp [go_sem]; done) | (simp [go_sem]; rfl))
  rintro e w20 ⟨rfl, k20⟩
  go_upto_region 2 with fail
  generalize hW : World.alloc w20 (.cells #[.int .i64 1, .int .i64 5, .int .i64 1500, .int .i64 100] 23) = W_e
  have K_e : Kept w20 W_e := by subst hW; exact (Kept.refl _).alloc _ _
  have H_e := Lib.hid (show W_e.cell? ⟨w20.heap.size, 0, none⟩ = some (.int .i64 1) ∧ W_e.cell? ⟨w20.heap.size, 1, none⟩ = some (.int .i64 5) ∧ W_e.cell? ⟨w20.heap.size, 2, none⟩ = some (.int .i64 1500) ∧ W_e.cell? ⟨w20.heap.size, 3, none⟩ = some (.int .i64 100) from by subst hW; simp [go_sem])
  clear hW
  generalize w20.heap.size = g_e at *
  go_wp2_with fail
  refine (DC'.out (some ⟨_, 0, none⟩) 3 3 [1, 5, 1500] (0) (0) (0) (0) 201 rfl ⟨by omega, by omega, fun h => by cases h⟩ ?_ (by decide) (by decide) _ ?_).mono ?_
  · intro x hx
    have hm : x = 1 ∨ x = 5 ∨ x = 1500 := by simpa using hx
    rcases hm with rfl | rfl | rfl <;> (unfold In64; decide)
  · intro _
    refine ⟨_, 0, rfl, fun k hk => ?_⟩
    have hk' : k < 3 := hk
    rcases (show k = 0 ∨ k = 1 ∨ k = 2 by omega) with rfl | rfl | rfl <;> (first | (simp [go_sem]; done) | (simp [go_sem]; rfl))
  rintro e w21 ⟨rfl, k21⟩
  go_upto_region 3 with fail
  generalize hW : World.alloc w21 (.cells #[.int .i64 0, .int .i64 0, .int .i64 0, .int .i64 0] 23) = W_g
  have K_g : Kept w21 W_g := by subst hW; exact (Kept.refl _).alloc _ _
  have H_g := Lib.hid (show W_g.cell? ⟨w21.heap.size, 0, none⟩ = some (.int .i64 0) ∧ W_g.cell? ⟨w21.heap.size, 1, none⟩ = some (.int .i64 0) ∧ W_g.cell? ⟨w21.heap.size, 2, none⟩ = some (.int .i64 0) ∧ W_g.cell? ⟨w21.heap.size, 3, none⟩ = some (.int .i64 0) from by subst hW; simp [go_sem])
  clear hW
  generalize w21.heap.size = g_g at *
  go_wp2_with fail
  refine (DC'.out (some ⟨_, 0, none⟩) 4 4 [8, -5, 0, 0] (0) (0) (0) (0) 200 rfl ⟨by omega, by omega, fun h => by cases h⟩ ?_ (by decide) (by decide) _ ?_).mono ?_
  · intro x hx
    have hm : x = 8 ∨ x = -5 ∨ x = 0 ∨ x = 0 := by simpa using hx
    rcases hm with rfl | rfl | rfl | rfl <;> (unfold In64; decide)
  · intro _
    refine ⟨_, 0, rfl, fun k hk => ?_⟩
    have hk' : k < 4 := hk
    rcases (show k = 0 ∨ k = 1 ∨ k = 2 ∨ k = 3 by omega) with rfl | rfl | rfl | rfl <;> (first | (simp [go_sem]; done) | (simp [go_sem]; rfl))
  rintro e w22 ⟨rfl, k22⟩
  go_upto_region 4 with fail
  generalize hW : World.alloc w22 (.cells #[.int .i64 0, .int .i64 0, .int .i64 0, .int .i64 0] 23) = W_h
  have K_h : Kept w22 W_h := by subst hW; exact (Kept.refl _).alloc _ _
  have H_h := Lib.hid (show W_h.cell? ⟨w22.heap.size, 0, none⟩ = some (.int .i64 0) ∧ W_h.cell? ⟨w22.heap.size, 1, none⟩ = some (.int .i64 0) ∧ W_h.cell? ⟨w22.heap.size, 2, none⟩ = some (.int .i64 0) ∧ W_h.cell? ⟨w22.heap.size, 3, none⟩ = some (.int .i64 0) from by subst hW; simp [go_sem])
  clear hW
  generalize w22.heap.size = g_h at *
  go_wp2_with fail
  refine (DC'.out (some ⟨_, 0, none⟩) 4 4 [7, -5, 9, 0] (0) (0) (0) (0) 51 rfl ⟨by omega, by omega, fun h => by cases h⟩ ?_ (by decide) (by decide) _ ?_).mono ?_
  · intro x hx
    have hm : x = 7 ∨ x = -5 ∨ x = 9 ∨ x = 0 := by simpa using hx
    rcases hm with rfl | rfl | rfl | rfl <;> (unfold In64; decide)
  · intro _
    refine ⟨_, 0, rfl, fun k hk => ?_⟩
    have hk' : k < 4 := hk
    rcases (show k = 0 ∨ k = 1 ∨ k = 2 ∨ k = 3 by omega) with rfl | rfl | rfl | rfl <;> (first | (simp [go_sem]; done) | (simp [go_sem]; rfl))
  rintro e w23 ⟨rfl, k23⟩
  go_upto_region 5 with fail
  generalize hW : World.alloc w23 (.cells #[.int .i64 0, .int .i64 0, .int .i64 0, .int .i64 0] 23) = W_i
  have K_i : Kept w23 W_i := by subst hW; exact (Kept.refl _).alloc _ _
  have H_i := Lib.hid (show W_i.cell? ⟨w23.heap.size, 0, none⟩ = some (.int .i64 0) ∧ W_i.cell? ⟨w23.heap.size, 1, none⟩ = some (.int .i64 0) ∧ W_i.cell? ⟨w23.heap.size, 2, none⟩ = some (.int .i64 0) ∧ W_i.cell? ⟨w23.heap.size, 3, none⟩ = some (.int .i64 0) from by subst hW; simp [go_sem])
  clear hW
  generalize w23.heap.size = g_i at *
  go_wp2_with fail
  refine (DC'.out (some ⟨_, 0, none⟩) 4 4 [7, 5, 9, 0] (0) (0) (0) (0) 201 rfl ⟨by omega, by omega, fun h => by cases h⟩ ?_ (by decide) (by decide) _ ?_).mono ?_
  · intro x hx
    have hm : x = 7 ∨ x = 5 ∨ x = 9 ∨ x = 0 := by simpa using hx
    rcases hm with rfl | rfl | rfl | rfl <;> (unfold In64; decide)
  · intro _
    refine ⟨_, 0, rfl, fun k hk => ?_⟩
    have hk' : k < 4 := hk
    rcases (show k = 0 ∨ k = 1 ∨ k = 2 ∨ k = 3 by omega) with rfl | rfl | rfl | rfl <;> (first | (simp [go_sem]; done) | (simp [go_sem]; rfl))
  rintro e w24 ⟨rfl, k24⟩
  go_upto_region 6 with fail
  generalize hW : World.alloc w24 (.cells #[.int .i64 0, .int .i64 0, .int .i64 0, .int .i64 0] 23) = W_j
  have K_j : Kept w24 W_j := by subst hW; exact (Kept.refl _).alloc _ _
  have H_j := Lib.hid (show W_j.cell? ⟨w24.heap.size, 0, none⟩ = some (.int .i64 0) ∧ W_j.cell? ⟨w24.heap.size, 1, none⟩ = some (.int .i64 0) ∧ W_j.cell? ⟨w24.heap.size, 2, none⟩ = some (.int .i64 0) ∧ W_j.cell? ⟨w24.heap.size, 3, none⟩ = some (.int .i64 0) from by subst hW; simp [go_sem])
  clear hW
  generalize w24.heap.size = g_j at *
  go_wp2_with fail
  refine (AC'.out (some ⟨_, 0, none⟩) 3 3 (fun i => some ⟨W_j.heap.size + i, 0, none⟩) (fun _ => 4) aw20R 2 [(7, 5, 0, 0), (6, 5, 1, 0)] [0, 50, 0] ⟨by omega, by omega, fun h => by cases h⟩ (by omega) ?_ aw20_all rfl _ ?_).mono ?_
  · intro i hi x hx
    rcases (show i = 0 ∨ i = 1 ∨ i = 2 by omega) with rfl | rfl | rfl <;> (simp [aw20R] at hx; rcases hx with rfl | rfl | rfl | rfl <;> (unfold In64; decide))
  · refine ⟨fun _ => ⟨_, 0, rfl, fun k hk => ?_⟩, fun i hi => ⟨?_, fun _ => ⟨_, 0, rfl, fun k hk => ?_⟩⟩⟩
    · have hk' : k < 3 := hk
      rcases (show k = 0 ∨ k = 1 ∨ k = 2 by omega) with rfl | rfl | rfl <;> (first | (simp [go_sem, aw20R]; done) | (simp [go_sem, aw20R]; rfl))
    · rcases (show i = 0 ∨ i = 1 ∨ i = 2 by omega) with rfl | rfl | rfl <;> exact ⟨by simp [aw20R], by simp, fun h => by cases h⟩
    · have hk' : k < 4 := by rcases (show i = 0 ∨ i = 1 ∨ i = 2 by omega) with rfl | rfl | rfl <;> exact hk
      rcases (show i = 0 ∨ i = 1 ∨ i = 2 by omega) with rfl | rfl | rfl <;> rcases (show k = 0 ∨ k = 1 ∨ k = 2 ∨ k = 3 by omega) with rfl | rfl | rfl | rfl <;> (first | (simp [go_sem, aw20R]; done) | (simp [go_sem, aw20R]; rfl))
  rintro e w60 ⟨B1, c1, B2, c2, rfl, s1, s2, r1, r2, _, _, k60⟩
  have RL := Lib.hid r2
  have SL := Lib.hid s2
  clear r1 r2 s1 s2
  obtain ⟨ce0, ce1, ce2, ce3⟩ := Kept.alln4 (show Kept W_e w60 from (by (repeat (first | with_reducible exact Kept.refl _ | with_reducible apply Kept.drew | with_reducible apply Kept.alloc | ((with_reducible apply Kept.set); focus (simp <;> omega)) | ((with_reducible apply Kept.via); focus with_reducible assumption))))) H_e
  go_wp2_with fail
  refine (same16_ok (A := B2) (c := c2) (l := [0, 50, 0]) (A2 := some ⟨_, 0, none⟩) (c2 := 3) (m := [0, 50, 0]) (b := true) SL.out ⟨by simp, by omega, fun h => by cases h⟩ (by simp) (by simp) (by simp) _ (RowAt.kept RL.out (by (repeat (first | with_reducible exact Kept.refl _ | with_reducible apply Kept.drew | with_reducible apply Kept.alloc | ((with_reducible apply Kept.set); focus (simp <;> omega)) | ((with_reducible apply Kept.via); focus with_reducible assumption))))) ?_).mono ?_
  · intro _
    refine ⟨_, 0, rfl, fun k hk => ?_⟩
    have hk' : k < 3 := hk
    rcases (show k = 0 ∨ k = 1 ∨ k = 2 by omega) with rfl | rfl | rfl <;> (first | (simp [go_sem]; done) | (simp [go_sem]; rfl))
  rintro e w61 ⟨rfl, k61⟩
  clear ce0 ce1 ce2 ce3
  obtain ⟨ce0, ce1, ce2, ce3⟩ := Kept.alln4 (show Kept W_e w61 from (by (repeat (first | with_reducible exact Kept.refl _ | with_reducible apply Kept.drew | with_reducible apply Kept.alloc | ((with_reducible apply Kept.set); focus (simp <;> omega)) | ((with_reducible apply Kept.via); focus with_reducible assumption))))) H_e
  go_wp2_with fail
  refine (NC'.out 1 5 1500 100 (by unfold In64; decide) (by unfold In64; decide) (by unfold In64; decide) (by unfold In64; decide) _).mono ?_
  rintro e w62 ⟨Bx, cx, rfl, _, rx, _, k62⟩
  clear rx
  clear ce0 ce1 ce2 ce3
  obtain ⟨ce0, ce1, ce2, ce3⟩ := Kept.alln4 (show Kept W_e w62 from (by (repeat (first | with_reducible exact Kept.refl _ | with_reducible apply Kept.drew | with_reducible apply Kept.alloc | ((with_reducible apply Kept.set); focus (simp <;> omega)) | ((with_reducible apply Kept.via); focus with_reducible assumption))))) H_e
  go_wp2_with fail
  refine (NC'.out 1 5 1500 100 (by unfold In64; decide) (by unfold In64; decide) (by unfold In64; decide) (by unfold In64; decide) _).mono ?_
  rintro e w63 ⟨By, cy, rfl, _, ry, _, k63⟩
  obtain ⟨bb, off, rfl, hc⟩ := ry (by simp)
  have y2 : w63.cell? ⟨bb, off + 2, none⟩ = some (.int .i64 1500) := hc 2 (by simp)
  clear hc
  clear ce0 ce1 ce2 ce3
  go_wp2
  go_ret
  exact ⟨rfl, (by (repeat (first | with_reducible exact Kept.refl _ | with_reducible apply Kept.drew | with_reducible apply Kept.alloc | ((with_reducible apply Kept.set); focus (simp <;> omega)) | ((with_reducible apply Kept.via); focus with_reducible assumption))))⟩
end Go.Proofs.Ytbpdimogigcacaa
