/-
  The call 'awake' of layer 19's statements answers true, if the calls do what they are to do.
-/
import Derived.Test.YtdbikeehoildlaaDoorCon19
import Derived.Test.YtdbikeehoildlaaDoorRoom
import Derived.Deep.RegionHeld3
import Derived.Deep.DeepCutAuto
namespace Go.Proofs.YtdbikeehoildlaaDoor
open Go.RowKit Go.BigFrame
set_option linter.unusedVariables false

theorem k19 : KIs 458752 2596247 := by unfold KIs gapK IsThird; decide
theorem b19 : BeginIs 5 131072 589824 (⟨true, 5, 131072, 589824, 2596247, 131072⟩ : Ep) 0 := Or.inr ⟨by unfold IsTime; decide, by decide, by decide, rfl, _, k19, rfl⟩
def aw19c : Cf := (⟨1500, 1000, 10, 1000, 200000, 60000000, 10⟩ : Cf)
def aw19l : List Cf := [aw19c, Cf.zero, aw19c]
theorem aw19_may : MayCf aw19c := by unfold MayCf aw19c; decide
theorem aw19_parts : partsC aw19l 0 = [aw19c, aw19c] ∧ partsC aw19l 210 = [Cf.zero] := ⟨rfl, rfl⟩
theorem used19_y : UsedW 655360 7500 1500 := by unfold UsedW; decide
theorem used19_n : ¬ UsedW 655360 7499 1500 := by unfold UsedW; decide
theorem used19_m : ¬ UsedW (-1) 5 5 := by unfold UsedW; decide
set_option maxRecDepth 100000 in
theorem field19 (w : World) : (Instr.field 25 (.agg #[.bool true, .int .i64 12, .int .i64 131072, .int .i64 589824, .int .i64 2596247, .int .i64 131072]) 1).run Tryd.prog w = .ok (.int .i64 12) w := by rfl
set_option maxRecDepth 100000 in
set_option maxHeartbeats 6400000 in
theorem awake19 (GC : GdCheckC) (FC : GdFirstC) (IC : GdIdleC) (PC : GdPauseC) (UC : GdUsedC) (YC : GdPartsC) (EC : ECheckC) (BC : EBeginC) (w : World) (T_ : Tens w) : Calls Tryd.prog 9 #[] w fun e w' => e = .returned (.bool true) ∧ Kept w w' := by
  have GC' := Lib.hid GC
  have FC' := Lib.hid FC
  have IC' := Lib.hid IC
  have PC' := Lib.hid PC
  have UC' := Lib.hid UC
  have YC' := Lib.hid YC
  have EC' := Lib.hid EC
  have BC' := Lib.hid BC
  clear GC FC IC PC UC YC EC BC
  have T := Lib.hid T_
  clear T_
  go_enter Tryd.func9, Tryd.ntmps9
  go_upto_region 2 with fail
  generalize hW : World.alloc w (.cells #[.int .i64 1500, .int .i64 1000, .int .i64 10, .int .i64 1000, .int .i64 200000, .int .i64 60000000, .int .i64 10] 23) = W_c
  have K_c : Kept w W_c := by subst hW; exact (Kept.refl _).alloc _ _
  have H_c := Lib.hid (show W_c.cell? ⟨w.heap.size, 0, none⟩ = some (.int .i64 1500) ∧ W_c.cell? ⟨w.heap.size, 1, none⟩ = some (.int .i64 1000) ∧ W_c.cell? ⟨w.heap.size, 2, none⟩ = some (.int .i64 10) ∧ W_c.cell? ⟨w.heap.size, 3, none⟩ = some (.int .i64 1000) ∧ W_c.cell? ⟨w.heap.size, 4, none⟩ = some (.int .i64 200000) ∧ W_c.cell? ⟨w.heap.size, 5, none⟩ = some (.int .i64 60000000) ∧ W_c.cell? ⟨w.heap.size, 6, none⟩ = some (.int .i64 10) from by subst hW; simp [go_sem])
  clear hW
  generalize w.heap.size = g_c at *
  go_wp2_with fail
  refine (BC'.out 5 131072 589824 (⟨true, 5, 131072, 589824, 2596247, 131072⟩ : Ep) 0 (by unfold In64; decide) (by unfold In64; decide) (by unfold In64; decide) b19 _ (Tens.kept T.out (by (repeat (first | with_reducible exact Kept.refl _ | with_reducible apply Kept.drew | with_reducible apply Kept.alloc | ((with_reducible apply Kept.set); focus (simp <;> omega)) | ((with_reducible apply Kept.via); focus with_reducible assumption)))))).mono ?_
  rintro e w20 ⟨rfl, k20⟩
  go_upto_region 3 with fail
  generalize hW : World.alloc w20 (.cells #[.bool true, .int .i64 5, .int .i64 131072, .int .i64 589824, .int .i64 2596247, .int .i64 131072] 25) = W_e
  have K_e : Kept w20 W_e := by subst hW; exact (Kept.refl _).alloc _ _
  have H_e := Lib.hid (show W_e.cell? ⟨w20.heap.size, 0, none⟩ = some (.bool true) ∧ W_e.cell? ⟨w20.heap.size, 1, none⟩ = some (.int .i64 5) ∧ W_e.cell? ⟨w20.heap.size, 2, none⟩ = some (.int .i64 131072) ∧ W_e.cell? ⟨w20.heap.size, 3, none⟩ = some (.int .i64 589824) ∧ W_e.cell? ⟨w20.heap.size, 4, none⟩ = some (.int .i64 2596247) ∧ W_e.cell? ⟨w20.heap.size, 5, none⟩ = some (.int .i64 131072) from by subst hW; simp [go_sem])
  clear hW
  generalize w20.heap.size = g_e at *
  obtain ⟨cc0, cc1, cc2, cc3, cc4, cc5, cc6⟩ := Kept.alln7 (show Kept W_c W_e from (by (repeat (first | with_reducible exact Kept.refl _ | with_reducible apply Kept.drew | with_reducible apply Kept.alloc | ((with_reducible apply Kept.set); focus (simp <;> omega)) | ((with_reducible apply Kept.via); focus with_reducible assumption))))) H_c
  have fl1 := field19
  go_wp2_with fail
  refine (YC'.out (some ⟨_, 0, none⟩) 3 3 aw19l [aw19c, aw19c] [Cf.zero] 2 1 ⟨by omega, by omega, fun h => by cases h⟩ rfl (by omega) ?_ aw19_parts.1 aw19_parts.2 rfl rfl _ ?_).mono ?_
  · intro x hx
    simp [aw19l] at hx
    rcases hx with rfl | rfl | rfl <;> (unfold CfIn In64; decide)
  · intro _
    refine ⟨_, 0, rfl, fun i hi j hj => ?_⟩
    have hi' : i < 3 := hi
    rcases (show i = 0 ∨ i = 1 ∨ i = 2 by omega) with rfl | rfl | rfl <;> rcases (show j = 0 ∨ j = 1 ∨ j = 2 ∨ j = 3 ∨ j = 4 ∨ j = 5 ∨ j = 6 by omega) with rfl | rfl | rfl | rfl | rfl | rfl | rfl <;> (first | (simp [go_sem]; done) | (simp [go_sem]; rfl))
  rintro e w60 ⟨B1, c1, B2, c2, rfl, sk1, sk2, rw1, rw2, _, _, k60⟩
  clear sk1 sk2 rw1 rw2
  clear cc0 cc1 cc2 cc3 cc4 cc5 cc6
  have Qa := Lib.hid (fun w => GC'.out (⟨1500, 1000, 10, 1000, 200000, 60000000, 10⟩ : Cf) 0 (by unfold CfIn In64; decide) (cfgE_ok.2 aw19_may) w)
  have Qb := Lib.hid (fun w => GC'.out (⟨0, 0, 0, 0, 0, 0, 0⟩ : Cf) 210 (by unfold CfIn In64; decide) (by decide) w)
  have Qc := Lib.hid (fun w => FC'.out (⟨1500, 1000, 10, 1000, 200000, 60000000, 10⟩ : Cf) 655360 (by unfold CfIn In64; decide) (by decide) w)
  have Qd := Lib.hid (fun w => FC'.out (⟨0, 0, 0, 0, 0, 0, 0⟩ : Cf) 131072 (by unfold CfIn In64; decide) (by decide) w)
  have Qe0 := Lib.hid (fun w => IC'.out 6553600 2 5 2 655360 (⟨1500, 1000, 10, 1000, 200000, 60000000, 10⟩ : Cf) (by unfold In64; decide) (by unfold In64; decide) (by unfold In64; decide) (by unfold In64; decide) (by unfold CfIn In64; decide) (by decide) w)
  have Qe1 := Lib.hid (fun w => IC'.out 6553600 2 4 2 6553600 (⟨1500, 1000, 10, 1000, 200000, 60000000, 10⟩ : Cf) (by unfold In64; decide) (by unfold In64; decide) (by unfold In64; decide) (by unfold In64; decide) (by unfold CfIn In64; decide) (by decide) w)
  have Qe2 := Lib.hid (fun w => IC'.out 5 2 9 2 131072 (⟨1500, 1000, 10, 1000, 200000, 60000000, 10⟩ : Cf) (by unfold In64; decide) (by unfold In64; decide) (by unfold In64; decide) (by unfold In64; decide) (by unfold CfIn In64; decide) (by decide) w)
  have Qf := Lib.hid (fun w => PC'.out (⟨true, 5, 131072, 589824, 2596247, 131072⟩ : Ep) (⟨true, 12, 131072, 589824, 2596247, 131072⟩ : Ep) 3 10 (by unfold In64E In64; decide) (by unfold In64; decide) (by unfold In64; decide) (by rfl) w)
  have Qg := Lib.hid (fun w => PC'.out (⟨true, 5, 131072, 589824, 2596247, 131072⟩ : Ep) (⟨true, 5, 131072, 589824, 2596247, 131072⟩ : Ep) 10 3 (by unfold In64E In64; decide) (by unfold In64; decide) (by unfold In64; decide) (by rfl) w)
  have Qh := Lib.hid (fun w => UC'.out 655360 7500 1500 true (by unfold In64; decide) (by unfold In64; decide) (by unfold In64; decide) (by simp [used19_y]) w)
  have Qi := Lib.hid (fun w => UC'.out 655360 7499 1500 false (by unfold In64; decide) (by unfold In64; decide) (by unfold In64; decide) (by simp [used19_n]) w)
  have Qj := Lib.hid (fun w => UC'.out (-1) 5 5 false (by unfold In64; decide) (by unfold In64; decide) (by unfold In64; decide) (by simp [used19_m]) w)
  go_upto_region 4 with fail
  have B_c := Lib.hid (Kept.alln7 (show Kept W_c w60 from (by (repeat (first | with_reducible exact Kept.refl _ | with_reducible apply Kept.drew | with_reducible apply Kept.alloc | ((with_reducible apply Kept.set); focus (simp <;> omega)) | ((with_reducible apply Kept.via); focus with_reducible assumption))))) H_c)
  have B_e := Lib.hid (Kept.alln6 (show Kept W_e w60 from (by (repeat (first | with_reducible exact Kept.refl _ | with_reducible apply Kept.drew | with_reducible apply Kept.alloc | ((with_reducible apply Kept.set); focus (simp <;> omega)) | ((with_reducible apply Kept.via); focus with_reducible assumption))))) H_e)
  have kall : Kept w w60 := (by (repeat (first | with_reducible exact Kept.refl _ | with_reducible apply Kept.drew | with_reducible apply Kept.alloc | ((with_reducible apply Kept.set); focus (simp <;> omega)) | ((with_reducible apply Kept.via); focus with_reducible assumption))))
  obtain ⟨q_c0, q_c1, q_c2, q_c3, q_c4, q_c5, q_c6⟩ := kwn7 B_c
  obtain ⟨q_e0, q_e1, q_e2, q_e3, q_e4, q_e5⟩ := kwn6 B_e
  clear B_c B_e
  simp only [List.append_eq, List.cons_append, List.nil_append]
  refine wp_region_kept (by kernel_rfl) (by as_aux_lemma => kernel_rfl) ?_
  repeat (go_big_quiet_step (first | (with_reducible exact kept_of (Qa.out _)) | (with_reducible exact kept_of (Qb.out _)) | (with_reducible exact kept_of (Qc.out _)) | (with_reducible exact kept_of (Qd.out _)) | (with_reducible exact kept_of (Qe0.out _)) | (with_reducible exact kept_of (Qe1.out _)) | (with_reducible exact kept_of (Qe2.out _)) | (with_reducible exact kept_of (Qf.out _)) | (with_reducible exact kept_of (Qg.out _)) | (with_reducible exact kept_of (Qh.out _)) | (with_reducible exact kept_of (Qi.out _)) | (with_reducible exact kept_of (Qj.out _))))
  refine wpQuiet_nil ?_
  intro wq hw'
  have kq : Kept w60 wq := by obtain ⟨p, rfl⟩ := hw'; exact p.k
  clear hw'
  clear kall
  go_wp2
  go_ret
  exact ⟨rfl, Kept.trans (show Kept w w60 from (by (repeat (first | with_reducible exact Kept.refl _ | with_reducible apply Kept.drew | with_reducible apply Kept.alloc | ((with_reducible apply Kept.set); focus (simp <;> omega)) | ((with_reducible apply Kept.via); focus with_reducible assumption))))) kq⟩
end Go.Proofs.YtdbikeehoildlaaDoor
