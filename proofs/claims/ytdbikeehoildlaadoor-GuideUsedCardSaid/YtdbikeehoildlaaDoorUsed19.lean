/-
  The walk of GuideUsed: it answers true, if the calls do what they are to do.
-/
import Derived.Test.YtdbikeehoildlaaDoorAwake19
import Derived.Deep.RegionHeld3
import Derived.Deep.DeepCutAuto
namespace Go.Proofs.YtdbikeehoildlaaDoor
open Go.RowKit Go.BigFrame
set_option linter.unusedVariables false

set_option maxRecDepth 100000 in
set_option maxHeartbeats 1600000 in
theorem used19_no (GC : GdCheckC) (FC : GdFirstC) (IC : GdIdleC) (PC : GdPauseC) (UC : GdUsedC) (YC : GdPartsC) (EC : ECheckC) (BC : EBeginC) {v a b s z y lo hi : Int} {u1 : Bool} (v0 : 0 ≤ v) (v1 : v ≤ 4294967295) (a0 : 0 ≤ a) (a1 : a ≤ 4294967295) (b0 : 0 ≤ b) (b1 : b ≤ 4294967295) (s0 : 0 ≤ s) (s1 : s ≤ 65535) (l0 : 0 ≤ lo) (l1 : lo ≤ 4294967295) (h0 : 0 ≤ hi) (h1 : hi ≤ 4294967295) (e1 : (if b < a then b else a) = lo) (e2 : (if a < b then b else a) = hi) (ez : v * s = z) (z0 : 0 ≤ z) (z1 : z ≤ 281470681677825) (ey : z / 65536 = y) (y0 : 0 ≤ y) (y1 : y ≤ 4294901760) (c1 : u1 = true ↔ UsedW v lo s) (c3 : UsedW v (y + 1) s) (c4 : (z == 0) = true ↔ UsedW v 0 s) (c5 : decide (z ≤ 131072 * a) = true ↔ UsedW v a s) (eu : u1 = false)  (w : World) (T_ : Tens w) : Calls Tryd.prog 6 #[.int .u32 v, .int .u32 a, .int .u32 b, .int .u16 s] w fun e w' => e = .returned (.bool true) ∧ Kept w w' := by
  have GC' := Lib.hid GC
  have FC' := Lib.hid FC
  have IC' := Lib.hid IC
  have PC' := Lib.hid PC
  have UC' := Lib.hid UC
  have YC' := Lib.hid YC
  have EC' := Lib.hid EC
  have BC' := Lib.hid BC
  have AW' := Lib.hid (fun w TT_ => awake19 GC FC IC PC UC YC EC BC w TT_)
  clear GC FC IC PC UC YC EC BC
  have T := Lib.hid T_
  clear T_
  have Q1 := Lib.hid (fun w_ => UC'.out v (lo) s (u1) (by unfold In64; omega) (by unfold In64; omega) (by unfold In64; omega) c1 w_)
  have Q3 := Lib.hid (fun w_ => UC'.out v (y + 1) s (true) (by unfold In64; omega) (by unfold In64; omega) (by unfold In64; omega) ⟨fun _ => c3, fun _ => rfl⟩ w_)
  have Q4 := Lib.hid (fun w_ => UC'.out v (0) s (z == 0) (by unfold In64; omega) (by unfold In64; omega) (by unfold In64; omega) c4 w_)
  have Q5 := Lib.hid (fun w_ => UC'.out v (a) s (decide (z ≤ 131072 * a)) (by unfold In64; omega) (by unfold In64; omega) (by unfold In64; omega) c5 w_)
  have g1 : min a b = lo := by rw [← e1]; split <;> omega
  have g2 : max a b = hi := by rw [← e2]; split <;> omega
  have ew : IntKind.i64.wrap z = z := by rw [IntKind.wrap_i64]; omega
  have ew2 : IntKind.i64.wrap (v * s) = z := by rw [ez, ew]
  subst eu
  clear c1 c3 c4 c5
  go_enter Tryd.func6, Tryd.ntmps6
  go_wp2_with fail
  refine (AW'.out _ (Tens.kept T.out (by (repeat (first | with_reducible exact Kept.refl _ | with_reducible apply Kept.drew | with_reducible apply Kept.alloc | ((with_reducible apply Kept.set); focus (simp <;> omega)) | ((with_reducible apply Kept.via); focus with_reducible assumption)))))).mono ?_
  rintro e w20 ⟨rfl, k20⟩
  go_wp2_with fail
  refine (Q1.out _).mono ?_
  rintro e w21 ⟨rfl, k21⟩
  go_wp2_with fail
  refine (Q3.out _).mono ?_
  rintro e w22 ⟨rfl, k22⟩
  go_wp2_with fail
  refine (Q4.out _).mono ?_
  rintro e w23 ⟨rfl, k23⟩
  go_wp2_with fail
  refine (Q5.out _).mono ?_
  rintro e w24 ⟨rfl, k24⟩
  go_wp2
  go_ret
  exact ⟨rfl, (by (repeat (first | with_reducible exact Kept.refl _ | with_reducible apply Kept.drew | with_reducible apply Kept.alloc | ((with_reducible apply Kept.set); focus (simp <;> omega)) | ((with_reducible apply Kept.via); focus with_reducible assumption))))⟩
set_option maxRecDepth 100000 in
set_option maxHeartbeats 1600000 in
theorem used19_up (GC : GdCheckC) (FC : GdFirstC) (IC : GdIdleC) (PC : GdPauseC) (UC : GdUsedC) (YC : GdPartsC) (EC : ECheckC) (BC : EBeginC) {v a b s z y lo hi : Int} {u1 : Bool} (v0 : 0 ≤ v) (v1 : v ≤ 4294967295) (a0 : 0 ≤ a) (a1 : a ≤ 4294967295) (b0 : 0 ≤ b) (b1 : b ≤ 4294967295) (s0 : 0 ≤ s) (s1 : s ≤ 65535) (l0 : 0 ≤ lo) (l1 : lo ≤ 4294967295) (h0 : 0 ≤ hi) (h1 : hi ≤ 4294967295) (e1 : (if b < a then b else a) = lo) (e2 : (if a < b then b else a) = hi) (ez : v * s = z) (z0 : 0 ≤ z) (z1 : z ≤ 281470681677825) (ey : z / 65536 = y) (y0 : 0 ≤ y) (y1 : y ≤ 4294901760) (c1 : u1 = true ↔ UsedW v lo s) (c3 : UsedW v (y + 1) s) (c4 : (z == 0) = true ↔ UsedW v 0 s) (c5 : decide (z ≤ 131072 * a) = true ↔ UsedW v a s) (c2 : UsedW v hi s) (eu : u1 = true)  (w : World) (T_ : Tens w) : Calls Tryd.prog 6 #[.int .u32 v, .int .u32 a, .int .u32 b, .int .u16 s] w fun e w' => e = .returned (.bool true) ∧ Kept w w' := by
  have GC' := Lib.hid GC
  have FC' := Lib.hid FC
  have IC' := Lib.hid IC
  have PC' := Lib.hid PC
  have UC' := Lib.hid UC
  have YC' := Lib.hid YC
  have EC' := Lib.hid EC
  have BC' := Lib.hid BC
  have AW' := Lib.hid (fun w TT_ => awake19 GC FC IC PC UC YC EC BC w TT_)
  clear GC FC IC PC UC YC EC BC
  have T := Lib.hid T_
  clear T_
  have Q1 := Lib.hid (fun w_ => UC'.out v (lo) s (u1) (by unfold In64; omega) (by unfold In64; omega) (by unfold In64; omega) c1 w_)
  have Q3 := Lib.hid (fun w_ => UC'.out v (y + 1) s (true) (by unfold In64; omega) (by unfold In64; omega) (by unfold In64; omega) ⟨fun _ => c3, fun _ => rfl⟩ w_)
  have Q4 := Lib.hid (fun w_ => UC'.out v (0) s (z == 0) (by unfold In64; omega) (by unfold In64; omega) (by unfold In64; omega) c4 w_)
  have Q5 := Lib.hid (fun w_ => UC'.out v (a) s (decide (z ≤ 131072 * a)) (by unfold In64; omega) (by unfold In64; omega) (by unfold In64; omega) c5 w_)
  have g1 : min a b = lo := by rw [← e1]; split <;> omega
  have g2 : max a b = hi := by rw [← e2]; split <;> omega
  have ew : IntKind.i64.wrap z = z := by rw [IntKind.wrap_i64]; omega
  have ew2 : IntKind.i64.wrap (v * s) = z := by rw [ez, ew]
  have Q2 := Lib.hid (fun w_ => UC'.out v (hi) s (true) (by unfold In64; omega) (by unfold In64; omega) (by unfold In64; omega) ⟨fun _ => c2, fun _ => rfl⟩ w_)
  subst eu
  clear c1 c3 c4 c5 c2
  go_enter Tryd.func6, Tryd.ntmps6
  go_wp2_with fail
  refine (AW'.out _ (Tens.kept T.out (by (repeat (first | with_reducible exact Kept.refl _ | with_reducible apply Kept.drew | with_reducible apply Kept.alloc | ((with_reducible apply Kept.set); focus (simp <;> omega)) | ((with_reducible apply Kept.via); focus with_reducible assumption)))))).mono ?_
  rintro e w20 ⟨rfl, k20⟩
  go_wp2_with fail
  refine (Q1.out _).mono ?_
  rintro e w21 ⟨rfl, k21⟩
  go_wp2_with fail
  refine (Q2.out _).mono ?_
  rintro e w22 ⟨rfl, k22⟩
  go_wp2_with fail
  refine (Q3.out _).mono ?_
  rintro e w23 ⟨rfl, k23⟩
  go_wp2_with fail
  refine (Q4.out _).mono ?_
  rintro e w24 ⟨rfl, k24⟩
  go_wp2_with fail
  refine (Q5.out _).mono ?_
  rintro e w25 ⟨rfl, k25⟩
  go_wp2
  go_ret
  exact ⟨rfl, (by (repeat (first | with_reducible exact Kept.refl _ | with_reducible apply Kept.drew | with_reducible apply Kept.alloc | ((with_reducible apply Kept.set); focus (simp <;> omega)) | ((with_reducible apply Kept.via); focus with_reducible assumption))))⟩
theorem used_more {v a b s : Int} (h : UsedW v a s) (l : a ≤ b) : UsedW v b s := by
  unfold UsedW at *
  refine ⟨⟨h.1.1, by omega, h.1.2.2⟩, ?_⟩
  have := h.2
  generalize v * s = z at *
  omega
theorem guideUsed_walk (GC : GdCheckC) (FC : GdFirstC) (IC : GdIdleC) (PC : GdPauseC) (UC : GdUsedC) (YC : GdPartsC) (EC : ECheckC) (BC : EBeginC) (v a b s : Int) (w : World) (T_ : Tens w) (v0 : 0 ≤ v) (v1 : v ≤ 4294967295) (a0 : 0 ≤ a) (a1 : a ≤ 4294967295) (b0 : 0 ≤ b) (b1 : b ≤ 4294967295) (s0 : 0 ≤ s) (s1 : s ≤ 65535) : Calls Tryd.prog 6 #[.int .u32 v, .int .u32 a, .int .u32 b, .int .u16 s] w fun e w' => e = .returned (.bool true) ∧ Kept w w' := by
  have z0 : 0 ≤ v * s := Int.mul_nonneg v0 s0
  have z1 : v * s ≤ 281470681677825 := by have := Int.mul_le_mul v1 s1 s0 (by omega); omega
  have c3 : UsedW v (v * s / 65536 + 1) s := by
    unfold UsedW
    generalize v * s = z at *
    omega
  have c4 : (v * s == 0) = true ↔ UsedW v 0 s := by
    unfold UsedW
    generalize v * s = z at *
    simp; omega
  have c5 : decide (v * s ≤ 131072 * a) = true ↔ UsedW v a s := by
    unfold UsedW
    generalize v * s = z at *
    simp; omega
  have lo : 0 ≤ (if b < a then b else a) ∧ (if b < a then b else a) ≤ 4294967295 := by split <;> omega
  have hi : 0 ≤ (if a < b then b else a) ∧ (if a < b then b else a) ≤ 4294967295 := by split <;> omega
  by_cases u : UsedW v (if b < a then b else a) s
  · exact used19_up GC FC IC PC UC YC EC BC v0 v1 a0 a1 b0 b1 s0 s1 lo.1 lo.2 hi.1 hi.2 rfl rfl rfl z0 z1 rfl (by omega) (by omega) (u1 := true) (by simp [u]) c3 c4 c5 (used_more u (by split <;> split <;> omega)) rfl w T_
  · exact used19_no GC FC IC PC UC YC EC BC v0 v1 a0 a1 b0 b1 s0 s1 lo.1 lo.2 hi.1 hi.2 rfl rfl rfl z0 z1 rfl (by omega) (by omega) (u1 := false) (by simp [u]) c3 c4 c5 rfl w T_
end Go.Proofs.YtdbikeehoildlaaDoor
