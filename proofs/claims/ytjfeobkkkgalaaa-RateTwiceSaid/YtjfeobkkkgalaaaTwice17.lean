/-
  The walk of RateTwice: it answers true, if the calls do what they are to do.
-/
import Derived.Test.YtjfeobkkkgalaaaAwake17
import Derived.Deep.RegionHeld3
import Derived.Deep.DeepCutAuto
namespace Go.Proofs.Ytjfeobkkkgalaaa
open Go.RowKit Go.BigFrame
set_option linter.unusedVariables false

theorem double_way {n k : Int} (q : (2 * n ≤ k ∧ k - 2 * n ≤ 1) ∨ (n = 1 ∧ k ≤ 2)) (_n0 : 1 ≤ n) (k0 : 1 ≤ k) : (2 * n ≤ k ∧ k - 2 * n ≤ 1) ∨ (n = 1 ∧ k = 1) := by omega
set_option maxRecDepth 100000 in
set_option maxHeartbeats 1600000 in
theorem twice17_ib (GC : VGainC) (FC : VFirstC) (OC : VOfC) (SC : VSpanC) {v sg q m f n k : Int} {b s : Bool} (v0 : 0 ≤ v) (v1 : v ≤ 4294967295) (g0 : 0 ≤ sg) (g1 : sg ≤ 65535) (hq : sg.tdiv 2 = q) (q0 : 0 ≤ q) (q1 : q ≤ 32767) (hw64 : wrap64 q = q) (hm : In64 m) (hf : In64 f) (f0 : ofT v (1 + q) b m f s = n) (f1 : ofT (2 * v) (1 + q) b m f s = k) (n0 : 1 ≤ n) (n1 : n ≤ 343592140800000000) (k0 : 1 ≤ k) (k1 : k ≤ 343592140800000000) (h2 : 32767 < 1 + q) (o0 : 2 * n ≤ k) (o1 : k - 2 * n ≤ 1) (w : World) : Calls Try.prog 8 #[.int .u32 v, .int .u16 sg, .agg #[.bool b, .int .i64 m, .int .i64 f], .bool s] w fun e w' => e = .returned (.bool true) ∧ Kept w w' := by
  have GC' := Lib.hid GC
  have FC' := Lib.hid FC
  have OC' := Lib.hid OC
  have SC' := Lib.hid SC
  have AW' := Lib.hid (fun w => awake17 GC FC OC SC w)
  clear GC FC OC SC
  have Q0 := Lib.hid (fun w_ => OC'.out v (1 + q) b m f s n (by unfold In64; omega) (by unfold In64; omega) hm hf f0 w_)
  have Q1 := Lib.hid (fun w_ => OC'.out (2 * v) (1 + q) b m f s k (by unfold In64; omega) (by unfold In64; omega) hm hf f1 w_)
  have e0 : decide (32767 < 1 + q) = true := by simp [h2]
  clear f0 f1 hm hf
  have d0 : decide (2 * n ≤ k) = true := by simp [o0]
  have d1 : decide (k - 2 * n ≤ 1) = true := by simp [o1]
  go_enter Try.func8, Try.ntmps8
  go_upto_region 1 with fail
  generalize hW : World.alloc w (.cells #[.bool b, .int .i64 m, .int .i64 f] 23) = W_r
  have K_r : Kept w W_r := by subst hW; exact (Kept.refl _).alloc _ _
  have H_r := Lib.hid (show W_r.cell? ⟨w.heap.size, 0, none⟩ = some (.bool b) ∧ W_r.cell? ⟨w.heap.size, 1, none⟩ = some (.int .i64 m) ∧ W_r.cell? ⟨w.heap.size, 2, none⟩ = some (.int .i64 f) from by subst hW; simp [go_sem])
  clear hW
  generalize w.heap.size = g_r at *
  go_wp2_with fail
  refine (AW'.out _).mono ?_
  rintro e w20 ⟨rfl, k20⟩
  obtain ⟨cr0, cr1, cr2⟩ := Kept.all3 (show Kept W_r w20 from (by (repeat (first | with_reducible exact Kept.refl _ | with_reducible apply Kept.drew | with_reducible apply Kept.alloc | ((with_reducible apply Kept.set); focus (simp <;> omega)) | ((with_reducible apply Kept.via); focus with_reducible assumption))))) H_r
  go_wp2_with fail
  refine (Q0.out _).mono ?_
  rintro e w21 ⟨rfl, k21⟩
  clear cr0 cr1 cr2
  obtain ⟨cr0, cr1, cr2⟩ := Kept.all3 (show Kept W_r w21 from (by (repeat (first | with_reducible exact Kept.refl _ | with_reducible apply Kept.drew | with_reducible apply Kept.alloc | ((with_reducible apply Kept.set); focus (simp <;> omega)) | ((with_reducible apply Kept.via); focus with_reducible assumption))))) H_r
  go_wp2_with fail
  refine (Q1.out _).mono ?_
  rintro e w22 ⟨rfl, k22⟩
  clear cr0 cr1 cr2
  go_wp2
  go_ret
  exact ⟨rfl, (by (repeat (first | with_reducible exact Kept.refl _ | with_reducible apply Kept.drew | with_reducible apply Kept.alloc | ((with_reducible apply Kept.set); focus (simp <;> omega)) | ((with_reducible apply Kept.via); focus with_reducible assumption))))⟩
set_option maxRecDepth 100000 in
set_option maxHeartbeats 1600000 in
theorem twice17_is (GC : VGainC) (FC : VFirstC) (OC : VOfC) (SC : VSpanC) {v sg q m f n k : Int} {b s : Bool} (v0 : 0 ≤ v) (v1 : v ≤ 4294967295) (g0 : 0 ≤ sg) (g1 : sg ≤ 65535) (hq : sg.tdiv 2 = q) (q0 : 0 ≤ q) (q1 : q ≤ 32767) (hw64 : wrap64 q = q) (hm : In64 m) (hf : In64 f) (f0 : ofT v (1 + q) b m f s = n) (f1 : ofT (2 * v) (1 + q) b m f s = k) (n0 : 1 ≤ n) (n1 : n ≤ 343592140800000000) (k0 : 1 ≤ k) (k1 : k ≤ 343592140800000000) (h2 : 1 + q ≤ 32767) (f2 : ofT v (2 * (1 + q)) b m f s = k) (o0 : 2 * n ≤ k) (o1 : k - 2 * n ≤ 1) (w : World) : Calls Try.prog 8 #[.int .u32 v, .int .u16 sg, .agg #[.bool b, .int .i64 m, .int .i64 f], .bool s] w fun e w' => e = .returned (.bool true) ∧ Kept w w' := by
  have GC' := Lib.hid GC
  have FC' := Lib.hid FC
  have OC' := Lib.hid OC
  have SC' := Lib.hid SC
  have AW' := Lib.hid (fun w => awake17 GC FC OC SC w)
  clear GC FC OC SC
  have Q0 := Lib.hid (fun w_ => OC'.out v (1 + q) b m f s n (by unfold In64; omega) (by unfold In64; omega) hm hf f0 w_)
  have Q1 := Lib.hid (fun w_ => OC'.out (2 * v) (1 + q) b m f s k (by unfold In64; omega) (by unfold In64; omega) hm hf f1 w_)
  have e0 : decide (32767 < 1 + q) = false := by simp; omega
  have Q2 := Lib.hid (fun w_ => OC'.out v (2 * (1 + q)) b m f s k (by unfold In64; omega) (by unfold In64; omega) hm hf f2 w_)
  clear f0 f1 hm hf f2
  have d0 : decide (2 * n ≤ k) = true := by simp [o0]
  have d1 : decide (k - 2 * n ≤ 1) = true := by simp [o1]
  go_enter Try.func8, Try.ntmps8
  go_upto_region 1 with fail
  generalize hW : World.alloc w (.cells #[.bool b, .int .i64 m, .int .i64 f] 23) = W_r
  have K_r : Kept w W_r := by subst hW; exact (Kept.refl _).alloc _ _
  have H_r := Lib.hid (show W_r.cell? ⟨w.heap.size, 0, none⟩ = some (.bool b) ∧ W_r.cell? ⟨w.heap.size, 1, none⟩ = some (.int .i64 m) ∧ W_r.cell? ⟨w.heap.size, 2, none⟩ = some (.int .i64 f) from by subst hW; simp [go_sem])
  clear hW
  generalize w.heap.size = g_r at *
  go_wp2_with fail
  refine (AW'.out _).mono ?_
  rintro e w20 ⟨rfl, k20⟩
  obtain ⟨cr0, cr1, cr2⟩ := Kept.all3 (show Kept W_r w20 from (by (repeat (first | with_reducible exact Kept.refl _ | with_reducible apply Kept.drew | with_reducible apply Kept.alloc | ((with_reducible apply Kept.set); focus (simp <;> omega)) | ((with_reducible apply Kept.via); focus with_reducible assumption))))) H_r
  go_wp2_with fail
  refine (Q0.out _).mono ?_
  rintro e w21 ⟨rfl, k21⟩
  clear cr0 cr1 cr2
  obtain ⟨cr0, cr1, cr2⟩ := Kept.all3 (show Kept W_r w21 from (by (repeat (first | with_reducible exact Kept.refl _ | with_reducible apply Kept.drew | with_reducible apply Kept.alloc | ((with_reducible apply Kept.set); focus (simp <;> omega)) | ((with_reducible apply Kept.via); focus with_reducible assumption))))) H_r
  go_wp2_with fail
  refine (Q1.out _).mono ?_
  rintro e w22 ⟨rfl, k22⟩
  clear cr0 cr1 cr2
  obtain ⟨cr0, cr1, cr2⟩ := Kept.all3 (show Kept W_r w22 from (by (repeat (first | with_reducible exact Kept.refl _ | with_reducible apply Kept.drew | with_reducible apply Kept.alloc | ((with_reducible apply Kept.set); focus (simp <;> omega)) | ((with_reducible apply Kept.via); focus with_reducible assumption))))) H_r
  go_wp2_with fail
  refine (Q2.out _).mono ?_
  rintro e w23 ⟨rfl, k23⟩
  clear cr0 cr1 cr2
  go_wp2
  go_ret
  exact ⟨rfl, (by (repeat (first | with_reducible exact Kept.refl _ | with_reducible apply Kept.drew | with_reducible apply Kept.alloc | ((with_reducible apply Kept.set); focus (simp <;> omega)) | ((with_reducible apply Kept.via); focus with_reducible assumption))))⟩
set_option maxRecDepth 100000 in
set_option maxHeartbeats 1600000 in
theorem twice17_ob (GC : VGainC) (FC : VFirstC) (OC : VOfC) (SC : VSpanC) {v sg q m f n k : Int} {b s : Bool} (v0 : 0 ≤ v) (v1 : v ≤ 4294967295) (g0 : 0 ≤ sg) (g1 : sg ≤ 65535) (hq : sg.tdiv 2 = q) (q0 : 0 ≤ q) (q1 : q ≤ 32767) (hw64 : wrap64 q = q) (hm : In64 m) (hf : In64 f) (f0 : ofT v (1 + q) b m f s = n) (f1 : ofT (2 * v) (1 + q) b m f s = k) (n0 : 1 ≤ n) (n1 : n ≤ 343592140800000000) (k0 : 1 ≤ k) (k1 : k ≤ 343592140800000000) (h2 : 32767 < 1 + q) (h : n = 1) (o1 : k = 1) (w : World) : Calls Try.prog 8 #[.int .u32 v, .int .u16 sg, .agg #[.bool b, .int .i64 m, .int .i64 f], .bool s] w fun e w' => e = .returned (.bool true) ∧ Kept w w' := by
  have GC' := Lib.hid GC
  have FC' := Lib.hid FC
  have OC' := Lib.hid OC
  have SC' := Lib.hid SC
  have AW' := Lib.hid (fun w => awake17 GC FC OC SC w)
  clear GC FC OC SC
  have Q0 := Lib.hid (fun w_ => OC'.out v (1 + q) b m f s n (by unfold In64; omega) (by unfold In64; omega) hm hf f0 w_)
  have Q1 := Lib.hid (fun w_ => OC'.out (2 * v) (1 + q) b m f s k (by unfold In64; omega) (by unfold In64; omega) hm hf f1 w_)
  have e0 : decide (32767 < 1 + q) = true := by simp [h2]
  clear f0 f1 hm hf
  subst h o1
  go_enter Try.func8, Try.ntmps8
  go_upto_region 1 with fail
  generalize hW : World.alloc w (.cells #[.bool b, .int .i64 m, .int .i64 f] 23) = W_r
  have K_r : Kept w W_r := by subst hW; exact (Kept.refl _).alloc _ _
  have H_r := Lib.hid (show W_r.cell? ⟨w.heap.size, 0, none⟩ = some (.bool b) ∧ W_r.cell? ⟨w.heap.size, 1, none⟩ = some (.int .i64 m) ∧ W_r.cell? ⟨w.heap.size, 2, none⟩ = some (.int .i64 f) from by subst hW; simp [go_sem])
  clear hW
  generalize w.heap.size = g_r at *
  go_wp2_with fail
  refine (AW'.out _).mono ?_
  rintro e w20 ⟨rfl, k20⟩
  obtain ⟨cr0, cr1, cr2⟩ := Kept.all3 (show Kept W_r w20 from (by (repeat (first | with_reducible exact Kept.refl _ | with_reducible apply Kept.drew | with_reducible apply Kept.alloc | ((with_reducible apply Kept.set); focus (simp <;> omega)) | ((with_reducible apply Kept.via); focus with_reducible assumption))))) H_r
  go_wp2_with fail
  refine (Q0.out _).mono ?_
  rintro e w21 ⟨rfl, k21⟩
  clear cr0 cr1 cr2
  obtain ⟨cr0, cr1, cr2⟩ := Kept.all3 (show Kept W_r w21 from (by (repeat (first | with_reducible exact Kept.refl _ | with_reducible apply Kept.drew | with_reducible apply Kept.alloc | ((with_reducible apply Kept.set); focus (simp <;> omega)) | ((with_reducible apply Kept.via); focus with_reducible assumption))))) H_r
  go_wp2_with fail
  refine (Q1.out _).mono ?_
  rintro e w22 ⟨rfl, k22⟩
  clear cr0 cr1 cr2
  go_wp2
  go_ret
  exact ⟨rfl, (by (repeat (first | with_reducible exact Kept.refl _ | with_reducible apply Kept.drew | with_reducible apply Kept.alloc | ((with_reducible apply Kept.set); focus (simp <;> omega)) | ((with_reducible apply Kept.via); focus with_reducible assumption))))⟩
set_option maxRecDepth 100000 in
set_option maxHeartbeats 1600000 in
theorem twice17_os (GC : VGainC) (FC : VFirstC) (OC : VOfC) (SC : VSpanC) {v sg q m f n k : Int} {b s : Bool} (v0 : 0 ≤ v) (v1 : v ≤ 4294967295) (g0 : 0 ≤ sg) (g1 : sg ≤ 65535) (hq : sg.tdiv 2 = q) (q0 : 0 ≤ q) (q1 : q ≤ 32767) (hw64 : wrap64 q = q) (hm : In64 m) (hf : In64 f) (f0 : ofT v (1 + q) b m f s = n) (f1 : ofT (2 * v) (1 + q) b m f s = k) (n0 : 1 ≤ n) (n1 : n ≤ 343592140800000000) (k0 : 1 ≤ k) (k1 : k ≤ 343592140800000000) (h2 : 1 + q ≤ 32767) (f2 : ofT v (2 * (1 + q)) b m f s = k) (h : n = 1) (o1 : k = 1) (w : World) : Calls Try.prog 8 #[.int .u32 v, .int .u16 sg, .agg #[.bool b, .int .i64 m, .int .i64 f], .bool s] w fun e w' => e = .returned (.bool true) ∧ Kept w w' := by
  have GC' := Lib.hid GC
  have FC' := Lib.hid FC
  have OC' := Lib.hid OC
  have SC' := Lib.hid SC
  have AW' := Lib.hid (fun w => awake17 GC FC OC SC w)
  clear GC FC OC SC
  have Q0 := Lib.hid (fun w_ => OC'.out v (1 + q) b m f s n (by unfold In64; omega) (by unfold In64; omega) hm hf f0 w_)
  have Q1 := Lib.hid (fun w_ => OC'.out (2 * v) (1 + q) b m f s k (by unfold In64; omega) (by unfold In64; omega) hm hf f1 w_)
  have e0 : decide (32767 < 1 + q) = false := by simp; omega
  have Q2 := Lib.hid (fun w_ => OC'.out v (2 * (1 + q)) b m f s k (by unfold In64; omega) (by unfold In64; omega) hm hf f2 w_)
  clear f0 f1 hm hf f2
  subst h o1
  go_enter Try.func8, Try.ntmps8
  go_upto_region 1 with fail
  generalize hW : World.alloc w (.cells #[.bool b, .int .i64 m, .int .i64 f] 23) = W_r
  have K_r : Kept w W_r := by subst hW; exact (Kept.refl _).alloc _ _
  have H_r := Lib.hid (show W_r.cell? ⟨w.heap.size, 0, none⟩ = some (.bool b) ∧ W_r.cell? ⟨w.heap.size, 1, none⟩ = some (.int .i64 m) ∧ W_r.cell? ⟨w.heap.size, 2, none⟩ = some (.int .i64 f) from by subst hW; simp [go_sem])
  clear hW
  generalize w.heap.size = g_r at *
  go_wp2_with fail
  refine (AW'.out _).mono ?_
  rintro e w20 ⟨rfl, k20⟩
  obtain ⟨cr0, cr1, cr2⟩ := Kept.all3 (show Kept W_r w20 from (by (repeat (first | with_reducible exact Kept.refl _ | with_reducible apply Kept.drew | with_reducible apply Kept.alloc | ((with_reducible apply Kept.set); focus (simp <;> omega)) | ((with_reducible apply Kept.via); focus with_reducible assumption))))) H_r
  go_wp2_with fail
  refine (Q0.out _).mono ?_
  rintro e w21 ⟨rfl, k21⟩
  clear cr0 cr1 cr2
  obtain ⟨cr0, cr1, cr2⟩ := Kept.all3 (show Kept W_r w21 from (by (repeat (first | with_reducible exact Kept.refl _ | with_reducible apply Kept.drew | with_reducible apply Kept.alloc | ((with_reducible apply Kept.set); focus (simp <;> omega)) | ((with_reducible apply Kept.via); focus with_reducible assumption))))) H_r
  go_wp2_with fail
  refine (Q1.out _).mono ?_
  rintro e w22 ⟨rfl, k22⟩
  clear cr0 cr1 cr2
  obtain ⟨cr0, cr1, cr2⟩ := Kept.all3 (show Kept W_r w22 from (by (repeat (first | with_reducible exact Kept.refl _ | with_reducible apply Kept.drew | with_reducible apply Kept.alloc | ((with_reducible apply Kept.set); focus (simp <;> omega)) | ((with_reducible apply Kept.via); focus with_reducible assumption))))) H_r
  go_wp2_with fail
  refine (Q2.out _).mono ?_
  rintro e w23 ⟨rfl, k23⟩
  clear cr0 cr1 cr2
  go_wp2
  go_ret
  exact ⟨rfl, (by (repeat (first | with_reducible exact Kept.refl _ | with_reducible apply Kept.drew | with_reducible apply Kept.alloc | ((with_reducible apply Kept.set); focus (simp <;> omega)) | ((with_reducible apply Kept.via); focus with_reducible assumption))))⟩
theorem rateTwice_walk (GC : VGainC) (FC : VFirstC) (OC : VOfC) (SC : VSpanC) (v sg : Int) (b : Bool) (m f : Int) (s : Bool) (w : World) (v0 : 0 ≤ v) (v1 : v ≤ 4294967295) (g0 : 0 ≤ sg) (g1 : sg ≤ 65535) (hm : In64 m) (hf : In64 f) : Calls Try.prog 8 #[.int .u32 v, .int .u16 sg, .agg #[.bool b, .int .i64 m, .int .i64 f], .bool s] w fun e w' => e = .returned (.bool true) ∧ Kept w w' := by
  have hq : sg.tdiv 2 = sg / 2 := Int.tdiv_eq_ediv_of_nonneg g0
  have q := of_twice (w := v) (g := 1 + sg / 2) b m f s ⟨v0, v1⟩ (by omega)
  have r1 := of_range v (1 + sg / 2) b m f s
  have r2 := of_range (2 * v) (1 + sg / 2) b m f s
  have e := double_way q.1 r1.1 r2.1
  by_cases h : 32767 < 1 + sg / 2
  · rcases e with e | e
    · exact twice17_ib GC FC OC SC v0 v1 g0 g1 hq (by omega) (by omega) (by unfold wrap64; omega) hm hf rfl rfl r1.1 r1.2 r2.1 r2.2 h e.1 e.2 w
    · exact twice17_ob GC FC OC SC v0 v1 g0 g1 hq (by omega) (by omega) (by unfold wrap64; omega) hm hf rfl rfl r1.1 r1.2 r2.1 r2.2 h e.1 e.2 w
  · have x := q.2 (by omega)
    rcases e with e | e
    · exact twice17_is GC FC OC SC v0 v1 g0 g1 hq (by omega) (by omega) (by unfold wrap64; omega) hm hf rfl rfl r1.1 r1.2 r2.1 r2.2 (by omega) x e.1 e.2 w
    · exact twice17_os GC FC OC SC v0 v1 g0 g1 hq (by omega) (by omega) (by unfold wrap64; omega) hm hf rfl rfl r1.1 r1.2 r2.1 r2.2 (by omega) x e.1 e.2 w
end Go.Proofs.Ytjfeobkkkgalaaa
