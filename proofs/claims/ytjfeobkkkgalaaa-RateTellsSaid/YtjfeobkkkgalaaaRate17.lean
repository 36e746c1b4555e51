/-
  What the calls of package rate do.
-/
import Derived.Test.YtjfeobkkkgalaaaCon17
import Derived.Test.YtjfeobkkkgalaaaPartA04
import Derived.Test.YtjfeobkkkgalaaaRtt06
import Derived.Test.YtjfeobkkkgalaaaRoom
import Derived.OwnWalk
import Derived.Deep.RegionHeld3
import Derived.Deep.RegionWith
import Derived.Deep.DeepCutAuto
namespace Go.Proofs.Ytjfeobkkkgalaaa
open Go.RowKit Go.BigFrame
set_option linter.unusedVariables false

set_option maxRecDepth 100000 in
set_option maxHeartbeats 1600000 in
theorem vtake {lo hi n m r : Int} (h1 : (if hi < n then hi else n) = m) (h2 : (if lo < m then m else lo) = r) (w : World) : Calls Try.prog 38 #[.agg #[.int .i64 lo, .int .i64 hi], .int .i64 n] w fun e w' => e = .returned (.int .i64 r) ∧ Kept w w' := by
  have g1 : min n hi = m := by rw [← h1]; split <;> omega
  have g2 : max lo m = r := by rw [← h2]; split <;> omega
  go_enter Try.func38, Try.ntmps38
  go_wp2
  go_ret
  exact ⟨rfl, (by (repeat (first | with_reducible exact Kept.refl _ | with_reducible apply Kept.drew | with_reducible apply Kept.alloc | ((with_reducible apply Kept.set); focus (simp <;> omega)) | ((with_reducible apply Kept.via); focus with_reducible assumption))))⟩
set_option maxRecDepth 100000 in
set_option maxHeartbeats 1600000 in
theorem vwindows  (w : World) : Calls Try.prog 18 #[] w fun e w' => e = .returned (.func (.func 38) #[.agg #[.int .i64 0, .int .i64 68719476736]] #[]) ∧ Kept w w' := by
  go_enter Try.func18, Try.ntmps18
  go_wp2
  go_ret
  exact ⟨rfl, (by (repeat (first | with_reducible exact Kept.refl _ | with_reducible apply Kept.drew | with_reducible apply Kept.alloc | ((with_reducible apply Kept.set); focus (simp <;> omega)) | ((with_reducible apply Kept.via); focus with_reducible assumption))))⟩
set_option maxRecDepth 100000 in
set_option maxHeartbeats 1600000 in
theorem vsegments  (w : World) : Calls Try.prog 19 #[] w fun e w' => e = .returned (.func (.func 38) #[.agg #[.int .i64 1, .int .i64 65535]] #[]) ∧ Kept w w' := by
  go_enter Try.func19, Try.ntmps19
  go_wp2
  go_ret
  exact ⟨rfl, (by (repeat (first | with_reducible exact Kept.refl _ | with_reducible apply Kept.drew | with_reducible apply Kept.alloc | ((with_reducible apply Kept.set); focus (simp <;> omega)) | ((with_reducible apply Kept.via); focus with_reducible assumption))))⟩
set_option maxRecDepth 100000 in
set_option maxHeartbeats 1600000 in
theorem vtimes  (w : World) : Calls Try.prog 29 #[] w fun e w' => e = .returned (.func (.func 38) #[.agg #[.int .i64 0, .int .i64 1099511627776]] #[]) ∧ Kept w w' := by
  go_enter Try.func29, Try.ntmps29
  go_wp2
  go_ret
  exact ⟨rfl, (by (repeat (first | with_reducible exact Kept.refl _ | with_reducible apply Kept.drew | with_reducible apply Kept.alloc | ((with_reducible apply Kept.set); focus (simp <;> omega)) | ((with_reducible apply Kept.via); focus with_reducible assumption))))⟩
set_option maxRecDepth 100000 in
set_option maxHeartbeats 1600000 in
theorem vatLeast {lo : Int} (w : World) : Calls Try.prog 22 #[.int .i64 lo] w fun e w' => e = .returned (.func (.func 38) #[.agg #[.int .i64 lo, .int .i64 9223372036854775807]] #[]) ∧ Kept w w' := by
  go_enter Try.func22, Try.ntmps22
  go_wp2
  go_ret
  exact ⟨rfl, (by (repeat (first | with_reducible exact Kept.refl _ | with_reducible apply Kept.drew | with_reducible apply Kept.alloc | ((with_reducible apply Kept.set); focus (simp <;> omega)) | ((with_reducible apply Kept.via); focus with_reducible assumption))))⟩
set_option maxRecDepth 100000 in
set_option maxHeartbeats 1600000 in
theorem vgain_t  (w : World) : Calls Try.prog 10 #[.bool true] w fun e w' => e = .returned (.tuple #[.int .i64 2, .int .i64 1]) ∧ Kept w w' := by
  go_enter Try.func10, Try.ntmps10
  go_wp2
  simp [bodyPost, results, Try.results10, go_sem, *]
  exact (by (repeat (first | with_reducible exact Kept.refl _ | with_reducible apply Kept.drew | with_reducible apply Kept.alloc | ((with_reducible apply Kept.set); focus (simp <;> omega)) | ((with_reducible apply Kept.via); focus with_reducible assumption))))
set_option maxRecDepth 100000 in
set_option maxHeartbeats 1600000 in
theorem vgain_f  (w : World) : Calls Try.prog 10 #[.bool false] w fun e w' => e = .returned (.tuple #[.int .i64 5, .int .i64 4]) ∧ Kept w w' := by
  go_enter Try.func10, Try.ntmps10
  go_wp2
  simp [bodyPost, results, Try.results10, go_sem, *]
  exact (by (repeat (first | with_reducible exact Kept.refl _ | with_reducible apply Kept.drew | with_reducible apply Kept.alloc | ((with_reducible apply Kept.set); focus (simp <;> omega)) | ((with_reducible apply Kept.via); focus with_reducible assumption))))
theorem vgain_c : VGainC := fun s a b ha hb w => by
  subst ha hb
  cases s
  · exact vgain_f w
  · exact vgain_t w
set_option maxRecDepth 100000 in
set_option maxHeartbeats 1600000 in
theorem vfirst  (w : World) : Calls Try.prog 11 #[] w fun e w' => e = .returned (.int .i64 100000) ∧ Kept w w' := by
  go_enter Try.func11, Try.ntmps11
  go_wp2
  go_ret
  exact ⟨rfl, (by (repeat (first | with_reducible exact Kept.refl _ | with_reducible apply Kept.drew | with_reducible apply Kept.alloc | ((with_reducible apply Kept.set); focus (simp <;> omega)) | ((with_reducible apply Kept.via); focus with_reducible assumption))))⟩
theorem vfirst_c : VFirstC := vfirst
set_option maxRecDepth 100000 in
set_option maxHeartbeats 1600000 in
theorem vth_n {m f  : Int} (w : World) (FI : ∀ w, Calls Try.prog 11 #[] w fun e w' => e = .returned (.int .i64 100000) ∧ Kept w w') : Calls Try.prog 21 #[.agg #[.bool false, .int .i64 m, .int .i64 f]] w fun e w' => e = .returned (.int .i64 100000) ∧ Kept w w' := by
  have FI' := Lib.hid FI
  clear FI
  go_enter Try.func21, Try.ntmps21
  go_upto_region 1 with fail
  generalize hW : World.alloc w (.cells #[.bool false, .int .i64 m, .int .i64 f] 23) = W_r
  have K_r : Kept w W_r := by subst hW; exact (Kept.refl _).alloc _ _
  have H_r := Lib.hid (show W_r.cell? ⟨w.heap.size, 0, none⟩ = some (.bool false) ∧ W_r.cell? ⟨w.heap.size, 1, none⟩ = some (.int .i64 m) ∧ W_r.cell? ⟨w.heap.size, 2, none⟩ = some (.int .i64 f) from by subst hW; simp [go_sem])
  clear hW
  generalize w.heap.size = g_r at *
  obtain ⟨cr0, cr1, cr2⟩ := Kept.all3 (show Kept W_r W_r from (by (repeat (first | with_reducible exact Kept.refl _ | with_reducible apply Kept.drew | with_reducible apply Kept.alloc | ((with_reducible apply Kept.set); focus (simp <;> omega)) | ((with_reducible apply Kept.via); focus with_reducible assumption))))) H_r
  go_wp2_with fail
  refine (FI'.out _).mono ?_
  rintro e w20 ⟨rfl, k20⟩
  go_wp2
  go_ret
  exact ⟨rfl, (by (repeat (first | with_reducible exact Kept.refl _ | with_reducible apply Kept.drew | with_reducible apply Kept.alloc | ((with_reducible apply Kept.set); focus (simp <;> omega)) | ((with_reducible apply Kept.via); focus with_reducible assumption))))⟩
set_option maxRecDepth 100000 in
set_option maxHeartbeats 1600000 in
theorem vth_b {m f  : Int} (w : World) (CK : ∀ w, Calls Try.prog 41 #[.agg #[.bool true, .int .i64 m, .int .i64 f]] w fun e w' => e = .returned (.bool false) ∧ Kept w w') (FI : ∀ w, Calls Try.prog 11 #[] w fun e w' => e = .returned (.int .i64 100000) ∧ Kept w w') : Calls Try.prog 21 #[.agg #[.bool true, .int .i64 m, .int .i64 f]] w fun e w' => e = .returned (.int .i64 100000) ∧ Kept w w' := by
  have CK' := Lib.hid CK
  have FI' := Lib.hid FI
  clear CK FI
  go_enter Try.func21, Try.ntmps21
  go_upto_region 1 with fail
  generalize hW : World.alloc w (.cells #[.bool true, .int .i64 m, .int .i64 f] 23) = W_r
  have K_r : Kept w W_r := by subst hW; exact (Kept.refl _).alloc _ _
  have H_r := Lib.hid (show W_r.cell? ⟨w.heap.size, 0, none⟩ = some (.bool true) ∧ W_r.cell? ⟨w.heap.size, 1, none⟩ = some (.int .i64 m) ∧ W_r.cell? ⟨w.heap.size, 2, none⟩ = some (.int .i64 f) from by subst hW; simp [go_sem])
  clear hW
  generalize w.heap.size = g_r at *
  obtain ⟨cr0, cr1, cr2⟩ := Kept.all3 (show Kept W_r W_r from (by (repeat (first | with_reducible exact Kept.refl _ | with_reducible apply Kept.drew | with_reducible apply Kept.alloc | ((with_reducible apply Kept.set); focus (simp <;> omega)) | ((with_reducible apply Kept.via); focus with_reducible assumption))))) H_r
  obtain ⟨cr0, cr1, cr2⟩ := Kept.all3 (show Kept W_r W_r from (by (repeat (first | with_reducible exact Kept.refl _ | with_reducible apply Kept.drew | with_reducible apply Kept.alloc | ((with_reducible apply Kept.set); focus (simp <;> omega)) | ((with_reducible apply Kept.via); focus with_reducible assumption))))) H_r
  go_wp2_with fail
  refine (CK'.out _).mono ?_
  rintro e w20 ⟨rfl, k20⟩
  clear cr0 cr1 cr2
  go_wp2_with fail
  refine (FI'.out _).mono ?_
  rintro e w21 ⟨rfl, k21⟩
  go_wp2
  go_ret
  exact ⟨rfl, (by (repeat (first | with_reducible exact Kept.refl _ | with_reducible apply Kept.drew | with_reducible apply Kept.alloc | ((with_reducible apply Kept.set); focus (simp <;> omega)) | ((with_reducible apply Kept.via); focus with_reducible assumption))))⟩
set_option maxRecDepth 100000 in
set_option maxHeartbeats 1600000 in
theorem vth_y {m f n : Int} (w : World) (CK : ∀ w, Calls Try.prog 41 #[.agg #[.bool true, .int .i64 m, .int .i64 f]] w fun e w' => e = .returned (.bool true) ∧ Kept w w') (ME : ∀ w, Calls Try.prog 42 #[.agg #[.bool true, .int .i64 m, .int .i64 f]] w fun e w' => e = .returned (.int .i64 n) ∧ Kept w w') : Calls Try.prog 21 #[.agg #[.bool true, .int .i64 m, .int .i64 f]] w fun e w' => e = .returned (.int .i64 n) ∧ Kept w w' := by
  have CK' := Lib.hid CK
  have ME' := Lib.hid ME
  clear CK ME
  go_enter Try.func21, Try.ntmps21
  go_upto_region 1 with fail
  generalize hW : World.alloc w (.cells #[.bool true, .int .i64 m, .int .i64 f] 23) = W_r
  have K_r : Kept w W_r := by subst hW; exact (Kept.refl _).alloc _ _
  have H_r := Lib.hid (show W_r.cell? ⟨w.heap.size, 0, none⟩ = some (.bool true) ∧ W_r.cell? ⟨w.heap.size, 1, none⟩ = some (.int .i64 m) ∧ W_r.cell? ⟨w.heap.size, 2, none⟩ = some (.int .i64 f) from by subst hW; simp [go_sem])
  clear hW
  generalize w.heap.size = g_r at *
  obtain ⟨cr0, cr1, cr2⟩ := Kept.all3 (show Kept W_r W_r from (by (repeat (first | with_reducible exact Kept.refl _ | with_reducible apply Kept.drew | with_reducible apply Kept.alloc | ((with_reducible apply Kept.set); focus (simp <;> omega)) | ((with_reducible apply Kept.via); focus with_reducible assumption))))) H_r
  obtain ⟨cr0, cr1, cr2⟩ := Kept.all3 (show Kept W_r W_r from (by (repeat (first | with_reducible exact Kept.refl _ | with_reducible apply Kept.drew | with_reducible apply Kept.alloc | ((with_reducible apply Kept.set); focus (simp <;> omega)) | ((with_reducible apply Kept.via); focus with_reducible assumption))))) H_r
  go_wp2_with fail
  refine (CK'.out _).mono ?_
  rintro e w20 ⟨rfl, k20⟩
  clear cr0 cr1 cr2
  obtain ⟨cr0, cr1, cr2⟩ := Kept.all3 (show Kept W_r w20 from (by (repeat (first | with_reducible exact Kept.refl _ | with_reducible apply Kept.drew | with_reducible apply Kept.alloc | ((with_reducible apply Kept.set); focus (simp <;> omega)) | ((with_reducible apply Kept.via); focus with_reducible assumption))))) H_r
  go_wp2_with fail
  refine (ME'.out _).mono ?_
  rintro e w21 ⟨rfl, k21⟩
  clear cr0 cr1 cr2
  go_wp2
  go_ret
  exact ⟨rfl, (by (repeat (first | with_reducible exact Kept.refl _ | with_reducible apply Kept.drew | with_reducible apply Kept.alloc | ((with_reducible apply Kept.set); focus (simp <;> omega)) | ((with_reducible apply Kept.via); focus with_reducible assumption))))⟩
theorem vthere {b : Bool} {m f n : Int} (hm : In64 m) (h : timeT b m f = n) (w : World) : Calls Try.prog 21 #[.agg #[.bool b, .int .i64 m, .int .i64 f]] w fun e w' => e = .returned (.int .i64 n) ∧ Kept w w' := by
  unfold timeT at h
  cases b with
  | false => rw [if_neg (by simp)] at h; subst h; exact vth_n w vfirst
  | true =>
    by_cases c : MayRtt true m f
    · rw [if_pos ⟨c, rfl⟩] at h; exact vth_y w (fun w => Check_yes c w) (fun w => Mean_ok ⟨hm, h⟩ w)
    · rw [if_neg (fun x => c x.1)] at h; subst h; exact vth_b w (fun w => Check_no c w) vfirst
set_option maxRecDepth 100000 in
set_option maxHeartbeats 1600000 in
theorem vof {v sg m f nu de wc g tt p q d1 d2 k n : Int} {b s : Bool} (e0 : IntKind.i64.wrap (wc * g) = p) (e1 : IntKind.i64.wrap (1000000 * nu) = q) (e2 : IntKind.i64.wrap (65536 * de) = d1) (e3 : IntKind.i64.wrap (d1 * tt) = d2) (w : World) (GA : ∀ w, Calls Try.prog 10 #[.bool s] w fun e w' => e = .returned (.tuple #[.int .i64 nu, .int .i64 de]) ∧ Kept w w') (WI : ∀ w, Calls Try.prog 18 #[] w fun e w' => e = .returned (.func (.func 38) #[.agg #[.int .i64 0, .int .i64 68719476736]] #[]) ∧ Kept w w') (T1 : ∀ w, Calls Try.prog 38 #[.agg #[.int .i64 0, .int .i64 68719476736], .int .i64 v] w fun e w' => e = .returned (.int .i64 wc) ∧ Kept w w') (SE : ∀ w, Calls Try.prog 19 #[] w fun e w' => e = .returned (.func (.func 38) #[.agg #[.int .i64 1, .int .i64 65535]] #[]) ∧ Kept w w') (T2 : ∀ w, Calls Try.prog 38 #[.agg #[.int .i64 1, .int .i64 65535], .int .i64 sg] w fun e w' => e = .returned (.int .i64 g) ∧ Kept w w') (TH : ∀ w, Calls Try.prog 21 #[.agg #[.bool b, .int .i64 m, .int .i64 f]] w fun e w' => e = .returned (.int .i64 tt) ∧ Kept w w') (FL : ∀ w, Calls Try.prog 20 #[.int .i64 p, .int .i64 q, .int .i64 d2] w fun e w' => e = .returned (.tuple #[.int .i64 k, .int .i64 0]) ∧ Kept w w') (AT : ∀ w, Calls Try.prog 22 #[.int .i64 1] w fun e w' => e = .returned (.func (.func 38) #[.agg #[.int .i64 1, .int .i64 9223372036854775807]] #[]) ∧ Kept w w') (T3 : ∀ w, Calls Try.prog 38 #[.agg #[.int .i64 1, .int .i64 9223372036854775807], .int .i64 k] w fun e w' => e = .returned (.int .i64 n) ∧ Kept w w') : Calls Try.prog 12 #[.int .i64 v, .int .i64 sg, .agg #[.bool b, .int .i64 m, .int .i64 f], .bool s] w fun e w' => e = .returned (.int .i64 n) ∧ Kept w w' := by
  have GA' := Lib.hid GA
  have WI' := Lib.hid WI
  have T1' := Lib.hid T1
  have SE' := Lib.hid SE
  have T2' := Lib.hid T2
  have TH' := Lib.hid TH
  have FL' := Lib.hid FL
  have AT' := Lib.hid AT
  have T3' := Lib.hid T3
  clear GA WI T1 SE T2 TH FL AT T3
  go_enter Try.func12, Try.ntmps12
  go_upto_region 1 with fail
  generalize hW : World.alloc w (.cells #[.bool b, .int .i64 m, .int .i64 f] 23) = W_r
  have K_r : Kept w W_r := by subst hW; exact (Kept.refl _).alloc _ _
  have H_r := Lib.hid (show W_r.cell? ⟨w.heap.size, 0, none⟩ = some (.bool b) ∧ W_r.cell? ⟨w.heap.size, 1, none⟩ = some (.int .i64 m) ∧ W_r.cell? ⟨w.heap.size, 2, none⟩ = some (.int .i64 f) from by subst hW; simp [go_sem])
  clear hW
  generalize w.heap.size = g_r at *
  go_wp2_with fail
  refine (GA'.out _).mono ?_
  rintro e w20 ⟨rfl, k20⟩
  go_wp2_with fail
  refine (WI'.out _).mono ?_
  rintro e w21 ⟨rfl, k21⟩
  go_wp2_with fail
  refine (T1'.out _).mono ?_
  rintro e w22 ⟨rfl, k22⟩
  go_wp2_with fail
  refine (SE'.out _).mono ?_
  rintro e w23 ⟨rfl, k23⟩
  go_wp2_with fail
  refine (T2'.out _).mono ?_
  rintro e w24 ⟨rfl, k24⟩
  obtain ⟨cr0, cr1, cr2⟩ := Kept.all3 (show Kept W_r w24 from (by (repeat (first | with_reducible exact Kept.refl _ | with_reducible apply Kept.drew | with_reducible apply Kept.alloc | ((with_reducible apply Kept.set); focus (simp <;> omega)) | ((with_reducible apply Kept.via); focus with_reducible assumption))))) H_r
  go_wp2_with fail
  refine (TH'.out _).mono ?_
  rintro e w25 ⟨rfl, k25⟩
  clear cr0 cr1 cr2
  go_wp2_with fail
  refine (FL'.out _).mono ?_
  rintro e w26 ⟨rfl, k26⟩
  go_wp2_with fail
  refine (AT'.out _).mono ?_
  rintro e w27 ⟨rfl, k27⟩
  go_wp2_with fail
  refine (T3'.out _).mono ?_
  rintro e w28 ⟨rfl, k28⟩
  go_wp2
  go_ret
  exact ⟨rfl, (by (repeat (first | with_reducible exact Kept.refl _ | with_reducible apply Kept.drew | with_reducible apply Kept.alloc | ((with_reducible apply Kept.set); focus (simp <;> omega)) | ((with_reducible apply Kept.via); focus with_reducible assumption))))⟩
theorem vof_c : VOfC := fun v sg b m f s n hv hs hm hf h w => by
  have gr := gapK_range v
  have sr := segT_range sg
  have tr := timeT_range b m f
  have go := go_bound (s := s) gr sr tr.1
  have gp := go_pos (s := s) gr.1 sr.1 tr.1
  have pr := prod_bound (s := s) gr sr
  have eg : goT s (gapK v) (segT sg) (timeT b m f) = gapK v * segT sg * (1000000 * numT s) / (denT s * 65536 * timeT b m f) := by
    unfold goT
    rw [show numT s * 1000000 * segT sg = segT sg * (1000000 * numT s) by rw [Int.mul_comm, Int.mul_comm (numT s)], ← Int.mul_assoc]
  have T1 : ∀ w, Calls Try.prog 38 #[.agg #[.int .i64 0, .int .i64 68719476736], .int .i64 v] w fun e w' => e = .returned (.int .i64 (gapK v)) ∧ Kept w w' := fun w => vtake (m := if 68719476736 < v then 68719476736 else v) rfl (by unfold gapK; split <;> split <;> (try split) <;> omega) w
  have T2 : ∀ w, Calls Try.prog 38 #[.agg #[.int .i64 1, .int .i64 65535], .int .i64 sg] w fun e w' => e = .returned (.int .i64 (segT sg)) ∧ Kept w w' := fun w => vtake (m := if 65535 < sg then 65535 else sg) rfl (by unfold segT; split <;> split <;> (try split) <;> omega) w
  have TH := fun w => vthere (b := b) (m := m) (f := f) hm rfl w
  have hn : (if goT s (gapK v) (segT sg) (timeT b m f) < 1 then 1 else goT s (gapK v) (segT sg) (timeT b m f)) = n := h
  generalize goT s (gapK v) (segT sg) (timeT b m f) = k at *
  generalize gapK v = wc at *
  generalize segT sg = g at *
  generalize timeT b m f = tt at *
  have nd : 1 ≤ numT s ∧ numT s ≤ 5 ∧ 1 ≤ denT s ∧ denT s ≤ 4 := by cases s <;> simp [numT, denT]
  have GA : ∀ w, Calls Try.prog 10 #[.bool s] w fun e w' => e = .returned (.tuple #[.int .i64 (numT s), .int .i64 (denT s)]) ∧ Kept w w' := fun w => vgain_c s _ _ rfl rfl w
  generalize numT s = nu at *
  generalize denT s = de at *
  have q0 : 0 ≤ wc * g ∧ wc * g ≤ 4503530907893760 := ⟨Int.mul_nonneg gr.1 (by omega), by have := Int.mul_le_mul gr.2 sr.2 (by omega) (by omega); omega⟩
  have q1 : 65536 ≤ 65536 * de * tt ∧ 65536 * de * tt ≤ 281474976710656 := by
    have a1 := Int.mul_le_mul (show (65536 : Int) ≤ 65536 * de by omega) tr.1 (by omega) (by omega)
    have a2 := Int.mul_le_mul (show 65536 * de ≤ 262144 by omega) tr.2 (by omega) (by omega)
    omega
  rw [show de * 65536 * tt = 65536 * de * tt by rw [Int.mul_comm de]] at eg
  refine vof (nu := nu) (de := de) (wc := wc) (g := g) (tt := tt) (p := wc * g) (q := 1000000 * nu) (d1 := 65536 * de) (d2 := 65536 * de * tt) (k := k) (by rw [IntKind.wrap_i64]; omega) (by rw [IntKind.wrap_i64]; omega) (by rw [IntKind.wrap_i64]; omega) (by rw [IntKind.wrap_i64]; omega) w GA vwindows T1 vsegments T2 TH ?_ vatLeast ?_
  · exact fun w => Floor_ok (by unfold In64; omega) (by unfold In64; omega) (by unfold In64; omega) (by rw [← eg]; exact part_yes (by omega) (by unfold In64; omega)) w
  · exact fun w => vtake (m := k) (by rw [if_neg (by omega)]) (by rw [← hn]; split <;> split <;> omega) w
set_option maxRecDepth 100000 in
set_option maxHeartbeats 1600000 in
theorem vspan_n {v r z q  : Int} (w : World) (A0 : ∀ w, Calls Try.prog 22 #[.int .i64 0] w fun e w' => e = .returned (.func (.func 38) #[.agg #[.int .i64 0, .int .i64 9223372036854775807]] #[]) ∧ Kept w w') (T1 : ∀ w, Calls Try.prog 38 #[.agg #[.int .i64 0, .int .i64 9223372036854775807], .int .i64 v] w fun e w' => e = .returned (.int .i64 z) ∧ Kept w w') (A1 : ∀ w, Calls Try.prog 22 #[.int .i64 1] w fun e w' => e = .returned (.func (.func 38) #[.agg #[.int .i64 1, .int .i64 9223372036854775807]] #[]) ∧ Kept w w') (T2 : ∀ w, Calls Try.prog 38 #[.agg #[.int .i64 1, .int .i64 9223372036854775807], .int .i64 r] w fun e w' => e = .returned (.int .i64 q) ∧ Kept w w') (CE : ∀ w, Calls Try.prog 28 #[.int .i64 z, .int .i64 1000000, .int .i64 q] w fun e w' => e = .returned (.tuple #[.int .i64 0, .int .i64 10]) ∧ Kept w w') : Calls Try.prog 14 #[.int .i64 v, .int .i64 r] w fun e w' => e = .returned (.int .i64 1099511627776) ∧ Kept w w' := by
  have A0' := Lib.hid A0
  have T1' := Lib.hid T1
  have A1' := Lib.hid A1
  have T2' := Lib.hid T2
  have CE' := Lib.hid CE
  clear A0 T1 A1 T2 CE
  go_enter Try.func14, Try.ntmps14
  go_wp2_with fail
  refine (A0'.out _).mono ?_
  rintro e w20 ⟨rfl, k20⟩
  go_wp2_with fail
  refine (T1'.out _).mono ?_
  rintro e w21 ⟨rfl, k21⟩
  go_wp2_with fail
  refine (A1'.out _).mono ?_
  rintro e w22 ⟨rfl, k22⟩
  go_wp2_with fail
  refine (T2'.out _).mono ?_
  rintro e w23 ⟨rfl, k23⟩
  go_wp2_with fail
  refine (CE'.out _).mono ?_
  rintro e w24 ⟨rfl, k24⟩
  go_wp2
  go_ret
  exact ⟨rfl, (by (repeat (first | with_reducible exact Kept.refl _ | with_reducible apply Kept.drew | with_reducible apply Kept.alloc | ((with_reducible apply Kept.set); focus (simp <;> omega)) | ((with_reducible apply Kept.via); focus with_reducible assumption))))⟩
set_option maxRecDepth 100000 in
set_option maxHeartbeats 1600000 in
theorem vspan_y {v r z q k n : Int} (w : World) (A0 : ∀ w, Calls Try.prog 22 #[.int .i64 0] w fun e w' => e = .returned (.func (.func 38) #[.agg #[.int .i64 0, .int .i64 9223372036854775807]] #[]) ∧ Kept w w') (T1 : ∀ w, Calls Try.prog 38 #[.agg #[.int .i64 0, .int .i64 9223372036854775807], .int .i64 v] w fun e w' => e = .returned (.int .i64 z) ∧ Kept w w') (A1 : ∀ w, Calls Try.prog 22 #[.int .i64 1] w fun e w' => e = .returned (.func (.func 38) #[.agg #[.int .i64 1, .int .i64 9223372036854775807]] #[]) ∧ Kept w w') (T2 : ∀ w, Calls Try.prog 38 #[.agg #[.int .i64 1, .int .i64 9223372036854775807], .int .i64 r] w fun e w' => e = .returned (.int .i64 q) ∧ Kept w w') (CE : ∀ w, Calls Try.prog 28 #[.int .i64 z, .int .i64 1000000, .int .i64 q] w fun e w' => e = .returned (.tuple #[.int .i64 k, .int .i64 0]) ∧ Kept w w') (TI : ∀ w, Calls Try.prog 29 #[] w fun e w' => e = .returned (.func (.func 38) #[.agg #[.int .i64 0, .int .i64 1099511627776]] #[]) ∧ Kept w w') (T3 : ∀ w, Calls Try.prog 38 #[.agg #[.int .i64 0, .int .i64 1099511627776], .int .i64 k] w fun e w' => e = .returned (.int .i64 n) ∧ Kept w w') : Calls Try.prog 14 #[.int .i64 v, .int .i64 r] w fun e w' => e = .returned (.int .i64 n) ∧ Kept w w' := by
  have A0' := Lib.hid A0
  have T1' := Lib.hid T1
  have A1' := Lib.hid A1
  have T2' := Lib.hid T2
  have CE' := Lib.hid CE
  have TI' := Lib.hid TI
  have T3' := Lib.hid T3
  clear A0 T1 A1 T2 CE TI T3
  go_enter Try.func14, Try.ntmps14
  go_wp2_with fail
  refine (A0'.out _).mono ?_
  rintro e w20 ⟨rfl, k20⟩
  go_wp2_with fail
  refine (T1'.out _).mono ?_
  rintro e w21 ⟨rfl, k21⟩
  go_wp2_with fail
  refine (A1'.out _).mono ?_
  rintro e w22 ⟨rfl, k22⟩
  go_wp2_with fail
  refine (T2'.out _).mono ?_
  rintro e w23 ⟨rfl, k23⟩
  go_wp2_with fail
  refine (CE'.out _).mono ?_
  rintro e w24 ⟨rfl, k24⟩
  go_wp2_with fail
  refine (TI'.out _).mono ?_
  rintro e w25 ⟨rfl, k25⟩
  go_wp2_with fail
  refine (T3'.out _).mono ?_
  rintro e w26 ⟨rfl, k26⟩
  go_wp2
  go_ret
  exact ⟨rfl, (by (repeat (first | with_reducible exact Kept.refl _ | with_reducible apply Kept.drew | with_reducible apply Kept.alloc | ((with_reducible apply Kept.set); focus (simp <;> omega)) | ((with_reducible apply Kept.via); focus with_reducible assumption))))⟩
theorem vspan_c : VSpanC := fun v r n hv hr h w => by
  unfold In64 at hv hr
  have T1 : ∀ w, Calls Try.prog 38 #[.agg #[.int .i64 0, .int .i64 9223372036854775807], .int .i64 v] w fun e w' => e = .returned (.int .i64 (if v < 0 then 0 else v)) ∧ Kept w w' := fun w => vtake (m := v) (by rw [if_neg (by omega)]) (by split <;> split <;> omega) w
  have T2 : ∀ w, Calls Try.prog 38 #[.agg #[.int .i64 1, .int .i64 9223372036854775807], .int .i64 r] w fun e w' => e = .returned (.int .i64 (if r < 1 then 1 else r)) ∧ Kept w w' := fun w => vtake (m := r) (by rw [if_neg (by omega)]) (by split <;> split <;> omega) w
  have z0 : 0 ≤ (if v < 0 then 0 else v) ∧ (if v < 0 then 0 else v) ≤ 9223372036854775807 := by split <;> omega
  have r0 : 1 ≤ (if r < 1 then 1 else r) ∧ (if r < 1 then 1 else r) ≤ 9223372036854775807 := by split <;> omega
  have hs : (if 1099511627776 < ceilOf ((if v < 0 then 0 else v) * 1000000) (if r < 1 then 1 else r) then 1099511627776 else ceilOf ((if v < 0 then 0 else v) * 1000000) (if r < 1 then 1 else r)) = n := h
  clear h
  generalize (if v < 0 then 0 else v) = z at *
  generalize (if r < 1 then 1 else r) = q at *
  have cp := ceil_pos (m := z * 1000000) (c := q) (by omega) r0.1
  by_cases i : In64 (ceilOf (z * 1000000) q)
  · have CE := fun w => Ceil_ok (a := z) (b := 1000000) (c := q) (by unfold In64; omega) (by unfold In64; omega) (by unfold In64; omega) (part_yes r0.1 i) w
    generalize ceilOf (z * 1000000) q = k at *
    exact vspan_y w vatLeast T1 vatLeast T2 CE vtimes (fun w => vtake (m := n) hs (by split <;> (try split at hs) <;> omega) w)
  · have CE := fun w => Ceil_ok (a := z) (b := 1000000) (c := q) (by unfold In64; omega) (by unfold In64; omega) (by unfold In64; omega) (part_over r0.1 i) w
    unfold In64 at i
    rw [if_pos (by omega)] at hs
    subst hs
    exact vspan_n w vatLeast T1 vatLeast T2 CE
end Go.Proofs.Ytjfeobkkkgalaaa
