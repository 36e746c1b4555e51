/-
  The walk of RateRises: it answers true, if the calls do what they are to do.
-/
import Derived.Test.YtjfeobkkkgalaaaAwake17
import Derived.Deep.RegionHeld3
import Derived.Deep.DeepCutAuto
namespace Go.Proofs.Ytjfeobkkkgalaaa
open Go.RowKit Go.BigFrame
set_option linter.unusedVariables false

set_option maxRecDepth 100000 in
set_option maxHeartbeats 1600000 in
theorem rises17_less (GC : VGainC) (FC : VFirstC) (OC : VOfC) (SC : VSpanC) {a b sg bg t mo mt xt p q lo hi_ sl sh wl wh gl gh sf st : Int} {s : Bool} (t0 : 0 ≤ t) (t1 : t ≤ 4294967295) (m0 : 0 ≤ mo) (m1 : mo ≤ 4294967295) (e1 : min t mo = mt) (e2 : max t mo = xt) (e1' : (if mo < t then mo else t) = mt) (e2' : (if t < mo then mo else t) = xt) (ep : mt % 1073741824 = p) (eq : xt % 1073741824 = q) (p0 : 0 ≤ p) (p1 : p ≤ 1073741823) (q0 : 0 ≤ q) (q1 : q ≤ 1073741823) (ha : In64 a) (hs : In64 sg) (hl : In64 lo) (hh : In64 hi_) (hsl : In64 sl) (hsh : In64 sh) (g1 : (if b < a then b else a) = lo) (g2 : (if a < b then b else a) = hi_) (g1' : min a b = lo) (g2' : max a b = hi_) (g3 : (if bg < sg then bg else sg) = sl) (g4 : (if sg < bg then bg else sg) = sh) (g3' : min sg bg = sl) (g4' : max sg bg = sh) (f1 : ofT lo sg true (8 * (1 + p)) 0 s = wl) (f2 : ofT hi_ sg true (8 * (1 + p)) 0 s = wh) (f3 : ofT a sl true (8 * (1 + p)) 0 s = gl) (f4 : ofT a sh true (8 * (1 + p)) 0 s = gh) (f5 : ofT a sg true (8 * (1 + p)) 0 false = sf) (f6 : ofT a sg true (8 * (1 + p)) 0 true = st) (o1 : wl ≤ wh) (o2 : gl ≤ gh) (o3 : sf ≤ st) (h : q < p) (w : World) : Calls Try.prog 5 #[.int .i64 a, .int .i64 b, .int .i64 sg, .int .i64 bg, .int .u32 t, .int .u32 mo, .bool s] w fun e w' => e = .returned (.bool true) ∧ Kept w w' := by
  have GC' := Lib.hid GC
  have FC' := Lib.hid FC
  have OC' := Lib.hid OC
  have SC' := Lib.hid SC
  have AW' := Lib.hid (fun w => awake17 GC FC OC SC w)
  clear GC FC OC SC
  have W1 := Lib.hid (fun w_ => OC'.out lo sg true (8 * (1 + p)) 0 s wl hl hs (by unfold In64; omega) (by unfold In64; omega) f1 w_)
  have W2 := Lib.hid (fun w_ => OC'.out hi_ sg true (8 * (1 + p)) 0 s wh hh hs (by unfold In64; omega) (by unfold In64; omega) f2 w_)
  have G1 := Lib.hid (fun w_ => OC'.out a sl true (8 * (1 + p)) 0 s gl ha hsl (by unfold In64; omega) (by unfold In64; omega) f3 w_)
  have G2 := Lib.hid (fun w_ => OC'.out a sh true (8 * (1 + p)) 0 s gh ha hsh (by unfold In64; omega) (by unfold In64; omega) f4 w_)
  have S1 := Lib.hid (fun w_ => OC'.out a sg true (8 * (1 + p)) 0 false sf ha hs (by unfold In64; omega) (by unfold In64; omega) f5 w_)
  have S2 := Lib.hid (fun w_ => OC'.out a sg true (8 * (1 + p)) 0 true st ha hs (by unfold In64; omega) (by unfold In64; omega) f6 w_)
  have d1 : decide (wl ≤ wh) = true := by simp [o1]
  have d2 : decide (gl ≤ gh) = true := by simp [o2]
  have d3 : decide (sf ≤ st) = true := by simp [o3]
  clear f1 f2 f3 f4 f5 f6 o1 o2 o3
  have d4 : decide (8 * (1 + q) < 8 * (1 + p)) = true := by simp; omega
  clear ha hs hl hh hsl hsh
  go_enter Try.func5, Try.ntmps5
  go_wp2_with fail
  refine (AW'.out _).mono ?_
  rintro e w20 ⟨rfl, k20⟩
  go_upto_region 3 with fail
  generalize hW : World.alloc w20 (.cells #[.bool true, .int .i64 (8 * (1 + p)), .int .i64 0] 23) = W_x
  have K_x : Kept w20 W_x := by subst hW; exact (Kept.refl _).alloc _ _
  have H_x := Lib.hid (show W_x.cell? ⟨w20.heap.size, 0, none⟩ = some (.bool true) ∧ W_x.cell? ⟨w20.heap.size, 1, none⟩ = some (.int .i64 (8 * (1 + p))) ∧ W_x.cell? ⟨w20.heap.size, 2, none⟩ = some (.int .i64 0) from by subst hW; simp [go_sem])
  clear hW
  generalize w20.heap.size = g_x at *
  go_upto_region 4 with fail
  generalize hW : World.alloc W_x (.cells #[.bool true, .int .i64 (8 * (1 + q)), .int .i64 0] 23) = W_y
  have K_y : Kept W_x W_y := by subst hW; exact (Kept.refl _).alloc _ _
  have H_y := Lib.hid (show W_y.cell? ⟨W_x.heap.size, 0, none⟩ = some (.bool true) ∧ W_y.cell? ⟨W_x.heap.size, 1, none⟩ = some (.int .i64 (8 * (1 + q))) ∧ W_y.cell? ⟨W_x.heap.size, 2, none⟩ = some (.int .i64 0) from by subst hW; simp [go_sem])
  clear hW
  generalize W_x.heap.size = g_y at *
  have H_x9 := Lib.hid H_x.out
  go_upto_region 4 with fail
  have B_x := Lib.hid (Kept.all3 (show Kept W_x W_y from (by (repeat (first | with_reducible exact Kept.refl _ | with_reducible apply Kept.drew | with_reducible apply Kept.alloc | ((with_reducible apply Kept.set); focus (simp <;> omega)) | ((with_reducible apply Kept.via); focus with_reducible assumption))))) H_x)
  have B_y := Lib.hid (Kept.all3 (show Kept W_y W_y from (by (repeat (first | with_reducible exact Kept.refl _ | with_reducible apply Kept.drew | with_reducible apply Kept.alloc | ((with_reducible apply Kept.set); focus (simp <;> omega)) | ((with_reducible apply Kept.via); focus with_reducible assumption))))) H_y)
  have kall : Kept w W_y := (by (repeat (first | with_reducible exact Kept.refl _ | with_reducible apply Kept.drew | with_reducible apply Kept.alloc | ((with_reducible apply Kept.set); focus (simp <;> omega)) | ((with_reducible apply Kept.via); focus with_reducible assumption))))
  obtain ⟨q_x0, q_x1, q_x2⟩ := kw3 B_x
  obtain ⟨q_y0, q_y1, q_y2⟩ := kw3 B_y
  clear B_x B_y
  refine wp_region_kept (by kernel_rfl) (by as_aux_lemma => kernel_rfl) ?_
  repeat (go_big_quiet_step (first | fail))
  refine wpQuiet_nil ?_
  intro wq hw'
  have kq : Kept W_y wq := by obtain ⟨p, rfl⟩ := hw'; exact p.k
  clear hw'
  clear kall
  have H_x2 := Lib.hid (Kept.all3 (Kept.trans K_y kq) H_x9)
  have kq1 := kq
  clear kq
  generalize wq = W_q at *
  go_upto_region 5 with fail
  have B_x := Lib.hid (Kept.all3 (show Kept W_q W_q from (by (repeat (first | with_reducible exact Kept.refl _ | with_reducible apply Kept.drew | with_reducible apply Kept.alloc | ((with_reducible apply Kept.set); focus (simp <;> omega)) | ((with_reducible apply Kept.via); focus with_reducible assumption))))) H_x2)
  have kall : Kept w W_q := (by (repeat (first | with_reducible exact Kept.refl _ | with_reducible apply Kept.drew | with_reducible apply Kept.alloc | ((with_reducible apply Kept.set); focus (simp <;> omega)) | ((with_reducible apply Kept.via); focus with_reducible assumption))))
  obtain ⟨q_x0, q_x1, q_x2⟩ := kw3 B_x
  clear B_x
  refine wp_region_kept (by kernel_rfl) (by as_aux_lemma => kernel_rfl) ?_
  repeat (go_big_quiet_step (first | (with_reducible exact kept_of (W1.out _)) | (with_reducible exact kept_of (W2.out _)) | (with_reducible exact kept_of (G1.out _)) | (with_reducible exact kept_of (G2.out _)) | (with_reducible exact kept_of (S1.out _)) | (with_reducible exact kept_of (S2.out _))))
  refine wpQuiet_nil ?_
  intro wq hw'
  have kq : Kept W_q wq := by obtain ⟨p, rfl⟩ := hw'; exact p.k
  clear hw'
  clear kall
  go_wp2
  go_ret
  exact ⟨rfl, Kept.trans (Kept.trans (Kept.trans (Kept.trans (k20) K_x) K_y) kq1) kq⟩
set_option maxRecDepth 100000 in
set_option maxHeartbeats 1600000 in
theorem rises17_more (GC : VGainC) (FC : VFirstC) (OC : VOfC) (SC : VSpanC) {a b sg bg t mo mt xt p q lo hi_ sl sh wl wh gl gh sf st ly lx : Int} {s : Bool} (t0 : 0 ≤ t) (t1 : t ≤ 4294967295) (m0 : 0 ≤ mo) (m1 : mo ≤ 4294967295) (e1 : min t mo = mt) (e2 : max t mo = xt) (e1' : (if mo < t then mo else t) = mt) (e2' : (if t < mo then mo else t) = xt) (ep : mt % 1073741824 = p) (eq : xt % 1073741824 = q) (p0 : 0 ≤ p) (p1 : p ≤ 1073741823) (q0 : 0 ≤ q) (q1 : q ≤ 1073741823) (ha : In64 a) (hs : In64 sg) (hl : In64 lo) (hh : In64 hi_) (hsl : In64 sl) (hsh : In64 sh) (g1 : (if b < a then b else a) = lo) (g2 : (if a < b then b else a) = hi_) (g1' : min a b = lo) (g2' : max a b = hi_) (g3 : (if bg < sg then bg else sg) = sl) (g4 : (if sg < bg then bg else sg) = sh) (g3' : min sg bg = sl) (g4' : max sg bg = sh) (f1 : ofT lo sg true (8 * (1 + p)) 0 s = wl) (f2 : ofT hi_ sg true (8 * (1 + p)) 0 s = wh) (f3 : ofT a sl true (8 * (1 + p)) 0 s = gl) (f4 : ofT a sh true (8 * (1 + p)) 0 s = gh) (f5 : ofT a sg true (8 * (1 + p)) 0 false = sf) (f6 : ofT a sg true (8 * (1 + p)) 0 true = st) (o1 : wl ≤ wh) (o2 : gl ≤ gh) (o3 : sf ≤ st) (h : p ≤ q) (f7 : ofT a sg true (8 * (1 + q)) 0 s = ly) (f8 : ofT a sg true (8 * (1 + p)) 0 s = lx) (o4 : ly ≤ lx) (w : World) : Calls Try.prog 5 #[.int .i64 a, .int .i64 b, .int .i64 sg, .int .i64 bg, .int .u32 t, .int .u32 mo, .bool s] w fun e w' => e = .returned (.bool true) ∧ Kept w w' := by
  have GC' := Lib.hid GC
  have FC' := Lib.hid FC
  have OC' := Lib.hid OC
  have SC' := Lib.hid SC
  have AW' := Lib.hid (fun w => awake17 GC FC OC SC w)
  clear GC FC OC SC
  have W1 := Lib.hid (fun w_ => OC'.out lo sg true (8 * (1 + p)) 0 s wl hl hs (by unfold In64; omega) (by unfold In64; omega) f1 w_)
  have W2 := Lib.hid (fun w_ => OC'.out hi_ sg true (8 * (1 + p)) 0 s wh hh hs (by unfold In64; omega) (by unfold In64; omega) f2 w_)
  have G1 := Lib.hid (fun w_ => OC'.out a sl true (8 * (1 + p)) 0 s gl ha hsl (by unfold In64; omega) (by unfold In64; omega) f3 w_)
  have G2 := Lib.hid (fun w_ => OC'.out a sh true (8 * (1 + p)) 0 s gh ha hsh (by unfold In64; omega) (by unfold In64; omega) f4 w_)
  have S1 := Lib.hid (fun w_ => OC'.out a sg true (8 * (1 + p)) 0 false sf ha hs (by unfold In64; omega) (by unfold In64; omega) f5 w_)
  have S2 := Lib.hid (fun w_ => OC'.out a sg true (8 * (1 + p)) 0 true st ha hs (by unfold In64; omega) (by unfold In64; omega) f6 w_)
  have d1 : decide (wl ≤ wh) = true := by simp [o1]
  have d2 : decide (gl ≤ gh) = true := by simp [o2]
  have d3 : decide (sf ≤ st) = true := by simp [o3]
  clear f1 f2 f3 f4 f5 f6 o1 o2 o3
  have d4 : decide (8 * (1 + q) < 8 * (1 + p)) = false := by simp; omega
  have d4b : decide (q < p) = false := by simp; omega
  have QY := Lib.hid (fun w_ => OC'.out a sg true (8 * (1 + q)) 0 s ly ha hs (by unfold In64; omega) (by unfold In64; omega) f7 w_)
  have QX := Lib.hid (fun w_ => OC'.out a sg true (8 * (1 + p)) 0 s lx ha hs (by unfold In64; omega) (by unfold In64; omega) f8 w_)
  have d5 : decide (ly ≤ lx) = true := by simp [o4]
  clear f7 f8 o4
  clear ha hs hl hh hsl hsh
  go_enter Try.func5, Try.ntmps5
  go_wp2_with fail
  refine (AW'.out _).mono ?_
  rintro e w20 ⟨rfl, k20⟩
  go_upto_region 3 with fail
  generalize hW : World.alloc w20 (.cells #[.bool true, .int .i64 (8 * (1 + p)), .int .i64 0] 23) = W_x
  have K_x : Kept w20 W_x := by subst hW; exact (Kept.refl _).alloc _ _
  have H_x := Lib.hid (show W_x.cell? ⟨w20.heap.size, 0, none⟩ = some (.bool true) ∧ W_x.cell? ⟨w20.heap.size, 1, none⟩ = some (.int .i64 (8 * (1 + p))) ∧ W_x.cell? ⟨w20.heap.size, 2, none⟩ = some (.int .i64 0) from by subst hW; simp [go_sem])
  clear hW
  generalize w20.heap.size = g_x at *
  go_upto_region 4 with fail
  generalize hW : World.alloc W_x (.cells #[.bool true, .int .i64 (8 * (1 + q)), .int .i64 0] 23) = W_y
  have K_y : Kept W_x W_y := by subst hW; exact (Kept.refl _).alloc _ _
  have H_y := Lib.hid (show W_y.cell? ⟨W_x.heap.size, 0, none⟩ = some (.bool true) ∧ W_y.cell? ⟨W_x.heap.size, 1, none⟩ = some (.int .i64 (8 * (1 + q))) ∧ W_y.cell? ⟨W_x.heap.size, 2, none⟩ = some (.int .i64 0) from by subst hW; simp [go_sem])
  clear hW
  generalize W_x.heap.size = g_y at *
  have H_x9 := Lib.hid H_x.out
  go_upto_region 4 with fail
  have B_x := Lib.hid (Kept.all3 (show Kept W_x W_y from (by (repeat (first | with_reducible exact Kept.refl _ | with_reducible apply Kept.drew | with_reducible apply Kept.alloc | ((with_reducible apply Kept.set); focus (simp <;> omega)) | ((with_reducible apply Kept.via); focus with_reducible assumption))))) H_x)
  have B_y := Lib.hid (Kept.all3 (show Kept W_y W_y from (by (repeat (first | with_reducible exact Kept.refl _ | with_reducible apply Kept.drew | with_reducible apply Kept.alloc | ((with_reducible apply Kept.set); focus (simp <;> omega)) | ((with_reducible apply Kept.via); focus with_reducible assumption))))) H_y)
  have kall : Kept w W_y := (by (repeat (first | with_reducible exact Kept.refl _ | with_reducible apply Kept.drew | with_reducible apply Kept.alloc | ((with_reducible apply Kept.set); focus (simp <;> omega)) | ((with_reducible apply Kept.via); focus with_reducible assumption))))
  obtain ⟨q_x0, q_x1, q_x2⟩ := kw3 B_x
  obtain ⟨q_y0, q_y1, q_y2⟩ := kw3 B_y
  clear B_x B_y
  refine wp_region_kept (by kernel_rfl) (by as_aux_lemma => kernel_rfl) ?_
  repeat (go_big_quiet_step (first | (with_reducible exact kept_of (QY.out _)) | (with_reducible exact kept_of (QX.out _))))
  refine wpQuiet_nil ?_
  intro wq hw'
  have kq : Kept W_y wq := by obtain ⟨p, rfl⟩ := hw'; exact p.k
  clear hw'
  clear kall
  have H_x2 := Lib.hid (Kept.all3 (Kept.trans K_y kq) H_x9)
  have kq1 := kq
  clear kq
  generalize wq = W_q at *
  go_upto_region 5 with fail
  have B_x := Lib.hid (Kept.all3 (show Kept W_q W_q from (by (repeat (first | with_reducible exact Kept.refl _ | with_reducible apply Kept.drew | with_reducible apply Kept.alloc | ((with_reducible apply Kept.set); focus (simp <;> omega)) | ((with_reducible apply Kept.via); focus with_reducible assumption))))) H_x2)
  have kall : Kept w W_q := (by (repeat (first | with_reducible exact Kept.refl _ | with_reducible apply Kept.drew | with_reducible apply Kept.alloc | ((with_reducible apply Kept.set); focus (simp <;> omega)) | ((with_reducible apply Kept.via); focus with_reducible assumption))))
  obtain ⟨q_x0, q_x1, q_x2⟩ := kw3 B_x
  clear B_x
  refine wp_region_kept (by kernel_rfl) (by as_aux_lemma => kernel_rfl) ?_
  repeat (go_big_quiet_step (first | (with_reducible exact kept_of (W1.out _)) | (with_reducible exact kept_of (W2.out _)) | (with_reducible exact kept_of (G1.out _)) | (with_reducible exact kept_of (G2.out _)) | (with_reducible exact kept_of (S1.out _)) | (with_reducible exact kept_of (S2.out _))))
  refine wpQuiet_nil ?_
  intro wq hw'
  have kq : Kept W_q wq := by obtain ⟨p, rfl⟩ := hw'; exact p.k
  clear hw'
  clear kall
  go_wp2
  go_ret
  exact ⟨rfl, Kept.trans (Kept.trans (Kept.trans (Kept.trans (k20) K_x) K_y) kq1) kq⟩
theorem rateRises_walk (GC : VGainC) (FC : VFirstC) (OC : VOfC) (SC : VSpanC) (a b sg bg t mo : Int) (s : Bool) (w : World) (ha : In64 a) (hb : In64 b) (hs : In64 sg) (hg : In64 bg) (t0 : 0 ≤ t) (t1 : t ≤ 4294967295) (m0 : 0 ≤ mo) (m1 : mo ≤ 4294967295) : Calls Try.prog 5 #[.int .i64 a, .int .i64 b, .int .i64 sg, .int .i64 bg, .int .u32 t, .int .u32 mo, .bool s] w fun e w' => e = .returned (.bool true) ∧ Kept w w' := by
  have o1 : (if b < a then b else a) ≤ (if a < b then b else a) := by split <;> split <;> omega
  have o2 : (if bg < sg then bg else sg) ≤ (if sg < bg then bg else sg) := by split <;> split <;> omega
  have em : min t mo = (if mo < t then mo else t) := by split <;> omega
  have ex : max t mo = (if t < mo then mo else t) := by split <;> omega
  have ga : min a b = (if b < a then b else a) := by split <;> omega
  have gb : max a b = (if a < b then b else a) := by split <;> omega
  have gc : min sg bg = (if bg < sg then bg else sg) := by split <;> omega
  have gd : max sg bg = (if sg < bg then bg else sg) := by split <;> omega
  have pm : 0 ≤ (if mo < t then mo else t) % 1073741824 ∧ (if mo < t then mo else t) % 1073741824 ≤ 1073741823 := by omega
  have qm : 0 ≤ (if t < mo then mo else t) % 1073741824 ∧ (if t < mo then mo else t) % 1073741824 ≤ 1073741823 := by omega
  by_cases h : (if t < mo then mo else t) % 1073741824 < (if mo < t then mo else t) % 1073741824
  · exact rises17_less GC FC OC SC t0 t1 m0 m1 em ex rfl rfl rfl rfl pm.1 pm.2 qm.1 qm.2 ha hs (by split <;> assumption) (by split <;> assumption) (by split <;> assumption) (by split <;> assumption) rfl rfl ga gb rfl rfl gc gd rfl rfl rfl rfl rfl rfl (of_win _ _ _ _ _ o1) (of_seg _ _ _ _ _ o2) (of_slow _ _ _ _ _) h w
  · exact rises17_more GC FC OC SC t0 t1 m0 m1 em ex rfl rfl rfl rfl pm.1 pm.2 qm.1 qm.2 ha hs (by split <;> assumption) (by split <;> assumption) (by split <;> assumption) (by split <;> assumption) rfl rfl ga gb rfl rfl gc gd rfl rfl rfl rfl rfl rfl (of_win _ _ _ _ _ o1) (of_seg _ _ _ _ _ o2) (of_slow _ _ _ _ _) (by omega) rfl rfl (of_time _ _ _ (by omega) (by omega) (by omega)) w
end Go.Proofs.Ytjfeobkkkgalaaa
