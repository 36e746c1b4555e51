/-
  The walk of RateTells: it answers true, if the calls do what they are to do.
-/
import Derived.Test.YtjfeobkkkgalaaaAwake17
import Derived.Test.YtjfeobkkkgalaaaRef17
import Derived.Deep.RegionHeld3
import Derived.Deep.DeepCutAuto
namespace Go.Proofs.Ytjfeobkkkgalaaa
open Go.RowKit Go.BigFrame
set_option linter.unusedVariables false

set_option maxRecDepth 100000 in
set_option maxHeartbeats 1600000 in
theorem tells17_t (GC : VGainC) (FC : VFirstC) (OC : VOfC) (SC : VSpanC) {v sg m f y n k u : Int} {b : Bool} (hv : In64 v) (hs : In64 sg) (hm : In64 m) (hf : In64 f) (hy : In64 y) (hn : In64 n) (f1 : ofT v sg b m f true = k) (f2 : spanT y n = u) (w : World) : Calls Try.prog 3 #[.int .i64 v, .int .i64 sg, .agg #[.bool b, .int .i64 m, .int .i64 f], .bool true, .int .i64 y, .int .i64 n] w fun e w' => e = .returned (.bool true) ∧ Kept w w' := by
  have GC' := Lib.hid GC
  have FC' := Lib.hid FC
  have OC' := Lib.hid OC
  have SC' := Lib.hid SC
  have AW' := Lib.hid (fun w => awake17 GC FC OC SC w)
  clear GC FC OC SC
  have QG := Lib.hid (fun w_ => GC'.out true 2 1 rfl rfl w_)
  have QF := Lib.hid (fun w_ => FC'.out w_)
  have Q1 := Lib.hid (fun w_ => OC'.out v sg b m f true k hv hs hm hf f1 w_)
  have Q2 := Lib.hid (fun w_ => refOf17_ok hv hs hm hf f1 w_)
  have Q3 := Lib.hid (fun w_ => SC'.out y n u hy hn f2 w_)
  have Q4 := Lib.hid (fun w_ => refSpan17_ok hy hn f2 w_)
  clear f1 f2 hv hs hm hf hy hn
  go_enter Try.func3, Try.ntmps3
  go_upto_region 1 with fail
  generalize hW : World.alloc w (.cells #[.bool b, .int .i64 m, .int .i64 f] 23) = W_r
  have K_r : Kept w W_r := by subst hW; exact (Kept.refl _).alloc _ _
  have H_r := Lib.hid (show W_r.cell? ⟨w.heap.size, 0, none⟩ = some (.bool b) ∧ W_r.cell? ⟨w.heap.size, 1, none⟩ = some (.int .i64 m) ∧ W_r.cell? ⟨w.heap.size, 2, none⟩ = some (.int .i64 f) from by subst hW; simp [go_sem])
  clear hW
  generalize w.heap.size = g_r at *
  go_wp2_with fail
  refine (AW'.out _).mono ?_
  rintro e w20 ⟨rfl, k20⟩
  go_wp2_with fail
  refine (QG.out _).mono ?_
  rintro e w21 ⟨rfl, k21⟩
  go_upto_region 4 with fail
  have B_r := Lib.hid (Kept.all3 (show Kept W_r w21 from (by (repeat (first | with_reducible exact Kept.refl _ | with_reducible apply Kept.drew | with_reducible apply Kept.alloc | ((with_reducible apply Kept.set); focus (simp <;> omega)) | ((with_reducible apply Kept.via); focus with_reducible assumption))))) H_r)
  have kall : Kept w w21 := (by (repeat (first | with_reducible exact Kept.refl _ | with_reducible apply Kept.drew | with_reducible apply Kept.alloc | ((with_reducible apply Kept.set); focus (simp <;> omega)) | ((with_reducible apply Kept.via); focus with_reducible assumption))))
  obtain ⟨q_r0, q_r1, q_r2⟩ := kw3 B_r
  clear B_r
  refine wp_region_kept (by kernel_rfl) (by as_aux_lemma => kernel_rfl) ?_
  repeat (go_big_quiet_step (first | (with_reducible exact kept_of (QF.out _)) | (with_reducible exact kept_of (Q1.out _)) | (with_reducible exact kept_of (Q2.out _)) | (with_reducible exact kept_of (Q3.out _)) | (with_reducible exact kept_of (Q4.out _))))
  refine wpQuiet_nil ?_
  intro wq hw'
  have kq : Kept w21 wq := by obtain ⟨p, rfl⟩ := hw'; exact p.k
  clear hw'
  clear kall
  go_wp2
  go_ret
  exact ⟨rfl, Kept.trans (Kept.trans (Kept.trans (K_r) k20) k21) kq⟩
set_option maxRecDepth 100000 in
set_option maxHeartbeats 1600000 in
theorem tells17_f (GC : VGainC) (FC : VFirstC) (OC : VOfC) (SC : VSpanC) {v sg m f y n k u : Int} {b : Bool} (hv : In64 v) (hs : In64 sg) (hm : In64 m) (hf : In64 f) (hy : In64 y) (hn : In64 n) (f1 : ofT v sg b m f false = k) (f2 : spanT y n = u) (w : World) : Calls Try.prog 3 #[.int .i64 v, .int .i64 sg, .agg #[.bool b, .int .i64 m, .int .i64 f], .bool false, .int .i64 y, .int .i64 n] w fun e w' => e = .returned (.bool true) ∧ Kept w w' := by
  have GC' := Lib.hid GC
  have FC' := Lib.hid FC
  have OC' := Lib.hid OC
  have SC' := Lib.hid SC
  have AW' := Lib.hid (fun w => awake17 GC FC OC SC w)
  clear GC FC OC SC
  have QG := Lib.hid (fun w_ => GC'.out false 5 4 rfl rfl w_)
  have QF := Lib.hid (fun w_ => FC'.out w_)
  have Q1 := Lib.hid (fun w_ => OC'.out v sg b m f false k hv hs hm hf f1 w_)
  have Q2 := Lib.hid (fun w_ => refOf17_ok hv hs hm hf f1 w_)
  have Q3 := Lib.hid (fun w_ => SC'.out y n u hy hn f2 w_)
  have Q4 := Lib.hid (fun w_ => refSpan17_ok hy hn f2 w_)
  clear f1 f2 hv hs hm hf hy hn
  go_enter Try.func3, Try.ntmps3
  go_upto_region 1 with fail
  generalize hW : World.alloc w (.cells #[.bool b, .int .i64 m, .int .i64 f] 23) = W_r
  have K_r : Kept w W_r := by subst hW; exact (Kept.refl _).alloc _ _
  have H_r := Lib.hid (show W_r.cell? ⟨w.heap.size, 0, none⟩ = some (.bool b) ∧ W_r.cell? ⟨w.heap.size, 1, none⟩ = some (.int .i64 m) ∧ W_r.cell? ⟨w.heap.size, 2, none⟩ = some (.int .i64 f) from by subst hW; simp [go_sem])
  clear hW
  generalize w.heap.size = g_r at *
  go_wp2_with fail
  refine (AW'.out _).mono ?_
  rintro e w20 ⟨rfl, k20⟩
  go_wp2_with fail
  refine (QG.out _).mono ?_
  rintro e w21 ⟨rfl, k21⟩
  go_upto_region 4 with fail
  have B_r := Lib.hid (Kept.all3 (show Kept W_r w21 from (by (repeat (first | with_reducible exact Kept.refl _ | with_reducible apply Kept.drew | with_reducible apply Kept.alloc | ((with_reducible apply Kept.set); focus (simp <;> omega)) | ((with_reducible apply Kept.via); focus with_reducible assumption))))) H_r)
  have kall : Kept w w21 := (by (repeat (first | with_reducible exact Kept.refl _ | with_reducible apply Kept.drew | with_reducible apply Kept.alloc | ((with_reducible apply Kept.set); focus (simp <;> omega)) | ((with_reducible apply Kept.via); focus with_reducible assumption))))
  obtain ⟨q_r0, q_r1, q_r2⟩ := kw3 B_r
  clear B_r
  refine wp_region_kept (by kernel_rfl) (by as_aux_lemma => kernel_rfl) ?_
  repeat (go_big_quiet_step (first | (with_reducible exact kept_of (QF.out _)) | (with_reducible exact kept_of (Q1.out _)) | (with_reducible exact kept_of (Q2.out _)) | (with_reducible exact kept_of (Q3.out _)) | (with_reducible exact kept_of (Q4.out _))))
  refine wpQuiet_nil ?_
  intro wq hw'
  have kq : Kept w21 wq := by obtain ⟨p, rfl⟩ := hw'; exact p.k
  clear hw'
  clear kall
  go_wp2
  go_ret
  exact ⟨rfl, Kept.trans (Kept.trans (Kept.trans (K_r) k20) k21) kq⟩
theorem rateTells_walk (GC : VGainC) (FC : VFirstC) (OC : VOfC) (SC : VSpanC) (v sg : Int) (b : Bool) (m f : Int) (s : Bool) (y n : Int) (w : World) (hv : In64 v) (hs : In64 sg) (hm : In64 m) (hf : In64 f) (hy : In64 y) (hn : In64 n) : Calls Try.prog 3 #[.int .i64 v, .int .i64 sg, .agg #[.bool b, .int .i64 m, .int .i64 f], .bool s, .int .i64 y, .int .i64 n] w fun e w' => e = .returned (.bool true) ∧ Kept w w' := by
  cases s with
  | true => exact tells17_t GC FC OC SC hv hs hm hf hy hn rfl rfl w
  | false => exact tells17_f GC FC OC SC hv hs hm hf hy hn rfl rfl w
end Go.Proofs.Ytjfeobkkkgalaaa
