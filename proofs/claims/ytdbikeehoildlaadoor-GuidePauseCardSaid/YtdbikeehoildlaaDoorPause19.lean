/-
  The walk of GuidePause: it answers true, if the calls do what they are to do.
-/
import Derived.Test.YtdbikeehoildlaaDoorAwake19
import Derived.Deep.RegionHeld3
import Derived.Deep.DeepCutAuto
namespace Go.Proofs.YtdbikeehoildlaaDoor
open Go.RowKit Go.BigFrame
set_option linter.unusedVariables false

set_option maxRecDepth 100000 in
set_option maxHeartbeats 1600000 in
theorem on19_t {s f m k es : Int} (w : World) : Calls Tryd.prog 24 #[.agg #[.bool true, .int .i64 s, .int .i64 f, .int .i64 m, .int .i64 k, .int .i64 es]] w fun e w' => e = .returned (.int .i64 1) ∧ Kept w w' := by
  go_enter Tryd.func24, Tryd.ntmps24
  go_upto_region 1 with fail
  generalize hW : World.alloc w (.cells #[.bool true, .int .i64 s, .int .i64 f, .int .i64 m, .int .i64 k, .int .i64 es] 25) = W_e
  have K_e : Kept w W_e := by subst hW; exact (Kept.refl _).alloc _ _
  have H_e := Lib.hid (show W_e.cell? ⟨w.heap.size, 0, none⟩ = some (.bool true) ∧ W_e.cell? ⟨w.heap.size, 1, none⟩ = some (.int .i64 s) ∧ W_e.cell? ⟨w.heap.size, 2, none⟩ = some (.int .i64 f) ∧ W_e.cell? ⟨w.heap.size, 3, none⟩ = some (.int .i64 m) ∧ W_e.cell? ⟨w.heap.size, 4, none⟩ = some (.int .i64 k) ∧ W_e.cell? ⟨w.heap.size, 5, none⟩ = some (.int .i64 es) from by subst hW; simp [go_sem])
  clear hW
  generalize w.heap.size = g_e at *
  obtain ⟨ce0, ce1, ce2, ce3, ce4, ce5⟩ := Kept.alln6 (show Kept W_e W_e from (by (repeat (first | with_reducible exact Kept.refl _ | with_reducible apply Kept.drew | with_reducible apply Kept.alloc | ((with_reducible apply Kept.set); focus (simp <;> omega)) | ((with_reducible apply Kept.via); focus with_reducible assumption))))) H_e
  go_wp2
  go_ret
  exact ⟨rfl, (by (repeat (first | with_reducible exact Kept.refl _ | with_reducible apply Kept.drew | with_reducible apply Kept.alloc | ((with_reducible apply Kept.set); focus (simp <;> omega)) | ((with_reducible apply Kept.via); focus with_reducible assumption))))⟩
set_option maxRecDepth 100000 in
set_option maxHeartbeats 1600000 in
theorem on19_f {s f m k es : Int} (w : World) : Calls Tryd.prog 24 #[.agg #[.bool false, .int .i64 s, .int .i64 f, .int .i64 m, .int .i64 k, .int .i64 es]] w fun e w' => e = .returned (.int .i64 0) ∧ Kept w w' := by
  go_enter Tryd.func24, Tryd.ntmps24
  go_upto_region 1 with fail
  generalize hW : World.alloc w (.cells #[.bool false, .int .i64 s, .int .i64 f, .int .i64 m, .int .i64 k, .int .i64 es] 25) = W_e
  have K_e : Kept w W_e := by subst hW; exact (Kept.refl _).alloc _ _
  have H_e := Lib.hid (show W_e.cell? ⟨w.heap.size, 0, none⟩ = some (.bool false) ∧ W_e.cell? ⟨w.heap.size, 1, none⟩ = some (.int .i64 s) ∧ W_e.cell? ⟨w.heap.size, 2, none⟩ = some (.int .i64 f) ∧ W_e.cell? ⟨w.heap.size, 3, none⟩ = some (.int .i64 m) ∧ W_e.cell? ⟨w.heap.size, 4, none⟩ = some (.int .i64 k) ∧ W_e.cell? ⟨w.heap.size, 5, none⟩ = some (.int .i64 es) from by subst hW; simp [go_sem])
  clear hW
  generalize w.heap.size = g_e at *
  obtain ⟨ce0, ce1, ce2, ce3, ce4, ce5⟩ := Kept.alln6 (show Kept W_e W_e from (by (repeat (first | with_reducible exact Kept.refl _ | with_reducible apply Kept.drew | with_reducible apply Kept.alloc | ((with_reducible apply Kept.set); focus (simp <;> omega)) | ((with_reducible apply Kept.via); focus with_reducible assumption))))) H_e
  go_wp2
  go_ret
  exact ⟨rfl, (by (repeat (first | with_reducible exact Kept.refl _ | with_reducible apply Kept.drew | with_reducible apply Kept.alloc | ((with_reducible apply Kept.set); focus (simp <;> omega)) | ((with_reducible apply Kept.via); focus with_reducible assumption))))⟩
set_option maxRecDepth 100000 in
set_option maxHeartbeats 1600000 in
theorem pause19_no (GC : GdCheckC) (FC : GdFirstC) (IC : GdIdleC) (PC : GdPauseC) (UC : GdUsedC) (YC : GdPartsC) (EC : ECheckC) (BC : EBeginC) {on : Bool} {s f m k es last now : Int} (ie : In64E (⟨on, s, f, m, k, es⟩ : Ep)) (mn : ¬ MayE (⟨on, s, f, m, k, es⟩ : Ep))  (w : World) (T_ : Tens w) : Calls Tryd.prog 5 #[.agg #[.bool on, .int .i64 s, .int .i64 f, .int .i64 m, .int .i64 k, .int .i64 es], .int .u32 last, .int .u32 now] w fun e w' => e = .returned (.bool true) ∧ Kept w w' := by
  have GC' := Lib.hid GC
  have FC' := Lib.hid FC
  have IC' := Lib.hid IC
  have PC' := Lib.hid PC
  have UC' := Lib.hid UC
  have YC' := Lib.hid YC
  have EC' := Lib.hid EC
  have BC' := Lib.hid BC
  have AW' := Lib.hid (fun w TT_ => awake19 GC FC IC PC UC YC EC BC w TT_)
  clear GC FC IC PC UC YC EC BC
  have T := Lib.hid T_
  clear T_
  have Q0 := Lib.hid (fun w_ TT_ => EC'.out (⟨on, s, f, m, k, es⟩ : Ep) false ie (by simp [mn]) w_ TT_)
  clear ie mn
  go_enter Tryd.func5, Tryd.ntmps5
  go_upto_region 1 with fail
  generalize hW : World.alloc w (.cells #[.bool on, .int .i64 s, .int .i64 f, .int .i64 m, .int .i64 k, .int .i64 es] 25) = W_e
  have K_e : Kept w W_e := by subst hW; exact (Kept.refl _).alloc _ _
  have H_e := Lib.hid (show W_e.cell? ⟨w.heap.size, 0, none⟩ = some (.bool on) ∧ W_e.cell? ⟨w.heap.size, 1, none⟩ = some (.int .i64 s) ∧ W_e.cell? ⟨w.heap.size, 2, none⟩ = some (.int .i64 f) ∧ W_e.cell? ⟨w.heap.size, 3, none⟩ = some (.int .i64 m) ∧ W_e.cell? ⟨w.heap.size, 4, none⟩ = some (.int .i64 k) ∧ W_e.cell? ⟨w.heap.size, 5, none⟩ = some (.int .i64 es) from by subst hW; simp [go_sem])
  clear hW
  generalize w.heap.size = g_e at *
  go_wp2_with fail
  refine (AW'.out _ (Tens.kept T.out (by (repeat (first | with_reducible exact Kept.refl _ | with_reducible apply Kept.drew | with_reducible apply Kept.alloc | ((with_reducible apply Kept.set); focus (simp <;> omega)) | ((with_reducible apply Kept.via); focus with_reducible assumption)))))).mono ?_
  rintro e w20 ⟨rfl, k20⟩
  obtain ⟨ce0, ce1, ce2, ce3, ce4, ce5⟩ := Kept.alln6 (show Kept W_e w20 from (by (repeat (first | with_reducible exact Kept.refl _ | with_reducible apply Kept.drew | with_reducible apply Kept.alloc | ((with_reducible apply Kept.set); focus (simp <;> omega)) | ((with_reducible apply Kept.via); focus with_reducible assumption))))) H_e
  go_wp2_with fail
  refine (Q0.out _ (Tens.kept T.out (by (repeat (first | with_reducible exact Kept.refl _ | with_reducible apply Kept.drew | with_reducible apply Kept.alloc | ((with_reducible apply Kept.set); focus (simp <;> omega)) | ((with_reducible apply Kept.via); focus with_reducible assumption)))))).mono ?_
  rintro e w21 ⟨rfl, k21⟩
  clear ce0 ce1 ce2 ce3 ce4 ce5
  go_wp2
  go_ret
  exact ⟨rfl, (by (repeat (first | with_reducible exact Kept.refl _ | with_reducible apply Kept.drew | with_reducible apply Kept.alloc | ((with_reducible apply Kept.set); focus (simp <;> omega)) | ((with_reducible apply Kept.via); focus with_reducible assumption))))⟩
set_option maxRecDepth 100000 in
set_option maxHeartbeats 1600000 in
theorem pause19_on (GC : GdCheckC) (FC : GdFirstC) (IC : GdIdleC) (PC : GdPauseC) (UC : GdUsedC) (YC : GdPartsC) (EC : ECheckC) (BC : EBeginC) {s f m k es st last now : Int} (me : MayE (⟨true, s, f, m, k, es⟩ : Ep)) (ie : In64E (⟨true, s, f, m, k, es⟩ : Ep)) (mx : MayE (⟨true, st, f, m, k, es⟩ : Ep)) (ix : In64E (⟨true, st, f, m, k, es⟩ : Ep)) (last0 : 0 ≤ last) (last1 : last ≤ 4294967295) (now0 : 0 ≤ now) (now1 : now ≤ 4294967295) (q1 : shiftE (⟨true, s, f, m, k, es⟩ : Ep) (heldAt (now - last)) = (⟨true, st, f, m, k, es⟩ : Ep)) (o : 0 < now - last) (s0 : 0 ≤ s) (s1 : s ≤ 1099511627776) (es_ : min (s + (now - last)) 1099511627776 = st)  (w : World) (T_ : Tens w) : Calls Tryd.prog 5 #[.agg #[.bool true, .int .i64 s, .int .i64 f, .int .i64 m, .int .i64 k, .int .i64 es], .int .u32 last, .int .u32 now] w fun e w' => e = .returned (.bool true) ∧ Kept w w' := by
  have GC' := Lib.hid GC
  have FC' := Lib.hid FC
  have IC' := Lib.hid IC
  have PC' := Lib.hid PC
  have UC' := Lib.hid UC
  have YC' := Lib.hid YC
  have EC' := Lib.hid EC
  have BC' := Lib.hid BC
  have AW' := Lib.hid (fun w TT_ => awake19 GC FC IC PC UC YC EC BC w TT_)
  clear GC FC IC PC UC YC EC BC
  have T := Lib.hid T_
  clear T_
  have Q0 := Lib.hid (fun w_ TT_ => EC'.out (⟨true, s, f, m, k, es⟩ : Ep) true ie (by simp [me]) w_ TT_)
  have Q2 := Lib.hid (fun w_ TT_ => EC'.out (⟨true, st, f, m, k, es⟩ : Ep) true ix (by simp [mx]) w_ TT_)
  have Q1 := Lib.hid (fun w_ => PC'.out (⟨true, s, f, m, k, es⟩ : Ep) (⟨true, st, f, m, k, es⟩ : Ep) last now ie (by unfold In64; omega) (by unfold In64; omega) q1 w_)
  clear ie ix me mx q1
  have d0 : decide (0 < now - last) = true := decide_eq_true o
  have d1 : decide (last < now) = true := decide_eq_true (by omega)
  have e1 : IntKind.i64.wrap (now - last) = now - last := by rw [IntKind.wrap_i64]; omega
  have e3 : IntKind.i64.wrap (s + (now - last)) = s + (now - last) := by rw [IntKind.wrap_i64]; omega
  have e4 : max 1099511627776 s = 1099511627776 := by omega
  have e5 : (if 1099511627776 < s then s else 1099511627776) = 1099511627776 := by rw [if_neg (by omega)]
  have e6 : (if 1099511627776 < s + (now - last) then 1099511627776 else s + (now - last)) = st := by rw [← es_]; split <;> omega
  go_enter Tryd.func5, Tryd.ntmps5
  go_upto_region 1 with fail
  generalize hW : World.alloc w (.cells #[.bool true, .int .i64 s, .int .i64 f, .int .i64 m, .int .i64 k, .int .i64 es] 25) = W_e
  have K_e : Kept w W_e := by subst hW; exact (Kept.refl _).alloc _ _
  have H_e := Lib.hid (show W_e.cell? ⟨w.heap.size, 0, none⟩ = some (.bool true) ∧ W_e.cell? ⟨w.heap.size, 1, none⟩ = some (.int .i64 s) ∧ W_e.cell? ⟨w.heap.size, 2, none⟩ = some (.int .i64 f) ∧ W_e.cell? ⟨w.heap.size, 3, none⟩ = some (.int .i64 m) ∧ W_e.cell? ⟨w.heap.size, 4, none⟩ = some (.int .i64 k) ∧ W_e.cell? ⟨w.heap.size, 5, none⟩ = some (.int .i64 es) from by subst hW; simp [go_sem])
  clear hW
  generalize w.heap.size = g_e at *
  go_wp2_with fail
  refine (AW'.out _ (Tens.kept T.out (by (repeat (first | with_reducible exact Kept.refl _ | with_reducible apply Kept.drew | with_reducible apply Kept.alloc | ((with_reducible apply Kept.set); focus (simp <;> omega)) | ((with_reducible apply Kept.via); focus with_reducible assumption)))))).mono ?_
  rintro e w20 ⟨rfl, k20⟩
  obtain ⟨ce0, ce1, ce2, ce3, ce4, ce5⟩ := Kept.alln6 (show Kept W_e w20 from (by (repeat (first | with_reducible exact Kept.refl _ | with_reducible apply Kept.drew | with_reducible apply Kept.alloc | ((with_reducible apply Kept.set); focus (simp <;> omega)) | ((with_reducible apply Kept.via); focus with_reducible assumption))))) H_e
  go_wp2_with fail
  refine (Q0.out _ (Tens.kept T.out (by (repeat (first | with_reducible exact Kept.refl _ | with_reducible apply Kept.drew | with_reducible apply Kept.alloc | ((with_reducible apply Kept.set); focus (simp <;> omega)) | ((with_reducible apply Kept.via); focus with_reducible assumption)))))).mono ?_
  rintro e w21 ⟨rfl, k21⟩
  clear ce0 ce1 ce2 ce3 ce4 ce5
  obtain ⟨ce0, ce1, ce2, ce3, ce4, ce5⟩ := Kept.alln6 (show Kept W_e w21 from (by (repeat (first | with_reducible exact Kept.refl _ | with_reducible apply Kept.drew | with_reducible apply Kept.alloc | ((with_reducible apply Kept.set); focus (simp <;> omega)) | ((with_reducible apply Kept.via); focus with_reducible assumption))))) H_e
  go_wp2_with fail
  refine (Q1.out _).mono ?_
  rintro e w22 ⟨rfl, k22⟩
  clear ce0 ce1 ce2 ce3 ce4 ce5
  go_upto_region 5 with fail
  generalize hW : World.alloc w22 (.cells #[.bool true, .int .i64 st, .int .i64 f, .int .i64 m, .int .i64 k, .int .i64 es] 25) = W_x
  have K_x : Kept w22 W_x := by subst hW; exact (Kept.refl _).alloc _ _
  have H_x := Lib.hid (show W_x.cell? ⟨w22.heap.size, 0, none⟩ = some (.bool true) ∧ W_x.cell? ⟨w22.heap.size, 1, none⟩ = some (.int .i64 st) ∧ W_x.cell? ⟨w22.heap.size, 2, none⟩ = some (.int .i64 f) ∧ W_x.cell? ⟨w22.heap.size, 3, none⟩ = some (.int .i64 m) ∧ W_x.cell? ⟨w22.heap.size, 4, none⟩ = some (.int .i64 k) ∧ W_x.cell? ⟨w22.heap.size, 5, none⟩ = some (.int .i64 es) from by subst hW; simp [go_sem])
  clear hW
  generalize w22.heap.size = g_x at *
  go_upto_region 6 with fail
  have TQ := Lib.hid (show Tens W_x from Tens.kept T.out (by (repeat (first | with_reducible exact Kept.refl _ | with_reducible apply Kept.drew | with_reducible apply Kept.alloc | ((with_reducible apply Kept.set); focus (simp <;> omega)) | ((with_reducible apply Kept.via); focus with_reducible assumption)))))
  have B_e := Lib.hid (Kept.alln6 (show Kept W_e W_x from (by (repeat (first | with_reducible exact Kept.refl _ | with_reducible apply Kept.drew | with_reducible apply Kept.alloc | ((with_reducible apply Kept.set); focus (simp <;> omega)) | ((with_reducible apply Kept.via); focus with_reducible assumption))))) H_e)
  have B_x := Lib.hid (Kept.alln6 (show Kept W_x W_x from (by (repeat (first | with_reducible exact Kept.refl _ | with_reducible apply Kept.drew | with_reducible apply Kept.alloc | ((with_reducible apply Kept.set); focus (simp <;> omega)) | ((with_reducible apply Kept.via); focus with_reducible assumption))))) H_x)
  have kall : Kept w W_x := (by (repeat (first | with_reducible exact Kept.refl _ | with_reducible apply Kept.drew | with_reducible apply Kept.alloc | ((with_reducible apply Kept.set); focus (simp <;> omega)) | ((with_reducible apply Kept.via); focus with_reducible assumption))))
  obtain ⟨q_e0, q_e1, q_e2, q_e3, q_e4, q_e5⟩ := kwn6 B_e
  obtain ⟨q_x0, q_x1, q_x2, q_x3, q_x4, q_x5⟩ := kwn6 B_x
  clear B_e B_x
  refine wp_region_kept (by kernel_rfl) (by as_aux_lemma => kernel_rfl) ?_
  repeat (go_big_quiet_step (first | (with_reducible exact kept_of (Q2.out _ (Tens.kept TQ.out (KW.k _)))) | (with_reducible exact kept_of ((on19_t _)))))
  refine wpQuiet_nil ?_
  intro wq hw'
  have kq : Kept W_x wq := by obtain ⟨p, rfl⟩ := hw'; exact p.k
  clear hw'
  clear kall
  go_wp2
  go_ret
  exact ⟨rfl, Kept.trans (Kept.trans (Kept.trans (Kept.trans (Kept.trans (K_e) k20) k21) k22) K_x) kq⟩
set_option maxRecDepth 100000 in
set_option maxHeartbeats 1600000 in
theorem pause19_still (GC : GdCheckC) (FC : GdFirstC) (IC : GdIdleC) (PC : GdPauseC) (UC : GdUsedC) (YC : GdPartsC) (EC : ECheckC) (BC : EBeginC) {s f m k es last now : Int} (me : MayE (⟨true, s, f, m, k, es⟩ : Ep)) (ie : In64E (⟨true, s, f, m, k, es⟩ : Ep)) (mx : MayE (⟨true, s, f, m, k, es⟩ : Ep)) (ix : In64E (⟨true, s, f, m, k, es⟩ : Ep)) (last0 : 0 ≤ last) (last1 : last ≤ 4294967295) (now0 : 0 ≤ now) (now1 : now ≤ 4294967295) (q1 : shiftE (⟨true, s, f, m, k, es⟩ : Ep) (heldAt (now - last)) = (⟨true, s, f, m, k, es⟩ : Ep)) (o : now - last ≤ 0) (s0 : 0 ≤ s) (s1 : s ≤ 1099511627776)  (w : World) (T_ : Tens w) : Calls Tryd.prog 5 #[.agg #[.bool true, .int .i64 s, .int .i64 f, .int .i64 m, .int .i64 k, .int .i64 es], .int .u32 last, .int .u32 now] w fun e w' => e = .returned (.bool true) ∧ Kept w w' := by
  have GC' := Lib.hid GC
  have FC' := Lib.hid FC
  have IC' := Lib.hid IC
  have PC' := Lib.hid PC
  have UC' := Lib.hid UC
  have YC' := Lib.hid YC
  have EC' := Lib.hid EC
  have BC' := Lib.hid BC
  have AW' := Lib.hid (fun w TT_ => awake19 GC FC IC PC UC YC EC BC w TT_)
  clear GC FC IC PC UC YC EC BC
  have T := Lib.hid T_
  clear T_
  have Q0 := Lib.hid (fun w_ TT_ => EC'.out (⟨true, s, f, m, k, es⟩ : Ep) true ie (by simp [me]) w_ TT_)
  have Q2 := Lib.hid (fun w_ TT_ => EC'.out (⟨true, s, f, m, k, es⟩ : Ep) true ix (by simp [mx]) w_ TT_)
  have Q1 := Lib.hid (fun w_ => PC'.out (⟨true, s, f, m, k, es⟩ : Ep) (⟨true, s, f, m, k, es⟩ : Ep) last now ie (by unfold In64; omega) (by unfold In64; omega) q1 w_)
  clear ie ix me mx q1
  have e8 : (if now - last < 0 then 0 else now - last) = 0 := by split <;> omega
  have e9 : max (now - last) 0 = 0 := by omega
  have e3 : IntKind.i64.wrap s = s := by rw [IntKind.wrap_i64]; omega
  have e3b : IntKind.i64.wrap (s + 0) = s := by rw [IntKind.wrap_i64]; omega
  have e4 : max 1099511627776 s = 1099511627776 := by omega
  have e5 : (if 1099511627776 < s then s else 1099511627776) = 1099511627776 := by rw [if_neg (by omega)]
  have e6 : min s 1099511627776 = s := by omega
  have e7 : (if 1099511627776 < s then 1099511627776 else s) = s := by rw [if_neg (by omega)]
  go_enter Tryd.func5, Tryd.ntmps5
  go_upto_region 1 with fail
  generalize hW : World.alloc w (.cells #[.bool true, .int .i64 s, .int .i64 f, .int .i64 m, .int .i64 k, .int .i64 es] 25) = W_e
  have K_e : Kept w W_e := by subst hW; exact (Kept.refl _).alloc _ _
  have H_e := Lib.hid (show W_e.cell? ⟨w.heap.size, 0, none⟩ = some (.bool true) ∧ W_e.cell? ⟨w.heap.size, 1, none⟩ = some (.int .i64 s) ∧ W_e.cell? ⟨w.heap.size, 2, none⟩ = some (.int .i64 f) ∧ W_e.cell? ⟨w.heap.size, 3, none⟩ = some (.int .i64 m) ∧ W_e.cell? ⟨w.heap.size, 4, none⟩ = some (.int .i64 k) ∧ W_e.cell? ⟨w.heap.size, 5, none⟩ = some (.int .i64 es) from by subst hW; simp [go_sem])
  clear hW
  generalize w.heap.size = g_e at *
  go_wp2_with fail
  refine (AW'.out _ (Tens.kept T.out (by (repeat (first | with_reducible exact Kept.refl _ | with_reducible apply Kept.drew | with_reducible apply Kept.alloc | ((with_reducible apply Kept.set); focus (simp <;> omega)) | ((with_reducible apply Kept.via); focus with_reducible assumption)))))).mono ?_
  rintro e w20 ⟨rfl, k20⟩
  obtain ⟨ce0, ce1, ce2, ce3, ce4, ce5⟩ := Kept.alln6 (show Kept W_e w20 from (by (repeat (first | with_reducible exact Kept.refl _ | with_reducible apply Kept.drew | with_reducible apply Kept.alloc | ((with_reducible apply Kept.set); focus (simp <;> omega)) | ((with_reducible apply Kept.via); focus with_reducible assumption))))) H_e
  go_wp2_with fail
  refine (Q0.out _ (Tens.kept T.out (by (repeat (first | with_reducible exact Kept.refl _ | with_reducible apply Kept.drew | with_reducible apply Kept.alloc | ((with_reducible apply Kept.set); focus (simp <;> omega)) | ((with_reducible apply Kept.via); focus with_reducible assumption)))))).mono ?_
  rintro e w21 ⟨rfl, k21⟩
  clear ce0 ce1 ce2 ce3 ce4 ce5
  obtain ⟨ce0, ce1, ce2, ce3, ce4, ce5⟩ := Kept.alln6 (show Kept W_e w21 from (by (repeat (first | with_reducible exact Kept.refl _ | with_reducible apply Kept.drew | with_reducible apply Kept.alloc | ((with_reducible apply Kept.set); focus (simp <;> omega)) | ((with_reducible apply Kept.via); focus with_reducible assumption))))) H_e
  go_wp2_with fail
  refine (Q1.out _).mono ?_
  rintro e w22 ⟨rfl, k22⟩
  clear ce0 ce1 ce2 ce3 ce4 ce5
  go_upto_region 5 with fail
  generalize hW : World.alloc w22 (.cells #[.bool true, .int .i64 s, .int .i64 f, .int .i64 m, .int .i64 k, .int .i64 es] 25) = W_x
  have K_x : Kept w22 W_x := by subst hW; exact (Kept.refl _).alloc _ _
  have H_x := Lib.hid (show W_x.cell? ⟨w22.heap.size, 0, none⟩ = some (.bool true) ∧ W_x.cell? ⟨w22.heap.size, 1, none⟩ = some (.int .i64 s) ∧ W_x.cell? ⟨w22.heap.size, 2, none⟩ = some (.int .i64 f) ∧ W_x.cell? ⟨w22.heap.size, 3, none⟩ = some (.int .i64 m) ∧ W_x.cell? ⟨w22.heap.size, 4, none⟩ = some (.int .i64 k) ∧ W_x.cell? ⟨w22.heap.size, 5, none⟩ = some (.int .i64 es) from by subst hW; simp [go_sem])
  clear hW
  generalize w22.heap.size = g_x at *
  go_upto_region 6 with fail
  have TQ := Lib.hid (show Tens W_x from Tens.kept T.out (by (repeat (first | with_reducible exact Kept.refl _ | with_reducible apply Kept.drew | with_reducible apply Kept.alloc | ((with_reducible apply Kept.set); focus (simp <;> omega)) | ((with_reducible apply Kept.via); focus with_reducible assumption)))))
  have B_e := Lib.hid (Kept.alln6 (show Kept W_e W_x from (by (repeat (first | with_reducible exact Kept.refl _ | with_reducible apply Kept.drew | with_reducible apply Kept.alloc | ((with_reducible apply Kept.set); focus (simp <;> omega)) | ((with_reducible apply Kept.via); focus with_reducible assumption))))) H_e)
  have B_x := Lib.hid (Kept.alln6 (show Kept W_x W_x from (by (repeat (first | with_reducible exact Kept.refl _ | with_reducible apply Kept.drew | with_reducible apply Kept.alloc | ((with_reducible apply Kept.set); focus (simp <;> omega)) | ((with_reducible apply Kept.via); focus with_reducible assumption))))) H_x)
  have kall : Kept w W_x := (by (repeat (first | with_reducible exact Kept.refl _ | with_reducible apply Kept.drew | with_reducible apply Kept.alloc | ((with_reducible apply Kept.set); focus (simp <;> omega)) | ((with_reducible apply Kept.via); focus with_reducible assumption))))
  obtain ⟨q_e0, q_e1, q_e2, q_e3, q_e4, q_e5⟩ := kwn6 B_e
  obtain ⟨q_x0, q_x1, q_x2, q_x3, q_x4, q_x5⟩ := kwn6 B_x
  clear B_e B_x
  refine wp_region_kept (by kernel_rfl) (by as_aux_lemma => kernel_rfl) ?_
  repeat (go_big_quiet_step (first | (with_reducible exact kept_of (Q2.out _ (Tens.kept TQ.out (KW.k _)))) | (with_reducible exact kept_of ((on19_t _)))))
  refine wpQuiet_nil ?_
  intro wq hw'
  have kq : Kept W_x wq := by obtain ⟨p, rfl⟩ := hw'; exact p.k
  clear hw'
  clear kall
  go_wp2
  go_ret
  exact ⟨rfl, Kept.trans (Kept.trans (Kept.trans (Kept.trans (Kept.trans (K_e) k20) k21) k22) K_x) kq⟩
set_option maxRecDepth 100000 in
set_option maxHeartbeats 1600000 in
theorem pause19_off (GC : GdCheckC) (FC : GdFirstC) (IC : GdIdleC) (PC : GdPauseC) (UC : GdUsedC) (YC : GdPartsC) (EC : ECheckC) (BC : EBeginC) {last now : Int} (me : MayE (⟨false, 0, 0, 0, 0, 0⟩ : Ep)) (ie : In64E (⟨false, 0, 0, 0, 0, 0⟩ : Ep)) (mx : MayE (⟨false, 0, 0, 0, 0, 0⟩ : Ep)) (ix : In64E (⟨false, 0, 0, 0, 0, 0⟩ : Ep)) (last0 : 0 ≤ last) (last1 : last ≤ 4294967295) (now0 : 0 ≤ now) (now1 : now ≤ 4294967295) (q1 : shiftE (⟨false, 0, 0, 0, 0, 0⟩ : Ep) (heldAt (now - last)) = (⟨false, 0, 0, 0, 0, 0⟩ : Ep)) (o : 0 < now - last)  (w : World) (T_ : Tens w) : Calls Tryd.prog 5 #[.agg #[.bool false, .int .i64 0, .int .i64 0, .int .i64 0, .int .i64 0, .int .i64 0], .int .u32 last, .int .u32 now] w fun e w' => e = .returned (.bool true) ∧ Kept w w' := by
  have GC' := Lib.hid GC
  have FC' := Lib.hid FC
  have IC' := Lib.hid IC
  have PC' := Lib.hid PC
  have UC' := Lib.hid UC
  have YC' := Lib.hid YC
  have EC' := Lib.hid EC
  have BC' := Lib.hid BC
  have AW' := Lib.hid (fun w TT_ => awake19 GC FC IC PC UC YC EC BC w TT_)
  clear GC FC IC PC UC YC EC BC
  have T := Lib.hid T_
  clear T_
  have Q0 := Lib.hid (fun w_ TT_ => EC'.out (⟨false, 0, 0, 0, 0, 0⟩ : Ep) true ie (by simp [me]) w_ TT_)
  have Q2 := Lib.hid (fun w_ TT_ => EC'.out (⟨false, 0, 0, 0, 0, 0⟩ : Ep) true ix (by simp [mx]) w_ TT_)
  have Q1 := Lib.hid (fun w_ => PC'.out (⟨false, 0, 0, 0, 0, 0⟩ : Ep) (⟨false, 0, 0, 0, 0, 0⟩ : Ep) last now ie (by unfold In64; omega) (by unfold In64; omega) q1 w_)
  clear ie ix me mx q1
  have d0 : decide (0 < now - last) = true := decide_eq_true o
  have d1 : decide (last < now) = true := decide_eq_true (by omega)
  have e0 : IntKind.i64.wrap (now - last) = now - last := by rw [IntKind.wrap_i64]; omega
  have e1 : IntKind.i64.wrap ((now - last) * 0) = 0 := by rw [IntKind.wrap_i64]; omega
  go_enter Tryd.func5, Tryd.ntmps5
  go_upto_region 1 with fail
  generalize hW : World.alloc w (.cells #[.bool false, .int .i64 0, .int .i64 0, .int .i64 0, .int .i64 0, .int .i64 0] 25) = W_e
  have K_e : Kept w W_e := by subst hW; exact (Kept.refl _).alloc _ _
  have H_e := Lib.hid (show W_e.cell? ⟨w.heap.size, 0, none⟩ = some (.bool false) ∧ W_e.cell? ⟨w.heap.size, 1, none⟩ = some (.int .i64 0) ∧ W_e.cell? ⟨w.heap.size, 2, none⟩ = some (.int .i64 0) ∧ W_e.cell? ⟨w.heap.size, 3, none⟩ = some (.int .i64 0) ∧ W_e.cell? ⟨w.heap.size, 4, none⟩ = some (.int .i64 0) ∧ W_e.cell? ⟨w.heap.size, 5, none⟩ = some (.int .i64 0) from by subst hW; simp [go_sem])
  clear hW
  generalize w.heap.size = g_e at *
  go_wp2_with fail
  refine (AW'.out _ (Tens.kept T.out (by (repeat (first | with_reducible exact Kept.refl _ | with_reducible apply Kept.drew | with_reducible apply Kept.alloc | ((with_reducible apply Kept.set); focus (simp <;> omega)) | ((with_reducible apply Kept.via); focus with_reducible assumption)))))).mono ?_
  rintro e w20 ⟨rfl, k20⟩
  obtain ⟨ce0, ce1, ce2, ce3, ce4, ce5⟩ := Kept.alln6 (show Kept W_e w20 from (by (repeat (first | with_reducible exact Kept.refl _ | with_reducible apply Kept.drew | with_reducible apply Kept.alloc | ((with_reducible apply Kept.set); focus (simp <;> omega)) | ((with_reducible apply Kept.via); focus with_reducible assumption))))) H_e
  go_wp2_with fail
  refine (Q0.out _ (Tens.kept T.out (by (repeat (first | with_reducible exact Kept.refl _ | with_reducible apply Kept.drew | with_reducible apply Kept.alloc | ((with_reducible apply Kept.set); focus (simp <;> omega)) | ((with_reducible apply Kept.via); focus with_reducible assumption)))))).mono ?_
  rintro e w21 ⟨rfl, k21⟩
  clear ce0 ce1 ce2 ce3 ce4 ce5
  obtain ⟨ce0, ce1, ce2, ce3, ce4, ce5⟩ := Kept.alln6 (show Kept W_e w21 from (by (repeat (first | with_reducible exact Kept.refl _ | with_reducible apply Kept.drew | with_reducible apply Kept.alloc | ((with_reducible apply Kept.set); focus (simp <;> omega)) | ((with_reducible apply Kept.via); focus with_reducible assumption))))) H_e
  go_wp2_with fail
  refine (Q1.out _).mono ?_
  rintro e w22 ⟨rfl, k22⟩
  clear ce0 ce1 ce2 ce3 ce4 ce5
  go_upto_region 5 with fail
  generalize hW : World.alloc w22 (.cells #[.bool false, .int .i64 0, .int .i64 0, .int .i64 0, .int .i64 0, .int .i64 0] 25) = W_x
  have K_x : Kept w22 W_x := by subst hW; exact (Kept.refl _).alloc _ _
  have H_x := Lib.hid (show W_x.cell? ⟨w22.heap.size, 0, none⟩ = some (.bool false) ∧ W_x.cell? ⟨w22.heap.size, 1, none⟩ = some (.int .i64 0) ∧ W_x.cell? ⟨w22.heap.size, 2, none⟩ = some (.int .i64 0) ∧ W_x.cell? ⟨w22.heap.size, 3, none⟩ = some (.int .i64 0) ∧ W_x.cell? ⟨w22.heap.size, 4, none⟩ = some (.int .i64 0) ∧ W_x.cell? ⟨w22.heap.size, 5, none⟩ = some (.int .i64 0) from by subst hW; simp [go_sem])
  clear hW
  generalize w22.heap.size = g_x at *
  go_upto_region 6 with fail
  have TQ := Lib.hid (show Tens W_x from Tens.kept T.out (by (repeat (first | with_reducible exact Kept.refl _ | with_reducible apply Kept.drew | with_reducible apply Kept.alloc | ((with_reducible apply Kept.set); focus (simp <;> omega)) | ((with_reducible apply Kept.via); focus with_reducible assumption)))))
  have B_e := Lib.hid (Kept.alln6 (show Kept W_e W_x from (by (repeat (first | with_reducible exact Kept.refl _ | with_reducible apply Kept.drew | with_reducible apply Kept.alloc | ((with_reducible apply Kept.set); focus (simp <;> omega)) | ((with_reducible apply Kept.via); focus with_reducible assumption))))) H_e)
  have B_x := Lib.hid (Kept.alln6 (show Kept W_x W_x from (by (repeat (first | with_reducible exact Kept.refl _ | with_reducible apply Kept.drew | with_reducible apply Kept.alloc | ((with_reducible apply Kept.set); focus (simp <;> omega)) | ((with_reducible apply Kept.via); focus with_reducible assumption))))) H_x)
  have kall : Kept w W_x := (by (repeat (first | with_reducible exact Kept.refl _ | with_reducible apply Kept.drew | with_reducible apply Kept.alloc | ((with_reducible apply Kept.set); focus (simp <;> omega)) | ((with_reducible apply Kept.via); focus with_reducible assumption))))
  obtain ⟨q_e0, q_e1, q_e2, q_e3, q_e4, q_e5⟩ := kwn6 B_e
  obtain ⟨q_x0, q_x1, q_x2, q_x3, q_x4, q_x5⟩ := kwn6 B_x
  clear B_e B_x
  refine wp_region_kept (by kernel_rfl) (by as_aux_lemma => kernel_rfl) ?_
  repeat (go_big_quiet_step (first | (with_reducible exact kept_of (Q2.out _ (Tens.kept TQ.out (KW.k _)))) | (with_reducible exact kept_of ((on19_f _)))))
  refine wpQuiet_nil ?_
  intro wq hw'
  have kq : Kept W_x wq := by obtain ⟨p, rfl⟩ := hw'; exact p.k
  clear hw'
  clear kall
  go_wp2
  go_ret
  exact ⟨rfl, Kept.trans (Kept.trans (Kept.trans (Kept.trans (Kept.trans (K_e) k20) k21) k22) K_x) kq⟩
set_option maxRecDepth 100000 in
set_option maxHeartbeats 1600000 in
theorem pause19_zero (GC : GdCheckC) (FC : GdFirstC) (IC : GdIdleC) (PC : GdPauseC) (UC : GdUsedC) (YC : GdPartsC) (EC : ECheckC) (BC : EBeginC) {last now : Int} (me : MayE (⟨false, 0, 0, 0, 0, 0⟩ : Ep)) (ie : In64E (⟨false, 0, 0, 0, 0, 0⟩ : Ep)) (mx : MayE (⟨false, 0, 0, 0, 0, 0⟩ : Ep)) (ix : In64E (⟨false, 0, 0, 0, 0, 0⟩ : Ep)) (last0 : 0 ≤ last) (last1 : last ≤ 4294967295) (now0 : 0 ≤ now) (now1 : now ≤ 4294967295) (q1 : shiftE (⟨false, 0, 0, 0, 0, 0⟩ : Ep) (heldAt (now - last)) = (⟨false, 0, 0, 0, 0, 0⟩ : Ep)) (o : now - last ≤ 0)  (w : World) (T_ : Tens w) : Calls Tryd.prog 5 #[.agg #[.bool false, .int .i64 0, .int .i64 0, .int .i64 0, .int .i64 0, .int .i64 0], .int .u32 last, .int .u32 now] w fun e w' => e = .returned (.bool true) ∧ Kept w w' := by
  have GC' := Lib.hid GC
  have FC' := Lib.hid FC
  have IC' := Lib.hid IC
  have PC' := Lib.hid PC
  have UC' := Lib.hid UC
  have YC' := Lib.hid YC
  have EC' := Lib.hid EC
  have BC' := Lib.hid BC
  have AW' := Lib.hid (fun w TT_ => awake19 GC FC IC PC UC YC EC BC w TT_)
  clear GC FC IC PC UC YC EC BC
  have T := Lib.hid T_
  clear T_
  have Q0 := Lib.hid (fun w_ TT_ => EC'.out (⟨false, 0, 0, 0, 0, 0⟩ : Ep) true ie (by simp [me]) w_ TT_)
  have Q2 := Lib.hid (fun w_ TT_ => EC'.out (⟨false, 0, 0, 0, 0, 0⟩ : Ep) true ix (by simp [mx]) w_ TT_)
  have Q1 := Lib.hid (fun w_ => PC'.out (⟨false, 0, 0, 0, 0, 0⟩ : Ep) (⟨false, 0, 0, 0, 0, 0⟩ : Ep) last now ie (by unfold In64; omega) (by unfold In64; omega) q1 w_)
  clear ie ix me mx q1
  have e8 : (if now - last < 0 then 0 else now - last) = 0 := by split <;> omega
  have e9 : max (now - last) 0 = 0 := by omega
  go_enter Tryd.func5, Tryd.ntmps5
  go_upto_region 1 with fail
  generalize hW : World.alloc w (.cells #[.bool false, .int .i64 0, .int .i64 0, .int .i64 0, .int .i64 0, .int .i64 0] 25) = W_e
  have K_e : Kept w W_e := by subst hW; exact (Kept.refl _).alloc _ _
  have H_e := Lib.hid (show W_e.cell? ⟨w.heap.size, 0, none⟩ = some (.bool false) ∧ W_e.cell? ⟨w.heap.size, 1, none⟩ = some (.int .i64 0) ∧ W_e.cell? ⟨w.heap.size, 2, none⟩ = some (.int .i64 0) ∧ W_e.cell? ⟨w.heap.size, 3, none⟩ = some (.int .i64 0) ∧ W_e.cell? ⟨w.heap.size, 4, none⟩ = some (.int .i64 0) ∧ W_e.cell? ⟨w.heap.size, 5, none⟩ = some (.int .i64 0) from by subst hW; simp [go_sem])
  clear hW
  generalize w.heap.size = g_e at *
  go_wp2_with fail
  refine (AW'.out _ (Tens.kept T.out (by (repeat (first | with_reducible exact Kept.refl _ | with_reducible apply Kept.drew | with_reducible apply Kept.alloc | ((with_reducible apply Kept.set); focus (simp <;> omega)) | ((with_reducible apply Kept.via); focus with_reducible assumption)))))).mono ?_
  rintro e w20 ⟨rfl, k20⟩
  obtain ⟨ce0, ce1, ce2, ce3, ce4, ce5⟩ := Kept.alln6 (show Kept W_e w20 from (by (repeat (first | with_reducible exact Kept.refl _ | with_reducible apply Kept.drew | with_reducible apply Kept.alloc | ((with_reducible apply Kept.set); focus (simp <;> omega)) | ((with_reducible apply Kept.via); focus with_reducible assumption))))) H_e
  go_wp2_with fail
  refine (Q0.out _ (Tens.kept T.out (by (repeat (first | with_reducible exact Kept.refl _ | with_reducible apply Kept.drew | with_reducible apply Kept.alloc | ((with_reducible apply Kept.set); focus (simp <;> omega)) | ((with_reducible apply Kept.via); focus with_reducible assumption)))))).mono ?_
  rintro e w21 ⟨rfl, k21⟩
  clear ce0 ce1 ce2 ce3 ce4 ce5
  obtain ⟨ce0, ce1, ce2, ce3, ce4, ce5⟩ := Kept.alln6 (show Kept W_e w21 from (by (repeat (first | with_reducible exact Kept.refl _ | with_reducible apply Kept.drew | with_reducible apply Kept.alloc | ((with_reducible apply Kept.set); focus (simp <;> omega)) | ((with_reducible apply Kept.via); focus with_reducible assumption))))) H_e
  go_wp2_with fail
  refine (Q1.out _).mono ?_
  rintro e w22 ⟨rfl, k22⟩
  clear ce0 ce1 ce2 ce3 ce4 ce5
  go_upto_region 5 with fail
  generalize hW : World.alloc w22 (.cells #[.bool false, .int .i64 0, .int .i64 0, .int .i64 0, .int .i64 0, .int .i64 0] 25) = W_x
  have K_x : Kept w22 W_x := by subst hW; exact (Kept.refl _).alloc _ _
  have H_x := Lib.hid (show W_x.cell? ⟨w22.heap.size, 0, none⟩ = some (.bool false) ∧ W_x.cell? ⟨w22.heap.size, 1, none⟩ = some (.int .i64 0) ∧ W_x.cell? ⟨w22.heap.size, 2, none⟩ = some (.int .i64 0) ∧ W_x.cell? ⟨w22.heap.size, 3, none⟩ = some (.int .i64 0) ∧ W_x.cell? ⟨w22.heap.size, 4, none⟩ = some (.int .i64 0) ∧ W_x.cell? ⟨w22.heap.size, 5, none⟩ = some (.int .i64 0) from by subst hW; simp [go_sem])
  clear hW
  generalize w22.heap.size = g_x at *
  go_upto_region 6 with fail
  have TQ := Lib.hid (show Tens W_x from Tens.kept T.out (by (repeat (first | with_reducible exact Kept.refl _ | with_reducible apply Kept.drew | with_reducible apply Kept.alloc | ((with_reducible apply Kept.set); focus (simp <;> omega)) | ((with_reducible apply Kept.via); focus with_reducible assumption)))))
  have B_e := Lib.hid (Kept.alln6 (show Kept W_e W_x from (by (repeat (first | with_reducible exact Kept.refl _ | with_reducible apply Kept.drew | with_reducible apply Kept.alloc | ((with_reducible apply Kept.set); focus (simp <;> omega)) | ((with_reducible apply Kept.via); focus with_reducible assumption))))) H_e)
  have B_x := Lib.hid (Kept.alln6 (show Kept W_x W_x from (by (repeat (first | with_reducible exact Kept.refl _ | with_reducible apply Kept.drew | with_reducible apply Kept.alloc | ((with_reducible apply Kept.set); focus (simp <;> omega)) | ((with_reducible apply Kept.via); focus with_reducible assumption))))) H_x)
  have kall : Kept w W_x := (by (repeat (first | with_reducible exact Kept.refl _ | with_reducible apply Kept.drew | with_reducible apply Kept.alloc | ((with_reducible apply Kept.set); focus (simp <;> omega)) | ((with_reducible apply Kept.via); focus with_reducible assumption))))
  obtain ⟨q_e0, q_e1, q_e2, q_e3, q_e4, q_e5⟩ := kwn6 B_e
  obtain ⟨q_x0, q_x1, q_x2, q_x3, q_x4, q_x5⟩ := kwn6 B_x
  clear B_e B_x
  refine wp_region_kept (by kernel_rfl) (by as_aux_lemma => kernel_rfl) ?_
  repeat (go_big_quiet_step (first | (with_reducible exact kept_of (Q2.out _ (Tens.kept TQ.out (KW.k _)))) | (with_reducible exact kept_of ((on19_f _)))))
  refine wpQuiet_nil ?_
  intro wq hw'
  have kq : Kept W_x wq := by obtain ⟨p, rfl⟩ := hw'; exact p.k
  clear hw'
  clear kall
  go_wp2
  go_ret
  exact ⟨rfl, Kept.trans (Kept.trans (Kept.trans (Kept.trans (Kept.trans (K_e) k20) k21) k22) K_x) kq⟩
theorem guidePause_walk (GC : GdCheckC) (FC : GdFirstC) (IC : GdIdleC) (PC : GdPauseC) (UC : GdUsedC) (YC : GdPartsC) (EC : ECheckC) (BC : EBeginC) (on : Bool) (s f m k es last now : Int) (w : World) (T_ : Tens w) (ie : In64E (⟨on, s, f, m, k, es⟩ : Ep)) (last0 : 0 ≤ last) (last1 : last ≤ 4294967295) (now0 : 0 ≤ now) (now1 : now ≤ 4294967295) : Calls Tryd.prog 5 #[.agg #[.bool on, .int .i64 s, .int .i64 f, .int .i64 m, .int .i64 k, .int .i64 es], .int .u32 last, .int .u32 now] w fun e w' => e = .returned (.bool true) ∧ Kept w w' := by
  by_cases me : MayE (⟨on, s, f, m, k, es⟩ : Ep)
  · have hd : heldAt (now - last) = now - last := heldAt_of (by unfold In64; omega)
    rcases me with ⟨m0, m1, m2, m3, m4, m5⟩ | ⟨m0, m1, m2, m3, m4, m5, m6⟩
    · dsimp only at m0 m1 m2 m3 m4 m5
      subst m0 m1 m2 m3 m4 m5
      have mz : MayE (⟨false, 0, 0, 0, 0, 0⟩ : Ep) := Or.inl ⟨rfl, rfl, rfl, rfl, rfl, rfl⟩
      have q1 : shiftE (⟨false, 0, 0, 0, 0, 0⟩ : Ep) (heldAt (now - last)) = (⟨false, 0, 0, 0, 0, 0⟩ : Ep) := by unfold shiftE; rw [if_pos (Or.inl rfl)]
      by_cases o : 0 < now - last
      · exact pause19_off GC FC IC PC UC YC EC BC mz ie mz ie last0 last1 now0 now1 q1 o w T_
      · exact pause19_zero GC FC IC PC UC YC EC BC mz ie mz ie last0 last1 now0 now1 q1 (by omega) w T_
    · dsimp only at m0 m1 m2 m3 m4 m5 m6
      subst m0
      have mz : MayE (⟨true, s, f, m, k, es⟩ : Ep) := Or.inr ⟨rfl, m1, m2, m3, m4, m5, m6⟩
      have t1 := m1
      unfold IsTime at t1
      by_cases o : 0 < now - last
      · have e : shiftE (⟨true, s, f, m, k, es⟩ : Ep) (heldAt (now - last)) = (⟨true, (min (s + (now - last)) 1099511627776), f, m, k, es⟩ : Ep) := by
          unfold shiftE
          rw [hd, if_neg (by simp; omega)]
          congr 1
          show (if 1099511627776 < s + (now - last) then 1099511627776 else s + (now - last)) = min (s + (now - last)) 1099511627776
          split <;> omega
        have mx := shift_may (d := heldAt (now - last)) mz
        have ix := shift_in64 ie (heldAt_in (now - last))
        rw [e] at mx ix
        exact pause19_on GC FC IC PC UC YC EC BC mz ie mx ix last0 last1 now0 now1 e o t1.1 t1.2 rfl w T_
      · have e : shiftE (⟨true, s, f, m, k, es⟩ : Ep) (heldAt (now - last)) = (⟨true, s, f, m, k, es⟩ : Ep) := by unfold shiftE; rw [hd, if_pos (Or.inr (by omega))]
        exact pause19_still GC FC IC PC UC YC EC BC mz ie mz ie last0 last1 now0 now1 e (by omega) t1.1 t1.2 w T_
  · exact pause19_no GC FC IC PC UC YC EC BC ie me w T_
end Go.Proofs.YtdbikeehoildlaaDoor
