/-
  The walk of GuideTells: it answers true, if the calls do what they are to do.
-/
import Derived.Test.YtdbikeehoildlaaDoorRefP19
import Derived.Test.YtdbikeehoildlaaDoorAwake19
import Derived.Test.YtdbikeehoildlaaDoorTailF
import Derived.Test.YtdbikeehoildlaaDoorParts19
import Derived.Deep.RegionHeld3
import Derived.Deep.DeepCutAuto
namespace Go.Proofs.YtdbikeehoildlaaDoor
open Go.RowKit Go.BigFrame
set_option linter.unusedVariables false

instance (v o s : Int) : Decidable (UsedW v o s) := by unfold UsedW; infer_instance
set_option maxRecDepth 100000 in
set_option maxHeartbeats 1600000 in
theorem tells19_many (GC : GdCheckC) (FC : GdFirstC) (IC : GdIdleC) (PC : GdPauseC) (UC : GdUsedC) (YC : GdPartsC) (EC : ECheckC) (BC : EBeginC) {sg mx fi gn ls gt bu v last now tmo s f m k es : Int} {on : Bool} {A : Option Addr} {len cap : Nat} (h : 100 < len) (w : World) (T_ : Tens w) : Calls Tryd.prog 3 #[.agg #[.int .i64 sg, .int .i64 mx, .int .i64 fi, .int .i64 gn, .int .i64 ls, .int .i64 gt, .int .i64 bu], .int .i64 v, .int .i64 last, .int .i64 now, .int .i64 tmo, .agg #[.bool on, .int .i64 s, .int .i64 f, .int .i64 m, .int .i64 k, .int .i64 es], .slice A len cap] w fun e w' => e = .returned (.bool true) ∧ Kept w w' := by
  have GC' := Lib.hid GC
  have FC' := Lib.hid FC
  have IC' := Lib.hid IC
  have PC' := Lib.hid PC
  have UC' := Lib.hid UC
  have YC' := Lib.hid YC
  have EC' := Lib.hid EC
  have BC' := Lib.hid BC
  have AW' := Lib.hid (fun w TT_ => awake19 GC FC IC PC UC YC EC BC w TT_)
  clear GC FC IC PC UC YC EC BC
  have T := Lib.hid T_
  clear T_
  have d0 : decide (100 < (len : Int)) = true := decide_eq_true (by omega)
  have d1 : (100 : Int) < (len : Int) := by omega
  go_enter Tryd.func3, Tryd.ntmps3
  go_upto_region 1 with fail
  generalize hW : World.alloc (World.alloc w (.cells #[.int .i64 sg, .int .i64 mx, .int .i64 fi, .int .i64 gn, .int .i64 ls, .int .i64 gt, .int .i64 bu] 23)) (.cells #[.bool on, .int .i64 s, .int .i64 f, .int .i64 m, .int .i64 k, .int .i64 es] 25) = W_p
  have K_p : Kept w W_p := by subst hW; exact ((Kept.refl _).alloc _ _).alloc _ _
  have H_c := Lib.hid (show W_p.cell? ⟨w.heap.size, 0, none⟩ = some (.int .i64 sg) ∧ W_p.cell? ⟨w.heap.size, 1, none⟩ = some (.int .i64 mx) ∧ W_p.cell? ⟨w.heap.size, 2, none⟩ = some (.int .i64 fi) ∧ W_p.cell? ⟨w.heap.size, 3, none⟩ = some (.int .i64 gn) ∧ W_p.cell? ⟨w.heap.size, 4, none⟩ = some (.int .i64 ls) ∧ W_p.cell? ⟨w.heap.size, 5, none⟩ = some (.int .i64 gt) ∧ W_p.cell? ⟨w.heap.size, 6, none⟩ = some (.int .i64 bu) from by subst hW; simp [go_sem])
  have H_e := Lib.hid (show W_p.cell? ⟨w.heap.size + 1, 0, none⟩ = some (.bool on) ∧ W_p.cell? ⟨w.heap.size + 1, 1, none⟩ = some (.int .i64 s) ∧ W_p.cell? ⟨w.heap.size + 1, 2, none⟩ = some (.int .i64 f) ∧ W_p.cell? ⟨w.heap.size + 1, 3, none⟩ = some (.int .i64 m) ∧ W_p.cell? ⟨w.heap.size + 1, 4, none⟩ = some (.int .i64 k) ∧ W_p.cell? ⟨w.heap.size + 1, 5, none⟩ = some (.int .i64 es) from by subst hW; simp [go_sem])
  clear hW
  generalize hg : w.heap.size = g_c at *
  go_wp2_with fail
  refine (AW'.out _ (Tens.kept T.out (by (repeat (first | with_reducible exact Kept.refl _ | with_reducible apply Kept.drew | with_reducible apply Kept.alloc | ((with_reducible apply Kept.set); focus (simp <;> omega)) | ((with_reducible apply Kept.via); focus with_reducible assumption)))))).mono ?_
  rintro e w20 ⟨rfl, k20⟩
  go_wp2
  go_ret
  exact ⟨rfl, (by (repeat (first | with_reducible exact Kept.refl _ | with_reducible apply Kept.drew | with_reducible apply Kept.alloc | ((with_reducible apply Kept.set); focus (simp <;> omega)) | ((with_reducible apply Kept.via); focus with_reducible assumption))))⟩
set_option maxRecDepth 100000 in
set_option maxHeartbeats 6400000 in
theorem tells19_in (GC : GdCheckC) (FC : GdFirstC) (IC : GdIdleC) (PC : GdPauseC) (UC : GdUsedC) (YC : GdPartsC) (EC : ECheckC) (BC : EBeginC) {sg mx fi gn ls gt bu v last now tmo s f m k es : Int} {on : Bool} {A : Option Addr} {len cap : Nat} {n q : Nat} {l yes no : List Cf} {ce fw iw : Int} {h' : Ep} {b : Bool} (isg : In64 sg) (imx : In64 mx) (ifi : In64 fi) (ign : In64 gn) (ils : In64 ls) (igt : In64 gt) (ibu : In64 bu) (iv : In64 v) (il : In64 last) (in_ : In64 now) (it : In64 tmo) (ie : In64E (⟨on, s, f, m, k, es⟩ : Ep)) (hs : SliceOk A len cap) (hn : l.length = len) (hl : len ≤ 100) (hi : ∀ c ∈ l, CfIn c) (ey : partsC l 0 = yes) (eo : partsC l 210 = no) (hy : yes.length = n) (ho : no.length = q) (e1 : cfgE (⟨sg, mx, fi, gn, ls, gt, bu⟩ : Cf) = ce) (e2 : firstW (⟨sg, mx, fi, gn, ls, gt, bu⟩ : Cf) = fw) (e3 : idleN v last now tmo (⟨sg, mx, fi, gn, ls, gt, bu⟩ : Cf) = iw) (e4 : shiftE (⟨on, s, f, m, k, es⟩ : Ep) (heldAt (now - last)) = h') (e5 : b = true ↔ UsedW v last now) (w : World) (T_ : Tens w) (hr : RowC w A l) : Calls Tryd.prog 3 #[.agg #[.int .i64 sg, .int .i64 mx, .int .i64 fi, .int .i64 gn, .int .i64 ls, .int .i64 gt, .int .i64 bu], .int .i64 v, .int .i64 last, .int .i64 now, .int .i64 tmo, .agg #[.bool on, .int .i64 s, .int .i64 f, .int .i64 m, .int .i64 k, .int .i64 es], .slice A len cap] w fun e w' => e = .returned (.bool true) ∧ Kept w w' := by
  have GC' := Lib.hid GC
  have FC' := Lib.hid FC
  have IC' := Lib.hid IC
  have PC' := Lib.hid PC
  have UC' := Lib.hid UC
  have YC' := Lib.hid YC
  have EC' := Lib.hid EC
  have BC' := Lib.hid BC
  have AW' := Lib.hid (fun w TT_ => awake19 GC FC IC PC UC YC EC BC w TT_)
  clear GC FC IC PC UC YC EC BC
  have T := Lib.hid T_
  clear T_
  have HR := Lib.hid hr
  have HS := Lib.hid hs
  have HN := Lib.hid hn
  have HI := Lib.hid hi
  have EY := Lib.hid ey
  have EO := Lib.hid eo
  have HY := Lib.hid hy
  have HO := Lib.hid ho
  have nl : n ≤ len := by have := parts_len l 0; rw [ey, hy, hn] at this; exact this
  have ql : q ≤ len := by have := parts_len l 210; rw [eo, ho, hn] at this; exact this
  have Q1 := Lib.hid (fun w_ => GC'.out (⟨sg, mx, fi, gn, ls, gt, bu⟩ : Cf) ce (by unfold CfIn; exact ⟨isg, imx, ifi, ign, ils, igt, ibu⟩) e1 w_)
  have Q2 := Lib.hid (fun w_ => refCheck19_ok (c := (⟨sg, mx, fi, gn, ls, gt, bu⟩ : Cf)) e1 w_)
  have Q3 := Lib.hid (fun w_ => FC'.out (⟨sg, mx, fi, gn, ls, gt, bu⟩ : Cf) fw (by unfold CfIn; exact ⟨isg, imx, ifi, ign, ils, igt, ibu⟩) e2 w_)
  have Q4 := Lib.hid (fun w_ => refFirst19_ok (c := (⟨sg, mx, fi, gn, ls, gt, bu⟩ : Cf)) e2 w_)
  have Q5 := Lib.hid (fun w_ => IC'.out v last now tmo iw (⟨sg, mx, fi, gn, ls, gt, bu⟩ : Cf) iv il in_ it (by unfold CfIn; exact ⟨isg, imx, ifi, ign, ils, igt, ibu⟩) e3 w_)
  have Q6 := Lib.hid (fun w_ => refIdle19_ok (c := (⟨sg, mx, fi, gn, ls, gt, bu⟩ : Cf)) il in_ e3 w_)
  have Q7 := Lib.hid (fun w_ => PC'.out (⟨on, s, f, m, k, es⟩ : Ep) h' last now ie il in_ e4 w_)
  have Q8 := Lib.hid (fun w_ => refPause19_ok (h := (⟨on, s, f, m, k, es⟩ : Ep)) ie il in_ e4 w_)
  have Q9 := Lib.hid (fun w_ => UC'.out v last now b iv il in_ e5 w_)
  have Q0 := Lib.hid (fun w_ => refUsed19_ok iv il in_ e5 w_)
  have dd : decide (100 < (len : Int)) = false := by simp; omega
  have dd2 : ¬ (100 : Int) < (len : Int) := by omega
  clear hr hs hn hi ey eo hy ho e1 e2 e3 e4 e5 iv il in_ it ie isg imx ifi ign ils igt ibu
  go_enter Tryd.func3, Tryd.ntmps3
  go_upto_region 1 with fail
  generalize hW : World.alloc (World.alloc w (.cells #[.int .i64 sg, .int .i64 mx, .int .i64 fi, .int .i64 gn, .int .i64 ls, .int .i64 gt, .int .i64 bu] 23)) (.cells #[.bool on, .int .i64 s, .int .i64 f, .int .i64 m, .int .i64 k, .int .i64 es] 25) = W_p
  have K_p : Kept w W_p := by subst hW; exact ((Kept.refl _).alloc _ _).alloc _ _
  have H_c := Lib.hid (show W_p.cell? ⟨w.heap.size, 0, none⟩ = some (.int .i64 sg) ∧ W_p.cell? ⟨w.heap.size, 1, none⟩ = some (.int .i64 mx) ∧ W_p.cell? ⟨w.heap.size, 2, none⟩ = some (.int .i64 fi) ∧ W_p.cell? ⟨w.heap.size, 3, none⟩ = some (.int .i64 gn) ∧ W_p.cell? ⟨w.heap.size, 4, none⟩ = some (.int .i64 ls) ∧ W_p.cell? ⟨w.heap.size, 5, none⟩ = some (.int .i64 gt) ∧ W_p.cell? ⟨w.heap.size, 6, none⟩ = some (.int .i64 bu) from by subst hW; simp [go_sem])
  have H_e := Lib.hid (show W_p.cell? ⟨w.heap.size + 1, 0, none⟩ = some (.bool on) ∧ W_p.cell? ⟨w.heap.size + 1, 1, none⟩ = some (.int .i64 s) ∧ W_p.cell? ⟨w.heap.size + 1, 2, none⟩ = some (.int .i64 f) ∧ W_p.cell? ⟨w.heap.size + 1, 3, none⟩ = some (.int .i64 m) ∧ W_p.cell? ⟨w.heap.size + 1, 4, none⟩ = some (.int .i64 k) ∧ W_p.cell? ⟨w.heap.size + 1, 5, none⟩ = some (.int .i64 es) from by subst hW; simp [go_sem])
  clear hW
  generalize hg : w.heap.size = g_c at *
  go_wp2_with fail
  refine (AW'.out _ (Tens.kept T.out (by (repeat (first | with_reducible exact Kept.refl _ | with_reducible apply Kept.drew | with_reducible apply Kept.alloc | ((with_reducible apply Kept.set); focus (simp <;> omega)) | ((with_reducible apply Kept.via); focus with_reducible assumption)))))).mono ?_
  rintro e w20 ⟨rfl, k20⟩
  go_wp2_with fail
  refine (YC'.out A len cap l yes no n q HS.out HN.out (by omega) HI.out EY.out EO.out HY.out HO.out _ (HR.out.kept (by (repeat (first | with_reducible exact Kept.refl _ | with_reducible apply Kept.drew | with_reducible apply Kept.alloc | ((with_reducible apply Kept.set); focus (simp <;> omega)) | ((with_reducible apply Kept.via); focus with_reducible assumption)))))).mono ?_
  rintro e w30 ⟨A1, g1, A2, g2, rfl, s1, s2, r1, r2, _, _, k30⟩
  have R1 := Lib.hid r1
  have R2 := Lib.hid r2
  clear s1 s2 r1 r2
  go_upto_region 5 with fail
  have B_c := Lib.hid (Kept.alln7 (show Kept W_p w30 from (by (repeat (first | with_reducible exact Kept.refl _ | with_reducible apply Kept.drew | with_reducible apply Kept.alloc | ((with_reducible apply Kept.set); focus (simp <;> omega)) | ((with_reducible apply Kept.via); focus with_reducible assumption))))) H_c)
  have kall : Kept w w30 := (by (repeat (first | with_reducible exact Kept.refl _ | with_reducible apply Kept.drew | with_reducible apply Kept.alloc | ((with_reducible apply Kept.set); focus (simp <;> omega)) | ((with_reducible apply Kept.via); focus with_reducible assumption))))
  obtain ⟨q_c0, q_c1, q_c2, q_c3, q_c4, q_c5, q_c6⟩ := kwn7 B_c
  clear B_c
  refine wp_region_kept (by kernel_rfl) (by as_aux_lemma => kernel_rfl) ?_
  repeat (go_big_quiet_step (first | (with_reducible exact kept_of (Q1.out _)) | (with_reducible exact kept_of (Q2.out _)) | (with_reducible exact kept_of (Q3.out _)) | (with_reducible exact kept_of (Q4.out _)) | (with_reducible exact kept_of (Q5.out _)) | (with_reducible exact kept_of (Q6.out _))))
  refine wpQuiet_nil ?_
  intro wq hw'
  have kq : Kept w30 wq := by obtain ⟨p, rfl⟩ := hw'; exact p.k
  clear hw'
  clear kall
  have kq1 := kq
  clear kq
  go_upto_region 6 with fail
  obtain ⟨p0, p1, p2, p3, p4, p5⟩ := kwn6 (Lib.hid (Kept.alln6 (show Kept W_p wq from (by (repeat (first | with_reducible exact Kept.refl _ | with_reducible apply Kept.drew | with_reducible apply Kept.alloc | ((with_reducible apply Kept.set); focus (simp <;> omega)) | ((with_reducible apply Kept.via); focus with_reducible assumption))))) H_e))
  try simp only [List.append_eq, List.cons_append, List.nil_append]
  refine wp_region_kept_tailF 27 (by kernel_rfl) (by kernel_rfl) (fun d _ _ _ _ h => by cases d <;> exact h) ?_
  simp only [List.take_succ_cons, List.take_zero, List.drop_succ_cons, List.drop_zero]
  repeat (go_big_quiet_step (first | (with_reducible exact kept_of (Q7.out _)) | (with_reducible exact kept_of (Q8.out _)) | (with_reducible exact kept_of (Q9.out _)) | (with_reducible exact kept_of (Q0.out _))))
  refine wpQuiet_nil ?_
  intro wz hw'
  have kz : Kept wq wz := by obtain ⟨p, rfl⟩ := hw'; exact p.k
  clear hw' p0 p1 p2 p3 p4 p5
  have kA : Kept w wz := (by (repeat (first | with_reducible exact Kept.refl _ | with_reducible apply Kept.drew | with_reducible apply Kept.alloc | ((with_reducible apply Kept.set); focus (simp <;> omega)) | ((with_reducible apply Kept.via); focus with_reducible assumption))))
  have R1z := Lib.hid (R1.out.kept (Kept.trans kq1 kz))
  have R2z := Lib.hid (R2.out.kept (Kept.trans kq1 kz))
  have HRz := Lib.hid (HR.out.kept kA)
  clear R1 R2 HR kq1 kz
  go_wp2_with fail
  refine (refParts19_ok (cap := cap) HN.out (by omega) EY.out HY.out _ HRz.out).mono ?_
  rintro e w40 ⟨B, cb, rfl, _, rb, _, k40⟩
  go_wp2_with fail
  refine (refSame19_ok (cap := g1) (cap2 := cb) HY.out (by omega) _ (R1z.out.kept k40) rb).mono ?_
  rintro e w41 ⟨rfl, k41⟩
  clear rb
  have k42 := Kept.trans k40 k41
  clear k40 k41
  go_wp2_with fail
  refine (refParts19_ok (cap := cap) HN.out (by omega) EO.out HO.out _ (HRz.out.kept k42)).mono ?_
  rintro e w43 ⟨B3, cb3, rfl, _, rb3, _, k43⟩
  go_wp2_with fail
  refine (refSame19_ok (cap := g2) (cap2 := cb3) HO.out (by omega) _ (R2z.out.kept (Kept.trans k42 k43)) rb3).mono ?_
  rintro e w44 ⟨rfl, k44⟩
  go_wp2
  go_ret
  exact ⟨rfl, Kept.trans (Kept.trans (Kept.trans kA k42) k43) k44⟩
theorem guideTells_walk (GC : GdCheckC) (FC : GdFirstC) (IC : GdIdleC) (PC : GdPauseC) (UC : GdUsedC) (YC : GdPartsC) (EC : ECheckC) (BC : EBeginC) {sg mx fi gn ls gt bu v last now tmo s f m k es : Int} {on : Bool} {A : Option Addr} {len cap : Nat} {l : List Cf} (w : World) (T_ : Tens w) (isg : In64 sg) (imx : In64 mx) (ifi : In64 fi) (ign : In64 gn) (ils : In64 ls) (igt : In64 gt) (ibu : In64 bu) (iv : In64 v) (il : In64 last) (in_ : In64 now) (it : In64 tmo) (ie : In64E (⟨on, s, f, m, k, es⟩ : Ep)) (hs : SliceOk A len cap) (hn : l.length = len) (hi : ∀ c ∈ l, CfIn c) (hr : RowC w A l) : Calls Tryd.prog 3 #[.agg #[.int .i64 sg, .int .i64 mx, .int .i64 fi, .int .i64 gn, .int .i64 ls, .int .i64 gt, .int .i64 bu], .int .i64 v, .int .i64 last, .int .i64 now, .int .i64 tmo, .agg #[.bool on, .int .i64 s, .int .i64 f, .int .i64 m, .int .i64 k, .int .i64 es], .slice A len cap] w fun e w' => e = .returned (.bool true) ∧ Kept w w' := by
  by_cases h : 100 < len
  · exact tells19_many GC FC IC PC UC YC EC BC h w T_
  · exact tells19_in GC FC IC PC UC YC EC BC (b := decide (UsedW v last now)) isg imx ifi ign ils igt ibu iv il in_ it ie hs hn (by omega) hi rfl rfl rfl rfl rfl rfl rfl rfl (by simp) w T_ hr
end Go.Proofs.YtdbikeehoildlaaDoor
