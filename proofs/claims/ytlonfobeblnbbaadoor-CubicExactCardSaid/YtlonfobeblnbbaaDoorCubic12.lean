/-
  What the calls of package cubic do.
-/
import Derived.Test.YtlonfobeblnbbaaDoorCon12
import Derived.Test.YtlonfobeblnbbaaDoorEpoch11
import Derived.Deep.RegionHeld3
import Derived.Deep.DeepCutAuto
namespace Go.Proofs.YtlonfobeblnbbaaDoor
open Go.RowKit Go.BigFrame
set_option linter.unusedVariables false

theorem kept_store3 {W w : World} {g : Nat} (k : Kept W w) (hg : W.heap.size ≤ g) (b : Bool) (h l : Int) : Kept W (World.setCell (World.setCell (World.setCell w ⟨g, 0, none⟩ (.bool b)) ⟨g, 1, none⟩ (.int .u64 h)) ⟨g, 2, none⟩ (.int .u64 l)) :=
  ((k.setCell (a := ⟨g, 0, none⟩) hg _).setCell (a := ⟨g, 1, none⟩) hg _).setCell (a := ⟨g, 2, none⟩) hg _
set_option maxRecDepth 100000 in
set_option maxHeartbeats 1600000 in
theorem urise_pos (d n a r v xh xl zh zl qh ql : Int) (zb qb : Bool) (a0 : 0 ≤ a) (a1 : a ≤ 2147483648) (hn : 0 ≤ n) (w : World) (CL : ∀ w, Calls Tryd.prog 31 #[.int .i64 d, .int .i64 (-2147483648), .int .i64 2147483648] w fun e w' => e = .returned (.int .i64 n) ∧ Kept w w') (AB : ∀ w, Calls Tryd.prog 33 #[.int .i64 n] w fun e w' => e = .returned (.int .i64 a) ∧ Kept w w') (CU : ∀ w, Calls Tryd.prog 32 #[.int .u64 a] w fun e w' => e = .returned (.tuple #[.agg #[.bool false, .int .u64 xh, .int .u64 xl], .int .i64 0]) ∧ Kept w w') (SC : ∀ w, Calls Tryd.prog 35 #[.agg #[.bool false, .int .u64 xh, .int .u64 xl], .int .u64 262144] w fun e w' => e = .returned (.tuple #[.agg #[.bool zb, .int .u64 zh, .int .u64 zl], .int .i64 0]) ∧ Kept w w') (DV : ∀ w, Calls Tryd.prog 36 #[.agg #[.bool zb, .int .u64 zh, .int .u64 zl], .int .u64 10000000000000000000] w fun e w' => e = .returned (.tuple #[.agg #[.bool qb, .int .u64 qh, .int .u64 ql], .int .u64 r, .int .i64 0]) ∧ Kept w w') (IN : ∀ w, Calls Tryd.prog 37 #[.agg #[.bool qb, .int .u64 qh, .int .u64 ql]] w fun e w' => e = .returned (.int .i64 v) ∧ Kept w w') : Calls Tryd.prog 13 #[.int .i64 d] w fun e w' => e = .returned (.int .i64 v) ∧ Kept w w' := by
  have CL' := Lib.hid CL
  have AB' := Lib.hid AB
  have CU' := Lib.hid CU
  have SC' := Lib.hid SC
  have DV' := Lib.hid DV
  have IN' := Lib.hid IN
  clear CL AB CU SC DV IN
  have d0 : decide (n < 0) = false := by simp; omega
  go_enter Tryd.func13, Tryd.ntmps13
  go_wp2_with fail
  refine (CL'.out _).mono ?_
  rintro e w1 ⟨rfl, k1⟩
  go_wp2_with fail
  refine (AB'.out _).mono ?_
  rintro e w2 ⟨rfl, k2⟩
  go_wp2_with fail
  refine (CU'.out _).mono ?_
  rintro e w3 ⟨rfl, k3⟩
  go_upto_region 3 with fail
  have R0 := Lib.hid (rb_new w3 false xh xl 33)
  generalize hW : World.alloc w3 (.cells #[.bool false, .int .u64 xh, .int .u64 xl] 33) = W0 at *
  have K0 : Kept w W0 := Kept.trans (Kept.trans (Kept.trans k1 k2) k3) (by subst hW; exact (Kept.refl _).alloc _ _)
  have gg : w.heap.size ≤ w3.heap.size := Kept.below (Kept.trans (Kept.trans k1 k2) k3)
  clear hW k1 k2 k3
  generalize hg : w3.heap.size = g at *
  clear hg
  obtain ⟨⟨c0, c1, c2⟩, f0, f1, f2⟩ := R0.out
  go_wp2_with fail
  refine (SC'.out _).mono ?_
  rintro e w4 ⟨rfl, k4⟩
  clear c0 c1 c2 f0 f1 f2
  have S4 := Lib.hid (R0.out.kept k4)
  have J4 := Kept.trans K0 k4
  clear R0 K0 k4
  obtain ⟨⟨c0, c1, c2⟩, f0, f1, f2⟩ := S4.out
  go_upto_region 6 with fail
  have R4 := Lib.hid (rb_store (b := zb) (h := zh) (l := zl) S4.out)
  have K4 := kept_store3 J4 gg zb zh zl
  generalize (World.setCell (World.setCell (World.setCell w4 ⟨g, 0, none⟩ (.bool zb)) ⟨g, 1, none⟩ (.int .u64 zh)) ⟨g, 2, none⟩ (.int .u64 zl)) = W4 at *
  clear c0 c1 c2 f0 f1 f2
  clear S4 J4
  obtain ⟨⟨c0, c1, c2⟩, f0, f1, f2⟩ := R4.out
  go_wp2_with fail
  refine (DV'.out _).mono ?_
  rintro e w5 ⟨rfl, k5⟩
  clear c0 c1 c2 f0 f1 f2
  have J5 := Kept.trans K4 k5
  clear R4 K4 k5
  go_upto_region 7 with fail
  have R9 := Lib.hid (rb_new w5 qb qh ql 33)
  generalize hW : World.alloc w5 (.cells #[.bool qb, .int .u64 qh, .int .u64 ql] 33) = W9 at *
  have K9 : Kept w W9 := Kept.trans J5 (by subst hW; exact (Kept.refl _).alloc _ _)
  clear hW J5
  obtain ⟨⟨c0, c1, c2⟩, f0, f1, f2⟩ := R9.out
  go_wp2_with fail
  refine (IN'.out _).mono ?_
  rintro e w6 ⟨rfl, k6⟩
  have J9 := Kept.trans K9 k6
  go_wp2
  go_ret
  exact ⟨rfl, J9⟩
set_option maxRecDepth 100000 in
set_option maxHeartbeats 1600000 in
theorem urise_neg (d n a r v xh xl yh yl zh zl qh ql : Int) (yb zb qb : Bool) (a0 : 0 ≤ a) (a1 : a ≤ 2147483648) (hn : n < 0) (w : World) (CL : ∀ w, Calls Tryd.prog 31 #[.int .i64 d, .int .i64 (-2147483648), .int .i64 2147483648] w fun e w' => e = .returned (.int .i64 n) ∧ Kept w w') (AB : ∀ w, Calls Tryd.prog 33 #[.int .i64 n] w fun e w' => e = .returned (.int .i64 a) ∧ Kept w w') (CU : ∀ w, Calls Tryd.prog 32 #[.int .u64 a] w fun e w' => e = .returned (.tuple #[.agg #[.bool false, .int .u64 xh, .int .u64 xl], .int .i64 0]) ∧ Kept w w') (NG : ∀ w, Calls Tryd.prog 34 #[.agg #[.bool false, .int .u64 xh, .int .u64 xl]] w fun e w' => e = .returned (.agg #[.bool yb, .int .u64 yh, .int .u64 yl]) ∧ Kept w w') (SC : ∀ w, Calls Tryd.prog 35 #[.agg #[.bool yb, .int .u64 yh, .int .u64 yl], .int .u64 262144] w fun e w' => e = .returned (.tuple #[.agg #[.bool zb, .int .u64 zh, .int .u64 zl], .int .i64 0]) ∧ Kept w w') (DV : ∀ w, Calls Tryd.prog 36 #[.agg #[.bool zb, .int .u64 zh, .int .u64 zl], .int .u64 10000000000000000000] w fun e w' => e = .returned (.tuple #[.agg #[.bool qb, .int .u64 qh, .int .u64 ql], .int .u64 r, .int .i64 0]) ∧ Kept w w') (IN : ∀ w, Calls Tryd.prog 37 #[.agg #[.bool qb, .int .u64 qh, .int .u64 ql]] w fun e w' => e = .returned (.int .i64 v) ∧ Kept w w') : Calls Tryd.prog 13 #[.int .i64 d] w fun e w' => e = .returned (.int .i64 v) ∧ Kept w w' := by
  have CL' := Lib.hid CL
  have AB' := Lib.hid AB
  have CU' := Lib.hid CU
  have NG' := Lib.hid NG
  have SC' := Lib.hid SC
  have DV' := Lib.hid DV
  have IN' := Lib.hid IN
  clear CL AB CU NG SC DV IN
  have d0 : decide (n < 0) = true := by simp; omega
  go_enter Tryd.func13, Tryd.ntmps13
  go_wp2_with fail
  refine (CL'.out _).mono ?_
  rintro e w1 ⟨rfl, k1⟩
  go_wp2_with fail
  refine (AB'.out _).mono ?_
  rintro e w2 ⟨rfl, k2⟩
  go_wp2_with fail
  refine (CU'.out _).mono ?_
  rintro e w3 ⟨rfl, k3⟩
  go_upto_region 3 with fail
  have R0 := Lib.hid (rb_new w3 false xh xl 33)
  generalize hW : World.alloc w3 (.cells #[.bool false, .int .u64 xh, .int .u64 xl] 33) = W0 at *
  have K0 : Kept w W0 := Kept.trans (Kept.trans (Kept.trans k1 k2) k3) (by subst hW; exact (Kept.refl _).alloc _ _)
  have gg : w.heap.size ≤ w3.heap.size := Kept.below (Kept.trans (Kept.trans k1 k2) k3)
  clear hW k1 k2 k3
  generalize hg : w3.heap.size = g at *
  clear hg
  obtain ⟨⟨c0, c1, c2⟩, f0, f1, f2⟩ := R0.out
  go_wp2_with fail
  refine (NG'.out _).mono ?_
  rintro e w4 ⟨rfl, k4⟩
  clear c0 c1 c2 f0 f1 f2
  have S4 := Lib.hid (R0.out.kept k4)
  have J4 := Kept.trans K0 k4
  clear R0 K0 k4
  obtain ⟨⟨c0, c1, c2⟩, f0, f1, f2⟩ := S4.out
  go_upto_region 5 with fail
  have R4 := Lib.hid (rb_store (b := yb) (h := yh) (l := yl) S4.out)
  have K4 := kept_store3 J4 gg yb yh yl
  generalize (World.setCell (World.setCell (World.setCell w4 ⟨g, 0, none⟩ (.bool yb)) ⟨g, 1, none⟩ (.int .u64 yh)) ⟨g, 2, none⟩ (.int .u64 yl)) = W4 at *
  clear c0 c1 c2 f0 f1 f2
  clear S4 J4
  obtain ⟨⟨c0, c1, c2⟩, f0, f1, f2⟩ := R4.out
  go_wp2_with fail
  refine (SC'.out _).mono ?_
  rintro e w5 ⟨rfl, k5⟩
  clear c0 c1 c2 f0 f1 f2
  have S5 := Lib.hid (R4.out.kept k5)
  have J5 := Kept.trans K4 k5
  clear R4 K4 k5
  obtain ⟨⟨c0, c1, c2⟩, f0, f1, f2⟩ := S5.out
  go_upto_region 6 with fail
  have R5 := Lib.hid (rb_store (b := zb) (h := zh) (l := zl) S5.out)
  have K5 := kept_store3 J5 gg zb zh zl
  generalize (World.setCell (World.setCell (World.setCell w5 ⟨g, 0, none⟩ (.bool zb)) ⟨g, 1, none⟩ (.int .u64 zh)) ⟨g, 2, none⟩ (.int .u64 zl)) = W5 at *
  clear c0 c1 c2 f0 f1 f2
  clear S5 J5
  obtain ⟨⟨c0, c1, c2⟩, f0, f1, f2⟩ := R5.out
  go_wp2_with fail
  refine (DV'.out _).mono ?_
  rintro e w6 ⟨rfl, k6⟩
  clear c0 c1 c2 f0 f1 f2
  have J6 := Kept.trans K5 k6
  clear R5 K5 k6
  go_upto_region 7 with fail
  have R9 := Lib.hid (rb_new w6 qb qh ql 33)
  generalize hW : World.alloc w6 (.cells #[.bool qb, .int .u64 qh, .int .u64 ql] 33) = W9 at *
  have K9 : Kept w W9 := Kept.trans J6 (by subst hW; exact (Kept.refl _).alloc _ _)
  clear hW J6
  obtain ⟨⟨c0, c1, c2⟩, f0, f1, f2⟩ := R9.out
  go_wp2_with fail
  refine (IN'.out _).mono ?_
  rintro e w7 ⟨rfl, k7⟩
  have J9 := Kept.trans K9 k7
  go_wp2
  go_ret
  exact ⟨rfl, J9⟩
theorem urise_c : URiseC := fun d v hd h w => by
  have cr := clampT_range d
  obtain ⟨n, en⟩ : ∃ n, clampT d = n := ⟨_, rfl⟩
  rw [en] at cr
  have c := cube_range cr
  have ev : v = cubeN n / 10000000000000000000 := by rw [← h]; unfold riseN cubeN; rw [en]
  have rr := rise_range d
  rw [h] at rr
  obtain ⟨zb, zh, zl, rz⟩ := rep_ex (cubeN n) (by unfold InBig; omega)
  obtain ⟨qb, qh, ql, rq⟩ := rep_ex v (by unfold InBig; omega)
  have CL : ∀ w, Calls Tryd.prog 31 #[.int .i64 d, .int .i64 (-2147483648), .int .i64 2147483648] w fun e w' => e = .returned (.int .i64 n) ∧ Kept w w' := fun w => (clamp_any_s d (-2147483648) 2147483648 w).mono (fun _ _ ⟨h, k⟩ => by rw [show clampAt d (-2147483648) 2147483648 = n from by rw [← en]; rfl] at h; exact ⟨h, k ▸ Kept.refl _⟩)
  have DV := fun w => Div_ok rz.1 rz.2.1 (d := 10000000000000000000) ⟨by omega, by omega⟩ (by omega) (by rw [rz.2.2.1, ← ev]; exact rq) w
  have IN : ∀ w, Calls Tryd.prog 37 #[.agg #[.bool qb, .int .u64 qh, .int .u64 ql]] w fun e w' => e = .returned (.int .i64 v) ∧ Kept w w' := fun w => by
    have q := Int_ok (b := qb) rq.1 rq.2.1 w
    rw [rq.2.2.1, heldAt_of (by unfold In64; omega)] at q
    exact q
  have n64 : In64 n := by unfold In64; omega
  by_cases hn : n < 0
  · have ea : absAt n = -n := by unfold absAt; rw [heldAt_of (by unfold In64; omega)]; (repeat' split) <;> omega
    obtain ⟨xh, xl, rx⟩ := cube_rep (n := -n) (by omega) (by omega)
    have e3 : cubeN n = -(-n * -n * -n) * 262144 := by unfold cubeN; rw [cu_neg]; omega
    obtain ⟨yb, ry⟩ := Neg_rep (b1 := false) rx.1 rx.2.1
    have ry' := ry
    rw [rx.2.2.1] at ry'
    exact urise_neg d n (-n) _ v xh xl xh xl zh zl qh ql yb zb qb (by omega) (by omega) hn w CL (fun w => (Abs_any_s n w n64).mono (fun _ _ ⟨h, k⟩ => ⟨by rw [← ea]; exact h, k⟩)) (fun w => Cube_ok ⟨by omega, by omega⟩ rx w) (fun w => Neg_ok ry w) (fun w => Scale_yes ry.1 ry.2.1 ⟨by omega, by omega⟩ (by rw [ry'.2.2.1, ← e3]; exact rz) w) DV IN
  · have ea : absAt n = n := by unfold absAt; (repeat' split) <;> omega
    obtain ⟨xh, xl, rx⟩ := cube_rep (n := n) (by omega) (by omega)
    have e3 : cubeN n = n * n * n * 262144 := rfl
    exact urise_pos d n n _ v xh xl zh zl qh ql zb qb (by omega) (by omega) (by omega) w CL (fun w => (Abs_any_s n w n64).mono (fun _ _ ⟨h, k⟩ => ⟨by rw [ea] at h; exact h, k⟩)) (fun w => Cube_ok ⟨by omega, by omega⟩ rx w) (fun w => Scale_yes rx.1 rx.2.1 ⟨by omega, by omega⟩ (by rw [rx.2.2.1, ← e3]; exact rz) w) DV IN
set_option maxRecDepth 100000 in
set_option maxHeartbeats 1600000 in
theorem uruns_off {s f m k es : Int} (w : World) : Calls Tryd.prog 26 #[.agg #[.bool false, .int .i64 s, .int .i64 f, .int .i64 m, .int .i64 k, .int .i64 es]] w fun e w' => e = .returned (.bool false) ∧ Kept w w' := by
  go_enter Tryd.func26, Tryd.ntmps26
  go_upto_region 1 with fail
  generalize hW : World.alloc w (.cells #[.bool false, .int .i64 s, .int .i64 f, .int .i64 m, .int .i64 k, .int .i64 es] 23) = We
  have KWe : Kept w We := by subst hW; exact (Kept.refl _).alloc _ _
  have RWe := Lib.hid (show RE We w.heap.size (⟨false, s, f, m, k, es⟩ : Ep) from by subst hW; exact re_new w (⟨false, s, f, m, k, es⟩ : Ep) _)
  have LWe : w.heap.size < We.heap.size := by subst hW; simp
  clear hW
  generalize hgWe : w.heap.size = gWe at *
  clear LWe
  have kz1 := KWe
  obtain ⟨ce0, ce1, ce2, ce3, ce4, ce5⟩ := (RWe.out).1
  go_wp2
  go_ret
  exact ⟨rfl, kz1⟩
set_option maxRecDepth 100000 in
set_option maxHeartbeats 1600000 in
theorem uruns_on {s f m k es : Int} {v : Bool} (C : ∀ w, Tens w → Calls Tryd.prog 24 #[.agg #[.bool true, .int .i64 s, .int .i64 f, .int .i64 m, .int .i64 k, .int .i64 es]] w fun e w' => e = .returned (.bool v) ∧ Kept w w') (w : World) (T_ : Tens w) : Calls Tryd.prog 26 #[.agg #[.bool true, .int .i64 s, .int .i64 f, .int .i64 m, .int .i64 k, .int .i64 es]] w fun e w' => e = .returned (.bool v) ∧ Kept w w' := by
  have C' := Lib.hid C
  have T := Lib.hid T_
  clear C T_
  go_enter Tryd.func26, Tryd.ntmps26
  go_upto_region 1 with fail
  generalize hW : World.alloc w (.cells #[.bool true, .int .i64 s, .int .i64 f, .int .i64 m, .int .i64 k, .int .i64 es] 23) = We
  have KWe : Kept w We := by subst hW; exact (Kept.refl _).alloc _ _
  have RWe := Lib.hid (show RE We w.heap.size (⟨true, s, f, m, k, es⟩ : Ep) from by subst hW; exact re_new w (⟨true, s, f, m, k, es⟩ : Ep) _)
  have LWe : w.heap.size < We.heap.size := by subst hW; simp
  clear hW
  generalize hgWe : w.heap.size = gWe at *
  clear LWe
  have kz1 := KWe
  obtain ⟨ce0, ce1, ce2, ce3, ce4, ce5⟩ := (RWe.out).1
  go_wp2_with fail
  refine (C'.out _ (Tens.kept T.out (by (repeat (first | with_reducible exact Kept.refl _ | with_reducible apply Kept.drew | with_reducible apply Kept.alloc | ((with_reducible apply Kept.set); focus (simp <;> omega)) | ((with_reducible apply Kept.via); focus with_reducible assumption)))))).mono ?_
  rintro e w2 ⟨rfl, k2⟩
  clear ce0 ce1 ce2 ce3 ce4 ce5
  have Re2 := Lib.hid (RWe.out.kept k2)
  clear RWe
  have kz2 := Kept.trans kz1 k2
  clear kz1 k2
  go_wp2
  go_ret
  exact ⟨rfl, kz2⟩
theorem uruns (h : Ep) (hi : In64E h) {v : Bool} (hv : v = decide (OnE h)) (w : World) (T : Tens w) : Calls Tryd.prog 26 #[.agg #[.bool h.on, .int .i64 h.start, .int .i64 h.first, .int .i64 h.most, .int .i64 h.k, .int .i64 h.est]] w fun e w' => e = .returned (.bool v) ∧ Kept w w' := by
  obtain ⟨on, s, f, m, k, es⟩ := h
  cases on with
  | false =>
    have : v = false := by rw [hv]; exact decide_eq_false (fun x => by have := x.2; cases this)
    rw [this]; exact uruns_off w
  | true =>
    exact uruns_on (fun w T => echeck_c ⟨true, s, f, m, k, es⟩ v hi (by rw [hv]; simp [OnE]) w T) w T
set_option maxRecDepth 100000 in
set_option maxHeartbeats 1600000 in
theorem ulaw_any {on : Bool} {s f m k es now t u r v : Int} (ew : IntKind.i64.wrap (m + r) = m + r) (w : World) (S1 : ∀ w, Calls Tryd.prog 54 #[.int .i64 now, .int .i64 s] w fun e w' => e = .returned (.int .i64 t) ∧ Kept w w') (S2 : ∀ w, Calls Tryd.prog 54 #[.int .i64 t, .int .i64 k] w fun e w' => e = .returned (.int .i64 u) ∧ Kept w w') (RR : ∀ w, Calls Tryd.prog 13 #[.int .i64 u] w fun e w' => e = .returned (.int .i64 r) ∧ Kept w w') (CL : ∀ w, Calls Tryd.prog 31 #[.int .i64 (m + r), .int .i64 0, .int .i64 68719476736] w fun e w' => e = .returned (.int .i64 v) ∧ Kept w w') : Calls Tryd.prog 29 #[.agg #[.bool on, .int .i64 s, .int .i64 f, .int .i64 m, .int .i64 k, .int .i64 es], .int .i64 now] w fun e w' => e = .returned (.int .i64 v) ∧ Kept w w' := by
  have S1' := Lib.hid S1
  have S2' := Lib.hid S2
  have RR' := Lib.hid RR
  have CL' := Lib.hid CL
  clear S1 S2 RR CL
  go_enter Tryd.func29, Tryd.ntmps29
  go_upto_region 1 with fail
  generalize hW : World.alloc w (.cells #[.bool on, .int .i64 s, .int .i64 f, .int .i64 m, .int .i64 k, .int .i64 es] 23) = We
  have KWe : Kept w We := by subst hW; exact (Kept.refl _).alloc _ _
  have RWe := Lib.hid (show RE We w.heap.size (⟨on, s, f, m, k, es⟩ : Ep) from by subst hW; exact re_new w (⟨on, s, f, m, k, es⟩ : Ep) _)
  have LWe : w.heap.size < We.heap.size := by subst hW; simp
  clear hW
  generalize hgWe : w.heap.size = gWe at *
  clear LWe
  have kz1 := KWe
  obtain ⟨ce0, ce1, ce2, ce3, ce4, ce5⟩ := (RWe.out).1
  go_wp2_with fail
  refine (S1'.out _).mono ?_
  rintro e w2 ⟨rfl, k2⟩
  clear ce0 ce1 ce2 ce3 ce4 ce5
  have Re2 := Lib.hid (RWe.out.kept k2)
  clear RWe
  have kz2 := Kept.trans kz1 k2
  clear kz1 k2
  go_upto_region 2 with fail
  have H_e := Lib.hid (show w2.cell? ⟨gWe, 0, none⟩ = some (.bool on) ∧ w2.cell? ⟨gWe, 1, none⟩ = some (.int .i64 s) ∧ w2.cell? ⟨gWe, 2, none⟩ = some (.int .i64 f) ∧ w2.cell? ⟨gWe, 3, none⟩ = some (.int .i64 m) ∧ w2.cell? ⟨gWe, 4, none⟩ = some (.int .i64 k) ∧ w2.cell? ⟨gWe, 5, none⟩ = some (.int .i64 es) from (Re2.out).1)
  have B_e := Lib.hid (Kept.alln6 (show Kept w2 w2 from (by (repeat (first | with_reducible exact Kept.refl _ | with_reducible apply Kept.drew | with_reducible apply Kept.alloc | ((with_reducible apply Kept.set); focus (simp <;> omega)) | ((with_reducible apply Kept.via); focus with_reducible assumption))))) H_e)
  have kall : Kept w w2 := (by (repeat (first | with_reducible exact Kept.refl _ | with_reducible apply Kept.drew | with_reducible apply Kept.alloc | ((with_reducible apply Kept.set); focus (simp <;> omega)) | ((with_reducible apply Kept.via); focus with_reducible assumption))))
  obtain ⟨q_e0, q_e1, q_e2, q_e3, q_e4, q_e5⟩ := kwn6 B_e
  clear B_e
  refine wp_region_kept (by kernel_rfl) (by as_aux_lemma => kernel_rfl) ?_
  repeat (go_big_quiet_step (first | (with_reducible exact kept_of (S2'.out _)) | (with_reducible exact kept_of (RR'.out _)) | (with_reducible exact kept_of (CL'.out _))))
  refine wpQuiet_nil ?_
  intro wq hw'
  have kq : Kept w2 wq := by obtain ⟨p, rfl⟩ := hw'; exact p.k
  clear hw'
  clear kall
  have kq2 := Kept.trans kz2 kq
  go_wp2
  go_ret
  exact ⟨rfl, kq2⟩
theorem ulaw (h : Ep) (hi : In64E h) (now v : Int) (hnow : In64 now) (m0 : 0 ≤ h.most) (m1 : h.most ≤ 68719476736) (e : atV h now = v) (w : World) : Calls Tryd.prog 29 #[.agg #[.bool h.on, .int .i64 h.start, .int .i64 h.first, .int .i64 h.most, .int .i64 h.k, .int .i64 h.est], .int .i64 now] w fun e w' => e = .returned (.int .i64 v) ∧ Kept w w' := by
  obtain ⟨on, s, f, m, k, es⟩ := h
  obtain ⟨is_, if_, im, ik, ie⟩ := hi
  have rr := rise_range (heldAt (heldAt (now - s) - k))
  have m0' : 0 ≤ m := m0
  have m1' : m ≤ 68719476736 := m1
  refine ulaw_any (t := heldAt (now - s)) (u := heldAt (heldAt (now - s) - k)) (r := riseN (heldAt (heldAt (now - s) - k))) (by rw [IntKind.wrap_i64]; omega) w (fun w => Sub_any_s now s w hnow is_) (fun w => Sub_any_s _ k w (heldAt_in _) ik) (fun w => urise_c _ _ (heldAt_in _) rfl w) (fun w => (clamp_any_s _ 0 68719476736 w).mono (fun _ _ ⟨h, k⟩ => ⟨?_, k ▸ Kept.refl _⟩))
  rw [h, ← e]
  unfold atV clampAt gapK
  rfl
set_option maxRecDepth 100000 in
set_option maxHeartbeats 1600000 in
theorem uat_no {on : Bool} {s f m k es now : Int}  (w : World) (T_ : Tens w) (RN : ∀ w, Tens w → Calls Tryd.prog 26 #[.agg #[.bool on, .int .i64 s, .int .i64 f, .int .i64 m, .int .i64 k, .int .i64 es]] w fun e w' => e = .returned (.bool false) ∧ Kept w w') : Calls Tryd.prog 15 #[.agg #[.bool on, .int .i64 s, .int .i64 f, .int .i64 m, .int .i64 k, .int .i64 es], .int .i64 now] w fun e w' => e = .returned (.int .i64 0) ∧ Kept w w' := by
  have RN' := Lib.hid RN
  clear RN
  have T := Lib.hid T_
  clear T_
  go_enter Tryd.func15, Tryd.ntmps15
  go_upto_region 1 with fail
  generalize hW : World.alloc w (.cells #[.bool on, .int .i64 s, .int .i64 f, .int .i64 m, .int .i64 k, .int .i64 es] 23) = We
  have KWe : Kept w We := by subst hW; exact (Kept.refl _).alloc _ _
  have RWe := Lib.hid (show RE We w.heap.size (⟨on, s, f, m, k, es⟩ : Ep) from by subst hW; exact re_new w (⟨on, s, f, m, k, es⟩ : Ep) _)
  have LWe : w.heap.size < We.heap.size := by subst hW; simp
  clear hW
  generalize hgWe : w.heap.size = gWe at *
  clear LWe
  have kz1 := KWe
  obtain ⟨ce0, ce1, ce2, ce3, ce4, ce5⟩ := (RWe.out).1
  go_wp2_with fail
  refine (RN'.out _ (Tens.kept T.out (by (repeat (first | with_reducible exact Kept.refl _ | with_reducible apply Kept.drew | with_reducible apply Kept.alloc | ((with_reducible apply Kept.set); focus (simp <;> omega)) | ((with_reducible apply Kept.via); focus with_reducible assumption)))))).mono ?_
  rintro e w2 ⟨rfl, k2⟩
  clear ce0 ce1 ce2 ce3 ce4 ce5
  have Re2 := Lib.hid (RWe.out.kept k2)
  clear RWe
  have kz2 := Kept.trans kz1 k2
  clear kz1 k2
  go_wp2
  go_ret
  exact ⟨rfl, kz2⟩
set_option maxRecDepth 100000 in
set_option maxHeartbeats 1600000 in
theorem uat_on {on : Bool} {s f m k es now : Int} {v : Int}  (w : World) (T_ : Tens w) (RN : ∀ w, Tens w → Calls Tryd.prog 26 #[.agg #[.bool on, .int .i64 s, .int .i64 f, .int .i64 m, .int .i64 k, .int .i64 es]] w fun e w' => e = .returned (.bool true) ∧ Kept w w') (LA : ∀ w, Calls Tryd.prog 29 #[.agg #[.bool on, .int .i64 s, .int .i64 f, .int .i64 m, .int .i64 k, .int .i64 es], .int .i64 now] w fun e w' => e = .returned (.int .i64 v) ∧ Kept w w') : Calls Tryd.prog 15 #[.agg #[.bool on, .int .i64 s, .int .i64 f, .int .i64 m, .int .i64 k, .int .i64 es], .int .i64 now] w fun e w' => e = .returned (.int .i64 v) ∧ Kept w w' := by
  have RN' := Lib.hid RN
  have LA' := Lib.hid LA
  clear RN LA
  have T := Lib.hid T_
  clear T_
  go_enter Tryd.func15, Tryd.ntmps15
  go_upto_region 1 with fail
  generalize hW : World.alloc w (.cells #[.bool on, .int .i64 s, .int .i64 f, .int .i64 m, .int .i64 k, .int .i64 es] 23) = We
  have KWe : Kept w We := by subst hW; exact (Kept.refl _).alloc _ _
  have RWe := Lib.hid (show RE We w.heap.size (⟨on, s, f, m, k, es⟩ : Ep) from by subst hW; exact re_new w (⟨on, s, f, m, k, es⟩ : Ep) _)
  have LWe : w.heap.size < We.heap.size := by subst hW; simp
  clear hW
  generalize hgWe : w.heap.size = gWe at *
  clear LWe
  have kz1 := KWe
  obtain ⟨ce0, ce1, ce2, ce3, ce4, ce5⟩ := (RWe.out).1
  go_wp2_with fail
  refine (RN'.out _ (Tens.kept T.out (by (repeat (first | with_reducible exact Kept.refl _ | with_reducible apply Kept.drew | with_reducible apply Kept.alloc | ((with_reducible apply Kept.set); focus (simp <;> omega)) | ((with_reducible apply Kept.via); focus with_reducible assumption)))))).mono ?_
  rintro e w2 ⟨rfl, k2⟩
  clear ce0 ce1 ce2 ce3 ce4 ce5
  have Re2 := Lib.hid (RWe.out.kept k2)
  clear RWe
  have kz2 := Kept.trans kz1 k2
  clear kz1 k2
  obtain ⟨ce0, ce1, ce2, ce3, ce4, ce5⟩ := (Re2.out).1
  go_wp2_with fail
  refine (LA'.out _).mono ?_
  rintro e w3 ⟨rfl, k3⟩
  clear ce0 ce1 ce2 ce3 ce4 ce5
  have Re3 := Lib.hid (Re2.out.kept k3)
  clear Re2
  have kz3 := Kept.trans kz2 k3
  clear kz2 k3
  go_wp2
  go_ret
  exact ⟨rfl, kz3⟩
theorem uat_c : UAtC := fun h now n hi hnow e w T => by
  by_cases o : OnE h
  · have q := onE_in o
    rw [atN_on o] at e
    exact uat_on w T (fun w T => uruns h hi (by simp [o]) w T) (fun w => ulaw h hi now n hnow q.2.2.1.1 q.2.2.1.2 e w)
  · have e0 : n = 0 := by rw [← e]; exact if_neg o
    rw [e0]
    exact uat_no w T (fun w T => uruns h hi (by simp [o]) w T)
set_option maxRecDepth 100000 in
set_option maxHeartbeats 1600000 in
theorem utg_neg {on : Bool} {s f m k es now : Int} {x : Int} (hx : x < 0) (w : World) (T_ : Tens w)  : Calls Tryd.prog 17 #[.agg #[.bool on, .int .i64 s, .int .i64 f, .int .i64 m, .int .i64 k, .int .i64 es], .int .i64 now, .int .i64 x] w fun e w' => e = .returned (.int .i64 x) ∧ Kept w w' := by
  have T := Lib.hid T_
  clear T_
  have d0 : decide (x < 0) = true := by simp; omega
  go_enter Tryd.func17, Tryd.ntmps17
  go_upto_region 1 with fail
  generalize hW : World.alloc w (.cells #[.bool on, .int .i64 s, .int .i64 f, .int .i64 m, .int .i64 k, .int .i64 es] 23) = We
  have KWe : Kept w We := by subst hW; exact (Kept.refl _).alloc _ _
  have RWe := Lib.hid (show RE We w.heap.size (⟨on, s, f, m, k, es⟩ : Ep) from by subst hW; exact re_new w (⟨on, s, f, m, k, es⟩ : Ep) _)
  have LWe : w.heap.size < We.heap.size := by subst hW; simp
  clear hW
  generalize hgWe : w.heap.size = gWe at *
  clear LWe
  have kz1 := KWe
  go_wp2
  go_ret
  exact ⟨rfl, kz1⟩
set_option maxRecDepth 100000 in
set_option maxHeartbeats 1600000 in
theorem utg_no {on : Bool} {s f m k es now : Int} {x : Int} (hx : 0 ≤ x) (w : World) (T_ : Tens w) (RN : ∀ w, Tens w → Calls Tryd.prog 26 #[.agg #[.bool on, .int .i64 s, .int .i64 f, .int .i64 m, .int .i64 k, .int .i64 es]] w fun e w' => e = .returned (.bool false) ∧ Kept w w') : Calls Tryd.prog 17 #[.agg #[.bool on, .int .i64 s, .int .i64 f, .int .i64 m, .int .i64 k, .int .i64 es], .int .i64 now, .int .i64 x] w fun e w' => e = .returned (.int .i64 x) ∧ Kept w w' := by
  have RN' := Lib.hid RN
  clear RN
  have T := Lib.hid T_
  clear T_
  have d0 : decide (x < 0) = false := by simp; omega
  go_enter Tryd.func17, Tryd.ntmps17
  go_upto_region 1 with fail
  generalize hW : World.alloc w (.cells #[.bool on, .int .i64 s, .int .i64 f, .int .i64 m, .int .i64 k, .int .i64 es] 23) = We
  have KWe : Kept w We := by subst hW; exact (Kept.refl _).alloc _ _
  have RWe := Lib.hid (show RE We w.heap.size (⟨on, s, f, m, k, es⟩ : Ep) from by subst hW; exact re_new w (⟨on, s, f, m, k, es⟩ : Ep) _)
  have LWe : w.heap.size < We.heap.size := by subst hW; simp
  clear hW
  generalize hgWe : w.heap.size = gWe at *
  clear LWe
  have kz1 := KWe
  obtain ⟨ce0, ce1, ce2, ce3, ce4, ce5⟩ := (RWe.out).1
  go_wp2_with fail
  refine (RN'.out _ (Tens.kept T.out (by (repeat (first | with_reducible exact Kept.refl _ | with_reducible apply Kept.drew | with_reducible apply Kept.alloc | ((with_reducible apply Kept.set); focus (simp <;> omega)) | ((with_reducible apply Kept.via); focus with_reducible assumption)))))).mono ?_
  rintro e w2 ⟨rfl, k2⟩
  clear ce0 ce1 ce2 ce3 ce4 ce5
  have Re2 := Lib.hid (RWe.out.kept k2)
  clear RWe
  have kz2 := Kept.trans kz1 k2
  clear kz1 k2
  go_wp2
  go_ret
  exact ⟨rfl, kz2⟩
set_option maxRecDepth 100000 in
set_option maxHeartbeats 1600000 in
theorem utg_on {on : Bool} {s f m k es now : Int} {x q hg v n : Int} (hx : 0 ≤ x) (x1 : x ≤ 9223372036854775807) (hq : x.tdiv 2 = q) (hw64 : wrap64 q = q) (w : World) (T_ : Tens w) (RN : ∀ w, Tens w → Calls Tryd.prog 26 #[.agg #[.bool on, .int .i64 s, .int .i64 f, .int .i64 m, .int .i64 k, .int .i64 es]] w fun e w' => e = .returned (.bool true) ∧ Kept w w') (LA : ∀ w, Calls Tryd.prog 29 #[.agg #[.bool on, .int .i64 s, .int .i64 f, .int .i64 m, .int .i64 k, .int .i64 es], .int .i64 now] w fun e w' => e = .returned (.int .i64 v) ∧ Kept w w') (AD : ∀ w, Calls Tryd.prog 42 #[.int .i64 x, .int .i64 q] w fun e w' => e = .returned (.int .i64 hg) ∧ Kept w w') (CL : ∀ w, Calls Tryd.prog 31 #[.int .i64 v, .int .i64 x, .int .i64 hg] w fun e w' => e = .returned (.int .i64 n) ∧ Kept w w') : Calls Tryd.prog 17 #[.agg #[.bool on, .int .i64 s, .int .i64 f, .int .i64 m, .int .i64 k, .int .i64 es], .int .i64 now, .int .i64 x] w fun e w' => e = .returned (.int .i64 n) ∧ Kept w w' := by
  have RN' := Lib.hid RN
  have LA' := Lib.hid LA
  have AD' := Lib.hid AD
  have CL' := Lib.hid CL
  clear RN LA AD CL
  have T := Lib.hid T_
  clear T_
  have d0 : decide (x < 0) = false := by simp; omega
  go_enter Tryd.func17, Tryd.ntmps17
  go_upto_region 1 with fail
  generalize hW : World.alloc w (.cells #[.bool on, .int .i64 s, .int .i64 f, .int .i64 m, .int .i64 k, .int .i64 es] 23) = We
  have KWe : Kept w We := by subst hW; exact (Kept.refl _).alloc _ _
  have RWe := Lib.hid (show RE We w.heap.size (⟨on, s, f, m, k, es⟩ : Ep) from by subst hW; exact re_new w (⟨on, s, f, m, k, es⟩ : Ep) _)
  have LWe : w.heap.size < We.heap.size := by subst hW; simp
  clear hW
  generalize hgWe : w.heap.size = gWe at *
  clear LWe
  have kz1 := KWe
  obtain ⟨ce0, ce1, ce2, ce3, ce4, ce5⟩ := (RWe.out).1
  go_wp2_with fail
  refine (RN'.out _ (Tens.kept T.out (by (repeat (first | with_reducible exact Kept.refl _ | with_reducible apply Kept.drew | with_reducible apply Kept.alloc | ((with_reducible apply Kept.set); focus (simp <;> omega)) | ((with_reducible apply Kept.via); focus with_reducible assumption)))))).mono ?_
  rintro e w2 ⟨rfl, k2⟩
  clear ce0 ce1 ce2 ce3 ce4 ce5
  have Re2 := Lib.hid (RWe.out.kept k2)
  clear RWe
  have kz2 := Kept.trans kz1 k2
  clear kz1 k2
  obtain ⟨ce0, ce1, ce2, ce3, ce4, ce5⟩ := (Re2.out).1
  go_wp2_with fail
  refine (LA'.out _).mono ?_
  rintro e w3 ⟨rfl, k3⟩
  clear ce0 ce1 ce2 ce3 ce4 ce5
  have Re3 := Lib.hid (Re2.out.kept k3)
  clear Re2
  have kz3 := Kept.trans kz2 k3
  clear kz2 k3
  go_wp2_with fail
  refine (AD'.out _).mono ?_
  rintro e w4 ⟨rfl, k4⟩
  have Re4 := Lib.hid (Re3.out.kept k4)
  clear Re3
  have kz4 := Kept.trans kz3 k4
  clear kz3 k4
  go_wp2_with fail
  refine (CL'.out _).mono ?_
  rintro e w5 ⟨rfl, k5⟩
  have Re5 := Lib.hid (Re4.out.kept k5)
  clear Re4
  have kz5 := Kept.trans kz4 k5
  clear kz4 k5
  go_wp2
  go_ret
  exact ⟨rfl, kz5⟩
theorem utarget_c : UTargetC := fun h now x n hi hnow hx e w T => by
  by_cases x0 : 0 ≤ x
  · by_cases o : OnE h
    · have q := onE_in o
      have hq : x.tdiv 2 = x / 2 := Int.tdiv_eq_ediv_of_nonneg x0
      have e2 : clampAt (atV h now) x (heldAt (x + x / 2)) = n := by rw [← e]; unfold targetN; rw [if_pos (show OnE h ∧ 0 ≤ x from ⟨o, x0⟩)]; rfl
      have i2 : In64 (x / 2) := by unfold In64 at *; omega
      exact utg_on x0 hx.2 hq (by unfold wrap64; unfold In64 at i2; omega) w T (fun w T => uruns h hi (by simp [o]) w T) (fun w => ulaw h hi now _ hnow q.2.2.1.1 q.2.2.1.2 rfl w) (fun w => Add_any_s x (x / 2) w hx i2) (fun w => (clamp_any_s _ _ _ w).mono (fun _ _ ⟨h, k⟩ => ⟨by rw [e2] at h; exact h, k ▸ Kept.refl _⟩))
    · have e0 : n = x := by rw [← e]; exact if_neg (fun z => o z.1)
      rw [e0]
      exact utg_no x0 w T (fun w T => uruns h hi (by simp [o]) w T)
  · have e0 : n = x := by rw [← e]; exact if_neg (fun z => x0 z.2)
    rw [e0]
    exact utg_neg (by omega) w T
/-- Between two places, where what is sought lies. -/
def Seek12 (n k : Nat) (w : World) (s5 s6 : Value) (wr : World) : Prop := ∃ lo hi : Nat, s5 = .int .i64 lo ∧ s6 = .int .i64 hi ∧ lo ≤ k ∧ k ≤ hi ∧ hi ≤ n ∧ Kept w wr
set_option maxRecDepth 100000 in
set_option maxHeartbeats 1600000 in
theorem search12 (n k : Nat) (p q : Addr) (w : World) (hn : n ≤ 4294967296) (hk : k ≤ n) (C : ∀ i : Nat, i < n → ∀ v, Kept w v → Calls Tryd.prog 28 #[.int .i64 i, .pointer (some p), .pointer (some q)] v fun e w' => e = .returned (.bool (decide (k ≤ i))) ∧ Kept v w') :
    Calls Tryd.prog 27 #[.int .i64 n, .func (Fn.func 28) #[] #[.pointer (some p), .pointer (some q)]] w fun e w' => e = .returned (.int .i64 k) ∧ Kept w w' := by
  have C' := Lib.hid C
  clear C
  go_enter Tryd.func27, Tryd.ntmps27
  go_wp2_with fail
  go_loopw [5, 6] (fun s5 s6 wr => Seek12 n k w s5 s6 wr) (fun s5 s6 _ => (intOf s6).toNat - (intOf s5).toNat)
  case atStart => exact ⟨0, n, rfl, rfl, Nat.zero_le _, hk, Nat.le_refl _, Kept.refl _⟩
  case round =>
    obtain ⟨lo, hi, rfl, rfl, g1, g2, g3, kw⟩ := hrel
    by_cases hlt : lo < hi
    · have hltI : (lo : Int) < (hi : Int) := by omega
      have ei : (((lo + hi) / 2 : Nat) : Int) = ((lo : Int) + (hi : Int)) / 2 := by omega
      have D := C'.out ((lo + hi) / 2) (by omega)
      rw [ei] at D
      have D' := Lib.hid D
      have EI := Lib.hid ei
      clear D ei
      by_cases hc : k ≤ (lo + hi) / 2
      · have hd : decide (k ≤ (lo + hi) / 2) = true := by simp [hc]
        rw [hd] at D'
        clear hd
        go_wp2_with fail
        refine (D'.out _ kw).mono ?_
        rintro e w1 ⟨rfl, k1⟩
        go_wp2_with fail
        go_roundw
        case rel => exact ⟨lo, (lo + hi) / 2, rfl, by rw [EI.out], by omega, by omega, by omega, Kept.trans kw k1⟩
        case measure => have := EI.out; simp [intOf]; omega
      · have hd : decide (k ≤ (lo + hi) / 2) = false := by simp [hc]
        rw [hd] at D'
        clear hd
        go_wp2_with fail
        refine (D'.out _ kw).mono ?_
        rintro e w1 ⟨rfl, k1⟩
        go_wp2_with fail
        go_roundw
        case rel => exact ⟨(lo + hi) / 2 + 1, hi, by rw [← EI.out]; go_num, rfl, by omega, by omega, by omega, Kept.trans kw k1⟩
        case measure => have := EI.out; simp [intOf]; omega
    · obtain rfl : hi = lo := by omega
      obtain rfl : k = hi := by omega
      go_wp2_with fail
      go_ret
      exact ⟨rfl, kw⟩
set_option maxRecDepth 100000 in
set_option maxHeartbeats 1600000 in
theorem uclose {on : Bool} {s f m k es x v : Int} {gp gq : Nat} (i : Nat) (s0 : 0 ≤ s) (s1 : s ≤ 1099511627776) (hi : i ≤ 4294967296) (w : World) (HR : w.cell? ⟨gp, 0, none⟩ = some (.bool on) ∧ w.cell? ⟨gp, 1, none⟩ = some (.int .i64 s) ∧ w.cell? ⟨gp, 2, none⟩ = some (.int .i64 f) ∧ w.cell? ⟨gp, 3, none⟩ = some (.int .i64 m) ∧ w.cell? ⟨gp, 4, none⟩ = some (.int .i64 k) ∧ w.cell? ⟨gp, 5, none⟩ = some (.int .i64 es) ∧ w.cell? ⟨gq, 0, none⟩ = some (.int .i64 x)) (C : ∀ w, Calls Tryd.prog 29 #[.agg #[.bool on, .int .i64 s, .int .i64 f, .int .i64 m, .int .i64 k, .int .i64 es], .int .i64 (s + (i : Int))] w fun e w' => e = .returned (.int .i64 v) ∧ Kept w w') : Calls Tryd.prog 28 #[.int .i64 i, .pointer (some ⟨gp, 0, none⟩), .pointer (some ⟨gq, 0, none⟩)] w fun e w' => e = .returned (.bool (decide (x ≤ v))) ∧ Kept w w' := by
  have H_r := Lib.hid HR
  have LA' := Lib.hid C
  have g0 : (0 : Int) ≤ (i : Int) := by omega
  have g1 : (i : Int) ≤ 4294967296 := by omega
  have g2 : IntKind.i64.wrap (s + (i : Int)) = s + (i : Int) := by rw [IntKind.wrap_i64]; omega
  clear HR C
  go_enter Tryd.func28, Tryd.ntmps28
  go_upto_region 1 with fail
  have B_r := Lib.hid (Kept.alln7 (show Kept w w from (by (repeat (first | with_reducible exact Kept.refl _ | with_reducible apply Kept.drew | with_reducible apply Kept.alloc | ((with_reducible apply Kept.set); focus (simp <;> omega)) | ((with_reducible apply Kept.via); focus with_reducible assumption))))) H_r)
  have kall : Kept w w := (by (repeat (first | with_reducible exact Kept.refl _ | with_reducible apply Kept.drew | with_reducible apply Kept.alloc | ((with_reducible apply Kept.set); focus (simp <;> omega)) | ((with_reducible apply Kept.via); focus with_reducible assumption))))
  obtain ⟨q_r0, q_r1, q_r2, q_r3, q_r4, q_r5, q_r6⟩ := kwn7 B_r
  clear B_r
  refine wp_region_kept (by kernel_rfl) (by as_aux_lemma => kernel_rfl) ?_
  repeat (go_big_quiet_step (first | (with_reducible exact kept_of (LA'.out _))))
  refine wpQuiet_nil ?_
  intro wq hw'
  have kq : Kept w wq := by obtain ⟨p, rfl⟩ := hw'; exact p.k
  clear hw'
  clear kall
  go_wp2
  go_ret
  exact ⟨rfl, kq⟩
set_option maxRecDepth 100000 in
set_option maxHeartbeats 1600000 in
theorem ureach_no {on : Bool} {s f m k es x : Int}  (w : World) (T_ : Tens w) (RN : ∀ w, Tens w → Calls Tryd.prog 26 #[.agg #[.bool on, .int .i64 s, .int .i64 f, .int .i64 m, .int .i64 k, .int .i64 es]] w fun e w' => e = .returned (.bool false) ∧ Kept w w') : Calls Tryd.prog 11 #[.agg #[.bool on, .int .i64 s, .int .i64 f, .int .i64 m, .int .i64 k, .int .i64 es], .int .i64 x] w fun e w' => e = .returned (.tuple #[.int .i64 0, .bool false]) ∧ Kept w w' := by
  have RN' := Lib.hid RN
  clear RN
  have T := Lib.hid T_
  clear T_
  go_enter Tryd.func11, Tryd.ntmps11
  go_upto_region 1 with fail
  generalize hW : World.alloc (World.alloc w (.cells #[.bool on, .int .i64 s, .int .i64 f, .int .i64 m, .int .i64 k, .int .i64 es] 23)) (.cells #[.int .i64 x] 3) = W0
  have K0 : Kept w W0 := by subst hW; exact ((Kept.refl _).alloc _ _).alloc _ _
  have R0 := Lib.hid (show CE W0 w.heap.size (⟨on, s, f, m, k, es⟩ : Ep) from by subst hW; exact ⟨by simp [go_sem], by simp [go_sem], by simp [go_sem], by simp [go_sem], by simp [go_sem], by simp [go_sem]⟩)
  have X0 := Lib.hid (show W0.cell? ⟨w.heap.size + 1, 0, none⟩ = some (.int .i64 x) from by subst hW; simp [go_sem])
  clear hW
  generalize hg : w.heap.size = g at *
  clear hg
  obtain ⟨c0, c1, c2, c3, c4, c5⟩ := (show W0.cell? ⟨g, 0, none⟩ = some (.bool on) ∧ W0.cell? ⟨g, 1, none⟩ = some (.int .i64 s) ∧ W0.cell? ⟨g, 2, none⟩ = some (.int .i64 f) ∧ W0.cell? ⟨g, 3, none⟩ = some (.int .i64 m) ∧ W0.cell? ⟨g, 4, none⟩ = some (.int .i64 k) ∧ W0.cell? ⟨g, 5, none⟩ = some (.int .i64 es) from R0.out)
  go_wp2_with fail
  refine (RN'.out _ (Tens.kept T.out (by (repeat (first | with_reducible exact Kept.refl _ | with_reducible apply Kept.drew | with_reducible apply Kept.alloc | ((with_reducible apply Kept.set); focus (simp <;> omega)) | ((with_reducible apply Kept.via); focus with_reducible assumption)))))).mono ?_
  rintro e w1 ⟨rfl, k1⟩
  clear c0 c1 c2 c3 c4 c5
  have R1 := Lib.hid (R0.out.kept k1)
  have X1 := Lib.hid (k1.read X0.out)
  have K1 := Kept.trans K0 k1
  clear R0 X0 K0 k1
  go_wp2
  go_ret2
  exact ⟨rfl, K1⟩
set_option maxRecDepth 100000 in
set_option maxHeartbeats 1600000 in
theorem ureach_end {on : Bool} {s f m k es x : Int} {n : Int} (k0 : 0 ≤ k) (k1_ : k ≤ 137883820) (hn : n = 2147483648 + k + 1) (w : World) (T_ : Tens w) (RN : ∀ w, Tens w → Calls Tryd.prog 26 #[.agg #[.bool on, .int .i64 s, .int .i64 f, .int .i64 m, .int .i64 k, .int .i64 es]] w fun e w' => e = .returned (.bool true) ∧ Kept w w') (SR : ∀ W g, Kept w W → CE W g (⟨on, s, f, m, k, es⟩ : Ep) → W.cell? ⟨g + 1, 0, none⟩ = some (.int .i64 x) → Calls Tryd.prog 27 #[.int .i64 (2147483648 + k + 1), .func (Fn.func 28) #[] #[.pointer (some ⟨g, 0, none⟩), .pointer (some ⟨g + 1, 0, none⟩)]] W fun e w' => e = .returned (.int .i64 n) ∧ Kept W w') : Calls Tryd.prog 11 #[.agg #[.bool on, .int .i64 s, .int .i64 f, .int .i64 m, .int .i64 k, .int .i64 es], .int .i64 x] w fun e w' => e = .returned (.tuple #[.int .i64 0, .bool false]) ∧ Kept w w' := by
  have RN' := Lib.hid RN
  have SR' := Lib.hid SR
  clear RN SR
  have T := Lib.hid T_
  clear T_
  have d0 : (n == 2147483648 + k + 1) = true := by simp [hn]
  go_enter Tryd.func11, Tryd.ntmps11
  go_upto_region 1 with fail
  generalize hW : World.alloc (World.alloc w (.cells #[.bool on, .int .i64 s, .int .i64 f, .int .i64 m, .int .i64 k, .int .i64 es] 23)) (.cells #[.int .i64 x] 3) = W0
  have K0 : Kept w W0 := by subst hW; exact ((Kept.refl _).alloc _ _).alloc _ _
  have R0 := Lib.hid (show CE W0 w.heap.size (⟨on, s, f, m, k, es⟩ : Ep) from by subst hW; exact ⟨by simp [go_sem], by simp [go_sem], by simp [go_sem], by simp [go_sem], by simp [go_sem], by simp [go_sem]⟩)
  have X0 := Lib.hid (show W0.cell? ⟨w.heap.size + 1, 0, none⟩ = some (.int .i64 x) from by subst hW; simp [go_sem])
  clear hW
  generalize hg : w.heap.size = g at *
  clear hg
  obtain ⟨c0, c1, c2, c3, c4, c5⟩ := (show W0.cell? ⟨g, 0, none⟩ = some (.bool on) ∧ W0.cell? ⟨g, 1, none⟩ = some (.int .i64 s) ∧ W0.cell? ⟨g, 2, none⟩ = some (.int .i64 f) ∧ W0.cell? ⟨g, 3, none⟩ = some (.int .i64 m) ∧ W0.cell? ⟨g, 4, none⟩ = some (.int .i64 k) ∧ W0.cell? ⟨g, 5, none⟩ = some (.int .i64 es) from R0.out)
  go_wp2_with fail
  refine (RN'.out _ (Tens.kept T.out (by (repeat (first | with_reducible exact Kept.refl _ | with_reducible apply Kept.drew | with_reducible apply Kept.alloc | ((with_reducible apply Kept.set); focus (simp <;> omega)) | ((with_reducible apply Kept.via); focus with_reducible assumption)))))).mono ?_
  rintro e w1 ⟨rfl, k1⟩
  clear c0 c1 c2 c3 c4 c5
  have R1 := Lib.hid (R0.out.kept k1)
  have X1 := Lib.hid (k1.read X0.out)
  have K1 := Kept.trans K0 k1
  clear R0 X0 K0 k1
  have S := Lib.hid (SR'.out w1 g K1 R1.out X1.out)
  clear SR'
  obtain ⟨c0, c1, c2, c3, c4, c5⟩ := (show w1.cell? ⟨g, 0, none⟩ = some (.bool on) ∧ w1.cell? ⟨g, 1, none⟩ = some (.int .i64 s) ∧ w1.cell? ⟨g, 2, none⟩ = some (.int .i64 f) ∧ w1.cell? ⟨g, 3, none⟩ = some (.int .i64 m) ∧ w1.cell? ⟨g, 4, none⟩ = some (.int .i64 k) ∧ w1.cell? ⟨g, 5, none⟩ = some (.int .i64 es) from R1.out)
  go_wp2_with fail
  refine (S.out).mono ?_
  rintro e w2 ⟨rfl, k2⟩
  have K2 := Kept.trans K1 k2
  clear S
  go_wp2
  go_ret2
  exact ⟨rfl, K2⟩
set_option maxRecDepth 100000 in
set_option maxHeartbeats 1600000 in
theorem ureach_at {on : Bool} {s f m k es x : Int} {n : Int} (k0 : 0 ≤ k) (k1_ : k ≤ 137883820) (n0 : 0 ≤ n) (hn : n < 2147483648 + k + 1) (w : World) (T_ : Tens w) (RN : ∀ w, Tens w → Calls Tryd.prog 26 #[.agg #[.bool on, .int .i64 s, .int .i64 f, .int .i64 m, .int .i64 k, .int .i64 es]] w fun e w' => e = .returned (.bool true) ∧ Kept w w') (SR : ∀ W g, Kept w W → CE W g (⟨on, s, f, m, k, es⟩ : Ep) → W.cell? ⟨g + 1, 0, none⟩ = some (.int .i64 x) → Calls Tryd.prog 27 #[.int .i64 (2147483648 + k + 1), .func (Fn.func 28) #[] #[.pointer (some ⟨g, 0, none⟩), .pointer (some ⟨g + 1, 0, none⟩)]] W fun e w' => e = .returned (.int .i64 n) ∧ Kept W w') : Calls Tryd.prog 11 #[.agg #[.bool on, .int .i64 s, .int .i64 f, .int .i64 m, .int .i64 k, .int .i64 es], .int .i64 x] w fun e w' => e = .returned (.tuple #[.int .i64 n, .bool true]) ∧ Kept w w' := by
  have RN' := Lib.hid RN
  have SR' := Lib.hid SR
  clear RN SR
  have T := Lib.hid T_
  clear T_
  have d0 : (n == 2147483648 + k + 1) = false := by simp; omega
  have d1 : ¬ n = 2147483648 + k + 1 := by omega
  go_enter Tryd.func11, Tryd.ntmps11
  go_upto_region 1 with fail
  generalize hW : World.alloc (World.alloc w (.cells #[.bool on, .int .i64 s, .int .i64 f, .int .i64 m, .int .i64 k, .int .i64 es] 23)) (.cells #[.int .i64 x] 3) = W0
  have K0 : Kept w W0 := by subst hW; exact ((Kept.refl _).alloc _ _).alloc _ _
  have R0 := Lib.hid (show CE W0 w.heap.size (⟨on, s, f, m, k, es⟩ : Ep) from by subst hW; exact ⟨by simp [go_sem], by simp [go_sem], by simp [go_sem], by simp [go_sem], by simp [go_sem], by simp [go_sem]⟩)
  have X0 := Lib.hid (show W0.cell? ⟨w.heap.size + 1, 0, none⟩ = some (.int .i64 x) from by subst hW; simp [go_sem])
  clear hW
  generalize hg : w.heap.size = g at *
  clear hg
  obtain ⟨c0, c1, c2, c3, c4, c5⟩ := (show W0.cell? ⟨g, 0, none⟩ = some (.bool on) ∧ W0.cell? ⟨g, 1, none⟩ = some (.int .i64 s) ∧ W0.cell? ⟨g, 2, none⟩ = some (.int .i64 f) ∧ W0.cell? ⟨g, 3, none⟩ = some (.int .i64 m) ∧ W0.cell? ⟨g, 4, none⟩ = some (.int .i64 k) ∧ W0.cell? ⟨g, 5, none⟩ = some (.int .i64 es) from R0.out)
  go_wp2_with fail
  refine (RN'.out _ (Tens.kept T.out (by (repeat (first | with_reducible exact Kept.refl _ | with_reducible apply Kept.drew | with_reducible apply Kept.alloc | ((with_reducible apply Kept.set); focus (simp <;> omega)) | ((with_reducible apply Kept.via); focus with_reducible assumption)))))).mono ?_
  rintro e w1 ⟨rfl, k1⟩
  clear c0 c1 c2 c3 c4 c5
  have R1 := Lib.hid (R0.out.kept k1)
  have X1 := Lib.hid (k1.read X0.out)
  have K1 := Kept.trans K0 k1
  clear R0 X0 K0 k1
  have S := Lib.hid (SR'.out w1 g K1 R1.out X1.out)
  clear SR'
  obtain ⟨c0, c1, c2, c3, c4, c5⟩ := (show w1.cell? ⟨g, 0, none⟩ = some (.bool on) ∧ w1.cell? ⟨g, 1, none⟩ = some (.int .i64 s) ∧ w1.cell? ⟨g, 2, none⟩ = some (.int .i64 f) ∧ w1.cell? ⟨g, 3, none⟩ = some (.int .i64 m) ∧ w1.cell? ⟨g, 4, none⟩ = some (.int .i64 k) ∧ w1.cell? ⟨g, 5, none⟩ = some (.int .i64 es) from R1.out)
  go_wp2_with fail
  refine (S.out).mono ?_
  rintro e w2 ⟨rfl, k2⟩
  have K2 := Kept.trans K1 k2
  clear S
  go_wp2
  go_ret2
  exact ⟨rfl, K2⟩
theorem usearch (h : Ep) (hi : In64E h) (o : OnE h) (x : Int) (n : Nat) (n1 : (n : Int) ≤ 2147483648 + h.k + 1) (c1 : ∀ i : Nat, i < n → atV h (h.start + i) < x) (c2 : ∀ i : Nat, n ≤ i → (i : Int) < 2147483648 + h.k + 1 → x ≤ atV h (h.start + i)) (W : World) (g : Nat) (R : CE W g h) (X : W.cell? ⟨g + 1, 0, none⟩ = some (.int .i64 x)) : Calls Tryd.prog 27 #[.int .i64 (2147483648 + h.k + 1), .func (Fn.func 28) #[] #[.pointer (some ⟨g, 0, none⟩), .pointer (some ⟨g + 1, 0, none⟩)]] W fun e w' => e = .returned (.int .i64 n) ∧ Kept W w' := by
  obtain ⟨q1, q2, q3, q4, q5, q6⟩ := onE_in o
  obtain ⟨top, ht⟩ := Int.eq_ofNat_of_zero_le (a := 2147483648 + h.k + 1) (by omega)
  rw [ht]
  refine search12 top n ⟨g, 0, none⟩ ⟨g + 1, 0, none⟩ W (by omega) (by omega) (fun i hi_ v kv => ?_)
  have hd : decide (n ≤ i) = decide (x ≤ atV h (h.start + i)) := by
    have h1 := c1 i
    have h2 := c2 i
    by_cases z : n ≤ i
    · have := h2 z (by omega); simp [z]; omega
    · have := h1 (by omega); simp [z]; omega
  rw [hd]
  obtain ⟨on, s, f, m, k, es⟩ := h
  obtain ⟨r0, r1, r2, r3, r4, r5⟩ := R.kept kv
  exact uclose i q1.1 q1.2 (by have : 2147483648 + k + 1 = (top : Int) := ht; have : k ≤ 137883820 := q6; omega) v ⟨r0, r1, r2, r3, r4, r5, kv.read X⟩ (fun w => ulaw ⟨on, s, f, m, k, es⟩ hi (s + (i : Int)) _ (by have : 0 ≤ s ∧ s ≤ 1099511627776 := q1; have : k ≤ 137883820 := q6; have : 2147483648 + k + 1 = (top : Int) := ht; unfold In64; omega) q3.1 q3.2 rfl w)
theorem ureach_c : UReachC := fun h x n b hi hx e w T => by
  by_cases o : OnE h
  · have RN := fun w T => uruns h hi (v := true) (by simp [o]) w T
    obtain ⟨q1, q2, q3, q4, q5, q6⟩ := onE_in o
    rcases e with ⟨h0, rfl, rfl⟩ | ⟨_, h1, rfl, h2, h3, h4, h5⟩
    · obtain ⟨top, ht⟩ := Int.eq_ofNat_of_zero_le (a := 2147483648 + h.k + 1) (by omega)
      refine ureach_end q5 q6 (n := top) ht.symm w T RN (fun W g _ R X => usearch h hi o x top (by omega) (fun i hi_ => ?_) (fun i h1 h2 => by omega) W g R X)
      have := atV_range h (h.start + i)
      by_cases z : x ≤ 68719476736
      · exact absurd ⟨o, z⟩ h0
      · omega
    · obtain ⟨m, rfl⟩ := Int.eq_ofNat_of_zero_le h2
      refine ureach_at q5 q6 h2 (by omega) w T RN (fun W g _ R X => usearch h hi o x m (by omega) (fun i hi_ => ?_) (fun i h1 _ => ?_) W g R X)
      · rcases h5 with y | y
        · omega
        · have := atV_mono h (a := h.start + i) (b := h.start + (m : Int) - 1) (by omega); omega
      · have := atV_mono h (a := h.start + (m : Int)) (b := h.start + i) (by omega); omega
  · have RN := fun w T => uruns h hi (v := false) (by simp [o]) w T
    have e2 : n = 0 ∧ b = false := by
      rcases e with ⟨_, r⟩ | ⟨h0, _⟩
      · exact r
      · exact absurd h0 o
    obtain ⟨rfl, rfl⟩ := e2
    exact ureach_no w T RN
end Go.Proofs.YtlonfobeblnbbaaDoor
