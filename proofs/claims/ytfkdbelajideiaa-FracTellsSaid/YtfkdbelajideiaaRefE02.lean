/-
  What Add and Cmp of the document's answer do, said of whole numbers.
-/
import Derived.Test.YtfkdbelajideiaaRefD02
namespace Go.Proofs.Ytfkdbelajideiaa
open Go.RowKit Go.BigFrame

section
variable {b1 b2 b : Bool} {xh xl yh yl h l : Int}
theorem refAdd_ok (h1 : Word xh) (h2 : Word xl) (h3 : Word yh) (h4 : Word yl) (r : Rep b h l (numOf b1 xh xl + numOf b2 yh yl)) (w : World) :
    Calls Try.prog 41 #[.agg #[.bool b1, .int .u64 xh, .int .u64 xl], .agg #[.bool b2, .int .u64 yh, .int .u64 yl]] w fun e w' => e = .returned (.tuple #[.agg #[.bool b, .int .u64 h, .int .u64 l], .int .i64 0]) ∧ Kept w w' := by
  obtain ⟨h5, h6, _, _⟩ := id r
  have s := rep_size r
  have n1 := sz_nonneg h1 h2; have n2 := sz_nonneg h3 h4; have n3 := sz_nonneg h5 h6; have n4 := sz_lt h5 h6
  by_cases e : b1 = b2
  · subst e
    have s2 : sz h l = sz xh xl + sz yh yl := by
      cases b1
      · rw [numOf_false, numOf_false] at s; split at s <;> omega
      · rw [numOf_true, numOf_true] at s; split at s <;> omega
    obtain ⟨r0, r1, r2, r3, c, i0, i1, i2, i3, ic, es, P⟩ := refPlus_ok h1 h2 h3 h4
    have wh : Word (r3 * 4294967296 + r2) := by unfold Word; omega
    have wl : Word (r1 * 4294967296 + r0) := by unfold Word; omega
    have m1 := sz_nonneg wh wl
    obtain rfl : c = 0 := by omega
    obtain ⟨eh, el⟩ := sz_inj h5 h6 wh wl (by omega)
    rw [← rep_sign (s := b1) r (by cases b1 <;> simp [numOf, s2] <;> omega)]
    exact refAdd_same b1 xh xl yh yl _ _ _ _ _ _ _ _ r0 r1 r2 r3 h l w (fun w => digits_any b1 xh xl w h1 h2) (fun w => digits_any b1 yh yl w h3 h4) P (fun w => whole_any r0 r1 r2 r3 h l b1 w i0.1 i1.1 i2.1 i3.1 i0.2 i1.2 i2.2 i3.2 eh el)
  · have ne : (b1 == b2) = false := by simp [e]
    have eb : b2 = !b1 := by cases b1 <;> cases b2 <;> simp_all
    by_cases c : sz xh xl < sz yh yl
    · have s2 : sz h l = sz yh yl - sz xh xl := by
        subst eb; cases b1
        · simp only [Bool.not_false, numOf_false, numOf_true] at s; split at s <;> omega
        · simp only [Bool.not_true, numOf_false, numOf_true] at s; split at s <;> omega
      obtain ⟨r0, r1, r2, r3, i0, i1, i2, i3, es, P⟩ := refMinus_ok h3 h4 h1 h2 (by omega)
      have wh : Word (r3 * 4294967296 + r2) := by unfold Word; omega
      have wl : Word (r1 * 4294967296 + r0) := by unfold Word; omega
      obtain ⟨eh, el⟩ := sz_inj h5 h6 wh wl (by omega)
      rw [← rep_sign (s := b2) r (by subst eb; cases b1 <;> simp [numOf, s2] <;> omega)]
      exact refAdd_less b1 b2 xh xl yh yl _ _ _ _ _ _ _ _ r0 r1 r2 r3 h l w ne (fun w => digits_any b1 xh xl w h1 h2) (fun w => digits_any b2 yh yl w h3 h4) (fun w => by have := refLess_sz h1 h2 h3 h4 w; rwa [show decide (sz xh xl < sz yh yl) = true by simp [c]] at this) P (fun w => whole_any r0 r1 r2 r3 h l b2 w i0.1 i1.1 i2.1 i3.1 i0.2 i1.2 i2.2 i3.2 eh el)
    · have s2 : sz h l = sz xh xl - sz yh yl := by
        subst eb; cases b1
        · simp only [Bool.not_false, numOf_false, numOf_true] at s; split at s <;> omega
        · simp only [Bool.not_true, numOf_false, numOf_true] at s; split at s <;> omega
      obtain ⟨r0, r1, r2, r3, i0, i1, i2, i3, es, P⟩ := refMinus_ok h1 h2 h3 h4 (by omega)
      have wh : Word (r3 * 4294967296 + r2) := by unfold Word; omega
      have wl : Word (r1 * 4294967296 + r0) := by unfold Word; omega
      obtain ⟨eh, el⟩ := sz_inj h5 h6 wh wl (by omega)
      rw [← rep_sign (s := b1) r (by subst eb; cases b1 <;> simp [numOf, s2] <;> omega)]
      exact refAdd_more b1 b2 xh xl yh yl _ _ _ _ _ _ _ _ r0 r1 r2 r3 h l w ne (fun w => digits_any b1 xh xl w h1 h2) (fun w => digits_any b2 yh yl w h3 h4) (fun w => by have := refLess_sz h1 h2 h3 h4 w; rwa [show decide (sz xh xl < sz yh yl) = false by simp [c]] at this) P (fun w => whole_any r0 r1 r2 r3 h l b1 w i0.1 i1.1 i2.1 i3.1 i0.2 i1.2 i2.2 i3.2 eh el)
theorem refAdd_no (h1 : Word xh) (h2 : Word xl) (h3 : Word yh) (h4 : Word yl) (r : ¬ InBig (numOf b1 xh xl + numOf b2 yh yl)) (w : World) :
    Calls Try.prog 41 #[.agg #[.bool b1, .int .u64 xh, .int .u64 xl], .agg #[.bool b2, .int .u64 yh, .int .u64 yl]] w fun e w' => e = .returned (.tuple #[.agg #[.bool false, .int .u64 0, .int .u64 0], .int .i64 10]) ∧ Kept w w' := by
  have n1 := sz_nonneg h1 h2; have n2 := sz_nonneg h3 h4
  have m1 := sz_lt h1 h2; have m2 := sz_lt h3 h4
  have e : b1 = b2 := by
    unfold InBig at r
    cases b1 <;> cases b2 <;> first | rfl | (simp only [numOf_false, numOf_true] at r; exfalso; omega)
  subst e
  have o : 340282366920938463463374607431768211456 ≤ sz xh xl + sz yh yl := by
    unfold InBig at r
    cases b1
    · simp only [numOf_false] at r; omega
    · simp only [numOf_true] at r; omega
  obtain ⟨r0, r1, r2, r3, c, i0, i1, i2, i3, ic, es, P⟩ := refPlus_ok h1 h2 h3 h4
  have k1 : sz (r3 * 4294967296 + r2) (r1 * 4294967296 + r0) < 340282366920938463463374607431768211456 := sz_lt (by unfold Word; omega) (by unfold Word; omega)
  exact refAdd_over b1 xh xl yh yl _ _ _ _ _ _ _ _ r0 r1 r2 r3 c w (by omega) (fun w => digits_any b1 xh xl w h1 h2) (fun w => digits_any b1 yh yl w h3 h4) P
end

theorem kw4 {W : World} {p0 p1 p2 p3 : Addr} {v0 v1 v2 v3 : Value} (h : Hid (W.cell? p0 = some v0 ∧ W.cell? p1 = some v1 ∧ W.cell? p2 = some v2 ∧ W.cell? p3 = some v3)) :
    (∀ p : KW W, p.w.cell? p0 = some v0) ∧ (∀ p : KW W, p.w.cell? p1 = some v1) ∧ (∀ p : KW W, p.w.cell? p2 = some v2) ∧ (∀ p : KW W, p.w.cell? p3 = some v3) :=
  ⟨fun p => p.k.read h.out.1, fun p => p.k.read h.out.2.1, fun p => p.k.read h.out.2.2.1, fun p => p.k.read h.out.2.2.2⟩
set_option maxHeartbeats 1600000 in
theorem refCmp_t_f (xb yb : Bool) (xh xl yh yl a0 a1 a2 a3 b0 b1 b2 b3 : Int) (w : World) (D1 : ∀ w, Calls Try.prog 33 #[.agg #[.bool xb, .int .u64 xh, .int .u64 xl]] w fun e w' => e = .returned (.agg #[.int .u64 a0, .int .u64 a1, .int .u64 a2, .int .u64 a3]) ∧ Kept w w') (D2 : ∀ w, Calls Try.prog 33 #[.agg #[.bool yb, .int .u64 yh, .int .u64 yl]] w fun e w' => e = .returned (.agg #[.int .u64 b0, .int .u64 b1, .int .u64 b2, .int .u64 b3]) ∧ Kept w w') (B1 : ∀ w, Calls Try.prog 34 #[.agg #[.bool xb, .int .u64 xh, .int .u64 xl]] w fun e w' => e = .returned (.bool true) ∧ Kept w w') (B2 : ∀ w, Calls Try.prog 34 #[.agg #[.bool yb, .int .u64 yh, .int .u64 yl]] w fun e w' => e = .returned (.bool false) ∧ Kept w w') :
    Calls Try.prog 23 #[.agg #[.bool xb, .int .u64 xh, .int .u64 xl], .agg #[.bool yb, .int .u64 yh, .int .u64 yl]] w fun e w' => e = .returned (.int .i64 (-1)) ∧ Kept w w' := by
  have D1' := Lib.hid D1
  have D2' := Lib.hid D2
  have B1' := Lib.hid B1
  have B2' := Lib.hid B2
  clear D1 D2 B1 B2
  go_enter Try.func23, Try.ntmps23
  go_upto_region 1 with fail
  generalize hW : (World.alloc (World.alloc w (.cells #[.bool xb, .int .u64 xh, .int .u64 xl] 31)) (.cells #[.bool yb, .int .u64 yh, .int .u64 yl] 31)) = W0
  have base := Lib.hid (show W0.cell? ⟨w.heap.size, 0, none⟩ = some (.bool xb) ∧ W0.cell? ⟨w.heap.size, 1, none⟩ = some (.int .u64 xh) ∧ W0.cell? ⟨w.heap.size, 2, none⟩ = some (.int .u64 xl) ∧ W0.cell? ⟨w.heap.size + 1, 0, none⟩ = some (.bool yb) ∧ W0.cell? ⟨w.heap.size + 1, 1, none⟩ = some (.int .u64 yh) ∧ W0.cell? ⟨w.heap.size + 1, 2, none⟩ = some (.int .u64 yl) from by subst hW; simp [go_sem])
  have kw : Kept w W0 := by subst hW; exact (by (repeat (first | with_reducible exact Kept.refl _ | with_reducible apply Kept.drew | with_reducible apply Kept.alloc | ((with_reducible apply Kept.set); focus (simp <;> omega)) | ((with_reducible apply Kept.via); focus with_reducible assumption))))
  have zw : w.heap.size + 2 ≤ W0.heap.size := by subst hW; simp
  clear hW
  obtain ⟨x0, x1, x2, y0, y1, y2⟩ := Kept.all6 (Kept.refl _) base
  have H_x := Lib.hid (And.intro x0 (And.intro x1 x2))
  have H_y := Lib.hid (And.intro y0 (And.intro y1 y2))
  clear base x0 x1 x2 y0 y1 y2
  obtain ⟨c_x0, c_x1, c_x2⟩ := Kept.all3 (show Kept W0 W0 from (by (repeat (first | with_reducible exact Kept.refl _ | with_reducible apply Kept.drew | with_reducible apply Kept.alloc | ((with_reducible apply Kept.set); focus (simp <;> omega)) | ((with_reducible apply Kept.via); focus with_reducible assumption))))) H_x
  go_wp2_with fail
  refine (D1'.out _).mono ?_
  rintro e w1 ⟨rfl, k1⟩
  clear c_x0 c_x1 c_x2
  go_upto_region 2 with fail
  generalize hW : World.alloc w1 (.cells #[.int .u64 a0, .int .u64 a1, .int .u64 a2, .int .u64 a3] 49) = W_a
  have K_a : Kept w1 W_a := by subst hW; exact (Kept.refl _).alloc _ _
  have H_a := Lib.hid (show W_a.cell? ⟨w1.heap.size, 0, none⟩ = some (.int .u64 a0) ∧ W_a.cell? ⟨w1.heap.size, 1, none⟩ = some (.int .u64 a1) ∧ W_a.cell? ⟨w1.heap.size, 2, none⟩ = some (.int .u64 a2) ∧ W_a.cell? ⟨w1.heap.size, 3, none⟩ = some (.int .u64 a3) from by subst hW; simp [go_sem])
  clear hW
  generalize w1.heap.size = g_a at *
  obtain ⟨c_y0, c_y1, c_y2⟩ := Kept.all3 (show Kept W0 W_a from (by (repeat (first | with_reducible exact Kept.refl _ | with_reducible apply Kept.drew | with_reducible apply Kept.alloc | ((with_reducible apply Kept.set); focus (simp <;> omega)) | ((with_reducible apply Kept.via); focus with_reducible assumption))))) H_y
  go_wp2_with fail
  refine (D2'.out _).mono ?_
  rintro e w2 ⟨rfl, k2⟩
  clear c_y0 c_y1 c_y2
  go_upto_region 3 with fail
  generalize hW : World.alloc w2 (.cells #[.int .u64 b0, .int .u64 b1, .int .u64 b2, .int .u64 b3] 49) = W_b
  have K_b : Kept w2 W_b := by subst hW; exact (Kept.refl _).alloc _ _
  have H_b := Lib.hid (show W_b.cell? ⟨w2.heap.size, 0, none⟩ = some (.int .u64 b0) ∧ W_b.cell? ⟨w2.heap.size, 1, none⟩ = some (.int .u64 b1) ∧ W_b.cell? ⟨w2.heap.size, 2, none⟩ = some (.int .u64 b2) ∧ W_b.cell? ⟨w2.heap.size, 3, none⟩ = some (.int .u64 b3) from by subst hW; simp [go_sem])
  clear hW
  generalize w2.heap.size = g_b at *
  have B1_x := Lib.hid (Kept.all3 (show Kept W0 W_b from (by (repeat (first | with_reducible exact Kept.refl _ | with_reducible apply Kept.drew | with_reducible apply Kept.alloc | ((with_reducible apply Kept.set); focus (simp <;> omega)) | ((with_reducible apply Kept.via); focus with_reducible assumption))))) H_x)
  have B1_y := Lib.hid (Kept.all3 (show Kept W0 W_b from (by (repeat (first | with_reducible exact Kept.refl _ | with_reducible apply Kept.drew | with_reducible apply Kept.alloc | ((with_reducible apply Kept.set); focus (simp <;> omega)) | ((with_reducible apply Kept.via); focus with_reducible assumption))))) H_y)
  obtain ⟨q1_x0, q1_x1, q1_x2⟩ := kw3 B1_x
  obtain ⟨q1_y0, q1_y1, q1_y2⟩ := kw3 B1_y
  clear B1_x B1_y
  refine wp_region_kept (by kernel_rfl) (by as_aux_lemma => kernel_rfl) ?_
  repeat (go_big_quiet_step (first | (with_reducible exact kept_of (B1'.out _)) | (with_reducible exact kept_of (B2'.out _))))
  refine wpQuiet_nil ?_
  intro wq1 hw'
  have kq1 : Kept W_b wq1 := by obtain ⟨p, rfl⟩ := hw'; exact p.k
  clear hw'
  clear q1_x0 q1_x1 q1_x2 q1_y0 q1_y1 q1_y2
  obtain ⟨c_x0, c_x1, c_x2⟩ := Kept.all3 (show Kept W0 wq1 from (by (repeat (first | with_reducible exact Kept.refl _ | with_reducible apply Kept.drew | with_reducible apply Kept.alloc | ((with_reducible apply Kept.set); focus (simp <;> omega)) | ((with_reducible apply Kept.via); focus with_reducible assumption))))) H_x
  go_wp2_with fail
  refine (B1'.out _).mono ?_
  rintro e w3 ⟨rfl, k3⟩
  clear c_x0 c_x1 c_x2
  go_wp2
  go_ret
  exact ⟨rfl, (by (repeat (first | with_reducible exact Kept.refl _ | with_reducible apply Kept.drew | with_reducible apply Kept.alloc | ((with_reducible apply Kept.set); focus (simp <;> omega)) | ((with_reducible apply Kept.via); focus with_reducible assumption))))⟩
set_option maxHeartbeats 1600000 in
theorem refCmp_ttf (xb yb : Bool) (xh xl yh yl a0 a1 a2 a3 b0 b1 b2 b3 : Int) (w : World) (D1 : ∀ w, Calls Try.prog 33 #[.agg #[.bool xb, .int .u64 xh, .int .u64 xl]] w fun e w' => e = .returned (.agg #[.int .u64 a0, .int .u64 a1, .int .u64 a2, .int .u64 a3]) ∧ Kept w w') (D2 : ∀ w, Calls Try.prog 33 #[.agg #[.bool yb, .int .u64 yh, .int .u64 yl]] w fun e w' => e = .returned (.agg #[.int .u64 b0, .int .u64 b1, .int .u64 b2, .int .u64 b3]) ∧ Kept w w') (B1 : ∀ w, Calls Try.prog 34 #[.agg #[.bool xb, .int .u64 xh, .int .u64 xl]] w fun e w' => e = .returned (.bool true) ∧ Kept w w') (B2 : ∀ w, Calls Try.prog 34 #[.agg #[.bool yb, .int .u64 yh, .int .u64 yl]] w fun e w' => e = .returned (.bool true) ∧ Kept w w') (C1 : ∀ w, Calls Try.prog 35 #[.agg #[.int .u64 a0, .int .u64 a1, .int .u64 a2, .int .u64 a3], .agg #[.int .u64 b0, .int .u64 b1, .int .u64 b2, .int .u64 b3]] w fun e w' => e = .returned (.bool true) ∧ Kept w w') (C2 : ∀ w, Calls Try.prog 35 #[.agg #[.int .u64 b0, .int .u64 b1, .int .u64 b2, .int .u64 b3], .agg #[.int .u64 a0, .int .u64 a1, .int .u64 a2, .int .u64 a3]] w fun e w' => e = .returned (.bool false) ∧ Kept w w') :
    Calls Try.prog 23 #[.agg #[.bool xb, .int .u64 xh, .int .u64 xl], .agg #[.bool yb, .int .u64 yh, .int .u64 yl]] w fun e w' => e = .returned (.int .i64 1) ∧ Kept w w' := by
  have D1' := Lib.hid D1
  have D2' := Lib.hid D2
  have B1' := Lib.hid B1
  have B2' := Lib.hid B2
  have C1' := Lib.hid C1
  have C2' := Lib.hid C2
  clear D1 D2 B1 B2 C1 C2
  go_enter Try.func23, Try.ntmps23
  go_upto_region 1 with fail
  generalize hW : (World.alloc (World.alloc w (.cells #[.bool xb, .int .u64 xh, .int .u64 xl] 31)) (.cells #[.bool yb, .int .u64 yh, .int .u64 yl] 31)) = W0
  have base := Lib.hid (show W0.cell? ⟨w.heap.size, 0, none⟩ = some (.bool xb) ∧ W0.cell? ⟨w.heap.size, 1, none⟩ = some (.int .u64 xh) ∧ W0.cell? ⟨w.heap.size, 2, none⟩ = some (.int .u64 xl) ∧ W0.cell? ⟨w.heap.size + 1, 0, none⟩ = some (.bool yb) ∧ W0.cell? ⟨w.heap.size + 1, 1, none⟩ = some (.int .u64 yh) ∧ W0.cell? ⟨w.heap.size + 1, 2, none⟩ = some (.int .u64 yl) from by subst hW; simp [go_sem])
  have kw : Kept w W0 := by subst hW; exact (by (repeat (first | with_reducible exact Kept.refl _ | with_reducible apply Kept.drew | with_reducible apply Kept.alloc | ((with_reducible apply Kept.set); focus (simp <;> omega)) | ((with_reducible apply Kept.via); focus with_reducible assumption))))
  have zw : w.heap.size + 2 ≤ W0.heap.size := by subst hW; simp
  clear hW
  obtain ⟨x0, x1, x2, y0, y1, y2⟩ := Kept.all6 (Kept.refl _) base
  have H_x := Lib.hid (And.intro x0 (And.intro x1 x2))
  have H_y := Lib.hid (And.intro y0 (And.intro y1 y2))
  clear base x0 x1 x2 y0 y1 y2
  obtain ⟨c_x0, c_x1, c_x2⟩ := Kept.all3 (show Kept W0 W0 from (by (repeat (first | with_reducible exact Kept.refl _ | with_reducible apply Kept.drew | with_reducible apply Kept.alloc | ((with_reducible apply Kept.set); focus (simp <;> omega)) | ((with_reducible apply Kept.via); focus with_reducible assumption))))) H_x
  go_wp2_with fail
  refine (D1'.out _).mono ?_
  rintro e w1 ⟨rfl, k1⟩
  clear c_x0 c_x1 c_x2
  go_upto_region 2 with fail
  generalize hW : World.alloc w1 (.cells #[.int .u64 a0, .int .u64 a1, .int .u64 a2, .int .u64 a3] 49) = W_a
  have K_a : Kept w1 W_a := by subst hW; exact (Kept.refl _).alloc _ _
  have H_a := Lib.hid (show W_a.cell? ⟨w1.heap.size, 0, none⟩ = some (.int .u64 a0) ∧ W_a.cell? ⟨w1.heap.size, 1, none⟩ = some (.int .u64 a1) ∧ W_a.cell? ⟨w1.heap.size, 2, none⟩ = some (.int .u64 a2) ∧ W_a.cell? ⟨w1.heap.size, 3, none⟩ = some (.int .u64 a3) from by subst hW; simp [go_sem])
  clear hW
  generalize w1.heap.size = g_a at *
  obtain ⟨c_y0, c_y1, c_y2⟩ := Kept.all3 (show Kept W0 W_a from (by (repeat (first | with_reducible exact Kept.refl _ | with_reducible apply Kept.drew | with_reducible apply Kept.alloc | ((with_reducible apply Kept.set); focus (simp <;> omega)) | ((with_reducible apply Kept.via); focus with_reducible assumption))))) H_y
  go_wp2_with fail
  refine (D2'.out _).mono ?_
  rintro e w2 ⟨rfl, k2⟩
  clear c_y0 c_y1 c_y2
  go_upto_region 3 with fail
  generalize hW : World.alloc w2 (.cells #[.int .u64 b0, .int .u64 b1, .int .u64 b2, .int .u64 b3] 49) = W_b
  have K_b : Kept w2 W_b := by subst hW; exact (Kept.refl _).alloc _ _
  have H_b := Lib.hid (show W_b.cell? ⟨w2.heap.size, 0, none⟩ = some (.int .u64 b0) ∧ W_b.cell? ⟨w2.heap.size, 1, none⟩ = some (.int .u64 b1) ∧ W_b.cell? ⟨w2.heap.size, 2, none⟩ = some (.int .u64 b2) ∧ W_b.cell? ⟨w2.heap.size, 3, none⟩ = some (.int .u64 b3) from by subst hW; simp [go_sem])
  clear hW
  generalize w2.heap.size = g_b at *
  have B1_x := Lib.hid (Kept.all3 (show Kept W0 W_b from (by (repeat (first | with_reducible exact Kept.refl _ | with_reducible apply Kept.drew | with_reducible apply Kept.alloc | ((with_reducible apply Kept.set); focus (simp <;> omega)) | ((with_reducible apply Kept.via); focus with_reducible assumption))))) H_x)
  have B1_y := Lib.hid (Kept.all3 (show Kept W0 W_b from (by (repeat (first | with_reducible exact Kept.refl _ | with_reducible apply Kept.drew | with_reducible apply Kept.alloc | ((with_reducible apply Kept.set); focus (simp <;> omega)) | ((with_reducible apply Kept.via); focus with_reducible assumption))))) H_y)
  obtain ⟨q1_x0, q1_x1, q1_x2⟩ := kw3 B1_x
  obtain ⟨q1_y0, q1_y1, q1_y2⟩ := kw3 B1_y
  clear B1_x B1_y
  refine wp_region_kept (by kernel_rfl) (by as_aux_lemma => kernel_rfl) ?_
  repeat (go_big_quiet_step (first | (with_reducible exact kept_of (B1'.out _)) | (with_reducible exact kept_of (B2'.out _))))
  refine wpQuiet_nil ?_
  intro wq1 hw'
  have kq1 : Kept W_b wq1 := by obtain ⟨p, rfl⟩ := hw'; exact p.k
  clear hw'
  clear q1_x0 q1_x1 q1_x2 q1_y0 q1_y1 q1_y2
  go_upto_region 7 with fail
  have B2_x := Lib.hid (Kept.all3 (show Kept W0 wq1 from (by (repeat (first | with_reducible exact Kept.refl _ | with_reducible apply Kept.drew | with_reducible apply Kept.alloc | ((with_reducible apply Kept.set); focus (simp <;> omega)) | ((with_reducible apply Kept.via); focus with_reducible assumption))))) H_x)
  have B2_a := Lib.hid (Kept.all4 (show Kept W_a wq1 from (by (repeat (first | with_reducible exact Kept.refl _ | with_reducible apply Kept.drew | with_reducible apply Kept.alloc | ((with_reducible apply Kept.set); focus (simp <;> omega)) | ((with_reducible apply Kept.via); focus with_reducible assumption))))) H_a)
  have B2_b := Lib.hid (Kept.all4 (show Kept W_b wq1 from (by (repeat (first | with_reducible exact Kept.refl _ | with_reducible apply Kept.drew | with_reducible apply Kept.alloc | ((with_reducible apply Kept.set); focus (simp <;> omega)) | ((with_reducible apply Kept.via); focus with_reducible assumption))))) H_b)
  have kall2 : Kept w wq1 := (by (repeat (first | with_reducible exact Kept.refl _ | with_reducible apply Kept.drew | with_reducible apply Kept.alloc | ((with_reducible apply Kept.set); focus (simp <;> omega)) | ((with_reducible apply Kept.via); focus with_reducible assumption))))
  obtain ⟨q2_x0, q2_x1, q2_x2⟩ := kw3 B2_x
  obtain ⟨q2_a0, q2_a1, q2_a2, q2_a3⟩ := kw4 B2_a
  obtain ⟨q2_b0, q2_b1, q2_b2, q2_b3⟩ := kw4 B2_b
  clear B2_x B2_a B2_b
  refine wp_region_kept (by kernel_rfl) (by as_aux_lemma => kernel_rfl) ?_
  repeat (go_big_quiet_step (first | (with_reducible exact kept_of (C1'.out _)) | (with_reducible exact kept_of (C2'.out _)) | (with_reducible exact kept_of (B1'.out _))))
  refine wpQuiet_nil ?_
  intro wq2 hw'
  have kq2 : Kept wq1 wq2 := by obtain ⟨p, rfl⟩ := hw'; exact p.k
  clear hw'
  go_wp2
  go_ret
  exact ⟨rfl, (by (repeat (first | with_reducible exact Kept.refl _ | with_reducible apply Kept.drew | with_reducible apply Kept.alloc | ((with_reducible apply Kept.set); focus (simp <;> omega)) | ((with_reducible apply Kept.via); focus with_reducible assumption))))⟩
set_option maxHeartbeats 1600000 in
theorem refCmp_tft (xb yb : Bool) (xh xl yh yl a0 a1 a2 a3 b0 b1 b2 b3 : Int) (w : World) (D1 : ∀ w, Calls Try.prog 33 #[.agg #[.bool xb, .int .u64 xh, .int .u64 xl]] w fun e w' => e = .returned (.agg #[.int .u64 a0, .int .u64 a1, .int .u64 a2, .int .u64 a3]) ∧ Kept w w') (D2 : ∀ w, Calls Try.prog 33 #[.agg #[.bool yb, .int .u64 yh, .int .u64 yl]] w fun e w' => e = .returned (.agg #[.int .u64 b0, .int .u64 b1, .int .u64 b2, .int .u64 b3]) ∧ Kept w w') (B1 : ∀ w, Calls Try.prog 34 #[.agg #[.bool xb, .int .u64 xh, .int .u64 xl]] w fun e w' => e = .returned (.bool true) ∧ Kept w w') (B2 : ∀ w, Calls Try.prog 34 #[.agg #[.bool yb, .int .u64 yh, .int .u64 yl]] w fun e w' => e = .returned (.bool true) ∧ Kept w w') (C1 : ∀ w, Calls Try.prog 35 #[.agg #[.int .u64 a0, .int .u64 a1, .int .u64 a2, .int .u64 a3], .agg #[.int .u64 b0, .int .u64 b1, .int .u64 b2, .int .u64 b3]] w fun e w' => e = .returned (.bool false) ∧ Kept w w') (C2 : ∀ w, Calls Try.prog 35 #[.agg #[.int .u64 b0, .int .u64 b1, .int .u64 b2, .int .u64 b3], .agg #[.int .u64 a0, .int .u64 a1, .int .u64 a2, .int .u64 a3]] w fun e w' => e = .returned (.bool true) ∧ Kept w w') :
    Calls Try.prog 23 #[.agg #[.bool xb, .int .u64 xh, .int .u64 xl], .agg #[.bool yb, .int .u64 yh, .int .u64 yl]] w fun e w' => e = .returned (.int .i64 (-1)) ∧ Kept w w' := by
  have D1' := Lib.hid D1
  have D2' := Lib.hid D2
  have B1' := Lib.hid B1
  have B2' := Lib.hid B2
  have C1' := Lib.hid C1
  have C2' := Lib.hid C2
  clear D1 D2 B1 B2 C1 C2
  go_enter Try.func23, Try.ntmps23
  go_upto_region 1 with fail
  generalize hW : (World.alloc (World.alloc w (.cells #[.bool xb, .int .u64 xh, .int .u64 xl] 31)) (.cells #[.bool yb, .int .u64 yh, .int .u64 yl] 31)) = W0
  have base := Lib.hid (show W0.cell? ⟨w.heap.size, 0, none⟩ = some (.bool xb) ∧ W0.cell? ⟨w.heap.size, 1, none⟩ = some (.int .u64 xh) ∧ W0.cell? ⟨w.heap.size, 2, none⟩ = some (.int .u64 xl) ∧ W0.cell? ⟨w.heap.size + 1, 0, none⟩ = some (.bool yb) ∧ W0.cell? ⟨w.heap.size + 1, 1, none⟩ = some (.int .u64 yh) ∧ W0.cell? ⟨w.heap.size + 1, 2, none⟩ = some (.int .u64 yl) from by subst hW; simp [go_sem])
  have kw : Kept w W0 := by subst hW; exact (by (repeat (first | with_reducible exact Kept.refl _ | with_reducible apply Kept.drew | with_reducible apply Kept.alloc | ((with_reducible apply Kept.set); focus (simp <;> omega)) | ((with_reducible apply Kept.via); focus with_reducible assumption))))
  have zw : w.heap.size + 2 ≤ W0.heap.size := by subst hW; simp
  clear hW
  obtain ⟨x0, x1, x2, y0, y1, y2⟩ := Kept.all6 (Kept.refl _) base
  have H_x := Lib.hid (And.intro x0 (And.intro x1 x2))
  have H_y := Lib.hid (And.intro y0 (And.intro y1 y2))
  clear base x0 x1 x2 y0 y1 y2
  obtain ⟨c_x0, c_x1, c_x2⟩ := Kept.all3 (show Kept W0 W0 from (by (repeat (first | with_reducible exact Kept.refl _ | with_reducible apply Kept.drew | with_reducible apply Kept.alloc | ((with_reducible apply Kept.set); focus (simp <;> omega)) | ((with_reducible apply Kept.via); focus with_reducible assumption))))) H_x
  go_wp2_with fail
  refine (D1'.out _).mono ?_
  rintro e w1 ⟨rfl, k1⟩
  clear c_x0 c_x1 c_x2
  go_upto_region 2 with fail
  generalize hW : World.alloc w1 (.cells #[.int .u64 a0, .int .u64 a1, .int .u64 a2, .int .u64 a3] 49) = W_a
  have K_a : Kept w1 W_a := by subst hW; exact (Kept.refl _).alloc _ _
  have H_a := Lib.hid (show W_a.cell? ⟨w1.heap.size, 0, none⟩ = some (.int .u64 a0) ∧ W_a.cell? ⟨w1.heap.size, 1, none⟩ = some (.int .u64 a1) ∧ W_a.cell? ⟨w1.heap.size, 2, none⟩ = some (.int .u64 a2) ∧ W_a.cell? ⟨w1.heap.size, 3, none⟩ = some (.int .u64 a3) from by subst hW; simp [go_sem])
  clear hW
  generalize w1.heap.size = g_a at *
  obtain ⟨c_y0, c_y1, c_y2⟩ := Kept.all3 (show Kept W0 W_a from (by (repeat (first | with_reducible exact Kept.refl _ | with_reducible apply Kept.drew | with_reducible apply Kept.alloc | ((with_reducible apply Kept.set); focus (simp <;> omega)) | ((with_reducible apply Kept.via); focus with_reducible assumption))))) H_y
  go_wp2_with fail
  refine (D2'.out _).mono ?_
  rintro e w2 ⟨rfl, k2⟩
  clear c_y0 c_y1 c_y2
  go_upto_region 3 with fail
  generalize hW : World.alloc w2 (.cells #[.int .u64 b0, .int .u64 b1, .int .u64 b2, .int .u64 b3] 49) = W_b
  have K_b : Kept w2 W_b := by subst hW; exact (Kept.refl _).alloc _ _
  have H_b := Lib.hid (show W_b.cell? ⟨w2.heap.size, 0, none⟩ = some (.int .u64 b0) ∧ W_b.cell? ⟨w2.heap.size, 1, none⟩ = some (.int .u64 b1) ∧ W_b.cell? ⟨w2.heap.size, 2, none⟩ = some (.int .u64 b2) ∧ W_b.cell? ⟨w2.heap.size, 3, none⟩ = some (.int .u64 b3) from by subst hW; simp [go_sem])
  clear hW
  generalize w2.heap.size = g_b at *
  have B1_x := Lib.hid (Kept.all3 (show Kept W0 W_b from (by (repeat (first | with_reducible exact Kept.refl _ | with_reducible apply Kept.drew | with_reducible apply Kept.alloc | ((with_reducible apply Kept.set); focus (simp <;> omega)) | ((with_reducible apply Kept.via); focus with_reducible assumption))))) H_x)
  have B1_y := Lib.hid (Kept.all3 (show Kept W0 W_b from (by (repeat (first | with_reducible exact Kept.refl _ | with_reducible apply Kept.drew | with_reducible apply Kept.alloc | ((with_reducible apply Kept.set); focus (simp <;> omega)) | ((with_reducible apply Kept.via); focus with_reducible assumption))))) H_y)
  obtain ⟨q1_x0, q1_x1, q1_x2⟩ := kw3 B1_x
  obtain ⟨q1_y0, q1_y1, q1_y2⟩ := kw3 B1_y
  clear B1_x B1_y
  refine wp_region_kept (by kernel_rfl) (by as_aux_lemma => kernel_rfl) ?_
  repeat (go_big_quiet_step (first | (with_reducible exact kept_of (B1'.out _)) | (with_reducible exact kept_of (B2'.out _))))
  refine wpQuiet_nil ?_
  intro wq1 hw'
  have kq1 : Kept W_b wq1 := by obtain ⟨p, rfl⟩ := hw'; exact p.k
  clear hw'
  clear q1_x0 q1_x1 q1_x2 q1_y0 q1_y1 q1_y2
  go_upto_region 7 with fail
  have B2_x := Lib.hid (Kept.all3 (show Kept W0 wq1 from (by (repeat (first | with_reducible exact Kept.refl _ | with_reducible apply Kept.drew | with_reducible apply Kept.alloc | ((with_reducible apply Kept.set); focus (simp <;> omega)) | ((with_reducible apply Kept.via); focus with_reducible assumption))))) H_x)
  have B2_a := Lib.hid (Kept.all4 (show Kept W_a wq1 from (by (repeat (first | with_reducible exact Kept.refl _ | with_reducible apply Kept.drew | with_reducible apply Kept.alloc | ((with_reducible apply Kept.set); focus (simp <;> omega)) | ((with_reducible apply Kept.via); focus with_reducible assumption))))) H_a)
  have B2_b := Lib.hid (Kept.all4 (show Kept W_b wq1 from (by (repeat (first | with_reducible exact Kept.refl _ | with_reducible apply Kept.drew | with_reducible apply Kept.alloc | ((with_reducible apply Kept.set); focus (simp <;> omega)) | ((with_reducible apply Kept.via); focus with_reducible assumption))))) H_b)
  obtain ⟨q2_x0, q2_x1, q2_x2⟩ := kw3 B2_x
  obtain ⟨q2_a0, q2_a1, q2_a2, q2_a3⟩ := kw4 B2_a
  obtain ⟨q2_b0, q2_b1, q2_b2, q2_b3⟩ := kw4 B2_b
  clear B2_x B2_a B2_b
  refine wp_region_kept (by kernel_rfl) (by as_aux_lemma => kernel_rfl) ?_
  repeat (go_big_quiet_step (first | (with_reducible exact kept_of (C1'.out _)) | (with_reducible exact kept_of (C2'.out _)) | (with_reducible exact kept_of (B1'.out _))))
  refine wpQuiet_nil ?_
  intro wq2 hw'
  have kq2 : Kept wq1 wq2 := by obtain ⟨p, rfl⟩ := hw'; exact p.k
  clear hw'
  clear q2_x0 q2_x1 q2_x2 q2_a0 q2_a1 q2_a2 q2_a3 q2_b0 q2_b1 q2_b2 q2_b3
  go_upto_region 9 with fail
  have B3_a := Lib.hid (Kept.all4 (show Kept W_a wq2 from (by (repeat (first | with_reducible exact Kept.refl _ | with_reducible apply Kept.drew | with_reducible apply Kept.alloc | ((with_reducible apply Kept.set); focus (simp <;> omega)) | ((with_reducible apply Kept.via); focus with_reducible assumption))))) H_a)
  have B3_b := Lib.hid (Kept.all4 (show Kept W_b wq2 from (by (repeat (first | with_reducible exact Kept.refl _ | with_reducible apply Kept.drew | with_reducible apply Kept.alloc | ((with_reducible apply Kept.set); focus (simp <;> omega)) | ((with_reducible apply Kept.via); focus with_reducible assumption))))) H_b)
  have kall3 : Kept w wq2 := (by (repeat (first | with_reducible exact Kept.refl _ | with_reducible apply Kept.drew | with_reducible apply Kept.alloc | ((with_reducible apply Kept.set); focus (simp <;> omega)) | ((with_reducible apply Kept.via); focus with_reducible assumption))))
  obtain ⟨q3_a0, q3_a1, q3_a2, q3_a3⟩ := kw4 B3_a
  obtain ⟨q3_b0, q3_b1, q3_b2, q3_b3⟩ := kw4 B3_b
  clear B3_a B3_b
  refine wp_region_kept (by kernel_rfl) (by as_aux_lemma => kernel_rfl) ?_
  repeat (go_big_quiet_step (first | (with_reducible exact kept_of (C1'.out _)) | (with_reducible exact kept_of (C2'.out _))))
  refine wpQuiet_nil ?_
  intro wq3 hw'
  have kq3 : Kept wq2 wq3 := by obtain ⟨p, rfl⟩ := hw'; exact p.k
  clear hw'
  go_wp2
  go_ret
  exact ⟨rfl, (by (repeat (first | with_reducible exact Kept.refl _ | with_reducible apply Kept.drew | with_reducible apply Kept.alloc | ((with_reducible apply Kept.set); focus (simp <;> omega)) | ((with_reducible apply Kept.via); focus with_reducible assumption))))⟩
set_option maxHeartbeats 1600000 in
theorem refCmp_tff (xb yb : Bool) (xh xl yh yl a0 a1 a2 a3 b0 b1 b2 b3 : Int) (w : World) (D1 : ∀ w, Calls Try.prog 33 #[.agg #[.bool xb, .int .u64 xh, .int .u64 xl]] w fun e w' => e = .returned (.agg #[.int .u64 a0, .int .u64 a1, .int .u64 a2, .int .u64 a3]) ∧ Kept w w') (D2 : ∀ w, Calls Try.prog 33 #[.agg #[.bool yb, .int .u64 yh, .int .u64 yl]] w fun e w' => e = .returned (.agg #[.int .u64 b0, .int .u64 b1, .int .u64 b2, .int .u64 b3]) ∧ Kept w w') (B1 : ∀ w, Calls Try.prog 34 #[.agg #[.bool xb, .int .u64 xh, .int .u64 xl]] w fun e w' => e = .returned (.bool true) ∧ Kept w w') (B2 : ∀ w, Calls Try.prog 34 #[.agg #[.bool yb, .int .u64 yh, .int .u64 yl]] w fun e w' => e = .returned (.bool true) ∧ Kept w w') (C1 : ∀ w, Calls Try.prog 35 #[.agg #[.int .u64 a0, .int .u64 a1, .int .u64 a2, .int .u64 a3], .agg #[.int .u64 b0, .int .u64 b1, .int .u64 b2, .int .u64 b3]] w fun e w' => e = .returned (.bool false) ∧ Kept w w') (C2 : ∀ w, Calls Try.prog 35 #[.agg #[.int .u64 b0, .int .u64 b1, .int .u64 b2, .int .u64 b3], .agg #[.int .u64 a0, .int .u64 a1, .int .u64 a2, .int .u64 a3]] w fun e w' => e = .returned (.bool false) ∧ Kept w w') :
    Calls Try.prog 23 #[.agg #[.bool xb, .int .u64 xh, .int .u64 xl], .agg #[.bool yb, .int .u64 yh, .int .u64 yl]] w fun e w' => e = .returned (.int .i64 0) ∧ Kept w w' := by
  have D1' := Lib.hid D1
  have D2' := Lib.hid D2
  have B1' := Lib.hid B1
  have B2' := Lib.hid B2
  have C1' := Lib.hid C1
  have C2' := Lib.hid C2
  clear D1 D2 B1 B2 C1 C2
  go_enter Try.func23, Try.ntmps23
  go_upto_region 1 with fail
  generalize hW : (World.alloc (World.alloc w (.cells #[.bool xb, .int .u64 xh, .int .u64 xl] 31)) (.cells #[.bool yb, .int .u64 yh, .int .u64 yl] 31)) = W0
  have base := Lib.hid (show W0.cell? ⟨w.heap.size, 0, none⟩ = some (.bool xb) ∧ W0.cell? ⟨w.heap.size, 1, none⟩ = some (.int .u64 xh) ∧ W0.cell? ⟨w.heap.size, 2, none⟩ = some (.int .u64 xl) ∧ W0.cell? ⟨w.heap.size + 1, 0, none⟩ = some (.bool yb) ∧ W0.cell? ⟨w.heap.size + 1, 1, none⟩ = some (.int .u64 yh) ∧ W0.cell? ⟨w.heap.size + 1, 2, none⟩ = some (.int .u64 yl) from by subst hW; simp [go_sem])
  have kw : Kept w W0 := by subst hW; exact (by (repeat (first | with_reducible exact Kept.refl _ | with_reducible apply Kept.drew | with_reducible apply Kept.alloc | ((with_reducible apply Kept.set); focus (simp <;> omega)) | ((with_reducible apply Kept.via); focus with_reducible assumption))))
  have zw : w.heap.size + 2 ≤ W0.heap.size := by subst hW; simp
  clear hW
  obtain ⟨x0, x1, x2, y0, y1, y2⟩ := Kept.all6 (Kept.refl _) base
  have H_x := Lib.hid (And.intro x0 (And.intro x1 x2))
  have H_y := Lib.hid (And.intro y0 (And.intro y1 y2))
  clear base x0 x1 x2 y0 y1 y2
  obtain ⟨c_x0, c_x1, c_x2⟩ := Kept.all3 (show Kept W0 W0 from (by (repeat (first | with_reducible exact Kept.refl _ | with_reducible apply Kept.drew | with_reducible apply Kept.alloc | ((with_reducible apply Kept.set); focus (simp <;> omega)) | ((with_reducible apply Kept.via); focus with_reducible assumption))))) H_x
  go_wp2_with fail
  refine (D1'.out _).mono ?_
  rintro e w1 ⟨rfl, k1⟩
  clear c_x0 c_x1 c_x2
  go_upto_region 2 with fail
  generalize hW : World.alloc w1 (.cells #[.int .u64 a0, .int .u64 a1, .int .u64 a2, .int .u64 a3] 49) = W_a
  have K_a : Kept w1 W_a := by subst hW; exact (Kept.refl _).alloc _ _
  have H_a := Lib.hid (show W_a.cell? ⟨w1.heap.size, 0, none⟩ = some (.int .u64 a0) ∧ W_a.cell? ⟨w1.heap.size, 1, none⟩ = some (.int .u64 a1) ∧ W_a.cell? ⟨w1.heap.size, 2, none⟩ = some (.int .u64 a2) ∧ W_a.cell? ⟨w1.heap.size, 3, none⟩ = some (.int .u64 a3) from by subst hW; simp [go_sem])
  clear hW
  generalize w1.heap.size = g_a at *
  obtain ⟨c_y0, c_y1, c_y2⟩ := Kept.all3 (show Kept W0 W_a from (by (repeat (first | with_reducible exact Kept.refl _ | with_reducible apply Kept.drew | with_reducible apply Kept.alloc | ((with_reducible apply Kept.set); focus (simp <;> omega)) | ((with_reducible apply Kept.via); focus with_reducible assumption))))) H_y
  go_wp2_with fail
  refine (D2'.out _).mono ?_
  rintro e w2 ⟨rfl, k2⟩
  clear c_y0 c_y1 c_y2
  go_upto_region 3 with fail
  generalize hW : World.alloc w2 (.cells #[.int .u64 b0, .int .u64 b1, .int .u64 b2, .int .u64 b3] 49) = W_b
  have K_b : Kept w2 W_b := by subst hW; exact (Kept.refl _).alloc _ _
  have H_b := Lib.hid (show W_b.cell? ⟨w2.heap.size, 0, none⟩ = some (.int .u64 b0) ∧ W_b.cell? ⟨w2.heap.size, 1, none⟩ = some (.int .u64 b1) ∧ W_b.cell? ⟨w2.heap.size, 2, none⟩ = some (.int .u64 b2) ∧ W_b.cell? ⟨w2.heap.size, 3, none⟩ = some (.int .u64 b3) from by subst hW; simp [go_sem])
  clear hW
  generalize w2.heap.size = g_b at *
  have B1_x := Lib.hid (Kept.all3 (show Kept W0 W_b from (by (repeat (first | with_reducible exact Kept.refl _ | with_reducible apply Kept.drew | with_reducible apply Kept.alloc | ((with_reducible apply Kept.set); focus (simp <;> omega)) | ((with_reducible apply Kept.via); focus with_reducible assumption))))) H_x)
  have B1_y := Lib.hid (Kept.all3 (show Kept W0 W_b from (by (repeat (first | with_reducible exact Kept.refl _ | with_reducible apply Kept.drew | with_reducible apply Kept.alloc | ((with_reducible apply Kept.set); focus (simp <;> omega)) | ((with_reducible apply Kept.via); focus with_reducible assumption))))) H_y)
  obtain ⟨q1_x0, q1_x1, q1_x2⟩ := kw3 B1_x
  obtain ⟨q1_y0, q1_y1, q1_y2⟩ := kw3 B1_y
  clear B1_x B1_y
  refine wp_region_kept (by kernel_rfl) (by as_aux_lemma => kernel_rfl) ?_
  repeat (go_big_quiet_step (first | (with_reducible exact kept_of (B1'.out _)) | (with_reducible exact kept_of (B2'.out _))))
  refine wpQuiet_nil ?_
  intro wq1 hw'
  have kq1 : Kept W_b wq1 := by obtain ⟨p, rfl⟩ := hw'; exact p.k
  clear hw'
  clear q1_x0 q1_x1 q1_x2 q1_y0 q1_y1 q1_y2
  go_upto_region 7 with fail
  have B2_x := Lib.hid (Kept.all3 (show Kept W0 wq1 from (by (repeat (first | with_reducible exact Kept.refl _ | with_reducible apply Kept.drew | with_reducible apply Kept.alloc | ((with_reducible apply Kept.set); focus (simp <;> omega)) | ((with_reducible apply Kept.via); focus with_reducible assumption))))) H_x)
  have B2_a := Lib.hid (Kept.all4 (show Kept W_a wq1 from (by (repeat (first | with_reducible exact Kept.refl _ | with_reducible apply Kept.drew | with_reducible apply Kept.alloc | ((with_reducible apply Kept.set); focus (simp <;> omega)) | ((with_reducible apply Kept.via); focus with_reducible assumption))))) H_a)
  have B2_b := Lib.hid (Kept.all4 (show Kept W_b wq1 from (by (repeat (first | with_reducible exact Kept.refl _ | with_reducible apply Kept.drew | with_reducible apply Kept.alloc | ((with_reducible apply Kept.set); focus (simp <;> omega)) | ((with_reducible apply Kept.via); focus with_reducible assumption))))) H_b)
  obtain ⟨q2_x0, q2_x1, q2_x2⟩ := kw3 B2_x
  obtain ⟨q2_a0, q2_a1, q2_a2, q2_a3⟩ := kw4 B2_a
  obtain ⟨q2_b0, q2_b1, q2_b2, q2_b3⟩ := kw4 B2_b
  clear B2_x B2_a B2_b
  refine wp_region_kept (by kernel_rfl) (by as_aux_lemma => kernel_rfl) ?_
  repeat (go_big_quiet_step (first | (with_reducible exact kept_of (C1'.out _)) | (with_reducible exact kept_of (C2'.out _)) | (with_reducible exact kept_of (B1'.out _))))
  refine wpQuiet_nil ?_
  intro wq2 hw'
  have kq2 : Kept wq1 wq2 := by obtain ⟨p, rfl⟩ := hw'; exact p.k
  clear hw'
  clear q2_x0 q2_x1 q2_x2 q2_a0 q2_a1 q2_a2 q2_a3 q2_b0 q2_b1 q2_b2 q2_b3
  go_upto_region 9 with fail
  have B3_a := Lib.hid (Kept.all4 (show Kept W_a wq2 from (by (repeat (first | with_reducible exact Kept.refl _ | with_reducible apply Kept.drew | with_reducible apply Kept.alloc | ((with_reducible apply Kept.set); focus (simp <;> omega)) | ((with_reducible apply Kept.via); focus with_reducible assumption))))) H_a)
  have B3_b := Lib.hid (Kept.all4 (show Kept W_b wq2 from (by (repeat (first | with_reducible exact Kept.refl _ | with_reducible apply Kept.drew | with_reducible apply Kept.alloc | ((with_reducible apply Kept.set); focus (simp <;> omega)) | ((with_reducible apply Kept.via); focus with_reducible assumption))))) H_b)
  have kall3 : Kept w wq2 := (by (repeat (first | with_reducible exact Kept.refl _ | with_reducible apply Kept.drew | with_reducible apply Kept.alloc | ((with_reducible apply Kept.set); focus (simp <;> omega)) | ((with_reducible apply Kept.via); focus with_reducible assumption))))
  obtain ⟨q3_a0, q3_a1, q3_a2, q3_a3⟩ := kw4 B3_a
  obtain ⟨q3_b0, q3_b1, q3_b2, q3_b3⟩ := kw4 B3_b
  clear B3_a B3_b
  refine wp_region_kept (by kernel_rfl) (by as_aux_lemma => kernel_rfl) ?_
  repeat (go_big_quiet_step (first | (with_reducible exact kept_of (C1'.out _)) | (with_reducible exact kept_of (C2'.out _))))
  refine wpQuiet_nil ?_
  intro wq3 hw'
  have kq3 : Kept wq2 wq3 := by obtain ⟨p, rfl⟩ := hw'; exact p.k
  clear hw'
  go_wp2
  go_ret
  exact ⟨rfl, (by (repeat (first | with_reducible exact Kept.refl _ | with_reducible apply Kept.drew | with_reducible apply Kept.alloc | ((with_reducible apply Kept.set); focus (simp <;> omega)) | ((with_reducible apply Kept.via); focus with_reducible assumption))))⟩
set_option maxHeartbeats 1600000 in
theorem refCmp_f_t (xb yb : Bool) (xh xl yh yl a0 a1 a2 a3 b0 b1 b2 b3 : Int) (w : World) (D1 : ∀ w, Calls Try.prog 33 #[.agg #[.bool xb, .int .u64 xh, .int .u64 xl]] w fun e w' => e = .returned (.agg #[.int .u64 a0, .int .u64 a1, .int .u64 a2, .int .u64 a3]) ∧ Kept w w') (D2 : ∀ w, Calls Try.prog 33 #[.agg #[.bool yb, .int .u64 yh, .int .u64 yl]] w fun e w' => e = .returned (.agg #[.int .u64 b0, .int .u64 b1, .int .u64 b2, .int .u64 b3]) ∧ Kept w w') (B1 : ∀ w, Calls Try.prog 34 #[.agg #[.bool xb, .int .u64 xh, .int .u64 xl]] w fun e w' => e = .returned (.bool false) ∧ Kept w w') (B2 : ∀ w, Calls Try.prog 34 #[.agg #[.bool yb, .int .u64 yh, .int .u64 yl]] w fun e w' => e = .returned (.bool true) ∧ Kept w w') :
    Calls Try.prog 23 #[.agg #[.bool xb, .int .u64 xh, .int .u64 xl], .agg #[.bool yb, .int .u64 yh, .int .u64 yl]] w fun e w' => e = .returned (.int .i64 1) ∧ Kept w w' := by
  have D1' := Lib.hid D1
  have D2' := Lib.hid D2
  have B1' := Lib.hid B1
  have B2' := Lib.hid B2
  clear D1 D2 B1 B2
  go_enter Try.func23, Try.ntmps23
  go_upto_region 1 with fail
  generalize hW : (World.alloc (World.alloc w (.cells #[.bool xb, .int .u64 xh, .int .u64 xl] 31)) (.cells #[.bool yb, .int .u64 yh, .int .u64 yl] 31)) = W0
  have base := Lib.hid (show W0.cell? ⟨w.heap.size, 0, none⟩ = some (.bool xb) ∧ W0.cell? ⟨w.heap.size, 1, none⟩ = some (.int .u64 xh) ∧ W0.cell? ⟨w.heap.size, 2, none⟩ = some (.int .u64 xl) ∧ W0.cell? ⟨w.heap.size + 1, 0, none⟩ = some (.bool yb) ∧ W0.cell? ⟨w.heap.size + 1, 1, none⟩ = some (.int .u64 yh) ∧ W0.cell? ⟨w.heap.size + 1, 2, none⟩ = some (.int .u64 yl) from by subst hW; simp [go_sem])
  have kw : Kept w W0 := by subst hW; exact (by (repeat (first | with_reducible exact Kept.refl _ | with_reducible apply Kept.drew | with_reducible apply Kept.alloc | ((with_reducible apply Kept.set); focus (simp <;> omega)) | ((with_reducible apply Kept.via); focus with_reducible assumption))))
  have zw : w.heap.size + 2 ≤ W0.heap.size := by subst hW; simp
  clear hW
  obtain ⟨x0, x1, x2, y0, y1, y2⟩ := Kept.all6 (Kept.refl _) base
  have H_x := Lib.hid (And.intro x0 (And.intro x1 x2))
  have H_y := Lib.hid (And.intro y0 (And.intro y1 y2))
  clear base x0 x1 x2 y0 y1 y2
  obtain ⟨c_x0, c_x1, c_x2⟩ := Kept.all3 (show Kept W0 W0 from (by (repeat (first | with_reducible exact Kept.refl _ | with_reducible apply Kept.drew | with_reducible apply Kept.alloc | ((with_reducible apply Kept.set); focus (simp <;> omega)) | ((with_reducible apply Kept.via); focus with_reducible assumption))))) H_x
  go_wp2_with fail
  refine (D1'.out _).mono ?_
  rintro e w1 ⟨rfl, k1⟩
  clear c_x0 c_x1 c_x2
  go_upto_region 2 with fail
  generalize hW : World.alloc w1 (.cells #[.int .u64 a0, .int .u64 a1, .int .u64 a2, .int .u64 a3] 49) = W_a
  have K_a : Kept w1 W_a := by subst hW; exact (Kept.refl _).alloc _ _
  have H_a := Lib.hid (show W_a.cell? ⟨w1.heap.size, 0, none⟩ = some (.int .u64 a0) ∧ W_a.cell? ⟨w1.heap.size, 1, none⟩ = some (.int .u64 a1) ∧ W_a.cell? ⟨w1.heap.size, 2, none⟩ = some (.int .u64 a2) ∧ W_a.cell? ⟨w1.heap.size, 3, none⟩ = some (.int .u64 a3) from by subst hW; simp [go_sem])
  clear hW
  generalize w1.heap.size = g_a at *
  obtain ⟨c_y0, c_y1, c_y2⟩ := Kept.all3 (show Kept W0 W_a from (by (repeat (first | with_reducible exact Kept.refl _ | with_reducible apply Kept.drew | with_reducible apply Kept.alloc | ((with_reducible apply Kept.set); focus (simp <;> omega)) | ((with_reducible apply Kept.via); focus with_reducible assumption))))) H_y
  go_wp2_with fail
  refine (D2'.out _).mono ?_
  rintro e w2 ⟨rfl, k2⟩
  clear c_y0 c_y1 c_y2
  go_upto_region 3 with fail
  generalize hW : World.alloc w2 (.cells #[.int .u64 b0, .int .u64 b1, .int .u64 b2, .int .u64 b3] 49) = W_b
  have K_b : Kept w2 W_b := by subst hW; exact (Kept.refl _).alloc _ _
  have H_b := Lib.hid (show W_b.cell? ⟨w2.heap.size, 0, none⟩ = some (.int .u64 b0) ∧ W_b.cell? ⟨w2.heap.size, 1, none⟩ = some (.int .u64 b1) ∧ W_b.cell? ⟨w2.heap.size, 2, none⟩ = some (.int .u64 b2) ∧ W_b.cell? ⟨w2.heap.size, 3, none⟩ = some (.int .u64 b3) from by subst hW; simp [go_sem])
  clear hW
  generalize w2.heap.size = g_b at *
  have B1_x := Lib.hid (Kept.all3 (show Kept W0 W_b from (by (repeat (first | with_reducible exact Kept.refl _ | with_reducible apply Kept.drew | with_reducible apply Kept.alloc | ((with_reducible apply Kept.set); focus (simp <;> omega)) | ((with_reducible apply Kept.via); focus with_reducible assumption))))) H_x)
  have B1_y := Lib.hid (Kept.all3 (show Kept W0 W_b from (by (repeat (first | with_reducible exact Kept.refl _ | with_reducible apply Kept.drew | with_reducible apply Kept.alloc | ((with_reducible apply Kept.set); focus (simp <;> omega)) | ((with_reducible apply Kept.via); focus with_reducible assumption))))) H_y)
  obtain ⟨q1_x0, q1_x1, q1_x2⟩ := kw3 B1_x
  obtain ⟨q1_y0, q1_y1, q1_y2⟩ := kw3 B1_y
  clear B1_x B1_y
  refine wp_region_kept (by kernel_rfl) (by as_aux_lemma => kernel_rfl) ?_
  repeat (go_big_quiet_step (first | (with_reducible exact kept_of (B1'.out _)) | (with_reducible exact kept_of (B2'.out _))))
  refine wpQuiet_nil ?_
  intro wq1 hw'
  have kq1 : Kept W_b wq1 := by obtain ⟨p, rfl⟩ := hw'; exact p.k
  clear hw'
  clear q1_x0 q1_x1 q1_x2 q1_y0 q1_y1 q1_y2
  obtain ⟨c_x0, c_x1, c_x2⟩ := Kept.all3 (show Kept W0 wq1 from (by (repeat (first | with_reducible exact Kept.refl _ | with_reducible apply Kept.drew | with_reducible apply Kept.alloc | ((with_reducible apply Kept.set); focus (simp <;> omega)) | ((with_reducible apply Kept.via); focus with_reducible assumption))))) H_x
  go_wp2_with fail
  refine (B1'.out _).mono ?_
  rintro e w3 ⟨rfl, k3⟩
  clear c_x0 c_x1 c_x2
  go_wp2
  go_ret
  exact ⟨rfl, (by (repeat (first | with_reducible exact Kept.refl _ | with_reducible apply Kept.drew | with_reducible apply Kept.alloc | ((with_reducible apply Kept.set); focus (simp <;> omega)) | ((with_reducible apply Kept.via); focus with_reducible assumption))))⟩
set_option maxHeartbeats 1600000 in
theorem refCmp_ftf (xb yb : Bool) (xh xl yh yl a0 a1 a2 a3 b0 b1 b2 b3 : Int) (w : World) (D1 : ∀ w, Calls Try.prog 33 #[.agg #[.bool xb, .int .u64 xh, .int .u64 xl]] w fun e w' => e = .returned (.agg #[.int .u64 a0, .int .u64 a1, .int .u64 a2, .int .u64 a3]) ∧ Kept w w') (D2 : ∀ w, Calls Try.prog 33 #[.agg #[.bool yb, .int .u64 yh, .int .u64 yl]] w fun e w' => e = .returned (.agg #[.int .u64 b0, .int .u64 b1, .int .u64 b2, .int .u64 b3]) ∧ Kept w w') (B1 : ∀ w, Calls Try.prog 34 #[.agg #[.bool xb, .int .u64 xh, .int .u64 xl]] w fun e w' => e = .returned (.bool false) ∧ Kept w w') (B2 : ∀ w, Calls Try.prog 34 #[.agg #[.bool yb, .int .u64 yh, .int .u64 yl]] w fun e w' => e = .returned (.bool false) ∧ Kept w w') (C1 : ∀ w, Calls Try.prog 35 #[.agg #[.int .u64 a0, .int .u64 a1, .int .u64 a2, .int .u64 a3], .agg #[.int .u64 b0, .int .u64 b1, .int .u64 b2, .int .u64 b3]] w fun e w' => e = .returned (.bool true) ∧ Kept w w') (C2 : ∀ w, Calls Try.prog 35 #[.agg #[.int .u64 b0, .int .u64 b1, .int .u64 b2, .int .u64 b3], .agg #[.int .u64 a0, .int .u64 a1, .int .u64 a2, .int .u64 a3]] w fun e w' => e = .returned (.bool false) ∧ Kept w w') :
    Calls Try.prog 23 #[.agg #[.bool xb, .int .u64 xh, .int .u64 xl], .agg #[.bool yb, .int .u64 yh, .int .u64 yl]] w fun e w' => e = .returned (.int .i64 (-1)) ∧ Kept w w' := by
  have D1' := Lib.hid D1
  have D2' := Lib.hid D2
  have B1' := Lib.hid B1
  have B2' := Lib.hid B2
  have C1' := Lib.hid C1
  have C2' := Lib.hid C2
  clear D1 D2 B1 B2 C1 C2
  go_enter Try.func23, Try.ntmps23
  go_upto_region 1 with fail
  generalize hW : (World.alloc (World.alloc w (.cells #[.bool xb, .int .u64 xh, .int .u64 xl] 31)) (.cells #[.bool yb, .int .u64 yh, .int .u64 yl] 31)) = W0
  have base := Lib.hid (show W0.cell? ⟨w.heap.size, 0, none⟩ = some (.bool xb) ∧ W0.cell? ⟨w.heap.size, 1, none⟩ = some (.int .u64 xh) ∧ W0.cell? ⟨w.heap.size, 2, none⟩ = some (.int .u64 xl) ∧ W0.cell? ⟨w.heap.size + 1, 0, none⟩ = some (.bool yb) ∧ W0.cell? ⟨w.heap.size + 1, 1, none⟩ = some (.int .u64 yh) ∧ W0.cell? ⟨w.heap.size + 1, 2, none⟩ = some (.int .u64 yl) from by subst hW; simp [go_sem])
  have kw : Kept w W0 := by subst hW; exact (by (repeat (first | with_reducible exact Kept.refl _ | with_reducible apply Kept.drew | with_reducible apply Kept.alloc | ((with_reducible apply Kept.set); focus (simp <;> omega)) | ((with_reducible apply Kept.via); focus with_reducible assumption))))
  have zw : w.heap.size + 2 ≤ W0.heap.size := by subst hW; simp
  clear hW
  obtain ⟨x0, x1, x2, y0, y1, y2⟩ := Kept.all6 (Kept.refl _) base
  have H_x := Lib.hid (And.intro x0 (And.intro x1 x2))
  have H_y := Lib.hid (And.intro y0 (And.intro y1 y2))
  clear base x0 x1 x2 y0 y1 y2
  obtain ⟨c_x0, c_x1, c_x2⟩ := Kept.all3 (show Kept W0 W0 from (by (repeat (first | with_reducible exact Kept.refl _ | with_reducible apply Kept.drew | with_reducible apply Kept.alloc | ((with_reducible apply Kept.set); focus (simp <;> omega)) | ((with_reducible apply Kept.via); focus with_reducible assumption))))) H_x
  go_wp2_with fail
  refine (D1'.out _).mono ?_
  rintro e w1 ⟨rfl, k1⟩
  clear c_x0 c_x1 c_x2
  go_upto_region 2 with fail
  generalize hW : World.alloc w1 (.cells #[.int .u64 a0, .int .u64 a1, .int .u64 a2, .int .u64 a3] 49) = W_a
  have K_a : Kept w1 W_a := by subst hW; exact (Kept.refl _).alloc _ _
  have H_a := Lib.hid (show W_a.cell? ⟨w1.heap.size, 0, none⟩ = some (.int .u64 a0) ∧ W_a.cell? ⟨w1.heap.size, 1, none⟩ = some (.int .u64 a1) ∧ W_a.cell? ⟨w1.heap.size, 2, none⟩ = some (.int .u64 a2) ∧ W_a.cell? ⟨w1.heap.size, 3, none⟩ = some (.int .u64 a3) from by subst hW; simp [go_sem])
  clear hW
  generalize w1.heap.size = g_a at *
  obtain ⟨c_y0, c_y1, c_y2⟩ := Kept.all3 (show Kept W0 W_a from (by (repeat (first | with_reducible exact Kept.refl _ | with_reducible apply Kept.drew | with_reducible apply Kept.alloc | ((with_reducible apply Kept.set); focus (simp <;> omega)) | ((with_reducible apply Kept.via); focus with_reducible assumption))))) H_y
  go_wp2_with fail
  refine (D2'.out _).mono ?_
  rintro e w2 ⟨rfl, k2⟩
  clear c_y0 c_y1 c_y2
  go_upto_region 3 with fail
  generalize hW : World.alloc w2 (.cells #[.int .u64 b0, .int .u64 b1, .int .u64 b2, .int .u64 b3] 49) = W_b
  have K_b : Kept w2 W_b := by subst hW; exact (Kept.refl _).alloc _ _
  have H_b := Lib.hid (show W_b.cell? ⟨w2.heap.size, 0, none⟩ = some (.int .u64 b0) ∧ W_b.cell? ⟨w2.heap.size, 1, none⟩ = some (.int .u64 b1) ∧ W_b.cell? ⟨w2.heap.size, 2, none⟩ = some (.int .u64 b2) ∧ W_b.cell? ⟨w2.heap.size, 3, none⟩ = some (.int .u64 b3) from by subst hW; simp [go_sem])
  clear hW
  generalize w2.heap.size = g_b at *
  have B1_x := Lib.hid (Kept.all3 (show Kept W0 W_b from (by (repeat (first | with_reducible exact Kept.refl _ | with_reducible apply Kept.drew | with_reducible apply Kept.alloc | ((with_reducible apply Kept.set); focus (simp <;> omega)) | ((with_reducible apply Kept.via); focus with_reducible assumption))))) H_x)
  have B1_y := Lib.hid (Kept.all3 (show Kept W0 W_b from (by (repeat (first | with_reducible exact Kept.refl _ | with_reducible apply Kept.drew | with_reducible apply Kept.alloc | ((with_reducible apply Kept.set); focus (simp <;> omega)) | ((with_reducible apply Kept.via); focus with_reducible assumption))))) H_y)
  obtain ⟨q1_x0, q1_x1, q1_x2⟩ := kw3 B1_x
  obtain ⟨q1_y0, q1_y1, q1_y2⟩ := kw3 B1_y
  clear B1_x B1_y
  refine wp_region_kept (by kernel_rfl) (by as_aux_lemma => kernel_rfl) ?_
  repeat (go_big_quiet_step (first | (with_reducible exact kept_of (B1'.out _)) | (with_reducible exact kept_of (B2'.out _))))
  refine wpQuiet_nil ?_
  intro wq1 hw'
  have kq1 : Kept W_b wq1 := by obtain ⟨p, rfl⟩ := hw'; exact p.k
  clear hw'
  clear q1_x0 q1_x1 q1_x2 q1_y0 q1_y1 q1_y2
  go_upto_region 7 with fail
  have B2_x := Lib.hid (Kept.all3 (show Kept W0 wq1 from (by (repeat (first | with_reducible exact Kept.refl _ | with_reducible apply Kept.drew | with_reducible apply Kept.alloc | ((with_reducible apply Kept.set); focus (simp <;> omega)) | ((with_reducible apply Kept.via); focus with_reducible assumption))))) H_x)
  have B2_a := Lib.hid (Kept.all4 (show Kept W_a wq1 from (by (repeat (first | with_reducible exact Kept.refl _ | with_reducible apply Kept.drew | with_reducible apply Kept.alloc | ((with_reducible apply Kept.set); focus (simp <;> omega)) | ((with_reducible apply Kept.via); focus with_reducible assumption))))) H_a)
  have B2_b := Lib.hid (Kept.all4 (show Kept W_b wq1 from (by (repeat (first | with_reducible exact Kept.refl _ | with_reducible apply Kept.drew | with_reducible apply Kept.alloc | ((with_reducible apply Kept.set); focus (simp <;> omega)) | ((with_reducible apply Kept.via); focus with_reducible assumption))))) H_b)
  obtain ⟨q2_x0, q2_x1, q2_x2⟩ := kw3 B2_x
  obtain ⟨q2_a0, q2_a1, q2_a2, q2_a3⟩ := kw4 B2_a
  obtain ⟨q2_b0, q2_b1, q2_b2, q2_b3⟩ := kw4 B2_b
  clear B2_x B2_a B2_b
  refine wp_region_kept (by kernel_rfl) (by as_aux_lemma => kernel_rfl) ?_
  repeat (go_big_quiet_step (first | (with_reducible exact kept_of (C1'.out _)) | (with_reducible exact kept_of (C2'.out _)) | (with_reducible exact kept_of (B1'.out _))))
  refine wpQuiet_nil ?_
  intro wq2 hw'
  have kq2 : Kept wq1 wq2 := by obtain ⟨p, rfl⟩ := hw'; exact p.k
  clear hw'
  clear q2_x0 q2_x1 q2_x2 q2_a0 q2_a1 q2_a2 q2_a3 q2_b0 q2_b1 q2_b2 q2_b3
  go_upto_region 9 with fail
  have B3_a := Lib.hid (Kept.all4 (show Kept W_a wq2 from (by (repeat (first | with_reducible exact Kept.refl _ | with_reducible apply Kept.drew | with_reducible apply Kept.alloc | ((with_reducible apply Kept.set); focus (simp <;> omega)) | ((with_reducible apply Kept.via); focus with_reducible assumption))))) H_a)
  have B3_b := Lib.hid (Kept.all4 (show Kept W_b wq2 from (by (repeat (first | with_reducible exact Kept.refl _ | with_reducible apply Kept.drew | with_reducible apply Kept.alloc | ((with_reducible apply Kept.set); focus (simp <;> omega)) | ((with_reducible apply Kept.via); focus with_reducible assumption))))) H_b)
  have kall3 : Kept w wq2 := (by (repeat (first | with_reducible exact Kept.refl _ | with_reducible apply Kept.drew | with_reducible apply Kept.alloc | ((with_reducible apply Kept.set); focus (simp <;> omega)) | ((with_reducible apply Kept.via); focus with_reducible assumption))))
  obtain ⟨q3_a0, q3_a1, q3_a2, q3_a3⟩ := kw4 B3_a
  obtain ⟨q3_b0, q3_b1, q3_b2, q3_b3⟩ := kw4 B3_b
  clear B3_a B3_b
  refine wp_region_kept (by kernel_rfl) (by as_aux_lemma => kernel_rfl) ?_
  repeat (go_big_quiet_step (first | (with_reducible exact kept_of (C1'.out _)) | (with_reducible exact kept_of (C2'.out _))))
  refine wpQuiet_nil ?_
  intro wq3 hw'
  have kq3 : Kept wq2 wq3 := by obtain ⟨p, rfl⟩ := hw'; exact p.k
  clear hw'
  go_wp2
  go_ret
  exact ⟨rfl, (by (repeat (first | with_reducible exact Kept.refl _ | with_reducible apply Kept.drew | with_reducible apply Kept.alloc | ((with_reducible apply Kept.set); focus (simp <;> omega)) | ((with_reducible apply Kept.via); focus with_reducible assumption))))⟩
set_option maxHeartbeats 1600000 in
theorem refCmp_fft (xb yb : Bool) (xh xl yh yl a0 a1 a2 a3 b0 b1 b2 b3 : Int) (w : World) (D1 : ∀ w, Calls Try.prog 33 #[.agg #[.bool xb, .int .u64 xh, .int .u64 xl]] w fun e w' => e = .returned (.agg #[.int .u64 a0, .int .u64 a1, .int .u64 a2, .int .u64 a3]) ∧ Kept w w') (D2 : ∀ w, Calls Try.prog 33 #[.agg #[.bool yb, .int .u64 yh, .int .u64 yl]] w fun e w' => e = .returned (.agg #[.int .u64 b0, .int .u64 b1, .int .u64 b2, .int .u64 b3]) ∧ Kept w w') (B1 : ∀ w, Calls Try.prog 34 #[.agg #[.bool xb, .int .u64 xh, .int .u64 xl]] w fun e w' => e = .returned (.bool false) ∧ Kept w w') (B2 : ∀ w, Calls Try.prog 34 #[.agg #[.bool yb, .int .u64 yh, .int .u64 yl]] w fun e w' => e = .returned (.bool false) ∧ Kept w w') (C1 : ∀ w, Calls Try.prog 35 #[.agg #[.int .u64 a0, .int .u64 a1, .int .u64 a2, .int .u64 a3], .agg #[.int .u64 b0, .int .u64 b1, .int .u64 b2, .int .u64 b3]] w fun e w' => e = .returned (.bool false) ∧ Kept w w') (C2 : ∀ w, Calls Try.prog 35 #[.agg #[.int .u64 b0, .int .u64 b1, .int .u64 b2, .int .u64 b3], .agg #[.int .u64 a0, .int .u64 a1, .int .u64 a2, .int .u64 a3]] w fun e w' => e = .returned (.bool true) ∧ Kept w w') :
    Calls Try.prog 23 #[.agg #[.bool xb, .int .u64 xh, .int .u64 xl], .agg #[.bool yb, .int .u64 yh, .int .u64 yl]] w fun e w' => e = .returned (.int .i64 1) ∧ Kept w w' := by
  have D1' := Lib.hid D1
  have D2' := Lib.hid D2
  have B1' := Lib.hid B1
  have B2' := Lib.hid B2
  have C1' := Lib.hid C1
  have C2' := Lib.hid C2
  clear D1 D2 B1 B2 C1 C2
  go_enter Try.func23, Try.ntmps23
  go_upto_region 1 with fail
  generalize hW : (World.alloc (World.alloc w (.cells #[.bool xb, .int .u64 xh, .int .u64 xl] 31)) (.cells #[.bool yb, .int .u64 yh, .int .u64 yl] 31)) = W0
  have base := Lib.hid (show W0.cell? ⟨w.heap.size, 0, none⟩ = some (.bool xb) ∧ W0.cell? ⟨w.heap.size, 1, none⟩ = some (.int .u64 xh) ∧ W0.cell? ⟨w.heap.size, 2, none⟩ = some (.int .u64 xl) ∧ W0.cell? ⟨w.heap.size + 1, 0, none⟩ = some (.bool yb) ∧ W0.cell? ⟨w.heap.size + 1, 1, none⟩ = some (.int .u64 yh) ∧ W0.cell? ⟨w.heap.size + 1, 2, none⟩ = some (.int .u64 yl) from by subst hW; simp [go_sem])
  have kw : Kept w W0 := by subst hW; exact (by (repeat (first | with_reducible exact Kept.refl _ | with_reducible apply Kept.drew | with_reducible apply Kept.alloc | ((with_reducible apply Kept.set); focus (simp <;> omega)) | ((with_reducible apply Kept.via); focus with_reducible assumption))))
  have zw : w.heap.size + 2 ≤ W0.heap.size := by subst hW; simp
  clear hW
  obtain ⟨x0, x1, x2, y0, y1, y2⟩ := Kept.all6 (Kept.refl _) base
  have H_x := Lib.hid (And.intro x0 (And.intro x1 x2))
  have H_y := Lib.hid (And.intro y0 (And.intro y1 y2))
  clear base x0 x1 x2 y0 y1 y2
  obtain ⟨c_x0, c_x1, c_x2⟩ := Kept.all3 (show Kept W0 W0 from (by (repeat (first | with_reducible exact Kept.refl _ | with_reducible apply Kept.drew | with_reducible apply Kept.alloc | ((with_reducible apply Kept.set); focus (simp <;> omega)) | ((with_reducible apply Kept.via); focus with_reducible assumption))))) H_x
  go_wp2_with fail
  refine (D1'.out _).mono ?_
  rintro e w1 ⟨rfl, k1⟩
  clear c_x0 c_x1 c_x2
  go_upto_region 2 with fail
  generalize hW : World.alloc w1 (.cells #[.int .u64 a0, .int .u64 a1, .int .u64 a2, .int .u64 a3] 49) = W_a
  have K_a : Kept w1 W_a := by subst hW; exact (Kept.refl _).alloc _ _
  have H_a := Lib.hid (show W_a.cell? ⟨w1.heap.size, 0, none⟩ = some (.int .u64 a0) ∧ W_a.cell? ⟨w1.heap.size, 1, none⟩ = some (.int .u64 a1) ∧ W_a.cell? ⟨w1.heap.size, 2, none⟩ = some (.int .u64 a2) ∧ W_a.cell? ⟨w1.heap.size, 3, none⟩ = some (.int .u64 a3) from by subst hW; simp [go_sem])
  clear hW
  generalize w1.heap.size = g_a at *
  obtain ⟨c_y0, c_y1, c_y2⟩ := Kept.all3 (show Kept W0 W_a from (by (repeat (first | with_reducible exact Kept.refl _ | with_reducible apply Kept.drew | with_reducible apply Kept.alloc | ((with_reducible apply Kept.set); focus (simp <;> omega)) | ((with_reducible apply Kept.via); focus with_reducible assumption))))) H_y
  go_wp2_with fail
  refine (D2'.out _).mono ?_
  rintro e w2 ⟨rfl, k2⟩
  clear c_y0 c_y1 c_y2
  go_upto_region 3 with fail
  generalize hW : World.alloc w2 (.cells #[.int .u64 b0, .int .u64 b1, .int .u64 b2, .int .u64 b3] 49) = W_b
  have K_b : Kept w2 W_b := by subst hW; exact (Kept.refl _).alloc _ _
  have H_b := Lib.hid (show W_b.cell? ⟨w2.heap.size, 0, none⟩ = some (.int .u64 b0) ∧ W_b.cell? ⟨w2.heap.size, 1, none⟩ = some (.int .u64 b1) ∧ W_b.cell? ⟨w2.heap.size, 2, none⟩ = some (.int .u64 b2) ∧ W_b.cell? ⟨w2.heap.size, 3, none⟩ = some (.int .u64 b3) from by subst hW; simp [go_sem])
  clear hW
  generalize w2.heap.size = g_b at *
  have B1_x := Lib.hid (Kept.all3 (show Kept W0 W_b from (by (repeat (first | with_reducible exact Kept.refl _ | with_reducible apply Kept.drew | with_reducible apply Kept.alloc | ((with_reducible apply Kept.set); focus (simp <;> omega)) | ((with_reducible apply Kept.via); focus with_reducible assumption))))) H_x)
  have B1_y := Lib.hid (Kept.all3 (show Kept W0 W_b from (by (repeat (first | with_reducible exact Kept.refl _ | with_reducible apply Kept.drew | with_reducible apply Kept.alloc | ((with_reducible apply Kept.set); focus (simp <;> omega)) | ((with_reducible apply Kept.via); focus with_reducible assumption))))) H_y)
  obtain ⟨q1_x0, q1_x1, q1_x2⟩ := kw3 B1_x
  obtain ⟨q1_y0, q1_y1, q1_y2⟩ := kw3 B1_y
  clear B1_x B1_y
  refine wp_region_kept (by kernel_rfl) (by as_aux_lemma => kernel_rfl) ?_
  repeat (go_big_quiet_step (first | (with_reducible exact kept_of (B1'.out _)) | (with_reducible exact kept_of (B2'.out _))))
  refine wpQuiet_nil ?_
  intro wq1 hw'
  have kq1 : Kept W_b wq1 := by obtain ⟨p, rfl⟩ := hw'; exact p.k
  clear hw'
  clear q1_x0 q1_x1 q1_x2 q1_y0 q1_y1 q1_y2
  go_upto_region 7 with fail
  have B2_x := Lib.hid (Kept.all3 (show Kept W0 wq1 from (by (repeat (first | with_reducible exact Kept.refl _ | with_reducible apply Kept.drew | with_reducible apply Kept.alloc | ((with_reducible apply Kept.set); focus (simp <;> omega)) | ((with_reducible apply Kept.via); focus with_reducible assumption))))) H_x)
  have B2_a := Lib.hid (Kept.all4 (show Kept W_a wq1 from (by (repeat (first | with_reducible exact Kept.refl _ | with_reducible apply Kept.drew | with_reducible apply Kept.alloc | ((with_reducible apply Kept.set); focus (simp <;> omega)) | ((with_reducible apply Kept.via); focus with_reducible assumption))))) H_a)
  have B2_b := Lib.hid (Kept.all4 (show Kept W_b wq1 from (by (repeat (first | with_reducible exact Kept.refl _ | with_reducible apply Kept.drew | with_reducible apply Kept.alloc | ((with_reducible apply Kept.set); focus (simp <;> omega)) | ((with_reducible apply Kept.via); focus with_reducible assumption))))) H_b)
  have kall2 : Kept w wq1 := (by (repeat (first | with_reducible exact Kept.refl _ | with_reducible apply Kept.drew | with_reducible apply Kept.alloc | ((with_reducible apply Kept.set); focus (simp <;> omega)) | ((with_reducible apply Kept.via); focus with_reducible assumption))))
  obtain ⟨q2_x0, q2_x1, q2_x2⟩ := kw3 B2_x
  obtain ⟨q2_a0, q2_a1, q2_a2, q2_a3⟩ := kw4 B2_a
  obtain ⟨q2_b0, q2_b1, q2_b2, q2_b3⟩ := kw4 B2_b
  clear B2_x B2_a B2_b
  refine wp_region_kept (by kernel_rfl) (by as_aux_lemma => kernel_rfl) ?_
  repeat (go_big_quiet_step (first | (with_reducible exact kept_of (C1'.out _)) | (with_reducible exact kept_of (C2'.out _)) | (with_reducible exact kept_of (B1'.out _))))
  refine wpQuiet_nil ?_
  intro wq2 hw'
  have kq2 : Kept wq1 wq2 := by obtain ⟨p, rfl⟩ := hw'; exact p.k
  clear hw'
  go_wp2
  go_ret
  exact ⟨rfl, (by (repeat (first | with_reducible exact Kept.refl _ | with_reducible apply Kept.drew | with_reducible apply Kept.alloc | ((with_reducible apply Kept.set); focus (simp <;> omega)) | ((with_reducible apply Kept.via); focus with_reducible assumption))))⟩
set_option maxHeartbeats 1600000 in
theorem refCmp_fff (xb yb : Bool) (xh xl yh yl a0 a1 a2 a3 b0 b1 b2 b3 : Int) (w : World) (D1 : ∀ w, Calls Try.prog 33 #[.agg #[.bool xb, .int .u64 xh, .int .u64 xl]] w fun e w' => e = .returned (.agg #[.int .u64 a0, .int .u64 a1, .int .u64 a2, .int .u64 a3]) ∧ Kept w w') (D2 : ∀ w, Calls Try.prog 33 #[.agg #[.bool yb, .int .u64 yh, .int .u64 yl]] w fun e w' => e = .returned (.agg #[.int .u64 b0, .int .u64 b1, .int .u64 b2, .int .u64 b3]) ∧ Kept w w') (B1 : ∀ w, Calls Try.prog 34 #[.agg #[.bool xb, .int .u64 xh, .int .u64 xl]] w fun e w' => e = .returned (.bool false) ∧ Kept w w') (B2 : ∀ w, Calls Try.prog 34 #[.agg #[.bool yb, .int .u64 yh, .int .u64 yl]] w fun e w' => e = .returned (.bool false) ∧ Kept w w') (C1 : ∀ w, Calls Try.prog 35 #[.agg #[.int .u64 a0, .int .u64 a1, .int .u64 a2, .int .u64 a3], .agg #[.int .u64 b0, .int .u64 b1, .int .u64 b2, .int .u64 b3]] w fun e w' => e = .returned (.bool false) ∧ Kept w w') (C2 : ∀ w, Calls Try.prog 35 #[.agg #[.int .u64 b0, .int .u64 b1, .int .u64 b2, .int .u64 b3], .agg #[.int .u64 a0, .int .u64 a1, .int .u64 a2, .int .u64 a3]] w fun e w' => e = .returned (.bool false) ∧ Kept w w') :
    Calls Try.prog 23 #[.agg #[.bool xb, .int .u64 xh, .int .u64 xl], .agg #[.bool yb, .int .u64 yh, .int .u64 yl]] w fun e w' => e = .returned (.int .i64 0) ∧ Kept w w' := by
  have D1' := Lib.hid D1
  have D2' := Lib.hid D2
  have B1' := Lib.hid B1
  have B2' := Lib.hid B2
  have C1' := Lib.hid C1
  have C2' := Lib.hid C2
  clear D1 D2 B1 B2 C1 C2
  go_enter Try.func23, Try.ntmps23
  go_upto_region 1 with fail
  generalize hW : (World.alloc (World.alloc w (.cells #[.bool xb, .int .u64 xh, .int .u64 xl] 31)) (.cells #[.bool yb, .int .u64 yh, .int .u64 yl] 31)) = W0
  have base := Lib.hid (show W0.cell? ⟨w.heap.size, 0, none⟩ = some (.bool xb) ∧ W0.cell? ⟨w.heap.size, 1, none⟩ = some (.int .u64 xh) ∧ W0.cell? ⟨w.heap.size, 2, none⟩ = some (.int .u64 xl) ∧ W0.cell? ⟨w.heap.size + 1, 0, none⟩ = some (.bool yb) ∧ W0.cell? ⟨w.heap.size + 1, 1, none⟩ = some (.int .u64 yh) ∧ W0.cell? ⟨w.heap.size + 1, 2, none⟩ = some (.int .u64 yl) from by subst hW; simp [go_sem])
  have kw : Kept w W0 := by subst hW; exact (by (repeat (first | with_reducible exact Kept.refl _ | with_reducible apply Kept.drew | with_reducible apply Kept.alloc | ((with_reducible apply Kept.set); focus (simp <;> omega)) | ((with_reducible apply Kept.via); focus with_reducible assumption))))
  have zw : w.heap.size + 2 ≤ W0.heap.size := by subst hW; simp
  clear hW
  obtain ⟨x0, x1, x2, y0, y1, y2⟩ := Kept.all6 (Kept.refl _) base
  have H_x := Lib.hid (And.intro x0 (And.intro x1 x2))
  have H_y := Lib.hid (And.intro y0 (And.intro y1 y2))
  clear base x0 x1 x2 y0 y1 y2
  obtain ⟨c_x0, c_x1, c_x2⟩ := Kept.all3 (show Kept W0 W0 from (by (repeat (first | with_reducible exact Kept.refl _ | with_reducible apply Kept.drew | with_reducible apply Kept.alloc | ((with_reducible apply Kept.set); focus (simp <;> omega)) | ((with_reducible apply Kept.via); focus with_reducible assumption))))) H_x
  go_wp2_with fail
  refine (D1'.out _).mono ?_
  rintro e w1 ⟨rfl, k1⟩
  clear c_x0 c_x1 c_x2
  go_upto_region 2 with fail
  generalize hW : World.alloc w1 (.cells #[.int .u64 a0, .int .u64 a1, .int .u64 a2, .int .u64 a3] 49) = W_a
  have K_a : Kept w1 W_a := by subst hW; exact (Kept.refl _).alloc _ _
  have H_a := Lib.hid (show W_a.cell? ⟨w1.heap.size, 0, none⟩ = some (.int .u64 a0) ∧ W_a.cell? ⟨w1.heap.size, 1, none⟩ = some (.int .u64 a1) ∧ W_a.cell? ⟨w1.heap.size, 2, none⟩ = some (.int .u64 a2) ∧ W_a.cell? ⟨w1.heap.size, 3, none⟩ = some (.int .u64 a3) from by subst hW; simp [go_sem])
  clear hW
  generalize w1.heap.size = g_a at *
  obtain ⟨c_y0, c_y1, c_y2⟩ := Kept.all3 (show Kept W0 W_a from (by (repeat (first | with_reducible exact Kept.refl _ | with_reducible apply Kept.drew | with_reducible apply Kept.alloc | ((with_reducible apply Kept.set); focus (simp <;> omega)) | ((with_reducible apply Kept.via); focus with_reducible assumption))))) H_y
  go_wp2_with fail
  refine (D2'.out _).mono ?_
  rintro e w2 ⟨rfl, k2⟩
  clear c_y0 c_y1 c_y2
  go_upto_region 3 with fail
  generalize hW : World.alloc w2 (.cells #[.int .u64 b0, .int .u64 b1, .int .u64 b2, .int .u64 b3] 49) = W_b
  have K_b : Kept w2 W_b := by subst hW; exact (Kept.refl _).alloc _ _
  have H_b := Lib.hid (show W_b.cell? ⟨w2.heap.size, 0, none⟩ = some (.int .u64 b0) ∧ W_b.cell? ⟨w2.heap.size, 1, none⟩ = some (.int .u64 b1) ∧ W_b.cell? ⟨w2.heap.size, 2, none⟩ = some (.int .u64 b2) ∧ W_b.cell? ⟨w2.heap.size, 3, none⟩ = some (.int .u64 b3) from by subst hW; simp [go_sem])
  clear hW
  generalize w2.heap.size = g_b at *
  have B1_x := Lib.hid (Kept.all3 (show Kept W0 W_b from (by (repeat (first | with_reducible exact Kept.refl _ | with_reducible apply Kept.drew | with_reducible apply Kept.alloc | ((with_reducible apply Kept.set); focus (simp <;> omega)) | ((with_reducible apply Kept.via); focus with_reducible assumption))))) H_x)
  have B1_y := Lib.hid (Kept.all3 (show Kept W0 W_b from (by (repeat (first | with_reducible exact Kept.refl _ | with_reducible apply Kept.drew | with_reducible apply Kept.alloc | ((with_reducible apply Kept.set); focus (simp <;> omega)) | ((with_reducible apply Kept.via); focus with_reducible assumption))))) H_y)
  obtain ⟨q1_x0, q1_x1, q1_x2⟩ := kw3 B1_x
  obtain ⟨q1_y0, q1_y1, q1_y2⟩ := kw3 B1_y
  clear B1_x B1_y
  refine wp_region_kept (by kernel_rfl) (by as_aux_lemma => kernel_rfl) ?_
  repeat (go_big_quiet_step (first | (with_reducible exact kept_of (B1'.out _)) | (with_reducible exact kept_of (B2'.out _))))
  refine wpQuiet_nil ?_
  intro wq1 hw'
  have kq1 : Kept W_b wq1 := by obtain ⟨p, rfl⟩ := hw'; exact p.k
  clear hw'
  clear q1_x0 q1_x1 q1_x2 q1_y0 q1_y1 q1_y2
  go_upto_region 7 with fail
  have B2_x := Lib.hid (Kept.all3 (show Kept W0 wq1 from (by (repeat (first | with_reducible exact Kept.refl _ | with_reducible apply Kept.drew | with_reducible apply Kept.alloc | ((with_reducible apply Kept.set); focus (simp <;> omega)) | ((with_reducible apply Kept.via); focus with_reducible assumption))))) H_x)
  have B2_a := Lib.hid (Kept.all4 (show Kept W_a wq1 from (by (repeat (first | with_reducible exact Kept.refl _ | with_reducible apply Kept.drew | with_reducible apply Kept.alloc | ((with_reducible apply Kept.set); focus (simp <;> omega)) | ((with_reducible apply Kept.via); focus with_reducible assumption))))) H_a)
  have B2_b := Lib.hid (Kept.all4 (show Kept W_b wq1 from (by (repeat (first | with_reducible exact Kept.refl _ | with_reducible apply Kept.drew | with_reducible apply Kept.alloc | ((with_reducible apply Kept.set); focus (simp <;> omega)) | ((with_reducible apply Kept.via); focus with_reducible assumption))))) H_b)
  obtain ⟨q2_x0, q2_x1, q2_x2⟩ := kw3 B2_x
  obtain ⟨q2_a0, q2_a1, q2_a2, q2_a3⟩ := kw4 B2_a
  obtain ⟨q2_b0, q2_b1, q2_b2, q2_b3⟩ := kw4 B2_b
  clear B2_x B2_a B2_b
  refine wp_region_kept (by kernel_rfl) (by as_aux_lemma => kernel_rfl) ?_
  repeat (go_big_quiet_step (first | (with_reducible exact kept_of (C1'.out _)) | (with_reducible exact kept_of (C2'.out _)) | (with_reducible exact kept_of (B1'.out _))))
  refine wpQuiet_nil ?_
  intro wq2 hw'
  have kq2 : Kept wq1 wq2 := by obtain ⟨p, rfl⟩ := hw'; exact p.k
  clear hw'
  clear q2_x0 q2_x1 q2_x2 q2_a0 q2_a1 q2_a2 q2_a3 q2_b0 q2_b1 q2_b2 q2_b3
  go_upto_region 9 with fail
  have B3_a := Lib.hid (Kept.all4 (show Kept W_a wq2 from (by (repeat (first | with_reducible exact Kept.refl _ | with_reducible apply Kept.drew | with_reducible apply Kept.alloc | ((with_reducible apply Kept.set); focus (simp <;> omega)) | ((with_reducible apply Kept.via); focus with_reducible assumption))))) H_a)
  have B3_b := Lib.hid (Kept.all4 (show Kept W_b wq2 from (by (repeat (first | with_reducible exact Kept.refl _ | with_reducible apply Kept.drew | with_reducible apply Kept.alloc | ((with_reducible apply Kept.set); focus (simp <;> omega)) | ((with_reducible apply Kept.via); focus with_reducible assumption))))) H_b)
  have kall3 : Kept w wq2 := (by (repeat (first | with_reducible exact Kept.refl _ | with_reducible apply Kept.drew | with_reducible apply Kept.alloc | ((with_reducible apply Kept.set); focus (simp <;> omega)) | ((with_reducible apply Kept.via); focus with_reducible assumption))))
  obtain ⟨q3_a0, q3_a1, q3_a2, q3_a3⟩ := kw4 B3_a
  obtain ⟨q3_b0, q3_b1, q3_b2, q3_b3⟩ := kw4 B3_b
  clear B3_a B3_b
  refine wp_region_kept (by kernel_rfl) (by as_aux_lemma => kernel_rfl) ?_
  repeat (go_big_quiet_step (first | (with_reducible exact kept_of (C1'.out _)) | (with_reducible exact kept_of (C2'.out _))))
  refine wpQuiet_nil ?_
  intro wq3 hw'
  have kq3 : Kept wq2 wq3 := by obtain ⟨p, rfl⟩ := hw'; exact p.k
  clear hw'
  go_wp2
  go_ret
  exact ⟨rfl, (by (repeat (first | with_reducible exact Kept.refl _ | with_reducible apply Kept.drew | with_reducible apply Kept.alloc | ((with_reducible apply Kept.set); focus (simp <;> omega)) | ((with_reducible apply Kept.via); focus with_reducible assumption))))⟩
theorem refCmp_ok {b1 b2 : Bool} {xh xl yh yl : Int} (h1 : Word xh) (h2 : Word xl) (h3 : Word yh) (h4 : Word yl) (w : World) :
    Calls Try.prog 23 #[.agg #[.bool b1, .int .u64 xh, .int .u64 xl], .agg #[.bool b2, .int .u64 yh, .int .u64 yl]] w fun e w' => e = .returned (.int .i64 (cmpI (numOf b1 xh xl) (numOf b2 yh yl))) ∧ Kept w w' := by
  have n1 := sz_nonneg h1 h2; have n2 := sz_nonneg h3 h4
  have D1 := fun w => digits_any b1 xh xl w h1 h2
  have D2 := fun w => digits_any b2 yh yl w h3 h4
  have B1 := fun w => refBelow b1 xh xl w h1 h2
  have B2 := fun w => refBelow b2 yh yl w h3 h4
  rw [nz_iff h1 h2] at B1
  rw [nz_iff h3 h4] at B2
  have C1 := fun w => refLess_sz h1 h2 h3 h4 w
  have C2 := fun w => refLess_sz h3 h4 h1 h2 w
  have p1 : (b1 && decide (0 < sz xh xl)) = decide (numOf b1 xh xl < 0) := by cases b1 <;> simp [numOf] <;> omega
  have p2 : (b2 && decide (0 < sz yh yl)) = decide (numOf b2 yh yl < 0) := by cases b2 <;> simp [numOf] <;> omega
  have m1 : sz xh xl = if numOf b1 xh xl < 0 then -(numOf b1 xh xl) else numOf b1 xh xl := by
    cases b1
    · rw [numOf_false, if_neg (by omega)]
    · rw [numOf_true]; by_cases z : -sz xh xl < 0
      · rw [if_pos z]; omega
      · rw [if_neg z]; omega
  have m2 : sz yh yl = if numOf b2 yh yl < 0 then -(numOf b2 yh yl) else numOf b2 yh yl := by
    cases b2
    · rw [numOf_false, if_neg (by omega)]
    · rw [numOf_true]; by_cases z : -sz yh yl < 0
      · rw [if_pos z]; omega
      · rw [if_neg z]; omega
  rw [p1] at B1
  rw [p2] at B2
  rw [m1, m2] at C1 C2
  generalize numOf b1 xh xl = x at *
  generalize numOf b2 yh yl = y at *
  unfold cmpI
  by_cases px : x < 0 <;> by_cases py : y < 0 <;> simp only [px, py, decide_true, decide_false, if_true, if_false] at B1 B2 C1 C2
  · rcases Int.lt_trichotomy x y with h | h | h
    · rw [if_neg (by omega), if_pos h]; simp only [show ¬ -x < -y by omega, show -y < -x by omega, decide_true, decide_false] at C1 C2; exact refCmp_tft b1 b2 _ _ _ _ _ _ _ _ _ _ _ _ w D1 D2 B1 B2 C1 C2
    · rw [if_pos h]; simp only [show ¬ -x < -y by omega, show ¬ -y < -x by omega, decide_false] at C1 C2; exact refCmp_tff b1 b2 _ _ _ _ _ _ _ _ _ _ _ _ w D1 D2 B1 B2 C1 C2
    · rw [if_neg (by omega), if_neg (by omega)]; simp only [show -x < -y by omega, show ¬ -y < -x by omega, decide_true, decide_false] at C1 C2; exact refCmp_ttf b1 b2 _ _ _ _ _ _ _ _ _ _ _ _ w D1 D2 B1 B2 C1 C2
  · rw [if_neg (by omega), if_pos (by omega)]; exact refCmp_t_f b1 b2 _ _ _ _ _ _ _ _ _ _ _ _ w D1 D2 B1 B2
  · rw [if_neg (by omega), if_neg (by omega)]; exact refCmp_f_t b1 b2 _ _ _ _ _ _ _ _ _ _ _ _ w D1 D2 B1 B2
  · rcases Int.lt_trichotomy x y with h | h | h
    · rw [if_neg (by omega), if_pos h]; simp only [show x < y by omega, show ¬ y < x by omega, decide_true, decide_false] at C1 C2; exact refCmp_ftf b1 b2 _ _ _ _ _ _ _ _ _ _ _ _ w D1 D2 B1 B2 C1 C2
    · rw [if_pos h]; simp only [show ¬ x < y by omega, show ¬ y < x by omega, decide_false] at C1 C2; exact refCmp_fff b1 b2 _ _ _ _ _ _ _ _ _ _ _ _ w D1 D2 B1 B2 C1 C2
    · rw [if_neg (by omega), if_neg (by omega)]; simp only [show ¬ x < y by omega, show y < x by omega, decide_true, decide_false] at C1 C2; exact refCmp_fft b1 b2 _ _ _ _ _ _ _ _ _ _ _ _ w D1 D2 B1 B2 C1 C2
end Go.Proofs.Ytfkdbelajideiaa
