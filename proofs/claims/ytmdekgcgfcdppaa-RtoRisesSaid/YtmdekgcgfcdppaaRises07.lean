/-
  The walk of RtoRises: it answers true, if the calls do what they are to do.
-/
import Derived.Test.YtmdekgcgfcdppaaAwake07
import Derived.Deep.DeepCutAuto
namespace Go.Proofs.Ytmdekgcgfcdppaa
open Go.RowKit Go.BigFrame
set_option linter.unusedVariables false

set_option maxRecDepth 100000 in
set_option maxHeartbeats 3200000 in
theorem rises7_walk {b : Bool} {m f a0 a1 a2 a3 a4 a5 a6 c0 c1 c2 c3 c4 c5 c6 l3 l4 l5 u3 u4 u5 times more v1 v2 v3 v4 n1 n2 : Int} (t0 : 0 ≤ times) (t1 : times ≤ 255) (m0 : 0 ≤ more) (m1 : more ≤ 255) (h1 : v1 ≤ v2) (h2 : v3 ≤ v4) (h3 : n1 ≤ n2) (e3 : (if c3 < a3 then c3 else a3) = l3) (g3 : (if a3 < c3 then c3 else a3) = u3) (e4 : (if c4 < a4 then c4 else a4) = l4) (g4 : (if a4 < c4 then c4 else a4) = u4) (e5 : (if c5 < a5 then c5 else a5) = l5) (g5 : (if a5 < c5 then c5 else a5) = u5) (O1 : ∀ w, Calls Try.prog 14 #[.agg #[.bool b, .int .i64 m, .int .i64 f], .agg #[.int .i64 0, .int .i64 0, .int .i64 0, .int .i64 l3, .int .i64 l4, .int .i64 l5, .int .i64 0], .int .i64 times] w fun e w' => e = .returned (.int .i64 v1) ∧ Kept w w') (O2 : ∀ w, Calls Try.prog 14 #[.agg #[.bool b, .int .i64 m, .int .i64 f], .agg #[.int .i64 0, .int .i64 0, .int .i64 0, .int .i64 u3, .int .i64 u4, .int .i64 u5, .int .i64 0], .int .i64 times] w fun e w' => e = .returned (.int .i64 v2) ∧ Kept w w') (O3 : ∀ w, Calls Try.prog 14 #[.agg #[.bool b, .int .i64 m, .int .i64 f], .agg #[.int .i64 a0, .int .i64 a1, .int .i64 a2, .int .i64 a3, .int .i64 a4, .int .i64 a5, .int .i64 a6], .int .i64 times] w fun e w' => e = .returned (.int .i64 v3) ∧ Kept w w') (O4 : ∀ w, Calls Try.prog 14 #[.agg #[.bool b, .int .i64 m, .int .i64 f], .agg #[.int .i64 a0, .int .i64 a1, .int .i64 a2, .int .i64 a3, .int .i64 a4, .int .i64 a5, .int .i64 a6], .int .i64 (times + more)] w fun e w' => e = .returned (.int .i64 v4) ∧ Kept w w') (B1 : ∀ w, Calls Try.prog 11 #[.agg #[.bool b, .int .i64 m, .int .i64 f], .agg #[.int .i64 0, .int .i64 0, .int .i64 0, .int .i64 l3, .int .i64 l4, .int .i64 l5, .int .i64 0]] w fun e w' => e = .returned (.int .i64 n1) ∧ Kept w w') (B2 : ∀ w, Calls Try.prog 11 #[.agg #[.bool b, .int .i64 m, .int .i64 f], .agg #[.int .i64 0, .int .i64 0, .int .i64 0, .int .i64 u3, .int .i64 u4, .int .i64 u5, .int .i64 0]] w fun e w' => e = .returned (.int .i64 n2) ∧ Kept w w') (AW : ∀ w, Calls Try.prog 9 #[] w fun e w' => e = .returned (.bool true) ∧ Kept w w') (w : World) : Calls Try.prog 8 #[.agg #[.bool b, .int .i64 m, .int .i64 f], .agg #[.int .i64 a0, .int .i64 a1, .int .i64 a2, .int .i64 a3, .int .i64 a4, .int .i64 a5, .int .i64 a6], .agg #[.int .i64 c0, .int .i64 c1, .int .i64 c2, .int .i64 c3, .int .i64 c4, .int .i64 c5, .int .i64 c6], .int .u8 times, .int .u8 more] w fun e w' => e = .returned (.bool true) ∧ Kept w w' := by
  have O1' := Lib.hid O1
  have O2' := Lib.hid O2
  have O3' := Lib.hid O3
  have O4' := Lib.hid O4
  have B1' := Lib.hid B1
  have B2' := Lib.hid B2
  clear O1 O2 O3 O4 B1 B2
  have AW' := Lib.hid AW
  clear AW
  have d1 : decide (v1 ≤ v2) = true := by simp [h1]
  have d2 : decide (v3 ≤ v4) = true := by simp [h2]
  have d3 : decide (n1 ≤ n2) = true := by simp [h3]
  go_enter Try.func8, Try.ntmps8
  go_upto_region 1 with fail
  generalize hW : World.alloc (World.alloc (World.alloc w (.cells #[.bool b, .int .i64 m, .int .i64 f] 23)) (.cells #[.int .i64 a0, .int .i64 a1, .int .i64 a2, .int .i64 a3, .int .i64 a4, .int .i64 a5, .int .i64 a6] 25)) (.cells #[.int .i64 c0, .int .i64 c1, .int .i64 c2, .int .i64 c3, .int .i64 c4, .int .i64 c5, .int .i64 c6] 25) = W_p
  have K_p : Kept w W_p := by subst hW; exact (((Kept.refl _).alloc _ _).alloc _ _).alloc _ _
  have H_r := Lib.hid (show W_p.cell? ⟨w.heap.size, 0, none⟩ = some (.bool b) ∧ W_p.cell? ⟨w.heap.size, 1, none⟩ = some (.int .i64 m) ∧ W_p.cell? ⟨w.heap.size, 2, none⟩ = some (.int .i64 f) from by subst hW; simp [go_sem])
  have H_a := Lib.hid (show W_p.cell? ⟨w.heap.size + 1, 0, none⟩ = some (.int .i64 a0) ∧ W_p.cell? ⟨w.heap.size + 1, 1, none⟩ = some (.int .i64 a1) ∧ W_p.cell? ⟨w.heap.size + 1, 2, none⟩ = some (.int .i64 a2) ∧ W_p.cell? ⟨w.heap.size + 1, 3, none⟩ = some (.int .i64 a3) ∧ W_p.cell? ⟨w.heap.size + 1, 4, none⟩ = some (.int .i64 a4) ∧ W_p.cell? ⟨w.heap.size + 1, 5, none⟩ = some (.int .i64 a5) ∧ W_p.cell? ⟨w.heap.size + 1, 6, none⟩ = some (.int .i64 a6) from by subst hW; simp [go_sem])
  have H_c := Lib.hid (show W_p.cell? ⟨w.heap.size + 1 + 1, 0, none⟩ = some (.int .i64 c0) ∧ W_p.cell? ⟨w.heap.size + 1 + 1, 1, none⟩ = some (.int .i64 c1) ∧ W_p.cell? ⟨w.heap.size + 1 + 1, 2, none⟩ = some (.int .i64 c2) ∧ W_p.cell? ⟨w.heap.size + 1 + 1, 3, none⟩ = some (.int .i64 c3) ∧ W_p.cell? ⟨w.heap.size + 1 + 1, 4, none⟩ = some (.int .i64 c4) ∧ W_p.cell? ⟨w.heap.size + 1 + 1, 5, none⟩ = some (.int .i64 c5) ∧ W_p.cell? ⟨w.heap.size + 1 + 1, 6, none⟩ = some (.int .i64 c6) from by subst hW; simp [go_sem])
  clear hW
  generalize hg : w.heap.size = g_r at *
  go_wp2_with fail
  refine (AW'.out _).mono ?_
  rintro e w1 ⟨rfl, k1⟩
  obtain ⟨c_a0, c_a1, c_a2, c_a3, c_a4, c_a5, c_a6⟩ := Kept.all7 (show Kept W_p w1 from (by (repeat (first | with_reducible exact Kept.refl _ | with_reducible apply Kept.drew | with_reducible apply Kept.alloc | ((with_reducible apply Kept.set); focus (simp <;> omega)) | ((with_reducible apply Kept.via); focus with_reducible assumption))))) H_a
  obtain ⟨c_c0, c_c1, c_c2, c_c3, c_c4, c_c5, c_c6⟩ := Kept.all7 (show Kept W_p w1 from (by (repeat (first | with_reducible exact Kept.refl _ | with_reducible apply Kept.drew | with_reducible apply Kept.alloc | ((with_reducible apply Kept.set); focus (simp <;> omega)) | ((with_reducible apply Kept.via); focus with_reducible assumption))))) H_c
  go_upto_region 3 with fail
  clear c_a0 c_a1 c_a2 c_a3 c_a4 c_a5 c_a6 c_c0 c_c1 c_c2 c_c3 c_c4 c_c5 c_c6
  generalize hW : World.alloc w1 (.cells #[.int .i64 0, .int .i64 0, .int .i64 0, .int .i64 l3, .int .i64 l4, .int .i64 l5, .int .i64 0] 25) = W_l
  have K_l : Kept w1 W_l := by subst hW; exact (Kept.refl _).alloc _ _
  have H_l := Lib.hid (show W_l.cell? ⟨w1.heap.size, 0, none⟩ = some (.int .i64 0) ∧ W_l.cell? ⟨w1.heap.size, 1, none⟩ = some (.int .i64 0) ∧ W_l.cell? ⟨w1.heap.size, 2, none⟩ = some (.int .i64 0) ∧ W_l.cell? ⟨w1.heap.size, 3, none⟩ = some (.int .i64 l3) ∧ W_l.cell? ⟨w1.heap.size, 4, none⟩ = some (.int .i64 l4) ∧ W_l.cell? ⟨w1.heap.size, 5, none⟩ = some (.int .i64 l5) ∧ W_l.cell? ⟨w1.heap.size, 6, none⟩ = some (.int .i64 0) from by subst hW; simp [go_sem])
  clear hW
  generalize w1.heap.size = g_l at *
  obtain ⟨c_a0, c_a1, c_a2, c_a3, c_a4, c_a5, c_a6⟩ := Kept.all7 (show Kept W_p W_l from (by (repeat (first | with_reducible exact Kept.refl _ | with_reducible apply Kept.drew | with_reducible apply Kept.alloc | ((with_reducible apply Kept.set); focus (simp <;> omega)) | ((with_reducible apply Kept.via); focus with_reducible assumption))))) H_a
  obtain ⟨c_c0, c_c1, c_c2, c_c3, c_c4, c_c5, c_c6⟩ := Kept.all7 (show Kept W_p W_l from (by (repeat (first | with_reducible exact Kept.refl _ | with_reducible apply Kept.drew | with_reducible apply Kept.alloc | ((with_reducible apply Kept.set); focus (simp <;> omega)) | ((with_reducible apply Kept.via); focus with_reducible assumption))))) H_c
  go_upto_region 4 with fail
  clear c_a0 c_a1 c_a2 c_a3 c_a4 c_a5 c_a6 c_c0 c_c1 c_c2 c_c3 c_c4 c_c5 c_c6
  generalize hW : World.alloc W_l (.cells #[.int .i64 0, .int .i64 0, .int .i64 0, .int .i64 u3, .int .i64 u4, .int .i64 u5, .int .i64 0] 25) = W_h
  have K_h : Kept W_l W_h := by subst hW; exact (Kept.refl _).alloc _ _
  have H_h := Lib.hid (show W_h.cell? ⟨W_l.heap.size, 0, none⟩ = some (.int .i64 0) ∧ W_h.cell? ⟨W_l.heap.size, 1, none⟩ = some (.int .i64 0) ∧ W_h.cell? ⟨W_l.heap.size, 2, none⟩ = some (.int .i64 0) ∧ W_h.cell? ⟨W_l.heap.size, 3, none⟩ = some (.int .i64 u3) ∧ W_h.cell? ⟨W_l.heap.size, 4, none⟩ = some (.int .i64 u4) ∧ W_h.cell? ⟨W_l.heap.size, 5, none⟩ = some (.int .i64 u5) ∧ W_h.cell? ⟨W_l.heap.size, 6, none⟩ = some (.int .i64 0) from by subst hW; simp [go_sem])
  clear hW
  generalize W_l.heap.size = g_h at *
  go_upto_region 5 with fail
  have B_r := Lib.hid (Kept.all3 (show Kept W_p W_h from (by (repeat (first | with_reducible exact Kept.refl _ | with_reducible apply Kept.drew | with_reducible apply Kept.alloc | ((with_reducible apply Kept.set); focus (simp <;> omega)) | ((with_reducible apply Kept.via); focus with_reducible assumption))))) H_r)
  have B_a := Lib.hid (Kept.all7 (show Kept W_p W_h from (by (repeat (first | with_reducible exact Kept.refl _ | with_reducible apply Kept.drew | with_reducible apply Kept.alloc | ((with_reducible apply Kept.set); focus (simp <;> omega)) | ((with_reducible apply Kept.via); focus with_reducible assumption))))) H_a)
  have B_l := Lib.hid (Kept.all7 (show Kept W_l W_h from (by (repeat (first | with_reducible exact Kept.refl _ | with_reducible apply Kept.drew | with_reducible apply Kept.alloc | ((with_reducible apply Kept.set); focus (simp <;> omega)) | ((with_reducible apply Kept.via); focus with_reducible assumption))))) H_l)
  have B_h := Lib.hid (Kept.all7 (show Kept W_h W_h from (by (repeat (first | with_reducible exact Kept.refl _ | with_reducible apply Kept.drew | with_reducible apply Kept.alloc | ((with_reducible apply Kept.set); focus (simp <;> omega)) | ((with_reducible apply Kept.via); focus with_reducible assumption))))) H_h)
  have kall : Kept w W_h := (by (repeat (first | with_reducible exact Kept.refl _ | with_reducible apply Kept.drew | with_reducible apply Kept.alloc | ((with_reducible apply Kept.set); focus (simp <;> omega)) | ((with_reducible apply Kept.via); focus with_reducible assumption))))
  obtain ⟨q_r0, q_r1, q_r2⟩ := kw3 B_r
  obtain ⟨q_a0, q_a1, q_a2, q_a3, q_a4, q_a5, q_a6⟩ := kw7 B_a
  obtain ⟨q_l0, q_l1, q_l2, q_l3, q_l4, q_l5, q_l6⟩ := kw7 B_l
  obtain ⟨q_h0, q_h1, q_h2, q_h3, q_h4, q_h5, q_h6⟩ := kw7 B_h
  clear B_r B_a B_l B_h
  refine wp_region_kept (by kernel_rfl) (by as_aux_lemma => kernel_rfl) ?_
  repeat (go_big_quiet_step (first | (with_reducible exact kept_of (O1'.out _)) | (with_reducible exact kept_of (O2'.out _)) | (with_reducible exact kept_of (O3'.out _)) | (with_reducible exact kept_of (O4'.out _)) | (with_reducible exact kept_of (B1'.out _)) | (with_reducible exact kept_of (B2'.out _))))
  refine wpQuiet_nil ?_
  intro wq hw'
  have kq : Kept W_h wq := by obtain ⟨p, rfl⟩ := hw'; exact p.k
  clear hw'
  go_wp2
  go_ret
  exact ⟨rfl, kall.trans kq⟩
theorem if_order (x y : Int) : (if y < x then y else x) ≤ (if x < y then y else x) := by
  repeat' split
  all_goals omega
theorem base_mono {b : Bool} {m f g k n1 n2 : Int} (h1 : BaseIs b m f g n1) (h2 : BaseIs b m f k n2) (h : g ≤ k) : n1 ≤ n2 := by
  have r := heldT_mono h
  rcases h1 with ⟨a, rfl⟩ | ⟨a, c, rfl⟩ <;> rcases h2 with ⟨a', rfl⟩ | ⟨a', c', rfl⟩
  · omega
  · exact absurd ⟨a', c'⟩ a
  · exact absurd ⟨a, c⟩ a'
  · omega
theorem rtoRises_walk (BC : BaseC) (OC : OfC) (UC : BackC) (AC : AllC) (b : Bool) (m f a0 a1 a2 a3 a4 a5 a6 c0 c1 c2 c3 c4 c5 c6 times more : Int) (w : World) (tm : 0 ≤ times ∧ times ≤ 255) (mm : 0 ≤ more ∧ more ≤ 255) : Calls Try.prog 8 #[.agg #[.bool b, .int .i64 m, .int .i64 f], .agg #[.int .i64 a0, .int .i64 a1, .int .i64 a2, .int .i64 a3, .int .i64 a4, .int .i64 a5, .int .i64 a6], .agg #[.int .i64 c0, .int .i64 c1, .int .i64 c2, .int .i64 c3, .int .i64 c4, .int .i64 c5, .int .i64 c6], .int .u8 times, .int .u8 more] w fun e w' => e = .returned (.bool true) ∧ Kept w w' := by
  have q := if_order
  have q3 := q a3 c3
  have q4 := q a4 c4
  have q5 := q a5 c5
  generalize e3 : (if c3 < a3 then c3 else a3) = l3 at q3
  generalize e4 : (if c4 < a4 then c4 else a4) = l4 at q4
  generalize e5 : (if c5 < a5 then c5 else a5) = l5 at q5
  generalize g3 : (if a3 < c3 then c3 else a3) = u3 at q3
  generalize g4 : (if a4 < c4 then c4 else a4) = u4 at q4
  generalize g5 : (if a5 < c5 then c5 else a5) = u5 at q5
  obtain ⟨n1, b1⟩ := base_ex b m f l3
  obtain ⟨n2, b2⟩ := base_ex b m f u3
  obtain ⟨n3, b3⟩ := base_ex b m f a3
  have hn := base_mono b1 b2 q3
  have r1 := base_range b1
  have r3 := base_range b3
  have h4 := heldT_mono q4
  have h5 := heldT_mono q5
  have f1 := first_range (n := n1) r1.1 (heldT_range l4).1 (heldT_range l5).1
  have f3 := first_range (n := n3) r3.1 (heldT_range a4).1 (heldT_range a5).1
  have ff : firstOf n1 (heldT l4) (heldT l5) ≤ firstOf n2 (heldT u4) (heldT u5) := by unfold firstOf; omega
  have it : In64 times := by unfold In64; omega
  have im : In64 (times + more) := by unfold In64; omega
  have d2 := dbl_more f3.1 f3.2.1 times.toNat more.toNat
  rw [show times.toNat + more.toNat = (times + more).toNat by omega] at d2
  exact rises7_walk tm.1 tm.2 mm.1 mm.2 (dbl_mono f1.1 ff h5 times.toNat) d2 hn e3 g3 e4 g4 e5 g5 (fun w => OC _ _ _ _ _ _ _ _ _ _ _ _ it ⟨n1, b1, rfl⟩ w) (fun w => OC _ _ _ _ _ _ _ _ _ _ _ _ it ⟨n2, b2, rfl⟩ w) (fun w => OC _ _ _ _ _ _ _ _ _ _ _ _ it ⟨n3, b3, rfl⟩ w) (fun w => OC _ _ _ _ _ _ _ _ _ _ _ _ im ⟨n3, b3, rfl⟩ w) (fun w => BC _ _ _ _ _ _ _ _ _ _ _ b1 w) (fun w => BC _ _ _ _ _ _ _ _ _ _ _ b2 w) (fun w => awake07 BC OC UC AC w) w
end Go.Proofs.Ytmdekgcgfcdppaa
