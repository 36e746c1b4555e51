/-
  The walk of BigInts: it answers true, whatever it is given.
-/
import Derived.Test.YtahbijfmhdiafaaAwake02
namespace Go.Proofs.Ytahbijfmhdiafaa
open Go.RowKit Go.BigFrame

theorem word_of_wf {a : Int} (h : (Lit.int .u64 a).wf = true) : Word a := by have := bounds_u64 h; unfold Word; omega

set_option maxHeartbeats 800000 in
theorem ints_in (xb kb nb : Bool) (xh xl kh kl nh nl n : Int) (k : Int) (w : World) (I1 : ∀ w, Calls Try.prog 24 #[.agg #[.bool xb, .int .u64 xh, .int .u64 xl]] w fun e w' => e = .returned (.int .i64 k) ∧ Kept w w') (O1 : ∀ w, Calls Try.prog 16 #[.int .i64 k] w fun e w' => e = .returned (.agg #[.bool kb, .int .u64 kh, .int .u64 kl]) ∧ Kept w w') (C1 : ∀ w, Calls Try.prog 22 #[.agg #[.bool kb, .int .u64 kh, .int .u64 kl], .agg #[.bool xb, .int .u64 xh, .int .u64 xl]] w fun e w' => e = .returned (.int .i64 0) ∧ Kept w w') (C2 : ∀ w, Calls Try.prog 22 #[.agg #[.bool xb, .int .u64 xh, .int .u64 xl], .agg #[.bool kb, .int .u64 kh, .int .u64 kl]] w fun e w' => e = .returned (.int .i64 0) ∧ Kept w w') (O2 : ∀ w, Calls Try.prog 16 #[.int .i64 n] w fun e w' => e = .returned (.agg #[.bool nb, .int .u64 nh, .int .u64 nl]) ∧ Kept w w') (I2 : ∀ w, Calls Try.prog 24 #[.agg #[.bool nb, .int .u64 nh, .int .u64 nl]] w fun e w' => e = .returned (.int .i64 n) ∧ Kept w w') :
    Calls Try.prog 8 #[.agg #[.bool xb, .int .u64 xh, .int .u64 xl], .int .i64 n] w fun e w' => e = .returned (.bool true) ∧ Kept w w' := by
  have I1' := Lib.hid I1
  have O1' := Lib.hid O1
  have C1' := Lib.hid C1
  have C2' := Lib.hid C2
  have O2' := Lib.hid O2
  have I2' := Lib.hid I2
  clear I1 O1 C1 C2 O2 I2
  go_enter Try.func8, Try.ntmps8
  go_upto_region 1 with fail
  generalize hW : (World.alloc w (.cells #[.bool xb, .int .u64 xh, .int .u64 xl] 24)) = W0
  have base := Lib.hid (show W0.cell? ⟨w.heap.size, 0, none⟩ = some (.bool xb) ∧ W0.cell? ⟨w.heap.size, 1, none⟩ = some (.int .u64 xh) ∧ W0.cell? ⟨w.heap.size, 2, none⟩ = some (.int .u64 xl) from by subst hW; simp [go_sem])
  have kw : Kept w W0 := by subst hW; exact (by (repeat (first | with_reducible exact Kept.refl _ | with_reducible apply Kept.drew | with_reducible apply Kept.alloc | ((with_reducible apply Kept.set); focus (simp <;> omega)) | ((with_reducible apply Kept.via); focus with_reducible assumption))))
  have zw : w.heap.size + 1 ≤ W0.heap.size := by subst hW; simp
  clear hW
  go_wp2_with fail
  refine (awake02 _).mono ?_
  rintro e w1 ⟨rfl, k1⟩
  obtain ⟨c_x0, c_x1, c_x2⟩ := Kept.all3 (show Kept W0 w1 from (by (repeat (first | with_reducible exact Kept.refl _ | with_reducible apply Kept.drew | with_reducible apply Kept.alloc | ((with_reducible apply Kept.set); focus (simp <;> omega)) | ((with_reducible apply Kept.via); focus with_reducible assumption))))) base
  go_wp2_with fail
  refine (I1'.out _).mono ?_
  rintro e w2 ⟨rfl, k2⟩
  clear c_x0 c_x1 c_x2
  go_upto_region 3 with fail
  have B_x := Lib.hid (Kept.all3 (show Kept W0 w2 from (by (repeat (first | with_reducible exact Kept.refl _ | with_reducible apply Kept.drew | with_reducible apply Kept.alloc | ((with_reducible apply Kept.set); focus (simp <;> omega)) | ((with_reducible apply Kept.via); focus with_reducible assumption))))) base)
  have kall : Kept w w2 := (by (repeat (first | with_reducible exact Kept.refl _ | with_reducible apply Kept.drew | with_reducible apply Kept.alloc | ((with_reducible apply Kept.set); focus (simp <;> omega)) | ((with_reducible apply Kept.via); focus with_reducible assumption))))
  clear base
  obtain ⟨q_x0, q_x1, q_x2⟩ := kw3 B_x
  clear B_x
  refine wp_region_kept (by kernel_rfl) (by as_aux_lemma => kernel_rfl) ?_
  repeat (go_big_quiet_step (first | (with_reducible exact kept_of (O1'.out _)) | (with_reducible exact kept_of (C1'.out _)) | (with_reducible exact kept_of (C2'.out _))))
  refine wpQuiet_nil ?_
  intro _ hw'
  obtain ⟨⟨wq, kq⟩, hw''⟩ := hw'
  subst hw''
  go_wp2_with fail
  refine (O2'.out _).mono ?_
  rintro e x1 ⟨rfl, j1⟩
  go_wp2_with fail
  refine (I2'.out _).mono ?_
  rintro e x2 ⟨rfl, j2⟩
  go_wp2
  go_ret
  exact ⟨rfl, kall.trans (kq.trans (j1.trans j2))⟩
set_option maxHeartbeats 800000 in
theorem ints_up (xb kb nb : Bool) (xh xl kh kl nh nl n : Int) (w : World) (I1 : ∀ w, Calls Try.prog 24 #[.agg #[.bool xb, .int .u64 xh, .int .u64 xl]] w fun e w' => e = .returned (.int .i64 9223372036854775807) ∧ Kept w w') (O1 : ∀ w, Calls Try.prog 16 #[.int .i64 9223372036854775807] w fun e w' => e = .returned (.agg #[.bool kb, .int .u64 kh, .int .u64 kl]) ∧ Kept w w') (C1 : ∀ w, Calls Try.prog 22 #[.agg #[.bool kb, .int .u64 kh, .int .u64 kl], .agg #[.bool xb, .int .u64 xh, .int .u64 xl]] w fun e w' => e = .returned (.int .i64 (-1)) ∧ Kept w w') (C2 : ∀ w, Calls Try.prog 22 #[.agg #[.bool xb, .int .u64 xh, .int .u64 xl], .agg #[.bool kb, .int .u64 kh, .int .u64 kl]] w fun e w' => e = .returned (.int .i64 1) ∧ Kept w w') (O2 : ∀ w, Calls Try.prog 16 #[.int .i64 n] w fun e w' => e = .returned (.agg #[.bool nb, .int .u64 nh, .int .u64 nl]) ∧ Kept w w') (I2 : ∀ w, Calls Try.prog 24 #[.agg #[.bool nb, .int .u64 nh, .int .u64 nl]] w fun e w' => e = .returned (.int .i64 n) ∧ Kept w w') :
    Calls Try.prog 8 #[.agg #[.bool xb, .int .u64 xh, .int .u64 xl], .int .i64 n] w fun e w' => e = .returned (.bool true) ∧ Kept w w' := by
  have I1' := Lib.hid I1
  have O1' := Lib.hid O1
  have C1' := Lib.hid C1
  have C2' := Lib.hid C2
  have O2' := Lib.hid O2
  have I2' := Lib.hid I2
  clear I1 O1 C1 C2 O2 I2
  go_enter Try.func8, Try.ntmps8
  go_upto_region 1 with fail
  generalize hW : (World.alloc w (.cells #[.bool xb, .int .u64 xh, .int .u64 xl] 24)) = W0
  have base := Lib.hid (show W0.cell? ⟨w.heap.size, 0, none⟩ = some (.bool xb) ∧ W0.cell? ⟨w.heap.size, 1, none⟩ = some (.int .u64 xh) ∧ W0.cell? ⟨w.heap.size, 2, none⟩ = some (.int .u64 xl) from by subst hW; simp [go_sem])
  have kw : Kept w W0 := by subst hW; exact (by (repeat (first | with_reducible exact Kept.refl _ | with_reducible apply Kept.drew | with_reducible apply Kept.alloc | ((with_reducible apply Kept.set); focus (simp <;> omega)) | ((with_reducible apply Kept.via); focus with_reducible assumption))))
  have zw : w.heap.size + 1 ≤ W0.heap.size := by subst hW; simp
  clear hW
  go_wp2_with fail
  refine (awake02 _).mono ?_
  rintro e w1 ⟨rfl, k1⟩
  obtain ⟨c_x0, c_x1, c_x2⟩ := Kept.all3 (show Kept W0 w1 from (by (repeat (first | with_reducible exact Kept.refl _ | with_reducible apply Kept.drew | with_reducible apply Kept.alloc | ((with_reducible apply Kept.set); focus (simp <;> omega)) | ((with_reducible apply Kept.via); focus with_reducible assumption))))) base
  go_wp2_with fail
  refine (I1'.out _).mono ?_
  rintro e w2 ⟨rfl, k2⟩
  clear c_x0 c_x1 c_x2
  go_upto_region 3 with fail
  have B_x := Lib.hid (Kept.all3 (show Kept W0 w2 from (by (repeat (first | with_reducible exact Kept.refl _ | with_reducible apply Kept.drew | with_reducible apply Kept.alloc | ((with_reducible apply Kept.set); focus (simp <;> omega)) | ((with_reducible apply Kept.via); focus with_reducible assumption))))) base)
  have kall : Kept w w2 := (by (repeat (first | with_reducible exact Kept.refl _ | with_reducible apply Kept.drew | with_reducible apply Kept.alloc | ((with_reducible apply Kept.set); focus (simp <;> omega)) | ((with_reducible apply Kept.via); focus with_reducible assumption))))
  clear base
  obtain ⟨q_x0, q_x1, q_x2⟩ := kw3 B_x
  clear B_x
  refine wp_region_kept (by kernel_rfl) (by as_aux_lemma => kernel_rfl) ?_
  repeat (go_big_quiet_step (first | (with_reducible exact kept_of (O1'.out _)) | (with_reducible exact kept_of (C1'.out _)) | (with_reducible exact kept_of (C2'.out _))))
  refine wpQuiet_nil ?_
  intro _ hw'
  obtain ⟨⟨wq, kq⟩, hw''⟩ := hw'
  subst hw''
  go_wp2_with fail
  refine (O2'.out _).mono ?_
  rintro e x1 ⟨rfl, j1⟩
  go_wp2_with fail
  refine (I2'.out _).mono ?_
  rintro e x2 ⟨rfl, j2⟩
  go_wp2
  go_ret
  exact ⟨rfl, kall.trans (kq.trans (j1.trans j2))⟩
set_option maxHeartbeats 800000 in
theorem ints_down (xb kb nb : Bool) (xh xl kh kl nh nl n : Int) (w : World) (I1 : ∀ w, Calls Try.prog 24 #[.agg #[.bool xb, .int .u64 xh, .int .u64 xl]] w fun e w' => e = .returned (.int .i64 (-9223372036854775808)) ∧ Kept w w') (O1 : ∀ w, Calls Try.prog 16 #[.int .i64 (-9223372036854775808)] w fun e w' => e = .returned (.agg #[.bool kb, .int .u64 kh, .int .u64 kl]) ∧ Kept w w') (C1 : ∀ w, Calls Try.prog 22 #[.agg #[.bool kb, .int .u64 kh, .int .u64 kl], .agg #[.bool xb, .int .u64 xh, .int .u64 xl]] w fun e w' => e = .returned (.int .i64 1) ∧ Kept w w') (C2 : ∀ w, Calls Try.prog 22 #[.agg #[.bool xb, .int .u64 xh, .int .u64 xl], .agg #[.bool kb, .int .u64 kh, .int .u64 kl]] w fun e w' => e = .returned (.int .i64 (-1)) ∧ Kept w w') (O2 : ∀ w, Calls Try.prog 16 #[.int .i64 n] w fun e w' => e = .returned (.agg #[.bool nb, .int .u64 nh, .int .u64 nl]) ∧ Kept w w') (I2 : ∀ w, Calls Try.prog 24 #[.agg #[.bool nb, .int .u64 nh, .int .u64 nl]] w fun e w' => e = .returned (.int .i64 n) ∧ Kept w w') :
    Calls Try.prog 8 #[.agg #[.bool xb, .int .u64 xh, .int .u64 xl], .int .i64 n] w fun e w' => e = .returned (.bool true) ∧ Kept w w' := by
  have I1' := Lib.hid I1
  have O1' := Lib.hid O1
  have C1' := Lib.hid C1
  have C2' := Lib.hid C2
  have O2' := Lib.hid O2
  have I2' := Lib.hid I2
  clear I1 O1 C1 C2 O2 I2
  go_enter Try.func8, Try.ntmps8
  go_upto_region 1 with fail
  generalize hW : (World.alloc w (.cells #[.bool xb, .int .u64 xh, .int .u64 xl] 24)) = W0
  have base := Lib.hid (show W0.cell? ⟨w.heap.size, 0, none⟩ = some (.bool xb) ∧ W0.cell? ⟨w.heap.size, 1, none⟩ = some (.int .u64 xh) ∧ W0.cell? ⟨w.heap.size, 2, none⟩ = some (.int .u64 xl) from by subst hW; simp [go_sem])
  have kw : Kept w W0 := by subst hW; exact (by (repeat (first | with_reducible exact Kept.refl _ | with_reducible apply Kept.drew | with_reducible apply Kept.alloc | ((with_reducible apply Kept.set); focus (simp <;> omega)) | ((with_reducible apply Kept.via); focus with_reducible assumption))))
  have zw : w.heap.size + 1 ≤ W0.heap.size := by subst hW; simp
  clear hW
  go_wp2_with fail
  refine (awake02 _).mono ?_
  rintro e w1 ⟨rfl, k1⟩
  obtain ⟨c_x0, c_x1, c_x2⟩ := Kept.all3 (show Kept W0 w1 from (by (repeat (first | with_reducible exact Kept.refl _ | with_reducible apply Kept.drew | with_reducible apply Kept.alloc | ((with_reducible apply Kept.set); focus (simp <;> omega)) | ((with_reducible apply Kept.via); focus with_reducible assumption))))) base
  go_wp2_with fail
  refine (I1'.out _).mono ?_
  rintro e w2 ⟨rfl, k2⟩
  clear c_x0 c_x1 c_x2
  go_upto_region 3 with fail
  have B_x := Lib.hid (Kept.all3 (show Kept W0 w2 from (by (repeat (first | with_reducible exact Kept.refl _ | with_reducible apply Kept.drew | with_reducible apply Kept.alloc | ((with_reducible apply Kept.set); focus (simp <;> omega)) | ((with_reducible apply Kept.via); focus with_reducible assumption))))) base)
  have kall : Kept w w2 := (by (repeat (first | with_reducible exact Kept.refl _ | with_reducible apply Kept.drew | with_reducible apply Kept.alloc | ((with_reducible apply Kept.set); focus (simp <;> omega)) | ((with_reducible apply Kept.via); focus with_reducible assumption))))
  clear base
  obtain ⟨q_x0, q_x1, q_x2⟩ := kw3 B_x
  clear B_x
  refine wp_region_kept (by kernel_rfl) (by as_aux_lemma => kernel_rfl) ?_
  repeat (go_big_quiet_step (first | (with_reducible exact kept_of (O1'.out _)) | (with_reducible exact kept_of (C1'.out _)) | (with_reducible exact kept_of (C2'.out _))))
  refine wpQuiet_nil ?_
  intro _ hw'
  obtain ⟨⟨wq, kq⟩, hw''⟩ := hw'
  subst hw''
  go_wp2_with fail
  refine (O2'.out _).mono ?_
  rintro e x1 ⟨rfl, j1⟩
  go_wp2_with fail
  refine (I2'.out _).mono ?_
  rintro e x2 ⟨rfl, j2⟩
  go_wp2
  go_ret
  exact ⟨rfl, kall.trans (kq.trans (j1.trans j2))⟩

theorem bigInts_walk (xb : Bool) (xh xl n : Int) (w : World) (h1 : Word xh) (h2 : Word xl) (hn : In64 n) :
    Calls Try.prog 8 #[.agg #[.bool xb, .int .u64 xh, .int .u64 xl], .int .i64 n] w fun e w' => e = .returned (.bool true) ∧ Kept w w' := by
  have I1 := fun w => Int_ok (b := xb) h1 h2 w
  have hk := heldAt_in (numOf xb xh xl)
  obtain ⟨rn, O2⟩ := Of_ok n hn
  obtain ⟨n1, n2, n3, _⟩ := id rn
  have I2 := fun w => Int_ok (b := decide (n < 0)) n1 n2 w
  rw [n3, heldAt_of hn] at I2
  obtain ⟨rk, O1⟩ := Of_ok _ hk
  obtain ⟨k1, k2, k3, _⟩ := id rk
  have C1 := fun w => Cmp_ok (b1 := decide (heldAt (numOf xb xh xl) < 0)) (b2 := xb) k1 k2 h1 h2 w
  have C2 := fun w => Cmp_ok (b1 := xb) (b2 := decide (heldAt (numOf xb xh xl) < 0)) h1 h2 k1 k2 w
  rw [k3] at C1 C2
  by_cases a : 9223372036854775807 < numOf xb xh xl
  · rw [show cmpI (heldAt (numOf xb xh xl)) (numOf xb xh xl) = -1 by rw [heldAt_up a]; unfold cmpI; rw [if_neg (by omega), if_pos a]] at C1
    rw [show cmpI (numOf xb xh xl) (heldAt (numOf xb xh xl)) = 1 by rw [heldAt_up a]; unfold cmpI; rw [if_neg (by omega), if_neg (by omega)]] at C2
    rw [heldAt_up a] at I1 O1 C1 C2
    exact ints_up _ _ _ _ _ _ _ _ _ _ w I1 O1 C1 C2 O2 I2
  · by_cases c : numOf xb xh xl < -9223372036854775808
    · rw [show cmpI (heldAt (numOf xb xh xl)) (numOf xb xh xl) = 1 by rw [heldAt_down c]; unfold cmpI; rw [if_neg (by omega), if_neg (by omega)]] at C1
      rw [show cmpI (numOf xb xh xl) (heldAt (numOf xb xh xl)) = -1 by rw [heldAt_down c]; unfold cmpI; rw [if_neg (by omega), if_pos c]] at C2
      rw [heldAt_down c] at I1 O1 C1 C2
      exact ints_down _ _ _ _ _ _ _ _ _ _ w I1 O1 C1 C2 O2 I2
    · rw [show cmpI (heldAt (numOf xb xh xl)) (numOf xb xh xl) = 0 by rw [heldAt_of (by unfold In64; omega)]; simp [cmpI]] at C1
      rw [show cmpI (numOf xb xh xl) (heldAt (numOf xb xh xl)) = 0 by rw [heldAt_of (by unfold In64; omega)]; simp [cmpI]] at C2
      exact ints_in _ _ _ _ _ _ _ _ _ _ _ w I1 O1 C1 C2 O2 I2
end Go.Proofs.Ytahbijfmhdiafaa
