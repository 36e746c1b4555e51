/-
  Contracts of package frac.
-/
import Derived.Test.YtfkdbelajideiaaTold04
import Derived.Test.YtfkdbelajideiaaQuiet
import Derived.Deep.RegionHeld3
import Derived.Deep.RegionWith
import Derived.Deep.DeepCutAuto
namespace Go.Proofs.Ytfkdbelajideiaa
open Go.RowKit Go.BigFrame

set_option maxHeartbeats 800000 in
theorem fracUnless_any (b rb : Bool) (h l m rh rl c v er : Int) (w : World) (hc : (c = 0 ∧ v = m ∧ er = 0) ∨ ((c != 0) = true ∧ v = 0 ∧ er = 10)) (I1 : ∀ w, Calls Try.prog 54 #[.agg #[.bool b, .int .u64 h, .int .u64 l]] w fun e w' => e = .returned (.int .i64 m) ∧ Kept w w') (O1 : ∀ w, Calls Try.prog 39 #[.int .i64 m] w fun e w' => e = .returned (.agg #[.bool rb, .int .u64 rh, .int .u64 rl]) ∧ Kept w w') (K1 : ∀ w, Calls Try.prog 55 #[.agg #[.bool rb, .int .u64 rh, .int .u64 rl], .agg #[.bool b, .int .u64 h, .int .u64 l]] w fun e w' => e = .returned (.int .i64 c) ∧ Kept w w') :
    Calls Try.prog 40 #[.agg #[.bool b, .int .u64 h, .int .u64 l]] w fun e w' => e = .returned (.tuple #[.int .i64 v, .int .i64 er]) ∧ Kept w w' := by
  have HC := Lib.hid hc
  clear hc
  have I1' := Lib.hid I1
  have O1' := Lib.hid O1
  have K1' := Lib.hid K1
  clear I1 O1 K1
  go_enter Try.func40, Try.ntmps40
  go_upto_region 1 with fail
  generalize hW : (World.alloc w (.cells #[.bool b, .int .u64 h, .int .u64 l] 31)) = W0
  have base := Lib.hid (show W0.cell? ⟨w.heap.size, 0, none⟩ = some (.bool b) ∧ W0.cell? ⟨w.heap.size, 1, none⟩ = some (.int .u64 h) ∧ W0.cell? ⟨w.heap.size, 2, none⟩ = some (.int .u64 l) from by subst hW; simp [go_sem])
  have kw : Kept w W0 := by subst hW; exact (by (repeat (first | with_reducible exact Kept.refl _ | with_reducible apply Kept.drew | with_reducible apply Kept.alloc | ((with_reducible apply Kept.set); focus (simp <;> omega)) | ((with_reducible apply Kept.via); focus with_reducible assumption))))
  have zw : w.heap.size + 1 ≤ W0.heap.size := by subst hW; simp
  clear hW
  have H_x := base
  clear base
  generalize w.heap.size = g_x at *
  obtain ⟨c_x0, c_x1, c_x2⟩ := Kept.all3 (show Kept W0 W0 from (by (repeat (first | with_reducible exact Kept.refl _ | with_reducible apply Kept.drew | with_reducible apply Kept.alloc | ((with_reducible apply Kept.set); focus (simp <;> omega)) | ((with_reducible apply Kept.via); focus with_reducible assumption))))) H_x
  go_wp2_with fail
  refine (I1'.out _).mono ?_
  rintro e w1 ⟨rfl, k1⟩
  clear c_x0 c_x1 c_x2
  go_upto_region 2 with fail
  rcases HC.out with ⟨rfl, rfl, rfl⟩ | ⟨hc, rfl, rfl⟩
  · clear HC
    have B_x := Lib.hid (Kept.all3 (show Kept W0 w1 from (by (repeat (first | with_reducible exact Kept.refl _ | with_reducible apply Kept.drew | with_reducible apply Kept.alloc | ((with_reducible apply Kept.set); focus (simp <;> omega)) | ((with_reducible apply Kept.via); focus with_reducible assumption))))) H_x)
    have kall : Kept w w1 := (by (repeat (first | with_reducible exact Kept.refl _ | with_reducible apply Kept.drew | with_reducible apply Kept.alloc | ((with_reducible apply Kept.set); focus (simp <;> omega)) | ((with_reducible apply Kept.via); focus with_reducible assumption))))
    obtain ⟨q_x0, q_x1, q_x2⟩ := kw3 B_x
    clear B_x
    refine wp_region_kept (by kernel_rfl) (by as_aux_lemma => kernel_rfl) ?_
    repeat (go_big_quiet_step (first | (with_reducible exact kept_of (O1'.out _)) | (with_reducible exact kept_of (K1'.out _))))
    refine wpQuiet_nil ?_
    intro wq hw'
    have kq : Kept w1 wq := by obtain ⟨p, rfl⟩ := hw'; exact p.k
    clear hw'
    go_wp2
    go_ret2
    exact ⟨rfl, kall.trans kq⟩
  · clear HC
    have B_x := Lib.hid (Kept.all3 (show Kept W0 w1 from (by (repeat (first | with_reducible exact Kept.refl _ | with_reducible apply Kept.drew | with_reducible apply Kept.alloc | ((with_reducible apply Kept.set); focus (simp <;> omega)) | ((with_reducible apply Kept.via); focus with_reducible assumption))))) H_x)
    have kall : Kept w w1 := (by (repeat (first | with_reducible exact Kept.refl _ | with_reducible apply Kept.drew | with_reducible apply Kept.alloc | ((with_reducible apply Kept.set); focus (simp <;> omega)) | ((with_reducible apply Kept.via); focus with_reducible assumption))))
    obtain ⟨q_x0, q_x1, q_x2⟩ := kw3 B_x
    clear B_x
    refine wp_region_kept (by kernel_rfl) (by as_aux_lemma => kernel_rfl) ?_
    repeat (go_big_quiet_step (first | (with_reducible exact kept_of (O1'.out _)) | (with_reducible exact kept_of (K1'.out _))))
    refine wpQuiet_nil ?_
    intro wq hw'
    have kq : Kept w1 wq := by obtain ⟨p, rfl⟩ := hw'; exact p.k
    clear hw'
    go_wp2
    go_ret2
    exact ⟨rfl, kall.trans kq⟩
theorem fracUnless_ok {b : Bool} {h l n v er : Int} (r : Rep b h l n) (T : Told n v er) (w : World) : Calls Try.prog 40 #[.agg #[.bool b, .int .u64 h, .int .u64 l]] w fun e w' => e = .returned (.tuple #[.int .i64 v, .int .i64 er]) ∧ Kept w w' := by
  obtain ⟨h1, h2, h3, _⟩ := id r
  have hm := heldAt_in n
  obtain ⟨r', O⟩ := Of_ok (heldAt n) hm
  have I := fun w => Int_ok (b := b) h1 h2 w
  have K := fun w => Cmp_ok (b1 := decide (heldAt n < 0)) (b2 := b) r'.1 r'.2.1 h1 h2 w
  rw [h3] at I K
  rw [r'.2.2.1] at K
  refine fracUnless_any b _ h l (heldAt n) _ _ _ v er w ?_ I O K
  rcases T with ⟨t, rfl, rfl⟩ | ⟨t, rfl, rfl⟩
  · exact Or.inl ⟨by rw [heldAt_of t]; simp [cmpI], (heldAt_of t).symm, rfl⟩
  · refine Or.inr ⟨?_, rfl, rfl⟩
    have : heldAt n ≠ n := fun q => t (q ▸ hm)
    unfold cmpI; rw [if_neg this]; split <;> rfl
theorem floor1_ok (l : Int) (w : World) : Calls Try.prog 24 #[.int .u64 l] w fun e w' => e = .returned (.bool false) ∧ Kept w w' := by
  go_enter Try.func24, Try.ntmps24
  go_wp2
  go_ret
  exact ⟨rfl, Kept.refl _⟩
theorem ceil1_ok (l : Int) (w : World) : Calls Try.prog 27 #[.int .u64 l] w fun e w' => e = .returned (.bool (l != 0)) ∧ Kept w w' := by
  go_enter Try.func27, Try.ntmps27
  go_wp2
  go_ret
  exact ⟨rfl, Kept.refl _⟩
theorem near1_ok (g : Nat) (l c : Int) (w : World) (h : w.cell? ⟨g, 0, none⟩ = some (.int .i64 c)) (l0 : 0 ≤ l) (l1 : l < c) (c1 : c ≤ 9223372036854775807) : Calls Try.prog 28 #[.int .u64 l, .pointer (some ⟨g, 0, none⟩)] w fun e w' => e = .returned (.bool (decide (c - l ≤ l))) ∧ Kept w w' := by
  go_enter Try.func28, Try.ntmps28
  go_wp2
  go_ret
  exact ⟨rfl, Kept.refl _⟩
set_option maxHeartbeats 400000 in
theorem rounded_zero (a b c : Int) (fv : Value) (w : World) (hc : c < 1) : Calls Try.prog 25 #[.agg #[.int .i64 a, .int .i64 b, .int .i64 c, fv]] w fun e w' => e = .returned (.tuple #[.int .i64 0, .int .i64 20]) ∧ Kept w w' := by
  go_enter Try.func25, Try.ntmps25
  go_wp2
  go_ret2
  exact ⟨rfl, (by (repeat (first | with_reducible exact Kept.refl _ | with_reducible apply Kept.drew | with_reducible apply Kept.alloc | ((with_reducible apply Kept.set); focus (simp <;> omega)) | ((with_reducible apply Kept.via); focus with_reducible assumption))))⟩
end Go.Proofs.Ytfkdbelajideiaa
