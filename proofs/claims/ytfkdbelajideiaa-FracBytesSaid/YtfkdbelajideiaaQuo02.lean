/-
  Contracts of quotient and Div of package big.
-/
import Derived.Test.YtfkdbelajideiaaDiv64
import Derived.Deep.RegionHeld3
import Derived.Deep.DeepCutAuto
import Derived.Deep.RegionHeld3
import Derived.Deep.RegionWith
namespace Go.Proofs.Ytfkdbelajideiaa
open Go.RowKit

set_option maxHeartbeats 800000 in
theorem quotient_any (xh xl d q r : Int) (w : World) (h1 : Word xh) (h2 : Word xl) (h3 : Word d) (h4 : 0 < d) (e1 : (xh % d * 18446744073709551616 + xl) / d = q) (e2 : (xh % d * 18446744073709551616 + xl) % d = r) :
    Calls Try.prog 45 #[.agg #[.int .u64 xh, .int .u64 xl], .int .u64 d] w fun e w' => e = .returned (.tuple #[.agg #[.int .u64 (xh / d), .int .u64 q], .int .u64 r]) ∧ Kept w w' := by
  have M : ∀ w, Calls Try.prog 58 #[.int .u64 (xh.tmod d), .int .u64 xl, .int .u64 d] w fun e w' => e = .returned (.tuple #[.int .u64 q, .int .u64 r]) ∧ Kept w w' := fun w => by
    rw [← e1, ← e2, Int.tmod_eq_emod_of_nonneg h1.1]
    have a1 := Int.emod_nonneg xh (show d ≠ 0 by omega)
    have a2 := Int.emod_lt_of_pos xh h4
    unfold Word at h3
    exact div64 _ _ _ w a2 ⟨a1, by omega⟩ h2 (by unfold Word; exact h3)
  have M' := Lib.hid M
  have d0 : ¬ d = 0 := by omega
  have d1 : (d == 0) = false := by simp [d0]
  obtain ⟨a1, a2⟩ := h1
  obtain ⟨b1, b2⟩ := h3
  clear M e1 e2 h2
  go_enter Try.func45, Try.ntmps45
  go_upto_region 1 with fail
  generalize hW : (World.alloc (World.alloc w (.cells #[.int .u64 xh, .int .u64 xl] 62)) (.cells #[.int .u64 0, .int .u64 0] 62)) = W0
  have c0 : W0.cell? ⟨w.heap.size, 0, none⟩ = some (.int .u64 xh) := by subst hW; simp [go_sem]
  have c1 : W0.cell? ⟨w.heap.size, 1, none⟩ = some (.int .u64 xl) := by subst hW; simp [go_sem]
  have room : Room2 W0 (w.heap.size + 1) := by subst hW; exact ⟨_, _, by first | (simp [go_sem]; done) | (simp [go_sem]; rfl), by first | (simp [go_sem]; done) | (simp [go_sem]; rfl), by simp [go_sem], by simp [go_sem]⟩
  have kw : Kept w W0 := by subst hW; exact (by (repeat (first | with_reducible exact Kept.refl _ | with_reducible apply Kept.drew | with_reducible apply Kept.alloc | ((with_reducible apply Kept.set); focus (simp <;> omega)) | ((with_reducible apply Kept.via); focus with_reducible assumption))))
  clear hW
  go_region_with (first | (go_at_call 58; refine (M'.out _).mono ?_; rintro e w1 ⟨rfl, k1⟩))
  all_goals
    have k : Kept W0 w1 := (by (repeat (first | with_reducible exact Kept.refl _ | with_reducible apply Kept.drew | with_reducible apply Kept.alloc | ((with_reducible apply Kept.set); focus (simp <;> omega)) | ((with_reducible apply Kept.via); focus with_reducible assumption))))
    have q0 := k.read c0
    have q1 := k.read c1
    obtain ⟨x, y, n1, n2, m1, m2⟩ := room.kept k
    go_wp2
    simp [bodyPost, results, Try.results45, go_sem, *]
    exact (by (repeat (first | with_reducible exact Kept.refl _ | with_reducible apply Kept.drew | with_reducible apply Kept.alloc | ((with_reducible apply Kept.set); focus (simp <;> omega)) | ((with_reducible apply Kept.via); focus with_reducible assumption))))

set_option maxHeartbeats 400000 in
theorem Div_zero (b : Bool) (xh xl : Int) (w : World) :
    Calls Try.prog 36 #[.agg #[.bool b, .int .u64 xh, .int .u64 xl], .int .u64 0] w fun e w' => e = .returned (.tuple #[.agg #[.bool false, .int .u64 0, .int .u64 0], .int .u64 0, .int .i64 20]) ∧ Kept w w' := by
  go_enter Try.func36, Try.ntmps36
  go_wp2
  simp [bodyPost, results, Try.results36, go_sem]
  exact (by (repeat (first | with_reducible exact Kept.refl _ | with_reducible apply Kept.drew | with_reducible apply Kept.alloc | ((with_reducible apply Kept.set); focus (simp <;> omega)) | ((with_reducible apply Kept.via); focus with_reducible assumption))))

set_option maxHeartbeats 800000 in
theorem Div_even (b : Bool) (xh xl d qh ql r : Int) (w : World) (hd0 : ¬ d = 0) (C : ∀ w, Calls Try.prog 45 #[.agg #[.int .u64 xh, .int .u64 xl], .int .u64 d] w fun e w' => e = .returned (.tuple #[.agg #[.int .u64 qh, .int .u64 ql], .int .u64 r]) ∧ Kept w w') (hr : (b && (r != 0)) = false) :
    Calls Try.prog 36 #[.agg #[.bool b, .int .u64 xh, .int .u64 xl], .int .u64 d] w fun e w' => e = .returned (.tuple #[.agg #[.bool (b && nz qh ql), .int .u64 qh, .int .u64 ql], .int .u64 r, .int .i64 0]) ∧ Kept w w' := by
  have hd1 : (d == 0) = false := by simp [hd0]
  have C' := Lib.hid C
  clear C
  go_enter Try.func36, Try.ntmps36
  go_upto_region 3 with fail
  generalize hW : (World.alloc (World.alloc w (.cells #[.bool b, .int .u64 xh, .int .u64 xl] 31)) (.cells #[.bool false, .int .u64 0, .int .u64 0] 31)) = W0
  have base := Lib.hid (show W0.cell? ⟨w.heap.size, 0, none⟩ = some (.bool b) ∧ W0.cell? ⟨w.heap.size, 1, none⟩ = some (.int .u64 xh) ∧ W0.cell? ⟨w.heap.size, 2, none⟩ = some (.int .u64 xl) from by subst hW; simp [go_sem])
  have room : Room3 W0 (w.heap.size + 1) := by subst hW; exact ⟨_, _, _, by first | (simp [go_sem]; done) | (simp [go_sem]; rfl), by first | (simp [go_sem]; done) | (simp [go_sem]; rfl), by first | (simp [go_sem]; done) | (simp [go_sem]; rfl), by simp [go_sem], by simp [go_sem], by simp [go_sem]⟩
  have kw : Kept w W0 := by subst hW; exact (by (repeat (first | with_reducible exact Kept.refl _ | with_reducible apply Kept.drew | with_reducible apply Kept.alloc | ((with_reducible apply Kept.set); focus (simp <;> omega)) | ((with_reducible apply Kept.via); focus with_reducible assumption))))
  have zw : w.heap.size + 2 ≤ W0.heap.size := by subst hW; simp
  clear hW
  obtain ⟨c0, c1, c2⟩ := Kept.all3 (Kept.refl _) base
  go_wp2_with fail
  refine (sizeOf_any _ _ _ _).mono ?_
  rintro e w1 ⟨rfl, k1⟩
  go_wp2_with fail
  refine (C'.out _).mono ?_
  rintro e w2 ⟨rfl, k2⟩
  have k := k1.trans k2
  obtain ⟨q0, q1, q2⟩ := Kept.all3 k base
  have z2 : w.heap.size < w2.heap.size := by have := Kept.below k; omega
  clear c0 c1 c2 base
  cases b
  · go_wp2_with fail
    refine (on_any _ _ _ _).mono ?_
    rintro e w4 ⟨rfl, k4⟩
    obtain ⟨x, y, z, a1, a2, a3, b1, b2, b3⟩ : Room3 w4 (w.heap.size + 1) := room.kept (show Kept W0 w4 from (by (repeat (first | with_reducible exact Kept.refl _ | with_reducible apply Kept.drew | with_reducible apply Kept.alloc | ((with_reducible apply Kept.set); focus (simp <;> omega)) | ((with_reducible apply Kept.via); focus with_reducible assumption)))))
    go_wp2
    simp [bodyPost, results, Try.results36, go_sem, *]
    exact (by (repeat (first | with_reducible exact Kept.refl _ | with_reducible apply Kept.drew | with_reducible apply Kept.alloc | ((with_reducible apply Kept.set); focus (simp <;> omega)) | ((with_reducible apply Kept.via); focus with_reducible assumption))))
  · have hr2 : (r != 0) = false := by simpa using hr
    clear hr
    go_wp2_with fail
    refine (on_any _ _ _ _).mono ?_
    rintro e w4 ⟨rfl, k4⟩
    obtain ⟨x, y, z, a1, a2, a3, b1, b2, b3⟩ : Room3 w4 (w.heap.size + 1) := room.kept (show Kept W0 w4 from (by (repeat (first | with_reducible exact Kept.refl _ | with_reducible apply Kept.drew | with_reducible apply Kept.alloc | ((with_reducible apply Kept.set); focus (simp <;> omega)) | ((with_reducible apply Kept.via); focus with_reducible assumption)))))
    go_wp2
    simp [bodyPost, results, Try.results36, go_sem, *]
    exact (by (repeat (first | with_reducible exact Kept.refl _ | with_reducible apply Kept.drew | with_reducible apply Kept.alloc | ((with_reducible apply Kept.set); focus (simp <;> omega)) | ((with_reducible apply Kept.via); focus with_reducible assumption))))

set_option maxHeartbeats 800000 in
theorem Div_rest (xh xl d qh ql r : Int) (w : World) (hd0 : ¬ d = 0) (C : ∀ w, Calls Try.prog 45 #[.agg #[.int .u64 xh, .int .u64 xl], .int .u64 d] w fun e w' => e = .returned (.tuple #[.agg #[.int .u64 qh, .int .u64 ql], .int .u64 r]) ∧ Kept w w') (f : Bool) (h l : Int) (hd : d < 18446744073709551616) (h0 : 0 ≤ r) (hr1 : r < d) (hr : (r != 0) = true) (S : ∀ w, Calls Try.prog 47 #[.agg #[.int .u64 qh, .int .u64 ql], .agg #[.int .u64 0, .int .u64 1]] w fun e w' => e = .returned (.tuple #[.agg #[.int .u64 h, .int .u64 l], .bool f]) ∧ Kept w w') :
    Calls Try.prog 36 #[.agg #[.bool true, .int .u64 xh, .int .u64 xl], .int .u64 d] w fun e w' => e = .returned (.tuple #[.agg #[.bool (true && nz h l), .int .u64 h, .int .u64 l], .int .u64 (d - r), .int .i64 0]) ∧ Kept w w' := by
  have hd1 : (d == 0) = false := by simp [hd0]
  have C' := Lib.hid C
  clear C
  have S' := Lib.hid S
  clear S
  go_enter Try.func36, Try.ntmps36
  go_upto_region 3 with fail
  generalize hW : (World.alloc (World.alloc w (.cells #[.bool true, .int .u64 xh, .int .u64 xl] 31)) (.cells #[.bool false, .int .u64 0, .int .u64 0] 31)) = W0
  have base := Lib.hid (show W0.cell? ⟨w.heap.size, 0, none⟩ = some (.bool true) ∧ W0.cell? ⟨w.heap.size, 1, none⟩ = some (.int .u64 xh) ∧ W0.cell? ⟨w.heap.size, 2, none⟩ = some (.int .u64 xl) from by subst hW; simp [go_sem])
  have room : Room3 W0 (w.heap.size + 1) := by subst hW; exact ⟨_, _, _, by first | (simp [go_sem]; done) | (simp [go_sem]; rfl), by first | (simp [go_sem]; done) | (simp [go_sem]; rfl), by first | (simp [go_sem]; done) | (simp [go_sem]; rfl), by simp [go_sem], by simp [go_sem], by simp [go_sem]⟩
  have kw : Kept w W0 := by subst hW; exact (by (repeat (first | with_reducible exact Kept.refl _ | with_reducible apply Kept.drew | with_reducible apply Kept.alloc | ((with_reducible apply Kept.set); focus (simp <;> omega)) | ((with_reducible apply Kept.via); focus with_reducible assumption))))
  have zw : w.heap.size + 2 ≤ W0.heap.size := by subst hW; simp
  clear hW
  obtain ⟨c0, c1, c2⟩ := Kept.all3 (Kept.refl _) base
  go_wp2_with fail
  refine (sizeOf_any _ _ _ _).mono ?_
  rintro e w1 ⟨rfl, k1⟩
  go_wp2_with fail
  refine (C'.out _).mono ?_
  rintro e w2 ⟨rfl, k2⟩
  have k := k1.trans k2
  obtain ⟨q0, q1, q2⟩ := Kept.all3 k base
  have z2 : w.heap.size < w2.heap.size := by have := Kept.below k; omega
  clear c0 c1 c2 base
  go_wp2_with fail
  refine (S'.out _).mono ?_
  rintro e w3 ⟨rfl, k3⟩
  obtain ⟨nx, ny, n1, n2, m1, m2⟩ := Room2.new k3
  have k23 : Kept w2 w3 := Kept.via k3 ((Kept.refl _).alloc _ _)
  have p0 := k23.read q0
  have p1 := k23.read q1
  have p2 := k23.read q2
  have z3 : ¬ w.heap.size = w2.heap.size := by omega
  have z4 : ¬ w2.heap.size = w.heap.size := by omega
  have z5 := Kept.below k
  clear q0 q1 q2
  go_wp2_with fail
  refine (on_any _ _ _ _).mono ?_
  rintro e w4 ⟨rfl, k4⟩
  obtain ⟨x, y, z, a1, a2, a3, b1, b2, b3⟩ : Room3 w4 (w.heap.size + 1) := room.kept (show Kept W0 w4 from (by (repeat (first | with_reducible exact Kept.refl _ | with_reducible apply Kept.drew | with_reducible apply Kept.alloc | ((with_reducible apply Kept.set); focus (simp <;> omega)) | ((with_reducible apply Kept.via); focus with_reducible assumption)))))
  go_wp2
  simp [bodyPost, results, Try.results36, go_sem, *]
  exact (by (repeat (first | with_reducible exact Kept.refl _ | with_reducible apply Kept.drew | with_reducible apply Kept.alloc | ((with_reducible apply Kept.set); focus (simp <;> omega)) | ((with_reducible apply Kept.via); focus with_reducible assumption))))
end Go.Proofs.Ytfkdbelajideiaa
