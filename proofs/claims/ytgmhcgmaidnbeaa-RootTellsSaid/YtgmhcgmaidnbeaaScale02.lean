/-
  Contracts of Mul and Scale of package big.
-/
import Derived.Test.YtgmhcgmaidnbeaaAdd02
import Derived.Deep.RegionHeld3
import Derived.Deep.DeepCutAuto
namespace Go.Proofs.Ytgmhcgmaidnbeaa
open Go.RowKit

set_option maxHeartbeats 800000 in
theorem Scale_ok (s : Bool) (xh xl n h l : Int) (w : World) (C : ∀ w, Calls Try.prog 38 #[.agg #[.int .u64 xh, .int .u64 xl], .int .u64 n] w fun e w' => e = .returned (.tuple #[.agg #[.int .u64 h, .int .u64 l], .bool true]) ∧ Kept w w') :
    Calls Try.prog 21 #[.agg #[.bool s, .int .u64 xh, .int .u64 xl], .int .u64 n] w fun e w' => e = .returned (.tuple #[.agg #[.bool (s && nz h l), .int .u64 h, .int .u64 l], .int .i64 0]) ∧ Kept w w' := by
  have C' := Lib.hid C
  clear C
  go_enter Try.func21, Try.ntmps21
  go_upto_region 1 with fail
  generalize hW : (World.alloc (World.alloc w (.cells #[.bool s, .int .u64 xh, .int .u64 xl] 24)) (.cells #[.bool false, .int .u64 0, .int .u64 0] 24)) = W0
  have base := Lib.hid (show W0.cell? ⟨w.heap.size, 0, none⟩ = some (.bool s) ∧ W0.cell? ⟨w.heap.size, 1, none⟩ = some (.int .u64 xh) ∧ W0.cell? ⟨w.heap.size, 2, none⟩ = some (.int .u64 xl) from by subst hW; simp [go_sem])
  have room : Room3 W0 (w.heap.size + 1) := by subst hW; exact ⟨_, _, _, by first | (simp [go_sem]; done) | (simp [go_sem]; rfl), by first | (simp [go_sem]; done) | (simp [go_sem]; rfl), by first | (simp [go_sem]; done) | (simp [go_sem]; rfl), by simp [go_sem], by simp [go_sem], by simp [go_sem]⟩
  have kw : Kept w W0 := by subst hW; exact (by (repeat (first | with_reducible exact Kept.refl _ | with_reducible apply Kept.drew | with_reducible apply Kept.alloc | ((with_reducible apply Kept.set); focus (simp <;> omega)) | ((with_reducible apply Kept.via); focus with_reducible assumption))))
  have zw : w.heap.size + 2 ≤ W0.heap.size := by subst hW; simp
  clear hW
  obtain ⟨c0, c1, c2⟩ := Kept.all3 (Kept.refl _) base
  go_wp2_with fail
  refine (sizeOf_any _ _ _ _).mono ?_
  rintro e w1 ⟨rfl, k1⟩
  go_wp2_with fail
  refine (C'.out _).mono ?_
  rintro e w2 ⟨rfl, k2⟩
  obtain ⟨q0, q1, q2⟩ := Kept.all3 (k1.trans k2) base
  have z2 : w.heap.size < w2.heap.size := by have := Kept.below (k1.trans k2); omega
  go_wp2_with fail
  refine (unless_ok _ _ _ _).mono ?_
  rintro e w3 ⟨rfl, k3⟩
  obtain ⟨x, y, z, a1, a2, a3, b1, b2, b3⟩ : Room3 w3 (w.heap.size + 1) := (room.kept (k1.trans k2)).kept (by (repeat (first | with_reducible exact Kept.refl _ | with_reducible apply Kept.drew | with_reducible apply Kept.alloc | ((with_reducible apply Kept.set); focus (simp <;> omega)) | ((with_reducible apply Kept.via); focus with_reducible assumption))))
  clear c0 c1 c2 q0 q1 q2
  go_wp2
  simp [bodyPost, results, Try.results21, go_sem, *]
  exact (by (repeat (first | with_reducible exact Kept.refl _ | with_reducible apply Kept.drew | with_reducible apply Kept.alloc | ((with_reducible apply Kept.set); focus (simp <;> omega)) | ((with_reducible apply Kept.via); focus with_reducible assumption))))
set_option maxHeartbeats 800000 in
theorem Scale_no (s : Bool) (xh xl n h l : Int) (w : World) (C : ∀ w, Calls Try.prog 38 #[.agg #[.int .u64 xh, .int .u64 xl], .int .u64 n] w fun e w' => e = .returned (.tuple #[.agg #[.int .u64 h, .int .u64 l], .bool false]) ∧ Kept w w') :
    Calls Try.prog 21 #[.agg #[.bool s, .int .u64 xh, .int .u64 xl], .int .u64 n] w fun e w' => e = .returned (.tuple #[.agg #[.bool false, .int .u64 0, .int .u64 0], .int .i64 10]) ∧ Kept w w' := by
  have C' := Lib.hid C
  clear C
  go_enter Try.func21, Try.ntmps21
  go_upto_region 1 with fail
  generalize hW : (World.alloc (World.alloc w (.cells #[.bool s, .int .u64 xh, .int .u64 xl] 24)) (.cells #[.bool false, .int .u64 0, .int .u64 0] 24)) = W0
  have base := Lib.hid (show W0.cell? ⟨w.heap.size, 0, none⟩ = some (.bool s) ∧ W0.cell? ⟨w.heap.size, 1, none⟩ = some (.int .u64 xh) ∧ W0.cell? ⟨w.heap.size, 2, none⟩ = some (.int .u64 xl) from by subst hW; simp [go_sem])
  have room : Room3 W0 (w.heap.size + 1) := by subst hW; exact ⟨_, _, _, by first | (simp [go_sem]; done) | (simp [go_sem]; rfl), by first | (simp [go_sem]; done) | (simp [go_sem]; rfl), by first | (simp [go_sem]; done) | (simp [go_sem]; rfl), by simp [go_sem], by simp [go_sem], by simp [go_sem]⟩
  have kw : Kept w W0 := by subst hW; exact (by (repeat (first | with_reducible exact Kept.refl _ | with_reducible apply Kept.drew | with_reducible apply Kept.alloc | ((with_reducible apply Kept.set); focus (simp <;> omega)) | ((with_reducible apply Kept.via); focus with_reducible assumption))))
  have zw : w.heap.size + 2 ≤ W0.heap.size := by subst hW; simp
  clear hW
  obtain ⟨c0, c1, c2⟩ := Kept.all3 (Kept.refl _) base
  go_wp2_with fail
  refine (sizeOf_any _ _ _ _).mono ?_
  rintro e w1 ⟨rfl, k1⟩
  go_wp2_with fail
  refine (C'.out _).mono ?_
  rintro e w2 ⟨rfl, k2⟩
  obtain ⟨q0, q1, q2⟩ := Kept.all3 (k1.trans k2) base
  have z2 : w.heap.size < w2.heap.size := by have := Kept.below (k1.trans k2); omega
  go_wp2_with fail
  refine (unless_no _ _ _ _).mono ?_
  rintro e w3 ⟨rfl, k3⟩
  obtain ⟨x, y, z, a1, a2, a3, b1, b2, b3⟩ : Room3 w3 (w.heap.size + 1) := (room.kept (k1.trans k2)).kept (by (repeat (first | with_reducible exact Kept.refl _ | with_reducible apply Kept.drew | with_reducible apply Kept.alloc | ((with_reducible apply Kept.set); focus (simp <;> omega)) | ((with_reducible apply Kept.via); focus with_reducible assumption))))
  clear c0 c1 c2 q0 q1 q2
  go_wp2
  simp [bodyPost, results, Try.results21, go_sem, *]
  exact (by (repeat (first | with_reducible exact Kept.refl _ | with_reducible apply Kept.drew | with_reducible apply Kept.alloc | ((with_reducible apply Kept.set); focus (simp <;> omega)) | ((with_reducible apply Kept.via); focus with_reducible assumption))))
end Go.Proofs.Ytgmhcgmaidnbeaa
