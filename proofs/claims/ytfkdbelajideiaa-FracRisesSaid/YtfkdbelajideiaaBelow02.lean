/-
  Contracts of below and Cmp of package big.
-/
import Derived.Test.YtfkdbelajideiaaRooms
import Derived.Deep.RegionHeld3
import Derived.Deep.DeepCutAuto
namespace Go.Proofs.Ytfkdbelajideiaa
open Go.RowKit

set_option maxHeartbeats 400000 in
theorem below_diff (b1 b2 : Bool) (xh xl yh yl : Int) (w : World) (hb : b2 = !b1) :
    Calls Try.prog 62 #[.agg #[.bool b1, .int .u64 xh, .int .u64 xl], .agg #[.bool b2, .int .u64 yh, .int .u64 yl]] w fun e w' => e = .returned (.bool b1) ∧ Kept w w' := by
  subst hb
  cases b1
  · go_enter Try.func62, Try.ntmps62
    go_wp2
    go_ret
    exact ⟨rfl, (by (repeat (first | with_reducible exact Kept.refl _ | with_reducible apply Kept.drew | with_reducible apply Kept.alloc | ((with_reducible apply Kept.set); focus (simp <;> omega)) | ((with_reducible apply Kept.via); focus with_reducible assumption))))⟩
  · go_enter Try.func62, Try.ntmps62
    go_wp2
    go_ret
    exact ⟨rfl, (by (repeat (first | with_reducible exact Kept.refl _ | with_reducible apply Kept.drew | with_reducible apply Kept.alloc | ((with_reducible apply Kept.set); focus (simp <;> omega)) | ((with_reducible apply Kept.via); focus with_reducible assumption))))⟩
set_option maxHeartbeats 800000 in
theorem below_neg (v : Bool) (xh xl yh yl : Int) (w : World) (C : ∀ w, Calls Try.prog 52 #[.agg #[.int .u64 yh, .int .u64 yl], .agg #[.int .u64 xh, .int .u64 xl]] w fun e w' => e = .returned (.bool v) ∧ Kept w w') :
    Calls Try.prog 62 #[.agg #[.bool true, .int .u64 xh, .int .u64 xl], .agg #[.bool true, .int .u64 yh, .int .u64 yl]] w fun e w' => e = .returned (.bool v) ∧ Kept w w' := by
  have C' := Lib.hid C
  clear C
  go_enter Try.func62, Try.ntmps62
  go_upto_region 5 with fail
  generalize hW : (World.alloc (World.alloc w (.cells #[.bool true, .int .u64 yh, .int .u64 yl] 31)) (.cells #[.bool true, .int .u64 xh, .int .u64 xl] 31)) = W0
  have base := Lib.hid (show W0.cell? ⟨w.heap.size, 0, none⟩ = some (.bool true) ∧ W0.cell? ⟨w.heap.size, 1, none⟩ = some (.int .u64 yh) ∧ W0.cell? ⟨w.heap.size, 2, none⟩ = some (.int .u64 yl) ∧ W0.cell? ⟨w.heap.size + 1, 0, none⟩ = some (.bool true) ∧ W0.cell? ⟨w.heap.size + 1, 1, none⟩ = some (.int .u64 xh) ∧ W0.cell? ⟨w.heap.size + 1, 2, none⟩ = some (.int .u64 xl) from by subst hW; simp [go_sem])
  have kw : Kept w W0 := by subst hW; exact (by (repeat (first | with_reducible exact Kept.refl _ | with_reducible apply Kept.drew | with_reducible apply Kept.alloc | ((with_reducible apply Kept.set); focus (simp <;> omega)) | ((with_reducible apply Kept.via); focus with_reducible assumption))))
  have zw : w.heap.size + 2 ≤ W0.heap.size := by subst hW; simp
  clear hW
  go_region_held3 (fun w' => w'.cell? ⟨w.heap.size, 0, none⟩ = some (.bool true) ∧ w'.cell? ⟨w.heap.size, 1, none⟩ = some (.int .u64 yh) ∧ w'.cell? ⟨w.heap.size, 2, none⟩ = some (.int .u64 yl) ∧ w'.cell? ⟨w.heap.size + 1, 0, none⟩ = some (.bool true) ∧ w'.cell? ⟨w.heap.size + 1, 1, none⟩ = some (.int .u64 xh) ∧ w'.cell? ⟨w.heap.size + 1, 2, none⟩ = some (.int .u64 xl))
    ((first | (refine Kept.all6 ?_ base; focus ((repeat (first | with_reducible exact Kept.refl _ | with_reducible apply Kept.drew | with_reducible apply Kept.alloc | ((with_reducible apply Kept.set); focus (simp <;> omega)) | ((with_reducible apply Kept.via); focus with_reducible assumption))); done)) | (refine far6 (Kept.all6 (by (repeat (first | with_reducible exact Kept.refl _ | with_reducible apply Kept.drew | with_reducible apply Kept.alloc | ((with_reducible apply Kept.set); focus (simp <;> omega)) | ((with_reducible apply Kept.via); focus with_reducible assumption)))) base) ?_; focus ((repeat' apply And.intro) <;> (simp <;> omega)))))
    (first
      | (go_at_call 46; refine (sizeOf_any _ _ _ _).mono ?_; rintro e w1 ⟨rfl, k1⟩)
      | (go_at_call 52; refine (C'.out _).mono ?_; rintro e w2 ⟨rfl, k2⟩))
  go_wp2
  go_ret
  exact ⟨rfl, (by (repeat (first | with_reducible exact Kept.refl _ | with_reducible apply Kept.drew | with_reducible apply Kept.alloc | ((with_reducible apply Kept.set); focus (simp <;> omega)) | ((with_reducible apply Kept.via); focus with_reducible assumption))))⟩
set_option maxHeartbeats 800000 in
theorem below_pos (v : Bool) (xh xl yh yl : Int) (w : World) (C : ∀ w, Calls Try.prog 52 #[.agg #[.int .u64 xh, .int .u64 xl], .agg #[.int .u64 yh, .int .u64 yl]] w fun e w' => e = .returned (.bool v) ∧ Kept w w') :
    Calls Try.prog 62 #[.agg #[.bool false, .int .u64 xh, .int .u64 xl], .agg #[.bool false, .int .u64 yh, .int .u64 yl]] w fun e w' => e = .returned (.bool v) ∧ Kept w w' := by
  have C' := Lib.hid C
  clear C
  go_enter Try.func62, Try.ntmps62
  go_upto_region 5 with fail
  generalize hW : (World.alloc (World.alloc w (.cells #[.bool false, .int .u64 xh, .int .u64 xl] 31)) (.cells #[.bool false, .int .u64 yh, .int .u64 yl] 31)) = W0
  have base := Lib.hid (show W0.cell? ⟨w.heap.size, 0, none⟩ = some (.bool false) ∧ W0.cell? ⟨w.heap.size, 1, none⟩ = some (.int .u64 xh) ∧ W0.cell? ⟨w.heap.size, 2, none⟩ = some (.int .u64 xl) ∧ W0.cell? ⟨w.heap.size + 1, 0, none⟩ = some (.bool false) ∧ W0.cell? ⟨w.heap.size + 1, 1, none⟩ = some (.int .u64 yh) ∧ W0.cell? ⟨w.heap.size + 1, 2, none⟩ = some (.int .u64 yl) from by subst hW; simp [go_sem])
  have kw : Kept w W0 := by subst hW; exact (by (repeat (first | with_reducible exact Kept.refl _ | with_reducible apply Kept.drew | with_reducible apply Kept.alloc | ((with_reducible apply Kept.set); focus (simp <;> omega)) | ((with_reducible apply Kept.via); focus with_reducible assumption))))
  have zw : w.heap.size + 2 ≤ W0.heap.size := by subst hW; simp
  clear hW
  go_region_held3 (fun w' => w'.cell? ⟨w.heap.size, 0, none⟩ = some (.bool false) ∧ w'.cell? ⟨w.heap.size, 1, none⟩ = some (.int .u64 xh) ∧ w'.cell? ⟨w.heap.size, 2, none⟩ = some (.int .u64 xl) ∧ w'.cell? ⟨w.heap.size + 1, 0, none⟩ = some (.bool false) ∧ w'.cell? ⟨w.heap.size + 1, 1, none⟩ = some (.int .u64 yh) ∧ w'.cell? ⟨w.heap.size + 1, 2, none⟩ = some (.int .u64 yl))
    ((first | (refine Kept.all6 ?_ base; focus ((repeat (first | with_reducible exact Kept.refl _ | with_reducible apply Kept.drew | with_reducible apply Kept.alloc | ((with_reducible apply Kept.set); focus (simp <;> omega)) | ((with_reducible apply Kept.via); focus with_reducible assumption))); done)) | (refine far6 (Kept.all6 (by (repeat (first | with_reducible exact Kept.refl _ | with_reducible apply Kept.drew | with_reducible apply Kept.alloc | ((with_reducible apply Kept.set); focus (simp <;> omega)) | ((with_reducible apply Kept.via); focus with_reducible assumption)))) base) ?_; focus ((repeat' apply And.intro) <;> (simp <;> omega)))))
    (first
      | (go_at_call 46; refine (sizeOf_any _ _ _ _).mono ?_; rintro e w1 ⟨rfl, k1⟩)
      | (go_at_call 52; refine (C'.out _).mono ?_; rintro e w2 ⟨rfl, k2⟩))
  go_wp2
  go_ret
  exact ⟨rfl, (by (repeat (first | with_reducible exact Kept.refl _ | with_reducible apply Kept.drew | with_reducible apply Kept.alloc | ((with_reducible apply Kept.set); focus (simp <;> omega)) | ((with_reducible apply Kept.via); focus with_reducible assumption))))⟩
end Go.Proofs.Ytfkdbelajideiaa
