/-
  Contracts of Int of package big.
-/
import Derived.Test.YtfkdbelajideiaaCmp02
import Derived.Deep.RegionHeld3
import Derived.Deep.DeepCutAuto
namespace Go.Proofs.Ytfkdbelajideiaa
open Go.RowKit

variable (b : Bool) (xh xl r1 r2 : Int) (w : World)
set_option maxHeartbeats 800000 in
theorem Int_high (h1 : 0 ≤ r1) (O1 : ∀ w, Calls Try.prog 39 #[.int .i64 9223372036854775807] w fun e w' => e = .returned (.agg #[.bool false, .int .u64 0, .int .u64 9223372036854775807]) ∧ Kept w w') (X1 : ∀ w, Calls Try.prog 55 #[.agg #[.bool b, .int .u64 xh, .int .u64 xl], .agg #[.bool false, .int .u64 0, .int .u64 9223372036854775807]] w fun e w' => e = .returned (.int .i64 r1) ∧ Kept w w') :
    Calls Try.prog 54 #[.agg #[.bool b, .int .u64 xh, .int .u64 xl]] w fun e w' => e = .returned (.int .i64 9223372036854775807) ∧ Kept w w' := by
  have O1' := Lib.hid O1
  have X1' := Lib.hid X1
  clear O1 X1
  go_enter Try.func54, Try.ntmps54
  go_upto_region 1 with fail
  generalize hW : (World.alloc w (.cells #[.bool b, .int .u64 xh, .int .u64 xl] 31)) = W0
  have base := Lib.hid (show W0.cell? ⟨w.heap.size, 0, none⟩ = some (.bool b) ∧ W0.cell? ⟨w.heap.size, 1, none⟩ = some (.int .u64 xh) ∧ W0.cell? ⟨w.heap.size, 2, none⟩ = some (.int .u64 xl) from by subst hW; simp [go_sem])
  have kw : Kept w W0 := by subst hW; exact (by (repeat (first | with_reducible exact Kept.refl _ | with_reducible apply Kept.drew | with_reducible apply Kept.alloc | ((with_reducible apply Kept.set); focus (simp <;> omega)) | ((with_reducible apply Kept.via); focus with_reducible assumption))))
  have zw : w.heap.size + 1 ≤ W0.heap.size := by subst hW; simp
  clear hW
  go_region_held3 (fun w' => w'.cell? ⟨w.heap.size, 0, none⟩ = some (.bool b) ∧ w'.cell? ⟨w.heap.size, 1, none⟩ = some (.int .u64 xh) ∧ w'.cell? ⟨w.heap.size, 2, none⟩ = some (.int .u64 xl))
    ((first | (refine Kept.all3 ?_ base; focus ((repeat (first | with_reducible exact Kept.refl _ | with_reducible apply Kept.drew | with_reducible apply Kept.alloc | ((with_reducible apply Kept.set); focus (simp <;> omega)) | ((with_reducible apply Kept.via); focus with_reducible assumption))); done)) | (refine far3 (Kept.all3 (by (repeat (first | with_reducible exact Kept.refl _ | with_reducible apply Kept.drew | with_reducible apply Kept.alloc | ((with_reducible apply Kept.set); focus (simp <;> omega)) | ((with_reducible apply Kept.via); focus with_reducible assumption)))) base) ?_; focus ((repeat' apply And.intro) <;> (simp <;> omega)))))
    (first
      | (go_at_call 39; refine (O1'.out _).mono ?_; rintro e w1 ⟨rfl, k1⟩)
      | (go_at_call 55; refine (X1'.out _).mono ?_; rintro e w2 ⟨rfl, k2⟩))
  go_wp2
  go_ret
  exact ⟨rfl, (by (repeat (first | with_reducible exact Kept.refl _ | with_reducible apply Kept.drew | with_reducible apply Kept.alloc | ((with_reducible apply Kept.set); focus (simp <;> omega)) | ((with_reducible apply Kept.via); focus with_reducible assumption))))⟩
set_option maxHeartbeats 800000 in
theorem Int_low (h1 : r1 < 0) (h2 : r2 ≤ 0) (O1 : ∀ w, Calls Try.prog 39 #[.int .i64 9223372036854775807] w fun e w' => e = .returned (.agg #[.bool false, .int .u64 0, .int .u64 9223372036854775807]) ∧ Kept w w') (X1 : ∀ w, Calls Try.prog 55 #[.agg #[.bool b, .int .u64 xh, .int .u64 xl], .agg #[.bool false, .int .u64 0, .int .u64 9223372036854775807]] w fun e w' => e = .returned (.int .i64 r1) ∧ Kept w w') (O2 : ∀ w, Calls Try.prog 39 #[.int .i64 (-9223372036854775808)] w fun e w' => e = .returned (.agg #[.bool true, .int .u64 0, .int .u64 9223372036854775808]) ∧ Kept w w') (X2 : ∀ w, Calls Try.prog 55 #[.agg #[.bool b, .int .u64 xh, .int .u64 xl], .agg #[.bool true, .int .u64 0, .int .u64 9223372036854775808]] w fun e w' => e = .returned (.int .i64 r2) ∧ Kept w w') :
    Calls Try.prog 54 #[.agg #[.bool b, .int .u64 xh, .int .u64 xl]] w fun e w' => e = .returned (.int .i64 (-9223372036854775808)) ∧ Kept w w' := by
  have O1' := Lib.hid O1
  have X1' := Lib.hid X1
  have O2' := Lib.hid O2
  have X2' := Lib.hid X2
  clear O2 X2
  clear O1 X1
  go_enter Try.func54, Try.ntmps54
  go_upto_region 1 with fail
  generalize hW : (World.alloc w (.cells #[.bool b, .int .u64 xh, .int .u64 xl] 31)) = W0
  have base := Lib.hid (show W0.cell? ⟨w.heap.size, 0, none⟩ = some (.bool b) ∧ W0.cell? ⟨w.heap.size, 1, none⟩ = some (.int .u64 xh) ∧ W0.cell? ⟨w.heap.size, 2, none⟩ = some (.int .u64 xl) from by subst hW; simp [go_sem])
  have kw : Kept w W0 := by subst hW; exact (by (repeat (first | with_reducible exact Kept.refl _ | with_reducible apply Kept.drew | with_reducible apply Kept.alloc | ((with_reducible apply Kept.set); focus (simp <;> omega)) | ((with_reducible apply Kept.via); focus with_reducible assumption))))
  have zw : w.heap.size + 1 ≤ W0.heap.size := by subst hW; simp
  clear hW
  go_region_held3 (fun w' => w'.cell? ⟨w.heap.size, 0, none⟩ = some (.bool b) ∧ w'.cell? ⟨w.heap.size, 1, none⟩ = some (.int .u64 xh) ∧ w'.cell? ⟨w.heap.size, 2, none⟩ = some (.int .u64 xl))
    ((first | (refine Kept.all3 ?_ base; focus ((repeat (first | with_reducible exact Kept.refl _ | with_reducible apply Kept.drew | with_reducible apply Kept.alloc | ((with_reducible apply Kept.set); focus (simp <;> omega)) | ((with_reducible apply Kept.via); focus with_reducible assumption))); done)) | (refine far3 (Kept.all3 (by (repeat (first | with_reducible exact Kept.refl _ | with_reducible apply Kept.drew | with_reducible apply Kept.alloc | ((with_reducible apply Kept.set); focus (simp <;> omega)) | ((with_reducible apply Kept.via); focus with_reducible assumption)))) base) ?_; focus ((repeat' apply And.intro) <;> (simp <;> omega)))))
    (first
      | (go_at_call 39; refine (O1'.out _).mono ?_; rintro e w1 ⟨rfl, k1⟩)
      | (go_at_call 55; refine (X1'.out _).mono ?_; rintro e w2 ⟨rfl, k2⟩))
  have k : Kept W0 w2 := (by (repeat (first | with_reducible exact Kept.refl _ | with_reducible apply Kept.drew | with_reducible apply Kept.alloc | ((with_reducible apply Kept.set); focus (simp <;> omega)) | ((with_reducible apply Kept.via); focus with_reducible assumption))))
  obtain ⟨q0, q1, q2⟩ := Kept.all3 k base
  clear base
  have base := Lib.hid (And.intro q0 (And.intro q1 q2))
  clear q0 q1 q2
  go_upto_region 3 with fail
  go_region_held3 (fun w' => w'.cell? ⟨w.heap.size, 0, none⟩ = some (.bool b) ∧ w'.cell? ⟨w.heap.size, 1, none⟩ = some (.int .u64 xh) ∧ w'.cell? ⟨w.heap.size, 2, none⟩ = some (.int .u64 xl))
    ((first | (refine Kept.all3 ?_ base; focus ((repeat (first | with_reducible exact Kept.refl _ | with_reducible apply Kept.drew | with_reducible apply Kept.alloc | ((with_reducible apply Kept.set); focus (simp <;> omega)) | ((with_reducible apply Kept.via); focus with_reducible assumption))); done)) | (refine far3 (Kept.all3 (by (repeat (first | with_reducible exact Kept.refl _ | with_reducible apply Kept.drew | with_reducible apply Kept.alloc | ((with_reducible apply Kept.set); focus (simp <;> omega)) | ((with_reducible apply Kept.via); focus with_reducible assumption)))) base) ?_; focus ((repeat' apply And.intro) <;> (simp <;> omega)))))
    (first
      | (go_at_call 39; refine (O2'.out _).mono ?_; rintro e w3 ⟨rfl, k3⟩)
      | (go_at_call 55; refine (X2'.out _).mono ?_; rintro e w4 ⟨rfl, k4⟩))
  go_wp2
  go_ret
  exact ⟨rfl, (by (repeat (first | with_reducible exact Kept.refl _ | with_reducible apply Kept.drew | with_reducible apply Kept.alloc | ((with_reducible apply Kept.set); focus (simp <;> omega)) | ((with_reducible apply Kept.via); focus with_reducible assumption))))⟩
set_option maxHeartbeats 800000 in
theorem Int_neg (h1 : r1 < 0) (h2 : 0 < r2) (h3 : 0 ≤ xl) (h4 : xl < 9223372036854775808) (O1 : ∀ w, Calls Try.prog 39 #[.int .i64 9223372036854775807] w fun e w' => e = .returned (.agg #[.bool false, .int .u64 0, .int .u64 9223372036854775807]) ∧ Kept w w') (X1 : ∀ w, Calls Try.prog 55 #[.agg #[.bool true, .int .u64 xh, .int .u64 xl], .agg #[.bool false, .int .u64 0, .int .u64 9223372036854775807]] w fun e w' => e = .returned (.int .i64 r1) ∧ Kept w w') (O2 : ∀ w, Calls Try.prog 39 #[.int .i64 (-9223372036854775808)] w fun e w' => e = .returned (.agg #[.bool true, .int .u64 0, .int .u64 9223372036854775808]) ∧ Kept w w') (X2 : ∀ w, Calls Try.prog 55 #[.agg #[.bool true, .int .u64 xh, .int .u64 xl], .agg #[.bool true, .int .u64 0, .int .u64 9223372036854775808]] w fun e w' => e = .returned (.int .i64 r2) ∧ Kept w w') :
    Calls Try.prog 54 #[.agg #[.bool true, .int .u64 xh, .int .u64 xl]] w fun e w' => e = .returned (.int .i64 (-xl)) ∧ Kept w w' := by
  have O1' := Lib.hid O1
  have X1' := Lib.hid X1
  have O2' := Lib.hid O2
  have X2' := Lib.hid X2
  clear O2 X2
  clear O1 X1
  go_enter Try.func54, Try.ntmps54
  go_upto_region 1 with fail
  generalize hW : (World.alloc w (.cells #[.bool true, .int .u64 xh, .int .u64 xl] 31)) = W0
  have base := Lib.hid (show W0.cell? ⟨w.heap.size, 0, none⟩ = some (.bool true) ∧ W0.cell? ⟨w.heap.size, 1, none⟩ = some (.int .u64 xh) ∧ W0.cell? ⟨w.heap.size, 2, none⟩ = some (.int .u64 xl) from by subst hW; simp [go_sem])
  have kw : Kept w W0 := by subst hW; exact (by (repeat (first | with_reducible exact Kept.refl _ | with_reducible apply Kept.drew | with_reducible apply Kept.alloc | ((with_reducible apply Kept.set); focus (simp <;> omega)) | ((with_reducible apply Kept.via); focus with_reducible assumption))))
  have zw : w.heap.size + 1 ≤ W0.heap.size := by subst hW; simp
  clear hW
  go_region_held3 (fun w' => w'.cell? ⟨w.heap.size, 0, none⟩ = some (.bool true) ∧ w'.cell? ⟨w.heap.size, 1, none⟩ = some (.int .u64 xh) ∧ w'.cell? ⟨w.heap.size, 2, none⟩ = some (.int .u64 xl))
    ((first | (refine Kept.all3 ?_ base; focus ((repeat (first | with_reducible exact Kept.refl _ | with_reducible apply Kept.drew | with_reducible apply Kept.alloc | ((with_reducible apply Kept.set); focus (simp <;> omega)) | ((with_reducible apply Kept.via); focus with_reducible assumption))); done)) | (refine far3 (Kept.all3 (by (repeat (first | with_reducible exact Kept.refl _ | with_reducible apply Kept.drew | with_reducible apply Kept.alloc | ((with_reducible apply Kept.set); focus (simp <;> omega)) | ((with_reducible apply Kept.via); focus with_reducible assumption)))) base) ?_; focus ((repeat' apply And.intro) <;> (simp <;> omega)))))
    (first
      | (go_at_call 39; refine (O1'.out _).mono ?_; rintro e w1 ⟨rfl, k1⟩)
      | (go_at_call 55; refine (X1'.out _).mono ?_; rintro e w2 ⟨rfl, k2⟩))
  have k : Kept W0 w2 := (by (repeat (first | with_reducible exact Kept.refl _ | with_reducible apply Kept.drew | with_reducible apply Kept.alloc | ((with_reducible apply Kept.set); focus (simp <;> omega)) | ((with_reducible apply Kept.via); focus with_reducible assumption))))
  obtain ⟨q0, q1, q2⟩ := Kept.all3 k base
  clear base
  have base := Lib.hid (And.intro q0 (And.intro q1 q2))
  clear q0 q1 q2
  go_upto_region 3 with fail
  go_region_held3 (fun w' => w'.cell? ⟨w.heap.size, 0, none⟩ = some (.bool true) ∧ w'.cell? ⟨w.heap.size, 1, none⟩ = some (.int .u64 xh) ∧ w'.cell? ⟨w.heap.size, 2, none⟩ = some (.int .u64 xl))
    ((first | (refine Kept.all3 ?_ base; focus ((repeat (first | with_reducible exact Kept.refl _ | with_reducible apply Kept.drew | with_reducible apply Kept.alloc | ((with_reducible apply Kept.set); focus (simp <;> omega)) | ((with_reducible apply Kept.via); focus with_reducible assumption))); done)) | (refine far3 (Kept.all3 (by (repeat (first | with_reducible exact Kept.refl _ | with_reducible apply Kept.drew | with_reducible apply Kept.alloc | ((with_reducible apply Kept.set); focus (simp <;> omega)) | ((with_reducible apply Kept.via); focus with_reducible assumption)))) base) ?_; focus ((repeat' apply And.intro) <;> (simp <;> omega)))))
    (first
      | (go_at_call 39; refine (O2'.out _).mono ?_; rintro e w3 ⟨rfl, k3⟩)
      | (go_at_call 55; refine (X2'.out _).mono ?_; rintro e w4 ⟨rfl, k4⟩))
  have k' : Kept w2 w4 := (by (repeat (first | with_reducible exact Kept.refl _ | with_reducible apply Kept.drew | with_reducible apply Kept.alloc | ((with_reducible apply Kept.set); focus (simp <;> omega)) | ((with_reducible apply Kept.via); focus with_reducible assumption))))
  obtain ⟨q0, q1, q2⟩ := Kept.all3 k' base
  go_wp2
  go_ret
  exact ⟨rfl, (by (repeat (first | with_reducible exact Kept.refl _ | with_reducible apply Kept.drew | with_reducible apply Kept.alloc | ((with_reducible apply Kept.set); focus (simp <;> omega)) | ((with_reducible apply Kept.via); focus with_reducible assumption))))⟩
set_option maxHeartbeats 800000 in
theorem Int_pos (h1 : r1 < 0) (h2 : 0 < r2) (h3 : 0 ≤ xl) (h4 : xl < 9223372036854775808) (O1 : ∀ w, Calls Try.prog 39 #[.int .i64 9223372036854775807] w fun e w' => e = .returned (.agg #[.bool false, .int .u64 0, .int .u64 9223372036854775807]) ∧ Kept w w') (X1 : ∀ w, Calls Try.prog 55 #[.agg #[.bool false, .int .u64 xh, .int .u64 xl], .agg #[.bool false, .int .u64 0, .int .u64 9223372036854775807]] w fun e w' => e = .returned (.int .i64 r1) ∧ Kept w w') (O2 : ∀ w, Calls Try.prog 39 #[.int .i64 (-9223372036854775808)] w fun e w' => e = .returned (.agg #[.bool true, .int .u64 0, .int .u64 9223372036854775808]) ∧ Kept w w') (X2 : ∀ w, Calls Try.prog 55 #[.agg #[.bool false, .int .u64 xh, .int .u64 xl], .agg #[.bool true, .int .u64 0, .int .u64 9223372036854775808]] w fun e w' => e = .returned (.int .i64 r2) ∧ Kept w w') :
    Calls Try.prog 54 #[.agg #[.bool false, .int .u64 xh, .int .u64 xl]] w fun e w' => e = .returned (.int .i64 xl) ∧ Kept w w' := by
  have O1' := Lib.hid O1
  have X1' := Lib.hid X1
  have O2' := Lib.hid O2
  have X2' := Lib.hid X2
  clear O2 X2
  clear O1 X1
  go_enter Try.func54, Try.ntmps54
  go_upto_region 1 with fail
  generalize hW : (World.alloc w (.cells #[.bool false, .int .u64 xh, .int .u64 xl] 31)) = W0
  have base := Lib.hid (show W0.cell? ⟨w.heap.size, 0, none⟩ = some (.bool false) ∧ W0.cell? ⟨w.heap.size, 1, none⟩ = some (.int .u64 xh) ∧ W0.cell? ⟨w.heap.size, 2, none⟩ = some (.int .u64 xl) from by subst hW; simp [go_sem])
  have kw : Kept w W0 := by subst hW; exact (by (repeat (first | with_reducible exact Kept.refl _ | with_reducible apply Kept.drew | with_reducible apply Kept.alloc | ((with_reducible apply Kept.set); focus (simp <;> omega)) | ((with_reducible apply Kept.via); focus with_reducible assumption))))
  have zw : w.heap.size + 1 ≤ W0.heap.size := by subst hW; simp
  clear hW
  go_region_held3 (fun w' => w'.cell? ⟨w.heap.size, 0, none⟩ = some (.bool false) ∧ w'.cell? ⟨w.heap.size, 1, none⟩ = some (.int .u64 xh) ∧ w'.cell? ⟨w.heap.size, 2, none⟩ = some (.int .u64 xl))
    ((first | (refine Kept.all3 ?_ base; focus ((repeat (first | with_reducible exact Kept.refl _ | with_reducible apply Kept.drew | with_reducible apply Kept.alloc | ((with_reducible apply Kept.set); focus (simp <;> omega)) | ((with_reducible apply Kept.via); focus with_reducible assumption))); done)) | (refine far3 (Kept.all3 (by (repeat (first | with_reducible exact Kept.refl _ | with_reducible apply Kept.drew | with_reducible apply Kept.alloc | ((with_reducible apply Kept.set); focus (simp <;> omega)) | ((with_reducible apply Kept.via); focus with_reducible assumption)))) base) ?_; focus ((repeat' apply And.intro) <;> (simp <;> omega)))))
    (first
      | (go_at_call 39; refine (O1'.out _).mono ?_; rintro e w1 ⟨rfl, k1⟩)
      | (go_at_call 55; refine (X1'.out _).mono ?_; rintro e w2 ⟨rfl, k2⟩))
  have k : Kept W0 w2 := (by (repeat (first | with_reducible exact Kept.refl _ | with_reducible apply Kept.drew | with_reducible apply Kept.alloc | ((with_reducible apply Kept.set); focus (simp <;> omega)) | ((with_reducible apply Kept.via); focus with_reducible assumption))))
  obtain ⟨q0, q1, q2⟩ := Kept.all3 k base
  clear base
  have base := Lib.hid (And.intro q0 (And.intro q1 q2))
  clear q0 q1 q2
  go_upto_region 3 with fail
  go_region_held3 (fun w' => w'.cell? ⟨w.heap.size, 0, none⟩ = some (.bool false) ∧ w'.cell? ⟨w.heap.size, 1, none⟩ = some (.int .u64 xh) ∧ w'.cell? ⟨w.heap.size, 2, none⟩ = some (.int .u64 xl))
    ((first | (refine Kept.all3 ?_ base; focus ((repeat (first | with_reducible exact Kept.refl _ | with_reducible apply Kept.drew | with_reducible apply Kept.alloc | ((with_reducible apply Kept.set); focus (simp <;> omega)) | ((with_reducible apply Kept.via); focus with_reducible assumption))); done)) | (refine far3 (Kept.all3 (by (repeat (first | with_reducible exact Kept.refl _ | with_reducible apply Kept.drew | with_reducible apply Kept.alloc | ((with_reducible apply Kept.set); focus (simp <;> omega)) | ((with_reducible apply Kept.via); focus with_reducible assumption)))) base) ?_; focus ((repeat' apply And.intro) <;> (simp <;> omega)))))
    (first
      | (go_at_call 39; refine (O2'.out _).mono ?_; rintro e w3 ⟨rfl, k3⟩)
      | (go_at_call 55; refine (X2'.out _).mono ?_; rintro e w4 ⟨rfl, k4⟩))
  have k' : Kept w2 w4 := (by (repeat (first | with_reducible exact Kept.refl _ | with_reducible apply Kept.drew | with_reducible apply Kept.alloc | ((with_reducible apply Kept.set); focus (simp <;> omega)) | ((with_reducible apply Kept.via); focus with_reducible assumption))))
  obtain ⟨q0, q1, q2⟩ := Kept.all3 k' base
  go_wp2
  go_ret
  exact ⟨rfl, (by (repeat (first | with_reducible exact Kept.refl _ | with_reducible apply Kept.drew | with_reducible apply Kept.alloc | ((with_reducible apply Kept.set); focus (simp <;> omega)) | ((with_reducible apply Kept.via); focus with_reducible assumption))))⟩
end Go.Proofs.Ytfkdbelajideiaa
