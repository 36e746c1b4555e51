/-
  In one text: Scale02, Below02, Cmp02, Int02.
-/
import Derived.Test.YtdbikeehoildlaaDoorLowB02
import Derived.Deep.RegionHeld3
import Derived.Deep.DeepCutAuto
import Derived.Test.YtdbikeehoildlaaDoorLowA02
import Derived.Test.YtdbikeehoildlaaDoorRoom
import Derived.Deep.RegionWith
namespace Go.Proofs.YtdbikeehoildlaaDoor
open Go.RowKit

set_option maxHeartbeats 800000 in
theorem Mul_any (a b ma mb h l : Int) (s1 s2 : Bool) (w : World) (h1 : decide (a < 0) = s1) (h2 : decide (b < 0) = s2) (C1 : ∀ w, Calls Tryd.prog 51 #[.int .i64 a] w fun e w' => e = .returned (.int .u64 ma) ∧ w = w') (C2 : ∀ w, Calls Tryd.prog 51 #[.int .i64 b] w fun e w' => e = .returned (.int .u64 mb) ∧ w = w') (C3 : ∀ w, Calls Tryd.prog 50 #[.int .u64 ma, .int .u64 mb] w fun e w' => e = .returned (.tuple #[.int .u64 h, .int .u64 l]) ∧ w = w') :
    Calls Tryd.prog 34 #[.int .i64 a, .int .i64 b] w fun e w' => e = .returned (.agg #[.bool ((s1 != s2) && nz h l), .int .u64 h, .int .u64 l]) ∧ Kept w w' := by
  have D1 := Lib.hid C1
  have D2 := Lib.hid C2
  have D3 := Lib.hid C3
  clear C1 C2 C3
  go_enter Tryd.func34, Tryd.ntmps34
  go_wp2_with fail
  refine (D1.out _).mono ?_
  rintro e w1 ⟨rfl, rfl⟩
  go_wp2_with fail
  refine (D2.out _).mono ?_
  rintro e w1 ⟨rfl, rfl⟩
  go_wp2_with fail
  refine (D3.out _).mono ?_
  rintro e w1 ⟨rfl, rfl⟩
  go_wp2_with fail
  refine (on_any (s1 != s2) _ _ _).mono ?_
  rintro e w1 ⟨rfl, k1⟩
  obtain ⟨x, y, z, a1, a2, a3, b1, b2, b3⟩ : Room3 w1 w.heap.size := Room3.kept (by exact ⟨_, _, _, by first | (simp [go_sem]; done) | (simp [go_sem]; rfl), by first | (simp [go_sem]; done) | (simp [go_sem]; rfl), by first | (simp [go_sem]; done) | (simp [go_sem]; rfl), by simp [go_sem], by simp [go_sem], by simp [go_sem]⟩) k1
  go_wp2
  simp [bodyPost, results, Tryd.results34, go_sem, *]
  exact (by (repeat (first | with_reducible exact Kept.refl _ | with_reducible apply Kept.drew | with_reducible apply Kept.alloc | ((with_reducible apply Kept.set); focus (simp <;> omega)) | ((with_reducible apply Kept.via); focus with_reducible assumption))))
set_option maxHeartbeats 800000 in
theorem Scale_ok (s : Bool) (xh xl n h l : Int) (w : World) (C : ∀ w, Calls Tryd.prog 71 #[.agg #[.int .u64 xh, .int .u64 xl], .int .u64 n] w fun e w' => e = .returned (.tuple #[.agg #[.int .u64 h, .int .u64 l], .bool true]) ∧ Kept w w') :
    Calls Tryd.prog 62 #[.agg #[.bool s, .int .u64 xh, .int .u64 xl], .int .u64 n] w fun e w' => e = .returned (.tuple #[.agg #[.bool (s && nz h l), .int .u64 h, .int .u64 l], .int .i64 0]) ∧ Kept w w' := by
  have C' := Lib.hid C
  clear C
  go_enter Tryd.func62, Tryd.ntmps62
  go_upto_region 1 with fail
  generalize hW : (World.alloc (World.alloc w (.cells #[.bool s, .int .u64 xh, .int .u64 xl] 61)) (.cells #[.bool false, .int .u64 0, .int .u64 0] 61)) = W0
  have base := Lib.hid (show W0.cell? ⟨w.heap.size, 0, none⟩ = some (.bool s) ∧ W0.cell? ⟨w.heap.size, 1, none⟩ = some (.int .u64 xh) ∧ W0.cell? ⟨w.heap.size, 2, none⟩ = some (.int .u64 xl) from by subst hW; simp [go_sem])
  have room : Room3 W0 (w.heap.size + 1) := by subst hW; exact ⟨_, _, _, by first | (simp [go_sem]; done) | (simp [go_sem]; rfl), by first | (simp [go_sem]; done) | (simp [go_sem]; rfl), by first | (simp [go_sem]; done) | (simp [go_sem]; rfl), by simp [go_sem], by simp [go_sem], by simp [go_sem]⟩
  have kw : Kept w W0 := by subst hW; exact (by (repeat (first | with_reducible exact Kept.refl _ | with_reducible apply Kept.drew | with_reducible apply Kept.alloc | ((with_reducible apply Kept.set); focus (simp <;> omega)) | ((with_reducible apply Kept.via); focus with_reducible assumption))))
  have zw : w.heap.size + 2 ≤ W0.heap.size := by subst hW; simp
  clear hW
  obtain ⟨c0, c1, c2⟩ := Kept.all3 (Kept.refl _) base
  go_wp2_with fail
  refine (sizeOf_any _ _ _ _).mono ?_
  rintro e w1 ⟨rfl, k1⟩
  go_wp2_with fail
  refine (C'.out _).mono ?_
  rintro e w2 ⟨rfl, k2⟩
  obtain ⟨q0, q1, q2⟩ := Kept.all3 (k1.trans k2) base
  have z2 : w.heap.size < w2.heap.size := by have := Kept.below (k1.trans k2); omega
  go_wp2_with fail
  refine (unless_ok _ _ _ _).mono ?_
  rintro e w3 ⟨rfl, k3⟩
  obtain ⟨x, y, z, a1, a2, a3, b1, b2, b3⟩ : Room3 w3 (w.heap.size + 1) := (room.kept (k1.trans k2)).kept (by (repeat (first | with_reducible exact Kept.refl _ | with_reducible apply Kept.drew | with_reducible apply Kept.alloc | ((with_reducible apply Kept.set); focus (simp <;> omega)) | ((with_reducible apply Kept.via); focus with_reducible assumption))))
  clear c0 c1 c2 q0 q1 q2
  go_wp2
  simp [bodyPost, results, Tryd.results62, go_sem, *]
  exact (by (repeat (first | with_reducible exact Kept.refl _ | with_reducible apply Kept.drew | with_reducible apply Kept.alloc | ((with_reducible apply Kept.set); focus (simp <;> omega)) | ((with_reducible apply Kept.via); focus with_reducible assumption))))
set_option maxHeartbeats 800000 in
theorem Scale_no (s : Bool) (xh xl n h l : Int) (w : World) (C : ∀ w, Calls Tryd.prog 71 #[.agg #[.int .u64 xh, .int .u64 xl], .int .u64 n] w fun e w' => e = .returned (.tuple #[.agg #[.int .u64 h, .int .u64 l], .bool false]) ∧ Kept w w') :
    Calls Tryd.prog 62 #[.agg #[.bool s, .int .u64 xh, .int .u64 xl], .int .u64 n] w fun e w' => e = .returned (.tuple #[.agg #[.bool false, .int .u64 0, .int .u64 0], .int .i64 10]) ∧ Kept w w' := by
  have C' := Lib.hid C
  clear C
  go_enter Tryd.func62, Tryd.ntmps62
  go_upto_region 1 with fail
  generalize hW : (World.alloc (World.alloc w (.cells #[.bool s, .int .u64 xh, .int .u64 xl] 61)) (.cells #[.bool false, .int .u64 0, .int .u64 0] 61)) = W0
  have base := Lib.hid (show W0.cell? ⟨w.heap.size, 0, none⟩ = some (.bool s) ∧ W0.cell? ⟨w.heap.size, 1, none⟩ = some (.int .u64 xh) ∧ W0.cell? ⟨w.heap.size, 2, none⟩ = some (.int .u64 xl) from by subst hW; simp [go_sem])
  have room : Room3 W0 (w.heap.size + 1) := by subst hW; exact ⟨_, _, _, by first | (simp [go_sem]; done) | (simp [go_sem]; rfl), by first | (simp [go_sem]; done) | (simp [go_sem]; rfl), by first | (simp [go_sem]; done) | (simp [go_sem]; rfl), by simp [go_sem], by simp [go_sem], by simp [go_sem]⟩
  have kw : Kept w W0 := by subst hW; exact (by (repeat (first | with_reducible exact Kept.refl _ | with_reducible apply Kept.drew | with_reducible apply Kept.alloc | ((with_reducible apply Kept.set); focus (simp <;> omega)) | ((with_reducible apply Kept.via); focus with_reducible assumption))))
  have zw : w.heap.size + 2 ≤ W0.heap.size := by subst hW; simp
  clear hW
  obtain ⟨c0, c1, c2⟩ := Kept.all3 (Kept.refl _) base
  go_wp2_with fail
  refine (sizeOf_any _ _ _ _).mono ?_
  rintro e w1 ⟨rfl, k1⟩
  go_wp2_with fail
  refine (C'.out _).mono ?_
  rintro e w2 ⟨rfl, k2⟩
  obtain ⟨q0, q1, q2⟩ := Kept.all3 (k1.trans k2) base
  have z2 : w.heap.size < w2.heap.size := by have := Kept.below (k1.trans k2); omega
  go_wp2_with fail
  refine (unless_no _ _ _ _).mono ?_
  rintro e w3 ⟨rfl, k3⟩
  obtain ⟨x, y, z, a1, a2, a3, b1, b2, b3⟩ : Room3 w3 (w.heap.size + 1) := (room.kept (k1.trans k2)).kept (by (repeat (first | with_reducible exact Kept.refl _ | with_reducible apply Kept.drew | with_reducible apply Kept.alloc | ((with_reducible apply Kept.set); focus (simp <;> omega)) | ((with_reducible apply Kept.via); focus with_reducible assumption))))
  clear c0 c1 c2 q0 q1 q2
  go_wp2
  simp [bodyPost, results, Tryd.results62, go_sem, *]
  exact (by (repeat (first | with_reducible exact Kept.refl _ | with_reducible apply Kept.drew | with_reducible apply Kept.alloc | ((with_reducible apply Kept.set); focus (simp <;> omega)) | ((with_reducible apply Kept.via); focus with_reducible assumption))))
end Go.Proofs.YtdbikeehoildlaaDoor
namespace Go.Proofs.YtdbikeehoildlaaDoor
open Go.RowKit

set_option maxHeartbeats 400000 in
theorem below_diff (b1 b2 : Bool) (xh xl yh yl : Int) (w : World) (hb : b2 = !b1) :
    Calls Tryd.prog 49 #[.agg #[.bool b1, .int .u64 xh, .int .u64 xl], .agg #[.bool b2, .int .u64 yh, .int .u64 yl]] w fun e w' => e = .returned (.bool b1) ∧ Kept w w' := by
  subst hb
  cases b1
  · go_enter Tryd.func49, Tryd.ntmps49
    go_wp2
    go_ret
    exact ⟨rfl, (by (repeat (first | with_reducible exact Kept.refl _ | with_reducible apply Kept.drew | with_reducible apply Kept.alloc | ((with_reducible apply Kept.set); focus (simp <;> omega)) | ((with_reducible apply Kept.via); focus with_reducible assumption))))⟩
  · go_enter Tryd.func49, Tryd.ntmps49
    go_wp2
    go_ret
    exact ⟨rfl, (by (repeat (first | with_reducible exact Kept.refl _ | with_reducible apply Kept.drew | with_reducible apply Kept.alloc | ((with_reducible apply Kept.set); focus (simp <;> omega)) | ((with_reducible apply Kept.via); focus with_reducible assumption))))⟩
set_option maxHeartbeats 800000 in
theorem below_neg (v : Bool) (xh xl yh yl : Int) (w : World) (C : ∀ w, Calls Tryd.prog 69 #[.agg #[.int .u64 yh, .int .u64 yl], .agg #[.int .u64 xh, .int .u64 xl]] w fun e w' => e = .returned (.bool v) ∧ Kept w w') :
    Calls Tryd.prog 49 #[.agg #[.bool true, .int .u64 xh, .int .u64 xl], .agg #[.bool true, .int .u64 yh, .int .u64 yl]] w fun e w' => e = .returned (.bool v) ∧ Kept w w' := by
  have C' := Lib.hid C
  clear C
  go_enter Tryd.func49, Tryd.ntmps49
  go_upto_region 5 with fail
  generalize hW : (World.alloc (World.alloc w (.cells #[.bool true, .int .u64 yh, .int .u64 yl] 61)) (.cells #[.bool true, .int .u64 xh, .int .u64 xl] 61)) = W0
  have base := Lib.hid (show W0.cell? ⟨w.heap.size, 0, none⟩ = some (.bool true) ∧ W0.cell? ⟨w.heap.size, 1, none⟩ = some (.int .u64 yh) ∧ W0.cell? ⟨w.heap.size, 2, none⟩ = some (.int .u64 yl) ∧ W0.cell? ⟨w.heap.size + 1, 0, none⟩ = some (.bool true) ∧ W0.cell? ⟨w.heap.size + 1, 1, none⟩ = some (.int .u64 xh) ∧ W0.cell? ⟨w.heap.size + 1, 2, none⟩ = some (.int .u64 xl) from by subst hW; simp [go_sem])
  have kw : Kept w W0 := by subst hW; exact (by (repeat (first | with_reducible exact Kept.refl _ | with_reducible apply Kept.drew | with_reducible apply Kept.alloc | ((with_reducible apply Kept.set); focus (simp <;> omega)) | ((with_reducible apply Kept.via); focus with_reducible assumption))))
  have zw : w.heap.size + 2 ≤ W0.heap.size := by subst hW; simp
  clear hW
  go_region_held3 (fun w' => w'.cell? ⟨w.heap.size, 0, none⟩ = some (.bool true) ∧ w'.cell? ⟨w.heap.size, 1, none⟩ = some (.int .u64 yh) ∧ w'.cell? ⟨w.heap.size, 2, none⟩ = some (.int .u64 yl) ∧ w'.cell? ⟨w.heap.size + 1, 0, none⟩ = some (.bool true) ∧ w'.cell? ⟨w.heap.size + 1, 1, none⟩ = some (.int .u64 xh) ∧ w'.cell? ⟨w.heap.size + 1, 2, none⟩ = some (.int .u64 xl))
    ((first | (refine Kept.all6 ?_ base; focus ((repeat (first | with_reducible exact Kept.refl _ | with_reducible apply Kept.drew | with_reducible apply Kept.alloc | ((with_reducible apply Kept.set); focus (simp <;> omega)) | ((with_reducible apply Kept.via); focus with_reducible assumption))); done)) | (refine far6 (Kept.all6 (by (repeat (first | with_reducible exact Kept.refl _ | with_reducible apply Kept.drew | with_reducible apply Kept.alloc | ((with_reducible apply Kept.set); focus (simp <;> omega)) | ((with_reducible apply Kept.via); focus with_reducible assumption)))) base) ?_; focus ((repeat' apply And.intro) <;> (simp <;> omega)))))
    (first
      | (go_at_call 68; refine (sizeOf_any _ _ _ _).mono ?_; rintro e w1 ⟨rfl, k1⟩)
      | (go_at_call 69; refine (C'.out _).mono ?_; rintro e w2 ⟨rfl, k2⟩))
  go_wp2
  go_ret
  exact ⟨rfl, (by (repeat (first | with_reducible exact Kept.refl _ | with_reducible apply Kept.drew | with_reducible apply Kept.alloc | ((with_reducible apply Kept.set); focus (simp <;> omega)) | ((with_reducible apply Kept.via); focus with_reducible assumption))))⟩
set_option maxHeartbeats 800000 in
theorem below_pos (v : Bool) (xh xl yh yl : Int) (w : World) (C : ∀ w, Calls Tryd.prog 69 #[.agg #[.int .u64 xh, .int .u64 xl], .agg #[.int .u64 yh, .int .u64 yl]] w fun e w' => e = .returned (.bool v) ∧ Kept w w') :
    Calls Tryd.prog 49 #[.agg #[.bool false, .int .u64 xh, .int .u64 xl], .agg #[.bool false, .int .u64 yh, .int .u64 yl]] w fun e w' => e = .returned (.bool v) ∧ Kept w w' := by
  have C' := Lib.hid C
  clear C
  go_enter Tryd.func49, Tryd.ntmps49
  go_upto_region 5 with fail
  generalize hW : (World.alloc (World.alloc w (.cells #[.bool false, .int .u64 xh, .int .u64 xl] 61)) (.cells #[.bool false, .int .u64 yh, .int .u64 yl] 61)) = W0
  have base := Lib.hid (show W0.cell? ⟨w.heap.size, 0, none⟩ = some (.bool false) ∧ W0.cell? ⟨w.heap.size, 1, none⟩ = some (.int .u64 xh) ∧ W0.cell? ⟨w.heap.size, 2, none⟩ = some (.int .u64 xl) ∧ W0.cell? ⟨w.heap.size + 1, 0, none⟩ = some (.bool false) ∧ W0.cell? ⟨w.heap.size + 1, 1, none⟩ = some (.int .u64 yh) ∧ W0.cell? ⟨w.heap.size + 1, 2, none⟩ = some (.int .u64 yl) from by subst hW; simp [go_sem])
  have kw : Kept w W0 := by subst hW; exact (by (repeat (first | with_reducible exact Kept.refl _ | with_reducible apply Kept.drew | with_reducible apply Kept.alloc | ((with_reducible apply Kept.set); focus (simp <;> omega)) | ((with_reducible apply Kept.via); focus with_reducible assumption))))
  have zw : w.heap.size + 2 ≤ W0.heap.size := by subst hW; simp
  clear hW
  go_region_held3 (fun w' => w'.cell? ⟨w.heap.size, 0, none⟩ = some (.bool false) ∧ w'.cell? ⟨w.heap.size, 1, none⟩ = some (.int .u64 xh) ∧ w'.cell? ⟨w.heap.size, 2, none⟩ = some (.int .u64 xl) ∧ w'.cell? ⟨w.heap.size + 1, 0, none⟩ = some (.bool false) ∧ w'.cell? ⟨w.heap.size + 1, 1, none⟩ = some (.int .u64 yh) ∧ w'.cell? ⟨w.heap.size + 1, 2, none⟩ = some (.int .u64 yl))
    ((first | (refine Kept.all6 ?_ base; focus ((repeat (first | with_reducible exact Kept.refl _ | with_reducible apply Kept.drew | with_reducible apply Kept.alloc | ((with_reducible apply Kept.set); focus (simp <;> omega)) | ((with_reducible apply Kept.via); focus with_reducible assumption))); done)) | (refine far6 (Kept.all6 (by (repeat (first | with_reducible exact Kept.refl _ | with_reducible apply Kept.drew | with_reducible apply Kept.alloc | ((with_reducible apply Kept.set); focus (simp <;> omega)) | ((with_reducible apply Kept.via); focus with_reducible assumption)))) base) ?_; focus ((repeat' apply And.intro) <;> (simp <;> omega)))))
    (first
      | (go_at_call 68; refine (sizeOf_any _ _ _ _).mono ?_; rintro e w1 ⟨rfl, k1⟩)
      | (go_at_call 69; refine (C'.out _).mono ?_; rintro e w2 ⟨rfl, k2⟩))
  go_wp2
  go_ret
  exact ⟨rfl, (by (repeat (first | with_reducible exact Kept.refl _ | with_reducible apply Kept.drew | with_reducible apply Kept.alloc | ((with_reducible apply Kept.set); focus (simp <;> omega)) | ((with_reducible apply Kept.via); focus with_reducible assumption))))⟩
end Go.Proofs.YtdbikeehoildlaaDoor
namespace Go.Proofs.YtdbikeehoildlaaDoor
open Go.RowKit

theorem Thaw3.both {w1 w2 : World} {b c : Nat} (k : Kept w1 w2) (h : Thaw3 w1 b) (h' : Thaw3 w1 c) : w2.frozen? ⟨b, 0, none⟩ = false ∧ w2.frozen? ⟨b, 1, none⟩ = false ∧ w2.frozen? ⟨b, 2, none⟩ = false ∧ w2.frozen? ⟨c, 0, none⟩ = false ∧ w2.frozen? ⟨c, 1, none⟩ = false ∧ w2.frozen? ⟨c, 2, none⟩ = false :=
  ⟨k.thaw h.1, k.thaw h.2.1, k.thaw h.2.2, k.thaw h'.1, k.thaw h'.2.1, k.thaw h'.2.2⟩
set_option maxHeartbeats 1600000 in
theorem Cmp_any (b1 b2 c1 c2 : Bool) (xh xl yh yl : Int) (r : Int) (w : World) (e1 : (b1 && nz xh xl) = c1) (e2 : (b2 && nz yh yl) = c2)
    (C : (c1 = c2 ∧ xh = yh ∧ xl = yl ∧ r = 0) ∨ (¬ (c1 = c2 ∧ xh = yh ∧ xl = yl) ∧ ∃ v : Bool, r = (if v then -1 else 1) ∧ ∀ w, Calls Tryd.prog 49 #[.agg #[.bool c1, .int .u64 xh, .int .u64 xl], .agg #[.bool c2, .int .u64 yh, .int .u64 yl]] w fun e w' => e = .returned (.bool v) ∧ Kept w w')) :
    Calls Tryd.prog 33 #[.agg #[.bool b1, .int .u64 xh, .int .u64 xl], .agg #[.bool b2, .int .u64 yh, .int .u64 yl]] w fun e w' => e = .returned (.int .i64 r) ∧ Kept w w' := by
  have E1 := Lib.hid e1
  have E2 := Lib.hid e2
  have C' := Lib.hid C
  clear e1 e2 C
  go_enter Tryd.func33, Tryd.ntmps33
  go_upto_region 1 with fail
  generalize hW : (World.alloc (World.alloc w (.cells #[.bool b1, .int .u64 xh, .int .u64 xl] 61)) (.cells #[.bool b2, .int .u64 yh, .int .u64 yl] 61)) = W0
  have base := Lib.hid (show W0.cell? ⟨w.heap.size, 0, none⟩ = some (.bool b1) ∧ W0.cell? ⟨w.heap.size, 1, none⟩ = some (.int .u64 xh) ∧ W0.cell? ⟨w.heap.size, 2, none⟩ = some (.int .u64 xl) ∧ W0.cell? ⟨w.heap.size + 1, 0, none⟩ = some (.bool b2) ∧ W0.cell? ⟨w.heap.size + 1, 1, none⟩ = some (.int .u64 yh) ∧ W0.cell? ⟨w.heap.size + 1, 2, none⟩ = some (.int .u64 yl) from by subst hW; simp [go_sem])
  have t0 : Thaw3 W0 (w.heap.size) := by subst hW; exact ⟨by simp [go_sem], by simp [go_sem], by simp [go_sem]⟩
  have t1 : Thaw3 W0 (w.heap.size + 1) := by subst hW; exact ⟨by simp [go_sem], by simp [go_sem], by simp [go_sem]⟩
  have kw : Kept w W0 := by subst hW; exact (by (repeat (first | with_reducible exact Kept.refl _ | with_reducible apply Kept.drew | with_reducible apply Kept.alloc | ((with_reducible apply Kept.set); focus (simp <;> omega)) | ((with_reducible apply Kept.via); focus with_reducible assumption))))
  have zw : w.heap.size + 2 ≤ W0.heap.size := by subst hW; simp
  clear hW
  obtain ⟨q0, q1, q2, q3, q4, q5⟩ := Kept.all6 (Kept.refl _) base
  go_cut [4] (fun s4 wx => s4 = .int .i64 0 ∧ wx.cell? ⟨w.heap.size, 0, none⟩ = some (.bool (b1 && nz xh xl)) ∧ wx.cell? ⟨w.heap.size, 1, none⟩ = some (.int .u64 xh) ∧ wx.cell? ⟨w.heap.size, 2, none⟩ = some (.int .u64 xl) ∧ wx.cell? ⟨w.heap.size + 1, 0, none⟩ = some (.bool (b2 && nz yh yl)) ∧ wx.cell? ⟨w.heap.size + 1, 1, none⟩ = some (.int .u64 yh) ∧ wx.cell? ⟨w.heap.size + 1, 2, none⟩ = some (.int .u64 yl) ∧ Kept w wx)
  case first =>
    go_region_with (first
      | (go_at_call 48; refine (plain_any _ _ _ _).mono ?_; rintro e w1 ⟨rfl, k1⟩
         obtain ⟨q0, q1, q2, q3, q4, q5⟩ := Kept.all6 (show Kept W0 w1 from (by (repeat (first | with_reducible exact Kept.refl _ | with_reducible apply Kept.drew | with_reducible apply Kept.alloc | ((with_reducible apply Kept.set); focus (simp <;> omega)) | ((with_reducible apply Kept.via); focus with_reducible assumption))))) base
         obtain ⟨g0, g1, g2, g3, g4, g5⟩ := Thaw3.both (show Kept W0 w1 from (by (repeat (first | with_reducible exact Kept.refl _ | with_reducible apply Kept.drew | with_reducible apply Kept.alloc | ((with_reducible apply Kept.set); focus (simp <;> omega)) | ((with_reducible apply Kept.via); focus with_reducible assumption))))) t0 t1))
    all_goals
      go_wp2_with fail
      go_meet
      refine ⟨rfl, by simp [*, go_sem], by simp [*, go_sem], by simp [*, go_sem], by simp [*, go_sem], by simp [*, go_sem], by simp [*, go_sem], ?_⟩
      (repeat (first | with_reducible exact Kept.refl _ | with_reducible apply Kept.drew | with_reducible apply Kept.alloc | ((with_reducible apply Kept.set); focus (simp <;> omega)) | ((with_reducible apply Kept.via); focus with_reducible assumption)))
  case rest =>
    obtain ⟨rfl, r0, r1, r2, r3, r4, r5, k⟩ := hcut
    rw [E1.out] at r0
    rw [E2.out] at r3
    rcases C'.out with ⟨rfl, rfl, rfl, rfl⟩ | ⟨hne, v, rfl, D⟩
    · go_wp2
      go_ret
      exact ⟨rfl, (by (repeat (first | with_reducible exact Kept.refl _ | with_reducible apply Kept.drew | with_reducible apply Kept.alloc | ((with_reducible apply Kept.set); focus (simp <;> omega)) | ((with_reducible apply Kept.via); focus with_reducible assumption))))⟩
    · have D' := Lib.hid D
      clear D C' E1 E2
      by_cases h1 : c1 = c2
      · subst h1
        by_cases h2 : xh = yh
        · subst h2
          have h3 : ¬ xl = yl := fun e => hne ⟨rfl, rfl, e⟩
          clear hne
          have h4 : (xl == yl) = false := by simp [h3]
          go_wp2_with fail
          refine (D'.out _).mono ?_
          rintro e w3 ⟨rfl, k3⟩
          cases v
          all_goals
            go_wp2
            go_ret
            exact ⟨rfl, (by (repeat (first | with_reducible exact Kept.refl _ | with_reducible apply Kept.drew | with_reducible apply Kept.alloc | ((with_reducible apply Kept.set); focus (simp <;> omega)) | ((with_reducible apply Kept.via); focus with_reducible assumption))))⟩
        · clear hne
          have h4 : (xh == yh) = false := by simp [h2]
          go_wp2_with fail
          refine (D'.out _).mono ?_
          rintro e w3 ⟨rfl, k3⟩
          cases v
          all_goals
            go_wp2
            go_ret
            exact ⟨rfl, (by (repeat (first | with_reducible exact Kept.refl _ | with_reducible apply Kept.drew | with_reducible apply Kept.alloc | ((with_reducible apply Kept.set); focus (simp <;> omega)) | ((with_reducible apply Kept.via); focus with_reducible assumption))))⟩
      · clear hne
        have h4 : (c1 == c2) = false := by simp [h1]
        go_wp2_with fail
        refine (D'.out _).mono ?_
        rintro e w3 ⟨rfl, k3⟩
        cases v
        all_goals
          go_wp2
          go_ret
          exact ⟨rfl, (by (repeat (first | with_reducible exact Kept.refl _ | with_reducible apply Kept.drew | with_reducible apply Kept.alloc | ((with_reducible apply Kept.set); focus (simp <;> omega)) | ((with_reducible apply Kept.via); focus with_reducible assumption))))⟩
end Go.Proofs.YtdbikeehoildlaaDoor
namespace Go.Proofs.YtdbikeehoildlaaDoor
open Go.RowKit

variable (b : Bool) (xh xl r1 r2 : Int) (w : World)
end Go.Proofs.YtdbikeehoildlaaDoor
