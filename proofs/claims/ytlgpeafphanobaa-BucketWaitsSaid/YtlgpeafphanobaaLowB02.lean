/-
  In one text: Add02, Less02, More02.
-/
import Derived.Test.YtlgpeafphanobaaLowA02
import Derived.Test.YtlgpeafphanobaaRoom
import Derived.Deep.RegionHeld3
import Derived.Deep.DeepCutAuto
namespace Go.Proofs.Ytlgpeafphanobaa
open Go.RowKit

set_option maxHeartbeats 400000 in
theorem unless_no (s : Bool) (h l : Int) (w : World) :
    Calls Try.prog 68 #[.agg #[.int .u64 h, .int .u64 l], .bool false, .func (Fn.func 65) #[.bool s] #[]] w fun e w' => e = .returned (.tuple #[.agg #[.bool false, .int .u64 0, .int .u64 0], .int .i64 10]) ∧ Kept w w' := by
  go_enter Try.func68, Try.ntmps68
  go_wp2
  simp [bodyPost, results, Try.results68, go_sem]
  exact (by repeat (first | exact Kept.refl _ | apply Kept.drew | apply Kept.alloc | (refine Kept.setCell ?_ (by simp <;> omega) _) | (refine Kept.trans ?_ (by assumption))))
set_option maxHeartbeats 400000 in
theorem unless_ok (s : Bool) (h l : Int) (w : World) :
    Calls Try.prog 68 #[.agg #[.int .u64 h, .int .u64 l], .bool true, .func (Fn.func 65) #[.bool s] #[]] w fun e w' => e = .returned (.tuple #[.agg #[.bool (s && nz h l), .int .u64 h, .int .u64 l], .int .i64 0]) ∧ Kept w w' := by
  go_enter Try.func68, Try.ntmps68
  go_wp2_with fail
  refine (on_any _ _ _ _).mono ?_
  rintro e w1 ⟨rfl, k1⟩
  obtain ⟨x, y, z, a1, a2, a3, b1, b2, b3⟩ : Room3 w1 (w.heap.size + 1) := Room3.kept (by exact ⟨_, _, _, by first | (simp [go_sem]; done) | (simp [go_sem]; rfl), by first | (simp [go_sem]; done) | (simp [go_sem]; rfl), by first | (simp [go_sem]; done) | (simp [go_sem]; rfl), by simp [go_sem], by simp [go_sem], by simp [go_sem]⟩) k1
  go_wp2
  simp [bodyPost, results, Try.results68, go_sem, *]
  exact (by repeat (first | exact Kept.refl _ | apply Kept.drew | apply Kept.alloc | (refine Kept.setCell ?_ (by simp <;> omega) _) | (refine Kept.trans ?_ (by assumption))))

set_option maxHeartbeats 800000 in
theorem Add_same (s : Bool) (xh xl yh yl h l : Int) (w : World) (C : ∀ w, Calls Try.prog 64 #[.agg #[.int .u64 xh, .int .u64 xl], .agg #[.int .u64 yh, .int .u64 yl]] w fun e w' => e = .returned (.tuple #[.agg #[.int .u64 h, .int .u64 l], .bool true]) ∧ Kept w w') :
    Calls Try.prog 53 #[.agg #[.bool s, .int .u64 xh, .int .u64 xl], .agg #[.bool s, .int .u64 yh, .int .u64 yl]] w fun e w' => e = .returned (.tuple #[.agg #[.bool (s && nz h l), .int .u64 h, .int .u64 l], .int .i64 0]) ∧ Kept w w' := by
  have C' := Lib.hid C
  clear C
  go_enter Try.func53, Try.ntmps53
  go_upto_region 2 with fail
  generalize hW : (World.alloc (World.alloc (World.alloc w (.cells #[.bool s, .int .u64 xh, .int .u64 xl] 64)) (.cells #[.bool s, .int .u64 yh, .int .u64 yl] 64)) (.cells #[.bool false, .int .u64 0, .int .u64 0] 64)) = W0
  have base := Lib.hid (show W0.cell? ⟨w.heap.size, 0, none⟩ = some (.bool s) ∧ W0.cell? ⟨w.heap.size, 1, none⟩ = some (.int .u64 xh) ∧ W0.cell? ⟨w.heap.size, 2, none⟩ = some (.int .u64 xl) ∧ W0.cell? ⟨w.heap.size + 1, 0, none⟩ = some (.bool s) ∧ W0.cell? ⟨w.heap.size + 1, 1, none⟩ = some (.int .u64 yh) ∧ W0.cell? ⟨w.heap.size + 1, 2, none⟩ = some (.int .u64 yl) from by subst hW; simp [go_sem])
  have room : Room3 W0 (w.heap.size + 1 + 1) := by subst hW; exact ⟨_, _, _, by first | (simp [go_sem]; done) | (simp [go_sem]; rfl), by first | (simp [go_sem]; done) | (simp [go_sem]; rfl), by first | (simp [go_sem]; done) | (simp [go_sem]; rfl), by simp [go_sem], by simp [go_sem], by simp [go_sem]⟩
  have kw : Kept w W0 := by subst hW; exact (by repeat (first | exact Kept.refl _ | apply Kept.drew | apply Kept.alloc | (refine Kept.setCell ?_ (by simp <;> omega) _) | (refine Kept.trans ?_ (by assumption))))
  have zw : w.heap.size + 3 ≤ W0.heap.size := by subst hW; simp
  clear hW
  go_cut [6, 7] (fun s6 s7 wx => ∃ g : Nat, s6 = .pointer (some ⟨g, 0, none⟩) ∧ s7 = .bool true ∧ wx.cell? ⟨g, 0, none⟩ = some (.int .u64 h) ∧ wx.cell? ⟨g, 1, none⟩ = some (.int .u64 l) ∧ Kept W0 wx)
  case first =>
    go_region_held3 (fun w' => w'.cell? ⟨w.heap.size, 0, none⟩ = some (.bool s) ∧ w'.cell? ⟨w.heap.size, 1, none⟩ = some (.int .u64 xh) ∧ w'.cell? ⟨w.heap.size, 2, none⟩ = some (.int .u64 xl) ∧ w'.cell? ⟨w.heap.size + 1, 0, none⟩ = some (.bool s) ∧ w'.cell? ⟨w.heap.size + 1, 1, none⟩ = some (.int .u64 yh) ∧ w'.cell? ⟨w.heap.size + 1, 2, none⟩ = some (.int .u64 yl))
      ((exact Kept.all6 (by repeat (first | exact Kept.refl _ | apply Kept.drew | apply Kept.alloc | (refine Kept.setCell ?_ (by simp <;> omega) _) | (refine Kept.trans ?_ (by assumption)))) base))
      (first
        | (go_at_call 63; refine (sizeOf_any _ _ _ _).mono ?_; rintro e w1 ⟨rfl, k1⟩; (try (first | (with_reducible have nr := Room2.newD k1) | (with_reducible have nr := Room2.new k1) | (with_reducible have nr := Room2.kept nr k1))); have z1 := Kept.below k1; (try simp at z1))
        | (go_at_call 64; refine (C'.out _).mono ?_; rintro e w2 ⟨rfl, k2⟩; (try (first | (with_reducible have nr := Room2.newD k2) | (with_reducible have nr := Room2.new k2) | (with_reducible have nr := Room2.kept nr k2))); have z2 := Kept.below k2; (try simp at z2); (try (obtain ⟨nx, ny, na1, na2, nb1, nb2⟩ := nr))))
    all_goals
      go_wp2_with fail
      go_meet
      exact ⟨_, rfl, rfl, by simp [*, go_sem], by simp [*, go_sem], (by repeat (first | exact Kept.refl _ | apply Kept.drew | apply Kept.alloc | (refine Kept.setCell ?_ (by simp <;> omega) _) | (refine Kept.trans ?_ (by assumption))))⟩
  case rest =>
    obtain ⟨g, rfl, rfl, c0, c1, k⟩ := hcut
    obtain ⟨q0, q1, q2, q3, q4, q5⟩ := Kept.all6 k base
    clear base
    go_wp2_with fail
    refine (unless_ok _ _ _ _).mono ?_
    rintro e w3 ⟨rfl, k3⟩
    obtain ⟨x, y, z, a1, a2, a3, b1, b2, b3⟩ := (room.kept k).kept k3
    go_wp2
    simp [bodyPost, results, Try.results53, go_sem, *]
    exact (by repeat (first | exact Kept.refl _ | apply Kept.drew | apply Kept.alloc | (refine Kept.setCell ?_ (by simp <;> omega) _) | (refine Kept.trans ?_ (by assumption))))
set_option maxHeartbeats 800000 in
theorem Add_over (s : Bool) (xh xl yh yl h l : Int) (w : World) (C : ∀ w, Calls Try.prog 64 #[.agg #[.int .u64 xh, .int .u64 xl], .agg #[.int .u64 yh, .int .u64 yl]] w fun e w' => e = .returned (.tuple #[.agg #[.int .u64 h, .int .u64 l], .bool false]) ∧ Kept w w') :
    Calls Try.prog 53 #[.agg #[.bool s, .int .u64 xh, .int .u64 xl], .agg #[.bool s, .int .u64 yh, .int .u64 yl]] w fun e w' => e = .returned (.tuple #[.agg #[.bool false, .int .u64 0, .int .u64 0], .int .i64 10]) ∧ Kept w w' := by
  have C' := Lib.hid C
  clear C
  go_enter Try.func53, Try.ntmps53
  go_upto_region 2 with fail
  generalize hW : (World.alloc (World.alloc (World.alloc w (.cells #[.bool s, .int .u64 xh, .int .u64 xl] 64)) (.cells #[.bool s, .int .u64 yh, .int .u64 yl] 64)) (.cells #[.bool false, .int .u64 0, .int .u64 0] 64)) = W0
  have base := Lib.hid (show W0.cell? ⟨w.heap.size, 0, none⟩ = some (.bool s) ∧ W0.cell? ⟨w.heap.size, 1, none⟩ = some (.int .u64 xh) ∧ W0.cell? ⟨w.heap.size, 2, none⟩ = some (.int .u64 xl) ∧ W0.cell? ⟨w.heap.size + 1, 0, none⟩ = some (.bool s) ∧ W0.cell? ⟨w.heap.size + 1, 1, none⟩ = some (.int .u64 yh) ∧ W0.cell? ⟨w.heap.size + 1, 2, none⟩ = some (.int .u64 yl) from by subst hW; simp [go_sem])
  have room : Room3 W0 (w.heap.size + 1 + 1) := by subst hW; exact ⟨_, _, _, by first | (simp [go_sem]; done) | (simp [go_sem]; rfl), by first | (simp [go_sem]; done) | (simp [go_sem]; rfl), by first | (simp [go_sem]; done) | (simp [go_sem]; rfl), by simp [go_sem], by simp [go_sem], by simp [go_sem]⟩
  have kw : Kept w W0 := by subst hW; exact (by repeat (first | exact Kept.refl _ | apply Kept.drew | apply Kept.alloc | (refine Kept.setCell ?_ (by simp <;> omega) _) | (refine Kept.trans ?_ (by assumption))))
  have zw : w.heap.size + 3 ≤ W0.heap.size := by subst hW; simp
  clear hW
  go_cut [6, 7] (fun s6 s7 wx => ∃ g : Nat, s6 = .pointer (some ⟨g, 0, none⟩) ∧ s7 = .bool false ∧ wx.cell? ⟨g, 0, none⟩ = some (.int .u64 h) ∧ wx.cell? ⟨g, 1, none⟩ = some (.int .u64 l) ∧ Kept W0 wx)
  case first =>
    go_region_held3 (fun w' => w'.cell? ⟨w.heap.size, 0, none⟩ = some (.bool s) ∧ w'.cell? ⟨w.heap.size, 1, none⟩ = some (.int .u64 xh) ∧ w'.cell? ⟨w.heap.size, 2, none⟩ = some (.int .u64 xl) ∧ w'.cell? ⟨w.heap.size + 1, 0, none⟩ = some (.bool s) ∧ w'.cell? ⟨w.heap.size + 1, 1, none⟩ = some (.int .u64 yh) ∧ w'.cell? ⟨w.heap.size + 1, 2, none⟩ = some (.int .u64 yl))
      ((exact Kept.all6 (by repeat (first | exact Kept.refl _ | apply Kept.drew | apply Kept.alloc | (refine Kept.setCell ?_ (by simp <;> omega) _) | (refine Kept.trans ?_ (by assumption)))) base))
      (first
        | (go_at_call 63; refine (sizeOf_any _ _ _ _).mono ?_; rintro e w1 ⟨rfl, k1⟩; (try (first | (with_reducible have nr := Room2.newD k1) | (with_reducible have nr := Room2.new k1) | (with_reducible have nr := Room2.kept nr k1))); have z1 := Kept.below k1; (try simp at z1))
        | (go_at_call 64; refine (C'.out _).mono ?_; rintro e w2 ⟨rfl, k2⟩; (try (first | (with_reducible have nr := Room2.newD k2) | (with_reducible have nr := Room2.new k2) | (with_reducible have nr := Room2.kept nr k2))); have z2 := Kept.below k2; (try simp at z2); (try (obtain ⟨nx, ny, na1, na2, nb1, nb2⟩ := nr))))
    all_goals
      go_wp2_with fail
      go_meet
      exact ⟨_, rfl, rfl, by simp [*, go_sem], by simp [*, go_sem], (by repeat (first | exact Kept.refl _ | apply Kept.drew | apply Kept.alloc | (refine Kept.setCell ?_ (by simp <;> omega) _) | (refine Kept.trans ?_ (by assumption))))⟩
  case rest =>
    obtain ⟨g, rfl, rfl, c0, c1, k⟩ := hcut
    obtain ⟨q0, q1, q2, q3, q4, q5⟩ := Kept.all6 k base
    clear base
    go_wp2_with fail
    refine (unless_no _ _ _ _).mono ?_
    rintro e w3 ⟨rfl, k3⟩
    obtain ⟨x, y, z, a1, a2, a3, b1, b2, b3⟩ := (room.kept k).kept k3
    go_wp2
    simp [bodyPost, results, Try.results53, go_sem, *]
    exact (by repeat (first | exact Kept.refl _ | apply Kept.drew | apply Kept.alloc | (refine Kept.setCell ?_ (by simp <;> omega) _) | (refine Kept.trans ?_ (by assumption))))
end Go.Proofs.Ytlgpeafphanobaa
namespace Go.Proofs.Ytlgpeafphanobaa
open Go.RowKit

set_option maxHeartbeats 800000 in
theorem Add_less (b1 b2 : Bool) (xh xl yh yl h l : Int) (w : World) (hb : (b1 == b2) = false) (C : ∀ w, Calls Try.prog 69 #[.agg #[.int .u64 xh, .int .u64 xl], .agg #[.int .u64 yh, .int .u64 yl]] w fun e w' => e = .returned (.bool true) ∧ Kept w w') (D : ∀ w, Calls Try.prog 70 #[.agg #[.int .u64 yh, .int .u64 yl], .agg #[.int .u64 xh, .int .u64 xl]] w fun e w' => e = .returned (.agg #[.int .u64 h, .int .u64 l]) ∧ Kept w w') :
    Calls Try.prog 53 #[.agg #[.bool b1, .int .u64 xh, .int .u64 xl], .agg #[.bool b2, .int .u64 yh, .int .u64 yl]] w fun e w' => e = .returned (.tuple #[.agg #[.bool (b2 && nz h l), .int .u64 h, .int .u64 l], .int .i64 0]) ∧ Kept w w' := by
  have C' := Lib.hid C
  have D' := Lib.hid D
  clear C D
  go_enter Try.func53, Try.ntmps53
  go_upto_region 4 with fail
  generalize hW : (World.alloc (World.alloc (World.alloc w (.cells #[.bool b1, .int .u64 xh, .int .u64 xl] 64)) (.cells #[.bool b2, .int .u64 yh, .int .u64 yl] 64)) (.cells #[.bool false, .int .u64 0, .int .u64 0] 64)) = W0
  have base := Lib.hid (show W0.cell? ⟨w.heap.size, 0, none⟩ = some (.bool b1) ∧ W0.cell? ⟨w.heap.size, 1, none⟩ = some (.int .u64 xh) ∧ W0.cell? ⟨w.heap.size, 2, none⟩ = some (.int .u64 xl) ∧ W0.cell? ⟨w.heap.size + 1, 0, none⟩ = some (.bool b2) ∧ W0.cell? ⟨w.heap.size + 1, 1, none⟩ = some (.int .u64 yh) ∧ W0.cell? ⟨w.heap.size + 1, 2, none⟩ = some (.int .u64 yl) from by subst hW; simp [go_sem])
  have room : Room3 W0 (w.heap.size + 1 + 1) := by subst hW; exact ⟨_, _, _, by first | (simp [go_sem]; done) | (simp [go_sem]; rfl), by first | (simp [go_sem]; done) | (simp [go_sem]; rfl), by first | (simp [go_sem]; done) | (simp [go_sem]; rfl), by simp [go_sem], by simp [go_sem], by simp [go_sem]⟩
  have t0 : Thaw3 W0 (w.heap.size) := by subst hW; exact ⟨by simp [go_sem], by simp [go_sem], by simp [go_sem]⟩
  have t1 : Thaw3 W0 (w.heap.size + 1) := by subst hW; exact ⟨by simp [go_sem], by simp [go_sem], by simp [go_sem]⟩
  have kw : Kept w W0 := by subst hW; exact (by (repeat (first | with_reducible exact Kept.refl _ | with_reducible apply Kept.drew | with_reducible apply Kept.alloc | ((with_reducible apply Kept.set); focus (simp <;> omega)) | ((with_reducible apply Kept.via); focus with_reducible assumption))))
  have zw : w.heap.size + 3 ≤ W0.heap.size := by subst hW; simp
  clear hW
  go_region_held3 (fun w' => w'.cell? ⟨w.heap.size, 0, none⟩ = some (.bool b1) ∧ w'.cell? ⟨w.heap.size, 1, none⟩ = some (.int .u64 xh) ∧ w'.cell? ⟨w.heap.size, 2, none⟩ = some (.int .u64 xl) ∧ w'.cell? ⟨w.heap.size + 1, 0, none⟩ = some (.bool b2) ∧ w'.cell? ⟨w.heap.size + 1, 1, none⟩ = some (.int .u64 yh) ∧ w'.cell? ⟨w.heap.size + 1, 2, none⟩ = some (.int .u64 yl))
    ((first | (refine Kept.all6 ?_ base; focus ((repeat (first | with_reducible exact Kept.refl _ | with_reducible apply Kept.drew | with_reducible apply Kept.alloc | ((with_reducible apply Kept.set); focus (simp <;> omega)) | ((with_reducible apply Kept.via); focus with_reducible assumption))); done)) | (refine far6 (Kept.all6 (by (repeat (first | with_reducible exact Kept.refl _ | with_reducible apply Kept.drew | with_reducible apply Kept.alloc | ((with_reducible apply Kept.set); focus (simp <;> omega)) | ((with_reducible apply Kept.via); focus with_reducible assumption)))) base) ?_; focus ((repeat' apply And.intro) <;> (simp <;> omega)))))
    (first
      | (go_at_call 63; refine (sizeOf_any _ _ _ _).mono ?_; rintro e w1 ⟨rfl, k1⟩)
      | (go_at_call 69; refine (C'.out _).mono ?_; rintro e w2 ⟨rfl, k2⟩))
  have k : Kept W0 w2 := (by (repeat (first | with_reducible exact Kept.refl _ | with_reducible apply Kept.drew | with_reducible apply Kept.alloc | ((with_reducible apply Kept.set); focus (simp <;> omega)) | ((with_reducible apply Kept.via); focus with_reducible assumption))))
  obtain ⟨q0, q1, q2, q3, q4, q5⟩ := Kept.all6 k base
  have room2 := room.kept k
  have zw2 := Kept.below k
  have kw2 := kw.trans k
  clear base
  obtain ⟨f0, f1, f2⟩ := t0.kept k
  obtain ⟨f3, f4, f5⟩ := t1.kept k
  go_upto_region 6 with fail
  generalize hW : (World.setCell (World.setCell (World.setCell (World.setCell (World.setCell (World.setCell w2 ⟨w.heap.size, 0, none⟩ (.bool b2)) ⟨w.heap.size, 1, none⟩ (.int .u64 yh)) ⟨w.heap.size, 2, none⟩ (.int .u64 yl)) ⟨w.heap.size + 1, 0, none⟩ (.bool b1)) ⟨w.heap.size + 1, 1, none⟩ (.int .u64 xh)) ⟨w.heap.size + 1, 2, none⟩ (.int .u64 xl)) = W1
  have base := Lib.hid (show W1.cell? ⟨w.heap.size, 0, none⟩ = some (.bool b2) ∧ W1.cell? ⟨w.heap.size, 1, none⟩ = some (.int .u64 yh) ∧ W1.cell? ⟨w.heap.size, 2, none⟩ = some (.int .u64 yl) ∧ W1.cell? ⟨w.heap.size + 1, 0, none⟩ = some (.bool b1) ∧ W1.cell? ⟨w.heap.size + 1, 1, none⟩ = some (.int .u64 xh) ∧ W1.cell? ⟨w.heap.size + 1, 2, none⟩ = some (.int .u64 xl) from by subst hW; simp [go_sem, *])
  have room3 : Room3 W1 (w.heap.size + 1 + 1) := by subst hW; exact ((((((room2.setCell (by simp <;> omega) _).setCell (by simp <;> omega) _).setCell (by simp <;> omega) _).setCell (by simp <;> omega) _).setCell (by simp <;> omega) _).setCell (by simp <;> omega) _)
  have kw3 : Kept w W1 := by subst hW; (repeat (first | with_reducible exact Kept.refl _ | with_reducible apply Kept.drew | with_reducible apply Kept.alloc | ((with_reducible apply Kept.set); focus (simp <;> omega)) | ((with_reducible apply Kept.via); focus with_reducible assumption)))
  clear hW q0 q1 q2 q3 q4 q5 f0 f1 f2 f3 f4 f5
  go_region_held3 (fun w' => w'.cell? ⟨w.heap.size, 0, none⟩ = some (.bool b2) ∧ w'.cell? ⟨w.heap.size, 1, none⟩ = some (.int .u64 yh) ∧ w'.cell? ⟨w.heap.size, 2, none⟩ = some (.int .u64 yl) ∧ w'.cell? ⟨w.heap.size + 1, 0, none⟩ = some (.bool b1) ∧ w'.cell? ⟨w.heap.size + 1, 1, none⟩ = some (.int .u64 xh) ∧ w'.cell? ⟨w.heap.size + 1, 2, none⟩ = some (.int .u64 xl))
    ((first | (refine Kept.all6 ?_ base; focus ((repeat (first | with_reducible exact Kept.refl _ | with_reducible apply Kept.drew | with_reducible apply Kept.alloc | ((with_reducible apply Kept.set); focus (simp <;> omega)) | ((with_reducible apply Kept.via); focus with_reducible assumption))); done)) | (refine far6 (Kept.all6 (by (repeat (first | with_reducible exact Kept.refl _ | with_reducible apply Kept.drew | with_reducible apply Kept.alloc | ((with_reducible apply Kept.set); focus (simp <;> omega)) | ((with_reducible apply Kept.via); focus with_reducible assumption)))) base) ?_; focus ((repeat' apply And.intro) <;> (simp <;> omega)))))
    (first
      | (go_at_call 63; refine (sizeOf_any _ _ _ _).mono ?_; rintro e w3 ⟨rfl, k3⟩)
      | (go_at_call 70; refine (D'.out _).mono ?_; rintro e w4 ⟨rfl, k4⟩)
      | (go_at_call 65; refine (on_any _ _ _ _).mono ?_; rintro e w5 ⟨rfl, k5⟩; obtain ⟨x, y, z, a1, a2, a3, c1, c2, c3⟩ : Room3 w5 (w.heap.size + 1 + 1) := room3.kept (by (repeat (first | with_reducible exact Kept.refl _ | with_reducible apply Kept.drew | with_reducible apply Kept.alloc | ((with_reducible apply Kept.set); focus (simp <;> omega)) | ((with_reducible apply Kept.via); focus with_reducible assumption))))))
  go_wp2
  simp [bodyPost, results, Try.results53, go_sem, *]
  exact (by (repeat (first | with_reducible exact Kept.refl _ | with_reducible apply Kept.drew | with_reducible apply Kept.alloc | ((with_reducible apply Kept.set); focus (simp <;> omega)) | ((with_reducible apply Kept.via); focus with_reducible assumption))))
end Go.Proofs.Ytlgpeafphanobaa
namespace Go.Proofs.Ytlgpeafphanobaa
open Go.RowKit

set_option maxHeartbeats 800000 in
theorem Add_more (b1 b2 : Bool) (xh xl yh yl h l : Int) (w : World) (hb : (b1 == b2) = false) (C : ∀ w, Calls Try.prog 69 #[.agg #[.int .u64 xh, .int .u64 xl], .agg #[.int .u64 yh, .int .u64 yl]] w fun e w' => e = .returned (.bool false) ∧ Kept w w') (D : ∀ w, Calls Try.prog 70 #[.agg #[.int .u64 xh, .int .u64 xl], .agg #[.int .u64 yh, .int .u64 yl]] w fun e w' => e = .returned (.agg #[.int .u64 h, .int .u64 l]) ∧ Kept w w') :
    Calls Try.prog 53 #[.agg #[.bool b1, .int .u64 xh, .int .u64 xl], .agg #[.bool b2, .int .u64 yh, .int .u64 yl]] w fun e w' => e = .returned (.tuple #[.agg #[.bool (b1 && nz h l), .int .u64 h, .int .u64 l], .int .i64 0]) ∧ Kept w w' := by
  have C' := Lib.hid C
  have D' := Lib.hid D
  clear C D
  go_enter Try.func53, Try.ntmps53
  go_upto_region 4 with fail
  generalize hW : (World.alloc (World.alloc (World.alloc w (.cells #[.bool b1, .int .u64 xh, .int .u64 xl] 64)) (.cells #[.bool b2, .int .u64 yh, .int .u64 yl] 64)) (.cells #[.bool false, .int .u64 0, .int .u64 0] 64)) = W0
  have base := Lib.hid (show W0.cell? ⟨w.heap.size, 0, none⟩ = some (.bool b1) ∧ W0.cell? ⟨w.heap.size, 1, none⟩ = some (.int .u64 xh) ∧ W0.cell? ⟨w.heap.size, 2, none⟩ = some (.int .u64 xl) ∧ W0.cell? ⟨w.heap.size + 1, 0, none⟩ = some (.bool b2) ∧ W0.cell? ⟨w.heap.size + 1, 1, none⟩ = some (.int .u64 yh) ∧ W0.cell? ⟨w.heap.size + 1, 2, none⟩ = some (.int .u64 yl) from by subst hW; simp [go_sem])
  have room : Room3 W0 (w.heap.size + 1 + 1) := by subst hW; exact ⟨_, _, _, by first | (simp [go_sem]; done) | (simp [go_sem]; rfl), by first | (simp [go_sem]; done) | (simp [go_sem]; rfl), by first | (simp [go_sem]; done) | (simp [go_sem]; rfl), by simp [go_sem], by simp [go_sem], by simp [go_sem]⟩
  have t0 : Thaw3 W0 (w.heap.size) := by subst hW; exact ⟨by simp [go_sem], by simp [go_sem], by simp [go_sem]⟩
  have t1 : Thaw3 W0 (w.heap.size + 1) := by subst hW; exact ⟨by simp [go_sem], by simp [go_sem], by simp [go_sem]⟩
  have kw : Kept w W0 := by subst hW; exact (by (repeat (first | with_reducible exact Kept.refl _ | with_reducible apply Kept.drew | with_reducible apply Kept.alloc | ((with_reducible apply Kept.set); focus (simp <;> omega)) | ((with_reducible apply Kept.via); focus with_reducible assumption))))
  have zw : w.heap.size + 3 ≤ W0.heap.size := by subst hW; simp
  clear hW
  go_region_held3 (fun w' => w'.cell? ⟨w.heap.size, 0, none⟩ = some (.bool b1) ∧ w'.cell? ⟨w.heap.size, 1, none⟩ = some (.int .u64 xh) ∧ w'.cell? ⟨w.heap.size, 2, none⟩ = some (.int .u64 xl) ∧ w'.cell? ⟨w.heap.size + 1, 0, none⟩ = some (.bool b2) ∧ w'.cell? ⟨w.heap.size + 1, 1, none⟩ = some (.int .u64 yh) ∧ w'.cell? ⟨w.heap.size + 1, 2, none⟩ = some (.int .u64 yl))
    ((first | (refine Kept.all6 ?_ base; focus ((repeat (first | with_reducible exact Kept.refl _ | with_reducible apply Kept.drew | with_reducible apply Kept.alloc | ((with_reducible apply Kept.set); focus (simp <;> omega)) | ((with_reducible apply Kept.via); focus with_reducible assumption))); done)) | (refine far6 (Kept.all6 (by (repeat (first | with_reducible exact Kept.refl _ | with_reducible apply Kept.drew | with_reducible apply Kept.alloc | ((with_reducible apply Kept.set); focus (simp <;> omega)) | ((with_reducible apply Kept.via); focus with_reducible assumption)))) base) ?_; focus ((repeat' apply And.intro) <;> (simp <;> omega)))))
    (first
      | (go_at_call 63; refine (sizeOf_any _ _ _ _).mono ?_; rintro e w1 ⟨rfl, k1⟩)
      | (go_at_call 69; refine (C'.out _).mono ?_; rintro e w2 ⟨rfl, k2⟩))
  have k : Kept W0 w2 := (by (repeat (first | with_reducible exact Kept.refl _ | with_reducible apply Kept.drew | with_reducible apply Kept.alloc | ((with_reducible apply Kept.set); focus (simp <;> omega)) | ((with_reducible apply Kept.via); focus with_reducible assumption))))
  obtain ⟨q0, q1, q2, q3, q4, q5⟩ := Kept.all6 k base
  have room2 := room.kept k
  have zw2 := Kept.below k
  have kw2 := kw.trans k
  clear base
  have base := Lib.hid (And.intro q0 (And.intro q1 (And.intro q2 (And.intro q3 (And.intro q4 q5)))))
  clear q0 q1 q2 q3 q4 q5
  go_upto_region 6 with fail
  go_region_held3 (fun w' => w'.cell? ⟨w.heap.size, 0, none⟩ = some (.bool b1) ∧ w'.cell? ⟨w.heap.size, 1, none⟩ = some (.int .u64 xh) ∧ w'.cell? ⟨w.heap.size, 2, none⟩ = some (.int .u64 xl) ∧ w'.cell? ⟨w.heap.size + 1, 0, none⟩ = some (.bool b2) ∧ w'.cell? ⟨w.heap.size + 1, 1, none⟩ = some (.int .u64 yh) ∧ w'.cell? ⟨w.heap.size + 1, 2, none⟩ = some (.int .u64 yl))
    ((first | (refine Kept.all6 ?_ base; focus ((repeat (first | with_reducible exact Kept.refl _ | with_reducible apply Kept.drew | with_reducible apply Kept.alloc | ((with_reducible apply Kept.set); focus (simp <;> omega)) | ((with_reducible apply Kept.via); focus with_reducible assumption))); done)) | (refine far6 (Kept.all6 (by (repeat (first | with_reducible exact Kept.refl _ | with_reducible apply Kept.drew | with_reducible apply Kept.alloc | ((with_reducible apply Kept.set); focus (simp <;> omega)) | ((with_reducible apply Kept.via); focus with_reducible assumption)))) base) ?_; focus ((repeat' apply And.intro) <;> (simp <;> omega)))))
    (first
      | (go_at_call 63; refine (sizeOf_any _ _ _ _).mono ?_; rintro e w3 ⟨rfl, k3⟩)
      | (go_at_call 70; refine (D'.out _).mono ?_; rintro e w4 ⟨rfl, k4⟩)
      | (go_at_call 65; refine (on_any _ _ _ _).mono ?_; rintro e w5 ⟨rfl, k5⟩; obtain ⟨x, y, z, a1, a2, a3, c1, c2, c3⟩ : Room3 w5 (w.heap.size + 1 + 1) := room2.kept (by (repeat (first | with_reducible exact Kept.refl _ | with_reducible apply Kept.drew | with_reducible apply Kept.alloc | ((with_reducible apply Kept.set); focus (simp <;> omega)) | ((with_reducible apply Kept.via); focus with_reducible assumption))))))
  go_wp2
  simp [bodyPost, results, Try.results53, go_sem, *]
  exact (by (repeat (first | with_reducible exact Kept.refl _ | with_reducible apply Kept.drew | with_reducible apply Kept.alloc | ((with_reducible apply Kept.set); focus (simp <;> omega)) | ((with_reducible apply Kept.via); focus with_reducible assumption))))
end Go.Proofs.Ytlgpeafphanobaa
