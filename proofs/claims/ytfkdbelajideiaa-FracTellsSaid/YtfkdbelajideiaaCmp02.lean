/-
  Contracts of Cmp of package big.
-/
import Derived.Test.YtfkdbelajideiaaBelow02
import Derived.Deep.RegionHeld3
import Derived.Deep.RegionWith
import Derived.Deep.DeepCutAuto
namespace Go.Proofs.Ytfkdbelajideiaa
open Go.RowKit

theorem Thaw3.both {w1 w2 : World} {b c : Nat} (k : Kept w1 w2) (h : Thaw3 w1 b) (h' : Thaw3 w1 c) : w2.frozen? ⟨b, 0, none⟩ = false ∧ w2.frozen? ⟨b, 1, none⟩ = false ∧ w2.frozen? ⟨b, 2, none⟩ = false ∧ w2.frozen? ⟨c, 0, none⟩ = false ∧ w2.frozen? ⟨c, 1, none⟩ = false ∧ w2.frozen? ⟨c, 2, none⟩ = false :=
  ⟨k.thaw h.1, k.thaw h.2.1, k.thaw h.2.2, k.thaw h'.1, k.thaw h'.2.1, k.thaw h'.2.2⟩
set_option maxHeartbeats 1600000 in
theorem Cmp_any (b1 b2 c1 c2 : Bool) (xh xl yh yl : Int) (r : Int) (w : World) (e1 : (b1 && nz xh xl) = c1) (e2 : (b2 && nz yh yl) = c2)
    (C : (c1 = c2 ∧ xh = yh ∧ xl = yl ∧ r = 0) ∨ (¬ (c1 = c2 ∧ xh = yh ∧ xl = yl) ∧ ∃ v : Bool, r = (if v then -1 else 1) ∧ ∀ w, Calls Try.prog 62 #[.agg #[.bool c1, .int .u64 xh, .int .u64 xl], .agg #[.bool c2, .int .u64 yh, .int .u64 yl]] w fun e w' => e = .returned (.bool v) ∧ Kept w w')) :
    Calls Try.prog 55 #[.agg #[.bool b1, .int .u64 xh, .int .u64 xl], .agg #[.bool b2, .int .u64 yh, .int .u64 yl]] w fun e w' => e = .returned (.int .i64 r) ∧ Kept w w' := by
  have E1 := Lib.hid e1
  have E2 := Lib.hid e2
  have C' := Lib.hid C
  clear e1 e2 C
  go_enter Try.func55, Try.ntmps55
  go_upto_region 1 with fail
  generalize hW : (World.alloc (World.alloc w (.cells #[.bool b1, .int .u64 xh, .int .u64 xl] 31)) (.cells #[.bool b2, .int .u64 yh, .int .u64 yl] 31)) = W0
  have base := Lib.hid (show W0.cell? ⟨w.heap.size, 0, none⟩ = some (.bool b1) ∧ W0.cell? ⟨w.heap.size, 1, none⟩ = some (.int .u64 xh) ∧ W0.cell? ⟨w.heap.size, 2, none⟩ = some (.int .u64 xl) ∧ W0.cell? ⟨w.heap.size + 1, 0, none⟩ = some (.bool b2) ∧ W0.cell? ⟨w.heap.size + 1, 1, none⟩ = some (.int .u64 yh) ∧ W0.cell? ⟨w.heap.size + 1, 2, none⟩ = some (.int .u64 yl) from by subst hW; simp [go_sem])
  have t0 : Thaw3 W0 (w.heap.size) := by subst hW; exact ⟨by simp [go_sem], by simp [go_sem], by simp [go_sem]⟩
  have t1 : Thaw3 W0 (w.heap.size + 1) := by subst hW; exact ⟨by simp [go_sem], by simp [go_sem], by simp [go_sem]⟩
  have kw : Kept w W0 := by subst hW; exact (by (repeat (first | with_reducible exact Kept.refl _ | with_reducible apply Kept.drew | with_reducible apply Kept.alloc | ((with_reducible apply Kept.set); focus (simp <;> omega)) | ((with_reducible apply Kept.via); focus with_reducible assumption))))
  have zw : w.heap.size + 2 ≤ W0.heap.size := by subst hW; simp
  clear hW
  obtain ⟨q0, q1, q2, q3, q4, q5⟩ := Kept.all6 (Kept.refl _) base
  go_cut [4] (fun s4 wx => s4 = .int .i64 0 ∧ wx.cell? ⟨w.heap.size, 0, none⟩ = some (.bool (b1 && nz xh xl)) ∧ wx.cell? ⟨w.heap.size, 1, none⟩ = some (.int .u64 xh) ∧ wx.cell? ⟨w.heap.size, 2, none⟩ = some (.int .u64 xl) ∧ wx.cell? ⟨w.heap.size + 1, 0, none⟩ = some (.bool (b2 && nz yh yl)) ∧ wx.cell? ⟨w.heap.size + 1, 1, none⟩ = some (.int .u64 yh) ∧ wx.cell? ⟨w.heap.size + 1, 2, none⟩ = some (.int .u64 yl) ∧ Kept w wx)
  case first =>
    go_region_with (first
      | (go_at_call 61; refine (plain_any _ _ _ _).mono ?_; rintro e w1 ⟨rfl, k1⟩
         obtain ⟨q0, q1, q2, q3, q4, q5⟩ := Kept.all6 (show Kept W0 w1 from (by (repeat (first | with_reducible exact Kept.refl _ | with_reducible apply Kept.drew | with_reducible apply Kept.alloc | ((with_reducible apply Kept.set); focus (simp <;> omega)) | ((with_reducible apply Kept.via); focus with_reducible assumption))))) base
         obtain ⟨g0, g1, g2, g3, g4, g5⟩ := Thaw3.both (show Kept W0 w1 from (by (repeat (first | with_reducible exact Kept.refl _ | with_reducible apply Kept.drew | with_reducible apply Kept.alloc | ((with_reducible apply Kept.set); focus (simp <;> omega)) | ((with_reducible apply Kept.via); focus with_reducible assumption))))) t0 t1))
    all_goals
      go_wp2_with fail
      go_meet
      refine ⟨rfl, by simp [*, go_sem], by simp [*, go_sem], by simp [*, go_sem], by simp [*, go_sem], by simp [*, go_sem], by simp [*, go_sem], ?_⟩
      (repeat (first | with_reducible exact Kept.refl _ | with_reducible apply Kept.drew | with_reducible apply Kept.alloc | ((with_reducible apply Kept.set); focus (simp <;> omega)) | ((with_reducible apply Kept.via); focus with_reducible assumption)))
  case rest =>
    obtain ⟨rfl, r0, r1, r2, r3, r4, r5, k⟩ := hcut
    rw [E1.out] at r0
    rw [E2.out] at r3
    rcases C'.out with ⟨rfl, rfl, rfl, rfl⟩ | ⟨hne, v, rfl, D⟩
    · go_wp2
      go_ret
      exact ⟨rfl, (by (repeat (first | with_reducible exact Kept.refl _ | with_reducible apply Kept.drew | with_reducible apply Kept.alloc | ((with_reducible apply Kept.set); focus (simp <;> omega)) | ((with_reducible apply Kept.via); focus with_reducible assumption))))⟩
    · have D' := Lib.hid D
      clear D C' E1 E2
      by_cases h1 : c1 = c2
      · subst h1
        by_cases h2 : xh = yh
        · subst h2
          have h3 : ¬ xl = yl := fun e => hne ⟨rfl, rfl, e⟩
          clear hne
          have h4 : (xl == yl) = false := by simp [h3]
          go_wp2_with fail
          refine (D'.out _).mono ?_
          rintro e w3 ⟨rfl, k3⟩
          cases v
          all_goals
            go_wp2
            go_ret
            exact ⟨rfl, (by (repeat (first | with_reducible exact Kept.refl _ | with_reducible apply Kept.drew | with_reducible apply Kept.alloc | ((with_reducible apply Kept.set); focus (simp <;> omega)) | ((with_reducible apply Kept.via); focus with_reducible assumption))))⟩
        · clear hne
          have h4 : (xh == yh) = false := by simp [h2]
          go_wp2_with fail
          refine (D'.out _).mono ?_
          rintro e w3 ⟨rfl, k3⟩
          cases v
          all_goals
            go_wp2
            go_ret
            exact ⟨rfl, (by (repeat (first | with_reducible exact Kept.refl _ | with_reducible apply Kept.drew | with_reducible apply Kept.alloc | ((with_reducible apply Kept.set); focus (simp <;> omega)) | ((with_reducible apply Kept.via); focus with_reducible assumption))))⟩
      · clear hne
        have h4 : (c1 == c2) = false := by simp [h1]
        go_wp2_with fail
        refine (D'.out _).mono ?_
        rintro e w3 ⟨rfl, k3⟩
        cases v
        all_goals
          go_wp2
          go_ret
          exact ⟨rfl, (by (repeat (first | with_reducible exact Kept.refl _ | with_reducible apply Kept.drew | with_reducible apply Kept.alloc | ((with_reducible apply Kept.set); focus (simp <;> omega)) | ((with_reducible apply Kept.via); focus with_reducible assumption))))⟩
end Go.Proofs.Ytfkdbelajideiaa
