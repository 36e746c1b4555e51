/-
  What the calls of package epoch do.
-/
import Derived.Test.YtmafibibpjmjbaaCon11
import Derived.Test.YtmafibibpjmjbaaPartA04
import Derived.Test.YtmafibibpjmjbaaRoot03
import Derived.Test.YtmafibibpjmjbaaSemA02
import Derived.Test.YtmafibibpjmjbaaOne01
import Derived.OwnWalk
import Derived.Laws.StructEq
import Derived.Deep.RegionHeld3
import Derived.Deep.DeepCutAuto
namespace Go.Proofs.Ytmafibibpjmjbaa
open Go.RowKit Go.BigFrame
set_option linter.unusedVariables false

/-- A big number that lies in a block, which may be written. -/
def RB (w : World) (g : Nat) (b : Bool) (h l : Int) : Prop := (w.cell? ⟨g, 0, none⟩ = some (.bool b) ∧ w.cell? ⟨g, 1, none⟩ = some (.int .u64 h) ∧ w.cell? ⟨g, 2, none⟩ = some (.int .u64 l)) ∧ w.frozen? ⟨g, 0, none⟩ = false ∧ w.frozen? ⟨g, 1, none⟩ = false ∧ w.frozen? ⟨g, 2, none⟩ = false
theorem RB.kept {w w' : World} {g : Nat} {b : Bool} {h l : Int} (r : RB w g b h l) (k : Kept w w') : RB w' g b h l := by
  obtain ⟨⟨c0, c1, c2⟩, f0, f1, f2⟩ := r
  exact ⟨⟨k.read c0, k.read c1, k.read c2⟩, k.thaw f0, k.thaw f1, k.thaw f2⟩
theorem rb_new (w : World) (b : Bool) (h l : Int) (t : TypeId) : RB (w.alloc (.cells #[.bool b, .int .u64 h, .int .u64 l] t)) w.heap.size b h l := ⟨⟨by simp [go_sem], by simp [go_sem], by simp [go_sem]⟩, by simp [go_sem], by simp [go_sem], by simp [go_sem]⟩
theorem rb_store {w : World} {g : Nat} {b0 b : Bool} {h0 l0 h l : Int} (r : RB w g b0 h0 l0) : RB (World.setCell (World.setCell (World.setCell w ⟨g, 0, none⟩ (.bool b)) ⟨g, 1, none⟩ (.int .u64 h)) ⟨g, 2, none⟩ (.int .u64 l)) g b h l := by
  obtain ⟨⟨c0, c1, c2⟩, f0, f1, f2⟩ := r
  exact ⟨⟨by simp [go_sem, *], by simp [go_sem, *], by simp [go_sem, *]⟩, by simp [go_sem, *], by simp [go_sem, *], by simp [go_sem, *]⟩
theorem tens_at0 (w : World) : (Instr.index 59 (.agg #[.int .u64 10, .int .u64 1000000, .int .u64 1000000, .int .u64 1000000]) (.int .i64 0)).run Try.prog w = .ok (.int .u64 10) w := by rfl
theorem tens_at1 (w : World) : (Instr.index 59 (.agg #[.int .u64 10, .int .u64 1000000, .int .u64 1000000, .int .u64 1000000]) (.int .i64 1)).run Try.prog w = .ok (.int .u64 1000000) w := by rfl
theorem tens_at2 (w : World) : (Instr.index 59 (.agg #[.int .u64 10, .int .u64 1000000, .int .u64 1000000, .int .u64 1000000]) (.int .i64 2)).run Try.prog w = .ok (.int .u64 1000000) w := by rfl
theorem tens_at3 (w : World) : (Instr.index 59 (.agg #[.int .u64 10, .int .u64 1000000, .int .u64 1000000, .int .u64 1000000]) (.int .i64 3)).run Try.prog w = .ok (.int .u64 1000000) w := by rfl
set_option maxRecDepth 100000 in
set_option maxHeartbeats 1600000 in
theorem efa_up {l n : Int} (d0 : decide (l ≤ n) = true) (w : World) : Calls Try.prog 24 #[.int .i64 l, .int .i64 n] w fun e w' => e = .returned (.int .i64 n) ∧ Kept w w' := by
  go_enter Try.func24, Try.ntmps24
  go_wp2
  go_ret
  exact ⟨rfl, (by (repeat (first | with_reducible exact Kept.refl _ | with_reducible apply Kept.drew | with_reducible apply Kept.alloc | ((with_reducible apply Kept.set); focus (simp <;> omega)) | ((with_reducible apply Kept.via); focus with_reducible assumption))))⟩
set_option maxRecDepth 100000 in
set_option maxHeartbeats 1600000 in
theorem efa_dn {l n v : Int} (d0 : decide (l ≤ n) = false) (P : ∀ w, Calls Try.prog 29 #[.int .i64 (max n 0), .int .i64 17, .int .i64 20] w fun e w' => e = .returned (.tuple #[.int .i64 v, .int .i64 0]) ∧ Kept w w') (w : World) : Calls Try.prog 24 #[.int .i64 l, .int .i64 n] w fun e w' => e = .returned (.int .i64 v) ∧ Kept w w' := by
  have P' := Lib.hid P
  clear P
  go_enter Try.func24, Try.ntmps24
  go_wp2_with fail
  refine (P'.out _).mono ?_
  rintro e w1 ⟨rfl, k1⟩
  go_wp2
  go_ret
  exact ⟨rfl, (by (repeat (first | with_reducible exact Kept.refl _ | with_reducible apply Kept.drew | with_reducible apply Kept.alloc | ((with_reducible apply Kept.set); focus (simp <;> omega)) | ((with_reducible apply Kept.via); focus with_reducible assumption))))⟩
theorem efast_c : EFastC := fun l n v hl hn e w => by
  unfold fastN at e
  by_cases h : l ≤ n
  · rw [if_pos h] at e
    subst e
    exact efa_up (by simp [h]) w
  · rw [if_neg h] at e
    have q : max n 0 * 17 / 20 = v := by split at e <;> omega
    have iv : In64 v := by unfold In64 at *; omega
    exact efa_dn (by simp; omega) (fun w => Floor_ok (by unfold In64 at *; omega) (by unfold In64; omega) (by unfold In64; omega) (by rw [q]; exact part_yes (by omega) iv) w) w
end Go.Proofs.Ytmafibibpjmjbaa
