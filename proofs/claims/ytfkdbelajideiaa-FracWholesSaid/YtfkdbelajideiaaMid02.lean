/-
  Contracts of Neg, plain and Of.
-/
import Derived.Test.YtfkdbelajideiaaLeaf02
import Derived.Deep.RegionHeld3
namespace Go.Proofs.Ytfkdbelajideiaa
open Go.RowKit

set_option maxHeartbeats 400000 in
theorem plain_any (b : Bool) (h l : Int) (w : World) :
    Calls Try.prog 61 #[.agg #[.bool b, .int .u64 h, .int .u64 l]] w fun e w' => e = .returned (.agg #[.bool (b && nz h l), .int .u64 h, .int .u64 l]) ∧ Kept w w' := by
  go_enter Try.func61, Try.ntmps61
  go_wp2
  go_region_held3 (fun w' => w'.cell? ⟨w.heap.size, 0, none⟩ = some (.bool b) ∧ w'.cell? ⟨w.heap.size, 1, none⟩ = some (.int .u64 h) ∧ w'.cell? ⟨w.heap.size, 2, none⟩ = some (.int .u64 l))
    ((refine ⟨?_, ?_, ?_⟩ <;> first | (refine Kept.read (by assumption) ?_; simp only [*]) | (simp [*, go_sem, World.cell?_alloc_past]; done)))
    (first
      | (go_at_call 46; refine (sizeOf_any _ _ _ _).mono ?_; rintro e w1 ⟨rfl, k1⟩)
      | (go_at_call 48; refine (on_any _ _ _ _).mono ?_; rintro e w2 ⟨rfl, k2⟩
         obtain ⟨x, y, z, a1, a2, a3, b1, b2, b3⟩ : Room3 w2 (w.heap.size + 1) := (Room3.kept (by exact ⟨_, _, _, by simp [go_sem]; rfl, by simp [go_sem]; rfl, by simp [go_sem]; rfl, by simp [go_sem], by simp [go_sem], by simp [go_sem]⟩) k1).kept k2))
  go_wp2
  simp [bodyPost, results, Try.results61, go_sem, *]
  exact (by repeat (first | exact Kept.refl _ | apply Kept.drew | apply Kept.alloc | (refine Kept.setCell ?_ (by simp) _) | (refine Kept.trans ?_ (by assumption))))

set_option maxHeartbeats 400000 in
theorem Of_any (n m : Int) (w : World) (s : Bool) (hs : decide (n < 0) = s) (C : ∀ w, Calls Try.prog 50 #[.int .i64 n] w fun e w' => e = .returned (.int .u64 m) ∧ w = w') :
    Calls Try.prog 39 #[.int .i64 n] w fun e w' => e = .returned (.agg #[.bool (s && nz 0 m), .int .u64 0, .int .u64 m]) ∧ Kept w w' := by
  have C' := Lib.hid C
  clear C
  go_enter Try.func39, Try.ntmps39
  go_wp2_with fail
  refine (C'.out _).mono ?_
  rintro e w1 ⟨rfl, rfl⟩
  go_wp2_with fail
  refine (on_any _ _ _ _).mono ?_
  rintro e w1 ⟨rfl, k1⟩
  obtain ⟨x, y, z, a1, a2, a3, b1, b2, b3⟩ : Room3 w1 w.heap.size := Room3.kept (by exact ⟨_, _, _, by simp [go_sem]; rfl, by simp [go_sem]; rfl, by simp [go_sem]; rfl, by simp [go_sem], by simp [go_sem], by simp [go_sem]⟩) k1
  go_wp2
  simp [bodyPost, results, Try.results39, go_sem, *]
  exact (by repeat (first | exact Kept.refl _ | apply Kept.drew | apply Kept.alloc | (refine Kept.setCell ?_ (by simp) _) | (refine Kept.trans ?_ (by assumption))))

end Go.Proofs.Ytfkdbelajideiaa
