/-
  In one text: Bits, Leaf02, Mid02.
-/
import Derived.Test.YtdbikeehoildlaaDoorRows
import Derived.Test.YtdbikeehoildlaaDoorWide
import Derived.Test.YtdbikeehoildlaaDoorShelf
import Derived.Shelf.Spec.BitsCarry
import Derived.WalkKit
import Derived.WalkSpells
import Derived.Lib.Hide
import Derived.WalkLawsBesides
import Derived.Deep.RegionHeld3
namespace Go.Proofs.YtdbikeehoildlaaDoor
open Go.RowKit

theorem add64 (x y c : Int) (hx : 0 ≤ x) (hy : 0 ≤ y) (hc0 : 0 ≤ c) (hc : c ≤ 1) (w : World) : (callFunc 79 #[.int .u64 x, .int .u64 y, .int .u64 c]).run Tryd.prog w =
    .ok (.value (.tuple #[.int .u64 ((x + y + c) % 18446744073709551616), .int .u64 ((x + y + c) / 18446744073709551616)])) w := by
  obtain ⟨x, rfl⟩ := Int.eq_ofNat_of_zero_le hx
  obtain ⟨y, rfl⟩ := Int.eq_ofNat_of_zero_le hy
  obtain ⟨c, rfl⟩ := Int.eq_ofNat_of_zero_le hc0
  rw [run_callFunc_extern Tryd.func79 (by kernel_rfl) (by kernel_rfl) (by kernel_rfl) (e := add64Entry) (by kernel_rfl), run_add64 x y c (by omega) (by omega) (by omega) (by omega)]
  simp only [Result.andThen]
theorem add64_0 (x y : Int) (hx : 0 ≤ x) (hy : 0 ≤ y) (w : World) : (callFunc 79 #[.int .u64 x, .int .u64 y, .int .u64 0]).run Tryd.prog w =
    .ok (.value (.tuple #[.int .u64 ((x + y) % 18446744073709551616), .int .u64 ((x + y) / 18446744073709551616)])) w := by
  simpa using add64 x y 0 hx hy (Int.le_refl 0) (by decide) w

/-- What is borrowed. -/
def bor (x y : Int) : Int := if x < y then 1 else 0
theorem bor_le (x y : Int) : 0 ≤ bor x y ∧ bor x y ≤ 1 := by unfold bor; split <;> omega
theorem mul64 (x y : Int) (hx : Word x) (hy : Word y) (w : World) :
    Calls Tryd.prog 50 #[.int .u64 x, .int .u64 y] w fun e w' => e = .returned (.tuple #[.int .u64 (x * y / 18446744073709551616), .int .u64 (x * y % 18446744073709551616)]) ∧ w = w' := by
  obtain ⟨hx0, hx1⟩ := hx
  obtain ⟨hy0, hy1⟩ := hy
  obtain ⟨x, rfl⟩ := Int.eq_ofNat_of_zero_le hx0
  obtain ⟨y, rfl⟩ := Int.eq_ofNat_of_zero_le hy0
  refine (Tryd.bits_Mul64 x y (by omega) (by omega) w).mono ?_
  rintro e w' ⟨rfl, rfl⟩
  exact ⟨by simp, rfl⟩

theorem lead64 (x : Int) (hx : Word x) (w : World) :
    Calls Tryd.prog 82 #[.int .u64 x] w fun e w' => e = .returned (.int .i64 (64 - (Lib.bitLen x.toNat : Int))) ∧ w = w' := by
  unfold Word at hx
  exact (Tryd.bits_LeadingZeros64 x w hx.1 (by omega)).mono fun _ _ h => ⟨h.1, h.2.symm⟩

end Go.Proofs.YtdbikeehoildlaaDoor
namespace Go.Proofs.YtdbikeehoildlaaDoor
open Go.RowKit

set_option maxHeartbeats 400000 in
theorem sizeOf_any (b : Bool) (h l : Int) (w : World) :
    Calls Tryd.prog 68 #[.agg #[.bool b, .int .u64 h, .int .u64 l]] w fun e w' => e = .returned (.agg #[.int .u64 h, .int .u64 l]) ∧ Kept w w' := by
  go_enter Tryd.func68, Tryd.ntmps68
  go_wp2
  simp [bodyPost, results, Tryd.results68, go_sem]
  exact (by repeat (first | exact Kept.refl _ | apply Kept.drew | apply Kept.alloc))

set_option maxHeartbeats 400000 in
theorem on_false (h l : Int) (w : World) :
    Calls Tryd.prog 52 #[.bool false, .agg #[.int .u64 h, .int .u64 l]] w fun e w' => e = .returned (.agg #[.bool false, .int .u64 h, .int .u64 l]) ∧ Kept w w' := by
  go_enter Tryd.func52, Tryd.ntmps52
  go_wp2
  go_region
  go_wp2
  simp [bodyPost, results, Tryd.results52, go_sem]
  exact (by repeat (first | exact Kept.refl _ | apply Kept.drew | apply Kept.alloc))
set_option maxHeartbeats 400000 in
theorem on_zero (w : World) :
    Calls Tryd.prog 52 #[.bool true, .agg #[.int .u64 0, .int .u64 0]] w fun e w' => e = .returned (.agg #[.bool false, .int .u64 0, .int .u64 0]) ∧ Kept w w' := by
  go_enter Tryd.func52, Tryd.ntmps52
  go_wp2
  go_region
  go_wp2
  simp [bodyPost, results, Tryd.results52, go_sem]
  exact (by repeat (first | exact Kept.refl _ | apply Kept.drew | apply Kept.alloc))
set_option maxHeartbeats 400000 in
theorem on_true (h l : Int) (w : World) (hn : ¬ (h = 0 ∧ l = 0)) :
    Calls Tryd.prog 52 #[.bool true, .agg #[.int .u64 h, .int .u64 l]] w fun e w' => e = .returned (.agg #[.bool true, .int .u64 h, .int .u64 l]) ∧ Kept w w' := by
  by_cases hh : h = 0
  · subst hh
    have hl : ¬ l = 0 := fun e => hn ⟨rfl, e⟩
    clear hn
    go_enter Tryd.func52, Tryd.ntmps52
    go_wp2
    go_region
    go_wp2
    simp [bodyPost, results, Tryd.results52, go_sem]
    exact (by repeat (first | exact Kept.refl _ | apply Kept.drew | apply Kept.alloc))
  · clear hn
    go_enter Tryd.func52, Tryd.ntmps52
    go_wp2
    go_region
    go_wp2
    simp [bodyPost, results, Tryd.results52, go_sem]
    exact (by repeat (first | exact Kept.refl _ | apply Kept.drew | apply Kept.alloc))
theorem on_any (s : Bool) (h l : Int) (w : World) :
    Calls Tryd.prog 52 #[.bool s, .agg #[.int .u64 h, .int .u64 l]] w fun e w' => e = .returned (.agg #[.bool (s && nz h l), .int .u64 h, .int .u64 l]) ∧ Kept w w' := by
  cases s
  · rw [Bool.false_and]; exact on_false h l w
  · rw [Bool.true_and]
    by_cases hn : h = 0 ∧ l = 0
    · obtain ⟨rfl, rfl⟩ := hn; exact on_zero w
    · have : nz h l = true := by unfold nz; simp; omega
      rw [this]; exact on_true h l w hn

set_option maxHeartbeats 400000 in
theorem less_hi (xh xl yh yl : Int) (w : World) (h : (xh != yh) = true) :
    Calls Tryd.prog 69 #[.agg #[.int .u64 xh, .int .u64 xl], .agg #[.int .u64 yh, .int .u64 yl]] w fun e w' => e = .returned (.bool (decide (xh < yh))) ∧ Kept w w' := by
  go_enter Tryd.func69, Tryd.ntmps69
  go_wp2
  go_ret
  exact ⟨rfl, (by repeat (first | exact Kept.refl _ | apply Kept.drew | apply Kept.alloc))⟩
set_option maxHeartbeats 400000 in
theorem less_lo (xh xl yl : Int) (w : World) :
    Calls Tryd.prog 69 #[.agg #[.int .u64 xh, .int .u64 xl], .agg #[.int .u64 xh, .int .u64 yl]] w fun e w' => e = .returned (.bool (decide (xl < yl))) ∧ Kept w w' := by
  go_enter Tryd.func69, Tryd.ntmps69
  go_wp2
  go_ret
  exact ⟨rfl, (by repeat (first | exact Kept.refl _ | apply Kept.drew | apply Kept.alloc))⟩

set_option maxHeartbeats 400000 in
theorem sum_raw (xh xl yh yl : Int) (w : World) (h1 : Word xh) (h2 : Word xl) (h3 : Word yh) (h4 : Word yl) :
    Calls Tryd.prog 74 #[.agg #[.int .u64 xh, .int .u64 xl], .agg #[.int .u64 yh, .int .u64 yl]] w fun e w' =>
      e = .returned (.tuple #[.agg #[.int .u64 ((xh + yh + (xl + yl) / 18446744073709551616) % 18446744073709551616), .int .u64 ((xl + yl) % 18446744073709551616)], .bool ((xh + yh + (xl + yl) / 18446744073709551616) / 18446744073709551616 == 0)]) ∧ Kept w w' := by
  obtain ⟨a1, a2⟩ := h1; obtain ⟨b1, b2⟩ := h2; obtain ⟨c1, c2⟩ := h3; obtain ⟨d1, d2⟩ := h4
  have k0 : 0 ≤ (xl + yl) / 18446744073709551616 := by omega
  have k1 : (xl + yl) / 18446744073709551616 ≤ 1 := by omega
  go_enter Tryd.func74, Tryd.ntmps74
  go_wp2_with (first | simp only [add64_0 xl yl b1 d1] | simp only [add64 xh yh _ a1 c1 k0 k1])
  simp [bodyPost, results, Tryd.results74, go_sem]
  exact (by repeat (first | exact Kept.refl _ | apply Kept.drew | apply Kept.alloc))

set_option maxHeartbeats 400000 in
theorem magnitude_neg (n : Int) (w : World) (h : n < 0) (h' : -9223372036854775808 ≤ n) :
    Calls Tryd.prog 51 #[.int .i64 n] w fun e w' => e = .returned (.int .u64 (-n)) ∧ w = w' := by
  go_enter Tryd.func51, Tryd.ntmps51
  go_wp2
  go_ret
  refine ⟨?_, rfl⟩
  show Ending.returned (.int .u64 (IntKind.u64.wrap (-IntKind.u64.wrap n))) = _
  rw [IntKind.wrap_u64, IntKind.wrap_u64]
  exact congrArg (fun k => Ending.returned (.int .u64 k)) (by omega)
set_option maxHeartbeats 400000 in
theorem magnitude_pos (n : Int) (w : World) (h : ¬ n < 0) (h' : n ≤ 9223372036854775807) :
    Calls Tryd.prog 51 #[.int .i64 n] w fun e w' => e = .returned (.int .u64 n) ∧ w = w' := by
  go_enter Tryd.func51, Tryd.ntmps51
  go_wp2
  go_ret
  exact ⟨rfl, rfl⟩

set_option maxHeartbeats 800000 in
theorem product_raw (xh xl n : Int) (w : World) (h1 : Word xh) (h2 : Word xl) (h3 : Word n) :
    Calls Tryd.prog 71 #[.agg #[.int .u64 xh, .int .u64 xl], .int .u64 n] w fun e w' =>
      e = .returned (.tuple #[.agg #[.int .u64 ((xh * n % 18446744073709551616 + xl * n / 18446744073709551616) % 18446744073709551616), .int .u64 (xl * n % 18446744073709551616)], .bool ((xh * n / 18446744073709551616 == 0) && ((xh * n % 18446744073709551616 + xl * n / 18446744073709551616) / 18446744073709551616 == 0))]) ∧ Kept w w' := by
  have k0 : 0 ≤ xh * n % 18446744073709551616 := by omega
  have k1 : 0 ≤ xl * n / 18446744073709551616 := Int.ediv_nonneg (Int.mul_nonneg h2.1 h3.1) (by decide)
  have M1 := Lib.hid (fun w => mul64 xl n h2 h3 w)
  have M2 := Lib.hid (fun w => mul64 xh n h1 h3 w)
  clear h1 h2 h3
  generalize xl * n % 18446744073709551616 = a at *
  generalize xl * n / 18446744073709551616 = b at *
  generalize xh * n % 18446744073709551616 = c at *
  generalize xh * n / 18446744073709551616 = d at *
  go_enter Tryd.func71, Tryd.ntmps71
  go_wp2_with fail
  refine (M1.out _).mono ?_
  rintro e w' ⟨rfl, rfl⟩
  go_wp2_with fail
  refine (M2.out _).mono ?_
  rintro e w' ⟨rfl, rfl⟩
  go_wp2_with (simp only [add64_0 c b k0 k1])
  all_goals
    simp [bodyPost, results, Tryd.results71, go_sem, *]
    exact (by repeat (first | exact Kept.refl _ | apply Kept.drew | apply Kept.alloc))

end Go.Proofs.YtdbikeehoildlaaDoor
namespace Go.Proofs.YtdbikeehoildlaaDoor
open Go.RowKit

set_option maxHeartbeats 400000 in
theorem plain_any (b : Bool) (h l : Int) (w : World) :
    Calls Tryd.prog 48 #[.agg #[.bool b, .int .u64 h, .int .u64 l]] w fun e w' => e = .returned (.agg #[.bool (b && nz h l), .int .u64 h, .int .u64 l]) ∧ Kept w w' := by
  go_enter Tryd.func48, Tryd.ntmps48
  go_wp2
  go_region_held3 (fun w' => w'.cell? ⟨w.heap.size, 0, none⟩ = some (.bool b) ∧ w'.cell? ⟨w.heap.size, 1, none⟩ = some (.int .u64 h) ∧ w'.cell? ⟨w.heap.size, 2, none⟩ = some (.int .u64 l))
    ((refine ⟨?_, ?_, ?_⟩ <;> first | (refine Kept.read (by assumption) ?_; simp only [*]) | (simp [*, go_sem, World.cell?_alloc_past]; done)))
    (first
      | (go_at_call 68; refine (sizeOf_any _ _ _ _).mono ?_; rintro e w1 ⟨rfl, k1⟩)
      | (go_at_call 52; refine (on_any _ _ _ _).mono ?_; rintro e w2 ⟨rfl, k2⟩
         obtain ⟨x, y, z, a1, a2, a3, b1, b2, b3⟩ : Room3 w2 (w.heap.size + 1) := (Room3.kept (by exact ⟨_, _, _, by simp [go_sem]; rfl, by simp [go_sem]; rfl, by simp [go_sem]; rfl, by simp [go_sem], by simp [go_sem], by simp [go_sem]⟩) k1).kept k2))
  go_wp2
  simp [bodyPost, results, Tryd.results48, go_sem, *]
  exact (by repeat (first | exact Kept.refl _ | apply Kept.drew | apply Kept.alloc | (refine Kept.setCell ?_ (by simp) _) | (refine Kept.trans ?_ (by assumption))))

set_option maxHeartbeats 400000 in
theorem Of_any (n m : Int) (w : World) (s : Bool) (hs : decide (n < 0) = s) (C : ∀ w, Calls Tryd.prog 51 #[.int .i64 n] w fun e w' => e = .returned (.int .u64 m) ∧ w = w') :
    Calls Tryd.prog 60 #[.int .i64 n] w fun e w' => e = .returned (.agg #[.bool (s && nz 0 m), .int .u64 0, .int .u64 m]) ∧ Kept w w' := by
  have C' := Lib.hid C
  clear C
  go_enter Tryd.func60, Tryd.ntmps60
  go_wp2_with fail
  refine (C'.out _).mono ?_
  rintro e w1 ⟨rfl, rfl⟩
  go_wp2_with fail
  refine (on_any _ _ _ _).mono ?_
  rintro e w1 ⟨rfl, k1⟩
  obtain ⟨x, y, z, a1, a2, a3, b1, b2, b3⟩ : Room3 w1 w.heap.size := Room3.kept (by exact ⟨_, _, _, by simp [go_sem]; rfl, by simp [go_sem]; rfl, by simp [go_sem]; rfl, by simp [go_sem], by simp [go_sem], by simp [go_sem]⟩) k1
  go_wp2
  simp [bodyPost, results, Tryd.results60, go_sem, *]
  exact (by repeat (first | exact Kept.refl _ | apply Kept.drew | apply Kept.alloc | (refine Kept.setCell ?_ (by simp) _) | (refine Kept.trans ?_ (by assumption))))

end Go.Proofs.YtdbikeehoildlaaDoor
