/-
  In one text: Bits, Leaf02, Mid02.
-/
import Derived.Test.YtlgpeafphanobaaRows
import Derived.Test.YtlgpeafphanobaaWide
import Derived.Test.YtlgpeafphanobaaShelf
import Derived.Shelf.Spec.BitsCarry
import Derived.WalkKit
import Derived.WalkSpells
import Derived.Lib.Hide
import Derived.WalkLawsBesides
import Derived.Deep.RegionHeld3
namespace Go.Proofs.Ytlgpeafphanobaa
open Go.RowKit

theorem add64 (x y c : Int) (hx : 0 ≤ x) (hy : 0 ≤ y) (hc0 : 0 ≤ c) (hc : c ≤ 1) (w : World) : (callFunc 83 #[.int .u64 x, .int .u64 y, .int .u64 c]).run Try.prog w =
    .ok (.value (.tuple #[.int .u64 ((x + y + c) % 18446744073709551616), .int .u64 ((x + y + c) / 18446744073709551616)])) w := by
  obtain ⟨x, rfl⟩ := Int.eq_ofNat_of_zero_le hx
  obtain ⟨y, rfl⟩ := Int.eq_ofNat_of_zero_le hy
  obtain ⟨c, rfl⟩ := Int.eq_ofNat_of_zero_le hc0
  rw [run_callFunc_extern Try.func83 (by kernel_rfl) (by kernel_rfl) (by kernel_rfl) (e := add64Entry) (by kernel_rfl), run_add64 x y c (by omega) (by omega) (by omega) (by omega)]
  simp only [Result.andThen]
theorem add64_0 (x y : Int) (hx : 0 ≤ x) (hy : 0 ≤ y) (w : World) : (callFunc 83 #[.int .u64 x, .int .u64 y, .int .u64 0]).run Try.prog w =
    .ok (.value (.tuple #[.int .u64 ((x + y) % 18446744073709551616), .int .u64 ((x + y) / 18446744073709551616)])) w := by
  simpa using add64 x y 0 hx hy (Int.le_refl 0) (by decide) w

/-- What is borrowed. -/
def bor (x y : Int) : Int := if x < y then 1 else 0
theorem bor_le (x y : Int) : 0 ≤ bor x y ∧ bor x y ≤ 1 := by unfold bor; split <;> omega
theorem sub64 (x y b : Int) (hx : 0 ≤ x) (hy : 0 ≤ y) (hy' : y < 18446744073709551616) (hb0 : 0 ≤ b) (hb : b ≤ 1) (w : World) : (callFunc 84 #[.int .u64 x, .int .u64 y, .int .u64 b]).run Try.prog w =
    .ok (.value (.tuple #[.int .u64 ((x - y - b) % 18446744073709551616), .int .u64 (bor x (y + b))])) w := by
  obtain ⟨x, rfl⟩ := Int.eq_ofNat_of_zero_le hx
  obtain ⟨y, rfl⟩ := Int.eq_ofNat_of_zero_le hy
  obtain ⟨b, rfl⟩ := Int.eq_ofNat_of_zero_le hb0
  have e1 : (((x + 18446744073709551616 - y - b) % 18446744073709551616 : Nat) : Int) = ((x : Int) - y - b) % 18446744073709551616 := by omega
  have e2 : ((if x < y + b then 1 else 0 : Nat) : Int) = bor (x : Int) (y + b) := by unfold bor; split <;> split <;> omega
  rw [← e1, ← e2]
  rw [run_callFunc_extern Try.func84 (by kernel_rfl) (by kernel_rfl) (by kernel_rfl) (e := sub64Entry) (by kernel_rfl), run_sub64 x y b (by omega)]
  rfl
theorem sub64_0 (x y : Int) (hx : 0 ≤ x) (hy : 0 ≤ y) (hy' : y < 18446744073709551616) (w : World) : (callFunc 84 #[.int .u64 x, .int .u64 y, .int .u64 0]).run Try.prog w =
    .ok (.value (.tuple #[.int .u64 ((x - y) % 18446744073709551616), .int .u64 (bor x y)])) w := by
  simpa using sub64 x y 0 hx hy hy' (Int.le_refl 0) (by decide) w

theorem mul64 (x y : Int) (hx : Word x) (hy : Word y) (w : World) :
    Calls Try.prog 66 #[.int .u64 x, .int .u64 y] w fun e w' => e = .returned (.tuple #[.int .u64 (x * y / 18446744073709551616), .int .u64 (x * y % 18446744073709551616)]) ∧ w = w' := by
  obtain ⟨hx0, hx1⟩ := hx
  obtain ⟨hy0, hy1⟩ := hy
  obtain ⟨x, rfl⟩ := Int.eq_ofNat_of_zero_le hx0
  obtain ⟨y, rfl⟩ := Int.eq_ofNat_of_zero_le hy0
  refine (Try.bits_Mul64 x y (by omega) (by omega) w).mono ?_
  rintro e w' ⟨rfl, rfl⟩
  exact ⟨by simp, rfl⟩

theorem lead64 (x : Int) (hx : Word x) (w : World) :
    Calls Try.prog 87 #[.int .u64 x] w fun e w' => e = .returned (.int .i64 (64 - (Lib.bitLen x.toNat : Int))) ∧ w = w' := by
  unfold Word at hx
  exact (Try.bits_LeadingZeros64 x w hx.1 (by omega)).mono fun _ _ h => ⟨h.1, h.2.symm⟩

end Go.Proofs.Ytlgpeafphanobaa
namespace Go.Proofs.Ytlgpeafphanobaa
open Go.RowKit

set_option maxHeartbeats 400000 in
theorem sizeOf_any (b : Bool) (h l : Int) (w : World) :
    Calls Try.prog 63 #[.agg #[.bool b, .int .u64 h, .int .u64 l]] w fun e w' => e = .returned (.agg #[.int .u64 h, .int .u64 l]) ∧ Kept w w' := by
  go_enter Try.func63, Try.ntmps63
  go_wp2
  simp [bodyPost, results, Try.results63, go_sem]
  exact (by repeat (first | exact Kept.refl _ | apply Kept.drew | apply Kept.alloc))

set_option maxHeartbeats 400000 in
theorem on_false (h l : Int) (w : World) :
    Calls Try.prog 65 #[.bool false, .agg #[.int .u64 h, .int .u64 l]] w fun e w' => e = .returned (.agg #[.bool false, .int .u64 h, .int .u64 l]) ∧ Kept w w' := by
  go_enter Try.func65, Try.ntmps65
  go_wp2
  go_region
  go_wp2
  simp [bodyPost, results, Try.results65, go_sem]
  exact (by repeat (first | exact Kept.refl _ | apply Kept.drew | apply Kept.alloc))
set_option maxHeartbeats 400000 in
theorem on_zero (w : World) :
    Calls Try.prog 65 #[.bool true, .agg #[.int .u64 0, .int .u64 0]] w fun e w' => e = .returned (.agg #[.bool false, .int .u64 0, .int .u64 0]) ∧ Kept w w' := by
  go_enter Try.func65, Try.ntmps65
  go_wp2
  go_region
  go_wp2
  simp [bodyPost, results, Try.results65, go_sem]
  exact (by repeat (first | exact Kept.refl _ | apply Kept.drew | apply Kept.alloc))
set_option maxHeartbeats 400000 in
theorem on_true (h l : Int) (w : World) (hn : ¬ (h = 0 ∧ l = 0)) :
    Calls Try.prog 65 #[.bool true, .agg #[.int .u64 h, .int .u64 l]] w fun e w' => e = .returned (.agg #[.bool true, .int .u64 h, .int .u64 l]) ∧ Kept w w' := by
  by_cases hh : h = 0
  · subst hh
    have hl : ¬ l = 0 := fun e => hn ⟨rfl, e⟩
    clear hn
    go_enter Try.func65, Try.ntmps65
    go_wp2
    go_region
    go_wp2
    simp [bodyPost, results, Try.results65, go_sem]
    exact (by repeat (first | exact Kept.refl _ | apply Kept.drew | apply Kept.alloc))
  · clear hn
    go_enter Try.func65, Try.ntmps65
    go_wp2
    go_region
    go_wp2
    simp [bodyPost, results, Try.results65, go_sem]
    exact (by repeat (first | exact Kept.refl _ | apply Kept.drew | apply Kept.alloc))
theorem on_any (s : Bool) (h l : Int) (w : World) :
    Calls Try.prog 65 #[.bool s, .agg #[.int .u64 h, .int .u64 l]] w fun e w' => e = .returned (.agg #[.bool (s && nz h l), .int .u64 h, .int .u64 l]) ∧ Kept w w' := by
  cases s
  · rw [Bool.false_and]; exact on_false h l w
  · rw [Bool.true_and]
    by_cases hn : h = 0 ∧ l = 0
    · obtain ⟨rfl, rfl⟩ := hn; exact on_zero w
    · have : nz h l = true := by unfold nz; simp; omega
      rw [this]; exact on_true h l w hn

set_option maxHeartbeats 400000 in
theorem less_hi (xh xl yh yl : Int) (w : World) (h : (xh != yh) = true) :
    Calls Try.prog 69 #[.agg #[.int .u64 xh, .int .u64 xl], .agg #[.int .u64 yh, .int .u64 yl]] w fun e w' => e = .returned (.bool (decide (xh < yh))) ∧ Kept w w' := by
  go_enter Try.func69, Try.ntmps69
  go_wp2
  go_ret
  exact ⟨rfl, (by repeat (first | exact Kept.refl _ | apply Kept.drew | apply Kept.alloc))⟩
set_option maxHeartbeats 400000 in
theorem less_lo (xh xl yl : Int) (w : World) :
    Calls Try.prog 69 #[.agg #[.int .u64 xh, .int .u64 xl], .agg #[.int .u64 xh, .int .u64 yl]] w fun e w' => e = .returned (.bool (decide (xl < yl))) ∧ Kept w w' := by
  go_enter Try.func69, Try.ntmps69
  go_wp2
  go_ret
  exact ⟨rfl, (by repeat (first | exact Kept.refl _ | apply Kept.drew | apply Kept.alloc))⟩

set_option maxHeartbeats 400000 in
theorem sum_raw (xh xl yh yl : Int) (w : World) (h1 : Word xh) (h2 : Word xl) (h3 : Word yh) (h4 : Word yl) :
    Calls Try.prog 64 #[.agg #[.int .u64 xh, .int .u64 xl], .agg #[.int .u64 yh, .int .u64 yl]] w fun e w' =>
      e = .returned (.tuple #[.agg #[.int .u64 ((xh + yh + (xl + yl) / 18446744073709551616) % 18446744073709551616), .int .u64 ((xl + yl) % 18446744073709551616)], .bool ((xh + yh + (xl + yl) / 18446744073709551616) / 18446744073709551616 == 0)]) ∧ Kept w w' := by
  obtain ⟨a1, a2⟩ := h1; obtain ⟨b1, b2⟩ := h2; obtain ⟨c1, c2⟩ := h3; obtain ⟨d1, d2⟩ := h4
  have k0 : 0 ≤ (xl + yl) / 18446744073709551616 := by omega
  have k1 : (xl + yl) / 18446744073709551616 ≤ 1 := by omega
  go_enter Try.func64, Try.ntmps64
  go_wp2_with (first | simp only [add64_0 xl yl b1 d1] | simp only [add64 xh yh _ a1 c1 k0 k1])
  simp [bodyPost, results, Try.results64, go_sem]
  exact (by repeat (first | exact Kept.refl _ | apply Kept.drew | apply Kept.alloc))

set_option maxHeartbeats 400000 in
theorem difference_raw (xh xl yh yl : Int) (w : World) (h1 : Word xh) (h2 : Word xl) (h3 : Word yh) (h4 : Word yl) :
    Calls Try.prog 70 #[.agg #[.int .u64 xh, .int .u64 xl], .agg #[.int .u64 yh, .int .u64 yl]] w fun e w' =>
      e = .returned (.agg #[.int .u64 ((xh - yh - bor xl yl) % 18446744073709551616), .int .u64 ((xl - yl) % 18446744073709551616)]) ∧ Kept w w' := by
  obtain ⟨a1, a2⟩ := h1; obtain ⟨b1, b2⟩ := h2; obtain ⟨c1, c2⟩ := h3; obtain ⟨d1, d2⟩ := h4
  obtain ⟨k0, k1⟩ := bor_le xl yl
  go_enter Try.func70, Try.ntmps70
  go_wp2_with (first | simp only [sub64_0 xl yl b1 d1 d2] | simp only [sub64 xh yh _ a1 c1 c2 k0 k1])
  simp [bodyPost, results, Try.results70, go_sem]
  exact (by repeat (first | exact Kept.refl _ | apply Kept.drew | apply Kept.alloc))

set_option maxHeartbeats 400000 in
theorem magnitude_neg (n : Int) (w : World) (h : n < 0) (h' : -9223372036854775808 ≤ n) :
    Calls Try.prog 67 #[.int .i64 n] w fun e w' => e = .returned (.int .u64 (-n)) ∧ w = w' := by
  go_enter Try.func67, Try.ntmps67
  go_wp2
  go_ret
  refine ⟨?_, rfl⟩
  show Ending.returned (.int .u64 (IntKind.u64.wrap (-IntKind.u64.wrap n))) = _
  rw [IntKind.wrap_u64, IntKind.wrap_u64]
  exact congrArg (fun k => Ending.returned (.int .u64 k)) (by omega)
set_option maxHeartbeats 400000 in
theorem magnitude_pos (n : Int) (w : World) (h : ¬ n < 0) (h' : n ≤ 9223372036854775807) :
    Calls Try.prog 67 #[.int .i64 n] w fun e w' => e = .returned (.int .u64 n) ∧ w = w' := by
  go_enter Try.func67, Try.ntmps67
  go_wp2
  go_ret
  exact ⟨rfl, rfl⟩

end Go.Proofs.Ytlgpeafphanobaa
namespace Go.Proofs.Ytlgpeafphanobaa
open Go.RowKit

set_option maxHeartbeats 400000 in
theorem plain_any (b : Bool) (h l : Int) (w : World) :
    Calls Try.prog 85 #[.agg #[.bool b, .int .u64 h, .int .u64 l]] w fun e w' => e = .returned (.agg #[.bool (b && nz h l), .int .u64 h, .int .u64 l]) ∧ Kept w w' := by
  go_enter Try.func85, Try.ntmps85
  go_wp2
  go_region_held3 (fun w' => w'.cell? ⟨w.heap.size, 0, none⟩ = some (.bool b) ∧ w'.cell? ⟨w.heap.size, 1, none⟩ = some (.int .u64 h) ∧ w'.cell? ⟨w.heap.size, 2, none⟩ = some (.int .u64 l))
    ((refine ⟨?_, ?_, ?_⟩ <;> first | (refine Kept.read (by assumption) ?_; simp only [*]) | (simp [*, go_sem, World.cell?_alloc_past]; done)))
    (first
      | (go_at_call 63; refine (sizeOf_any _ _ _ _).mono ?_; rintro e w1 ⟨rfl, k1⟩)
      | (go_at_call 65; refine (on_any _ _ _ _).mono ?_; rintro e w2 ⟨rfl, k2⟩
         obtain ⟨x, y, z, a1, a2, a3, b1, b2, b3⟩ : Room3 w2 (w.heap.size + 1) := (Room3.kept (by exact ⟨_, _, _, by simp [go_sem]; rfl, by simp [go_sem]; rfl, by simp [go_sem]; rfl, by simp [go_sem], by simp [go_sem], by simp [go_sem]⟩) k1).kept k2))
  go_wp2
  simp [bodyPost, results, Try.results85, go_sem, *]
  exact (by repeat (first | exact Kept.refl _ | apply Kept.drew | apply Kept.alloc | (refine Kept.setCell ?_ (by simp) _) | (refine Kept.trans ?_ (by assumption))))

set_option maxHeartbeats 400000 in
theorem Of_any (n m : Int) (w : World) (s : Bool) (hs : decide (n < 0) = s) (C : ∀ w, Calls Try.prog 67 #[.int .i64 n] w fun e w' => e = .returned (.int .u64 m) ∧ w = w') :
    Calls Try.prog 54 #[.int .i64 n] w fun e w' => e = .returned (.agg #[.bool (s && nz 0 m), .int .u64 0, .int .u64 m]) ∧ Kept w w' := by
  have C' := Lib.hid C
  clear C
  go_enter Try.func54, Try.ntmps54
  go_wp2_with fail
  refine (C'.out _).mono ?_
  rintro e w1 ⟨rfl, rfl⟩
  go_wp2_with fail
  refine (on_any _ _ _ _).mono ?_
  rintro e w1 ⟨rfl, k1⟩
  obtain ⟨x, y, z, a1, a2, a3, b1, b2, b3⟩ : Room3 w1 w.heap.size := Room3.kept (by exact ⟨_, _, _, by simp [go_sem]; rfl, by simp [go_sem]; rfl, by simp [go_sem]; rfl, by simp [go_sem], by simp [go_sem], by simp [go_sem]⟩) k1
  go_wp2
  simp [bodyPost, results, Try.results54, go_sem, *]
  exact (by repeat (first | exact Kept.refl _ | apply Kept.drew | apply Kept.alloc | (refine Kept.setCell ?_ (by simp) _) | (refine Kept.trans ?_ (by assumption))))

end Go.Proofs.Ytlgpeafphanobaa
