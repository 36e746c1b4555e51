/-
  SafeBack walks: the Go text returns true, whatever the numbers.
-/
import Derived.Test.YtgedggdlabcfiaaAwake01
namespace Go.Proofs.Ytgedggdlabcfiaa
open Go.RowKit

set_option maxHeartbeats 1000000 in
set_option maxRecDepth 100000 in
theorem safeBack_ok_no (a b : Int) (w : World) (ha : In64 a) (hb : In64 b) (s : Int) (hs : In64 s) (Hs : Hid (a + b = s)) (hp : ¬ In64 (a * b)) :
    Calls Try.prog 4 #[.int .i64 a, .int .i64 b] w fun e w' => e = .returned (.bool true) ∧ Kept w w' := by
  go_enter Try.func4, Try.ntmps4
  go_wp2_with fail
  refine (awake01 _).mono ?_
  rintro e w1 ⟨rfl, k1⟩
  go_wp2_with fail
  refine (Plus_lit a b s _ ha hb hs Hs.out).mono ?_
  rintro e w2 ⟨rfl, rfl⟩
  go_wp2_with fail
  refine (Times_no a b _ ha hb hp).mono ?_
  rintro e w3 ⟨rfl, rfl⟩
  go_wp2_with fail
  refine (Sub_lit s b a _ hs hb (by rw [← Hs.out, show a + b - b = a from by omega]; exact heldAt_of ha)).mono ?_
  rintro e w4 ⟨rfl, k4⟩
  go_wp2_with fail
  refine (Add_lit a b s _ ha hb (by rw [Hs.out]; exact heldAt_of hs)).mono ?_
  rintro e w5 ⟨rfl, k5⟩
  go_wp2_with fail
  go_ret
  exact ⟨rfl, k1.trans (k4.trans (k5))⟩

set_option maxHeartbeats 1000000 in
set_option maxRecDepth 100000 in
theorem safeBack_ok_zero (a : Int) (w : World) (ha : In64 a) (s : Int) (hs : In64 s) (Hs : Hid (a + 0 = s)) :
    Calls Try.prog 4 #[.int .i64 a, .int .i64 0] w fun e w' => e = .returned (.bool true) ∧ Kept w w' := by
  go_enter Try.func4, Try.ntmps4
  go_wp2_with fail
  refine (awake01 _).mono ?_
  rintro e w1 ⟨rfl, k1⟩
  go_wp2_with fail
  refine (Plus_lit a 0 s _ ha (by unfold In64; omega) hs Hs.out).mono ?_
  rintro e w2 ⟨rfl, rfl⟩
  go_wp2_with fail
  refine (Times_lit a 0 0 _ ha (by unfold In64; omega) (by unfold In64; omega) (by omega)).mono ?_
  rintro e w3 ⟨rfl, rfl⟩
  go_wp2_with fail
  refine (Sub_lit s 0 a _ hs (by unfold In64; omega) (by rw [← Hs.out, show a + 0 - 0 = a from by omega]; exact heldAt_of ha)).mono ?_
  rintro e w4 ⟨rfl, k4⟩
  go_wp2_with fail
  refine (Add_lit a 0 s _ ha (by unfold In64; omega) (by rw [Hs.out]; exact heldAt_of hs)).mono ?_
  rintro e w5 ⟨rfl, k5⟩
  go_wp2_with fail
  refine (Mul_lit a 0 0 _ ha (by unfold In64; omega) (by simp [heldAt])).mono ?_
  rintro e w6 ⟨rfl, k6⟩
  go_wp2_with fail
  go_ret
  exact ⟨rfl, k1.trans (k4.trans (k5.trans (k6)))⟩

set_option maxHeartbeats 1000000 in
set_option maxRecDepth 100000 in
theorem safeBack_ok_ok (a b : Int) (w : World) (ha : In64 a) (hb : In64 b) (s : Int) (hs : In64 s) (Hs : Hid (a + b = s)) (p : Int) (hp : In64 p) (Hp : Hid (a * b = p)) (hb0 : ¬ b = 0) (hb1 : (b == 0) = false) (hq : (wrap64 (p.tdiv b) == a) = true) (hr : (p.tmod b == 0) = true) :
    Calls Try.prog 4 #[.int .i64 a, .int .i64 b] w fun e w' => e = .returned (.bool true) ∧ Kept w w' := by
  go_enter Try.func4, Try.ntmps4
  go_wp2_with fail
  refine (awake01 _).mono ?_
  rintro e w1 ⟨rfl, k1⟩
  go_wp2_with fail
  refine (Plus_lit a b s _ ha hb hs Hs.out).mono ?_
  rintro e w2 ⟨rfl, rfl⟩
  go_wp2_with fail
  refine (Times_lit a b p _ ha hb hp Hp.out).mono ?_
  rintro e w3 ⟨rfl, rfl⟩
  go_wp2_with fail
  refine (Sub_lit s b a _ hs hb (by rw [← Hs.out, show a + b - b = a from by omega]; exact heldAt_of ha)).mono ?_
  rintro e w4 ⟨rfl, k4⟩
  go_wp2_with fail
  refine (Add_lit a b s _ ha hb (by rw [Hs.out]; exact heldAt_of hs)).mono ?_
  rintro e w5 ⟨rfl, k5⟩
  go_wp2_with fail
  refine (Mul_lit a b p _ ha hb (by rw [Hp.out]; exact heldAt_of hp)).mono ?_
  rintro e w6 ⟨rfl, k6⟩
  go_wp2_with fail
  go_ret
  exact ⟨rfl, k1.trans (k4.trans (k5.trans (k6)))⟩

set_option maxHeartbeats 1000000 in
set_option maxRecDepth 100000 in
theorem safeBack_no_no (a b : Int) (w : World) (ha : In64 a) (hb : In64 b) (hs : ¬ In64 (a + b)) (hp : ¬ In64 (a * b)) :
    Calls Try.prog 4 #[.int .i64 a, .int .i64 b] w fun e w' => e = .returned (.bool true) ∧ Kept w w' := by
  go_enter Try.func4, Try.ntmps4
  go_wp2_with fail
  refine (awake01 _).mono ?_
  rintro e w1 ⟨rfl, k1⟩
  go_wp2_with fail
  refine (Plus_no a b _ ha hb hs).mono ?_
  rintro e w2 ⟨rfl, rfl⟩
  go_wp2_with fail
  refine (Times_no a b _ ha hb hp).mono ?_
  rintro e w3 ⟨rfl, rfl⟩
  go_wp2_with fail
  go_ret
  exact ⟨rfl, k1⟩

set_option maxHeartbeats 1000000 in
set_option maxRecDepth 100000 in
theorem safeBack_no_zero (a : Int) (w : World) (ha : In64 a) (hs : ¬ In64 (a + 0)) :
    Calls Try.prog 4 #[.int .i64 a, .int .i64 0] w fun e w' => e = .returned (.bool true) ∧ Kept w w' := by
  go_enter Try.func4, Try.ntmps4
  go_wp2_with fail
  refine (awake01 _).mono ?_
  rintro e w1 ⟨rfl, k1⟩
  go_wp2_with fail
  refine (Plus_no a 0 _ ha (by unfold In64; omega) hs).mono ?_
  rintro e w2 ⟨rfl, rfl⟩
  go_wp2_with fail
  refine (Times_lit a 0 0 _ ha (by unfold In64; omega) (by unfold In64; omega) (by omega)).mono ?_
  rintro e w3 ⟨rfl, rfl⟩
  go_wp2_with fail
  refine (Mul_lit a 0 0 _ ha (by unfold In64; omega) (by simp [heldAt])).mono ?_
  rintro e w4 ⟨rfl, k4⟩
  go_wp2_with fail
  go_ret
  exact ⟨rfl, k1.trans (k4)⟩

set_option maxHeartbeats 1000000 in
set_option maxRecDepth 100000 in
theorem safeBack_no_ok (a b : Int) (w : World) (ha : In64 a) (hb : In64 b) (hs : ¬ In64 (a + b)) (p : Int) (hp : In64 p) (Hp : Hid (a * b = p)) (hb0 : ¬ b = 0) (hb1 : (b == 0) = false) (hq : (wrap64 (p.tdiv b) == a) = true) (hr : (p.tmod b == 0) = true) :
    Calls Try.prog 4 #[.int .i64 a, .int .i64 b] w fun e w' => e = .returned (.bool true) ∧ Kept w w' := by
  go_enter Try.func4, Try.ntmps4
  go_wp2_with fail
  refine (awake01 _).mono ?_
  rintro e w1 ⟨rfl, k1⟩
  go_wp2_with fail
  refine (Plus_no a b _ ha hb hs).mono ?_
  rintro e w2 ⟨rfl, rfl⟩
  go_wp2_with fail
  refine (Times_lit a b p _ ha hb hp Hp.out).mono ?_
  rintro e w3 ⟨rfl, rfl⟩
  go_wp2_with fail
  refine (Mul_lit a b p _ ha hb (by rw [Hp.out]; exact heldAt_of hp)).mono ?_
  rintro e w4 ⟨rfl, k4⟩
  go_wp2_with fail
  go_ret
  exact ⟨rfl, k1.trans (k4)⟩

theorem safeBack_walk (a b : Int) (w : World) (ha : In64 a) (hb : In64 b) :
    Calls Try.prog 4 #[.int .i64 a, .int .i64 b] w fun e w' => e = .returned (.bool true) ∧ Kept w w' := by
  by_cases hb0 : b = 0
  · subst hb0
    have h : In64 (a + 0) := by simpa using ha
    exact safeBack_ok_zero a w ha _ h (Lib.hid rfl)
  · by_cases hs : In64 (a + b) <;> by_cases hp : In64 (a * b)
    · exact safeBack_ok_ok a b w ha hb _ hs (Lib.hid rfl) _ hp (Lib.hid rfl) hb0 (by simp [hb0]) (quo_back ha hb0) (rem_back a b)
    · exact safeBack_ok_no a b w ha hb _ hs (Lib.hid rfl) hp
    · exact safeBack_no_ok a b w ha hb hs _ hp (Lib.hid rfl) hb0 (by simp [hb0]) (quo_back ha hb0) (rem_back a b)
    · exact safeBack_no_no a b w ha hb hs hp

end Go.Proofs.Ytgedggdlabcfiaa
