/-
  SafeClamps walks: the Go text returns true, whatever the numbers.
-/
import Derived.Test.YtgedggdlabcfiaaAwake01
namespace Go.Proofs.Ytgedggdlabcfiaa
open Go.RowKit

set_option maxHeartbeats 1000000 in
set_option maxRecDepth 100000 in
theorem safeClamps_a1 (a b c : Int) (w : World) (h : b < c) (h1 : a < b) :
    Calls Try.prog 7 #[.int .i64 a, .int .i64 b, .int .i64 c] w fun e w' => e = .returned (.bool true) ∧ Kept w w' := by
    have e1 : (b == a) = false := by simp; omega
    go_enter Try.func7, Try.ntmps7
    go_wp2_with fail
    refine (awake01 _).mono ?_
    rintro e w1 ⟨rfl, k1⟩
    go_wp2_with fail
    refine (clamp_lit a b c b _ (by unfold clampAt; split <;> (try split) <;> omega)).mono ?_
    rintro e w2 ⟨rfl, rfl⟩
    go_wp2_with fail
    refine (clamp_lit b b c b _ (by unfold clampAt; split <;> (try split) <;> omega)).mono ?_
    rintro e w3 ⟨rfl, rfl⟩
    go_wp2_with fail
    refine (clamp_lit a b c b _ (by unfold clampAt; split <;> (try split) <;> omega)).mono ?_
    rintro e w4 ⟨rfl, rfl⟩
    go_wp2_with fail
    go_ret
    exact ⟨rfl, k1⟩

set_option maxHeartbeats 1000000 in
set_option maxRecDepth 100000 in
theorem safeClamps_a2 (a b c : Int) (w : World) (h : b < c) (h1 : b ≤ a) (h2 : c < a) :
    Calls Try.prog 7 #[.int .i64 a, .int .i64 b, .int .i64 c] w fun e w' => e = .returned (.bool true) ∧ Kept w w' := by
    have e1 : (c == a) = false := by simp; omega
    have e2 : decide (a ≤ c) = false := by simp; omega
    go_enter Try.func7, Try.ntmps7
    go_wp2_with fail
    refine (awake01 _).mono ?_
    rintro e w1 ⟨rfl, k1⟩
    go_wp2_with fail
    refine (clamp_lit a b c c _ (by unfold clampAt; split <;> (try split) <;> omega)).mono ?_
    rintro e w2 ⟨rfl, rfl⟩
    go_wp2_with fail
    refine (clamp_lit c b c c _ (by unfold clampAt; split <;> (try split) <;> omega)).mono ?_
    rintro e w3 ⟨rfl, rfl⟩
    go_wp2_with fail
    go_ret
    exact ⟨rfl, k1⟩

set_option maxHeartbeats 1000000 in
set_option maxRecDepth 100000 in
theorem safeClamps_a3 (a b c : Int) (w : World) (h : b < c) (h1 : b ≤ a) (h2 : a ≤ c) :
    Calls Try.prog 7 #[.int .i64 a, .int .i64 b, .int .i64 c] w fun e w' => e = .returned (.bool true) ∧ Kept w w' := by
    go_enter Try.func7, Try.ntmps7
    go_wp2_with fail
    refine (awake01 _).mono ?_
    rintro e w1 ⟨rfl, k1⟩
    go_wp2_with fail
    refine (clamp_lit a b c a _ (by unfold clampAt; split <;> (try split) <;> omega)).mono ?_
    rintro e w2 ⟨rfl, rfl⟩
    go_wp2_with fail
    refine (clamp_lit a b c a _ (by unfold clampAt; split <;> (try split) <;> omega)).mono ?_
    rintro e w3 ⟨rfl, rfl⟩
    go_wp2_with fail
    go_ret
    exact ⟨rfl, k1⟩

set_option maxHeartbeats 1000000 in
set_option maxRecDepth 100000 in
theorem safeClamps_c1 (a b : Int) (w : World) (h1 : a < b) :
    Calls Try.prog 7 #[.int .i64 a, .int .i64 b, .int .i64 b] w fun e w' => e = .returned (.bool true) ∧ Kept w w' := by
    have e1 : (b == a) = false := by simp; omega
    go_enter Try.func7, Try.ntmps7
    go_wp2_with fail
    refine (awake01 _).mono ?_
    rintro e w1 ⟨rfl, k1⟩
    go_wp2_with fail
    refine (clamp_lit a b b b _ (by unfold clampAt; split <;> (try split) <;> omega)).mono ?_
    rintro e w2 ⟨rfl, rfl⟩
    go_wp2_with fail
    refine (clamp_lit b b b b _ (by unfold clampAt; split <;> (try split) <;> omega)).mono ?_
    rintro e w3 ⟨rfl, rfl⟩
    go_wp2_with fail
    refine (clamp_lit a b b b _ (by unfold clampAt; split <;> (try split) <;> omega)).mono ?_
    rintro e w4 ⟨rfl, rfl⟩
    go_wp2_with fail
    go_ret
    exact ⟨rfl, k1⟩

set_option maxHeartbeats 1000000 in
set_option maxRecDepth 100000 in
theorem safeClamps_c2 (a b : Int) (w : World) (h1 : b < a) :
    Calls Try.prog 7 #[.int .i64 a, .int .i64 b, .int .i64 b] w fun e w' => e = .returned (.bool true) ∧ Kept w w' := by
    have e1 : (b == a) = false := by simp; omega
    have e2 : decide (a ≤ b) = false := by simp; omega
    go_enter Try.func7, Try.ntmps7
    go_wp2_with fail
    refine (awake01 _).mono ?_
    rintro e w1 ⟨rfl, k1⟩
    go_wp2_with fail
    refine (clamp_lit a b b b _ (by unfold clampAt; split <;> (try split) <;> omega)).mono ?_
    rintro e w2 ⟨rfl, rfl⟩
    go_wp2_with fail
    refine (clamp_lit b b b b _ (by unfold clampAt; split <;> (try split) <;> omega)).mono ?_
    rintro e w3 ⟨rfl, rfl⟩
    go_wp2_with fail
    go_ret
    exact ⟨rfl, k1⟩

set_option maxHeartbeats 1000000 in
set_option maxRecDepth 100000 in
theorem safeClamps_c3 (b : Int) (w : World)  :
    Calls Try.prog 7 #[.int .i64 b, .int .i64 b, .int .i64 b] w fun e w' => e = .returned (.bool true) ∧ Kept w w' := by
    go_enter Try.func7, Try.ntmps7
    go_wp2_with fail
    refine (awake01 _).mono ?_
    rintro e w1 ⟨rfl, k1⟩
    go_wp2_with fail
    refine (clamp_lit b b b b _ (by unfold clampAt; split <;> (try split) <;> omega)).mono ?_
    rintro e w2 ⟨rfl, rfl⟩
    go_wp2_with fail
    refine (clamp_lit b b b b _ (by unfold clampAt; split <;> (try split) <;> omega)).mono ?_
    rintro e w3 ⟨rfl, rfl⟩
    go_wp2_with fail
    go_ret
    exact ⟨rfl, k1⟩

set_option maxHeartbeats 1000000 in
set_option maxRecDepth 100000 in
theorem safeClamps_b1 (a b c : Int) (w : World) (h : c < b) (h1 : a < c) :
    Calls Try.prog 7 #[.int .i64 a, .int .i64 b, .int .i64 c] w fun e w' => e = .returned (.bool true) ∧ Kept w w' := by
    have e1 : (c == a) = false := by simp; omega
    go_enter Try.func7, Try.ntmps7
    go_wp2_with fail
    refine (awake01 _).mono ?_
    rintro e w1 ⟨rfl, k1⟩
    go_wp2_with fail
    refine (clamp_lit a c b c _ (by unfold clampAt; split <;> (try split) <;> omega)).mono ?_
    rintro e w2 ⟨rfl, rfl⟩
    go_wp2_with fail
    refine (clamp_lit c c b c _ (by unfold clampAt; split <;> (try split) <;> omega)).mono ?_
    rintro e w3 ⟨rfl, rfl⟩
    go_wp2_with fail
    refine (clamp_lit a b c b _ (by unfold clampAt; split <;> (try split) <;> omega)).mono ?_
    rintro e w4 ⟨rfl, rfl⟩
    go_wp2_with fail
    go_ret
    exact ⟨rfl, k1⟩

set_option maxHeartbeats 1000000 in
set_option maxRecDepth 100000 in
theorem safeClamps_b2 (a b c : Int) (w : World) (h : c < b) (h1 : b < a) :
    Calls Try.prog 7 #[.int .i64 a, .int .i64 b, .int .i64 c] w fun e w' => e = .returned (.bool true) ∧ Kept w w' := by
    have e1 : (b == a) = false := by simp; omega
    have e2 : decide (a ≤ b) = false := by simp; omega
    go_enter Try.func7, Try.ntmps7
    go_wp2_with fail
    refine (awake01 _).mono ?_
    rintro e w1 ⟨rfl, k1⟩
    go_wp2_with fail
    refine (clamp_lit a c b b _ (by unfold clampAt; split <;> (try split) <;> omega)).mono ?_
    rintro e w2 ⟨rfl, rfl⟩
    go_wp2_with fail
    refine (clamp_lit b c b b _ (by unfold clampAt; split <;> (try split) <;> omega)).mono ?_
    rintro e w3 ⟨rfl, rfl⟩
    go_wp2_with fail
    go_ret
    exact ⟨rfl, k1⟩

set_option maxHeartbeats 1000000 in
set_option maxRecDepth 100000 in
theorem safeClamps_b3 (a b c : Int) (w : World) (h : c < b) (h1 : c ≤ a) (h2 : a < b) :
    Calls Try.prog 7 #[.int .i64 a, .int .i64 b, .int .i64 c] w fun e w' => e = .returned (.bool true) ∧ Kept w w' := by
    go_enter Try.func7, Try.ntmps7
    go_wp2_with fail
    refine (awake01 _).mono ?_
    rintro e w1 ⟨rfl, k1⟩
    go_wp2_with fail
    refine (clamp_lit a c b a _ (by unfold clampAt; split <;> (try split) <;> omega)).mono ?_
    rintro e w2 ⟨rfl, rfl⟩
    go_wp2_with fail
    refine (clamp_lit a c b a _ (by unfold clampAt; split <;> (try split) <;> omega)).mono ?_
    rintro e w3 ⟨rfl, rfl⟩
    go_wp2_with fail
    refine (clamp_lit a b c b _ (by unfold clampAt; split <;> (try split) <;> omega)).mono ?_
    rintro e w4 ⟨rfl, rfl⟩
    go_wp2_with fail
    go_ret
    exact ⟨rfl, k1⟩

set_option maxHeartbeats 1000000 in
set_option maxRecDepth 100000 in
theorem safeClamps_b4 (a b c : Int) (w : World) (h : c < b) (h1 : c ≤ a) (h2 : a ≤ b) (h3 : b ≤ a) :
    Calls Try.prog 7 #[.int .i64 a, .int .i64 b, .int .i64 c] w fun e w' => e = .returned (.bool true) ∧ Kept w w' := by
    go_enter Try.func7, Try.ntmps7
    go_wp2_with fail
    refine (awake01 _).mono ?_
    rintro e w1 ⟨rfl, k1⟩
    go_wp2_with fail
    refine (clamp_lit a c b a _ (by unfold clampAt; split <;> (try split) <;> omega)).mono ?_
    rintro e w2 ⟨rfl, rfl⟩
    go_wp2_with fail
    refine (clamp_lit a c b a _ (by unfold clampAt; split <;> (try split) <;> omega)).mono ?_
    rintro e w3 ⟨rfl, rfl⟩
    go_wp2_with fail
    go_ret
    exact ⟨rfl, k1⟩

theorem safeClamps_walk (a b c : Int) (w : World) :
    Calls Try.prog 7 #[.int .i64 a, .int .i64 b, .int .i64 c] w fun e w' => e = .returned (.bool true) ∧ Kept w w' := by
  by_cases hbc : b = c
  · subst hbc
    by_cases h1 : a < b
    · exact safeClamps_c1 a b w h1
    · by_cases h2 : b < a
      · exact safeClamps_c2 a b w h2
      · obtain rfl : a = b := by omega
        exact safeClamps_c3 a w
  by_cases h : b < c
  · by_cases h1 : a < b
    · exact safeClamps_a1 a b c w h h1
    · by_cases h2 : c < a
      · exact safeClamps_a2 a b c w h (by omega) h2
      · exact safeClamps_a3 a b c w h (by omega) (by omega)
  · by_cases h1 : a < c
    · exact safeClamps_b1 a b c w (by omega) h1
    · by_cases h2 : b < a
      · exact safeClamps_b2 a b c w (by omega) h2
      · by_cases h3 : a < b
        · exact safeClamps_b3 a b c w (by omega) (by omega) h3
        · exact safeClamps_b4 a b c w (by omega) (by omega) (by omega) (by omega)

end Go.Proofs.Ytgedggdlabcfiaa
