/-
  Contracts of the document's answers of layer 1.
-/
import Derived.Test.YtmdekgcgfcdppaaVars01
namespace Go.Proofs.Ytmdekgcgfcdppaa
open Go.RowKit

theorem q_pp_s {a b : Int} (hb : 0 < b) : 9223372036854775807 / b < a ↔ 9223372036854775807 < a * b := Int.ediv_lt_iff_lt_mul hb
theorem q_n_s {b : Int} (hb : 0 < b) : wrap64 (-Int.tdiv 9223372036854775808 b) = -(9223372036854775808 / b) := by
  rw [Int.tdiv_eq_ediv_of_nonneg (by omega)]
  apply wrap64_in
  have h1 := Int.ediv_le_self b (a := 9223372036854775808) (by omega)
  have h2 := Int.ediv_nonneg (a := 9223372036854775808) (b := b) (by omega) (by omega)
  unfold In64; omega
theorem q_np_s {a b : Int} (hb : 0 < b) : a < wrap64 (-Int.tdiv 9223372036854775808 b) ↔ a * b < -9223372036854775808 := by
  rw [q_n_s hb]
  have h := Int.ediv_lt_iff_lt_mul (a := 9223372036854775808) (b := -a) hb
  rw [Int.neg_mul] at h
  omega
theorem q_m_s {a : Int} (ha : a < 0) : wrap64 (Int.tdiv 9223372036854775807 a) = -(9223372036854775807 / (-a)) := by
  have e : Int.tdiv 9223372036854775807 a = -(9223372036854775807 / (-a)) := by
    rw [← Int.tdiv_eq_ediv_of_nonneg (by omega), Int.tdiv_neg, Int.neg_neg]
  rw [e]
  apply wrap64_in
  have h1 := Int.ediv_le_self (-a) (a := 9223372036854775807) (by omega)
  have h2 := Int.ediv_nonneg (a := 9223372036854775807) (b := -a) (by omega) (by omega)
  unfold In64; omega
theorem q_nn_s {a b : Int} (ha : a < 0) : b < wrap64 (Int.tdiv 9223372036854775807 a) ↔ 9223372036854775807 < a * b := by
  rw [q_m_s ha]
  have h := Int.ediv_lt_iff_lt_mul (a := 9223372036854775807) (b := -b) (c := -a) (by omega)
  rw [Int.neg_mul_neg, Int.mul_comm b a] at h
  omega

theorem refClamp_lit_s (a b c n : Int) (w : World) (hn : clampAt a b c = n) :
    Calls Try.prog 30 #[.int .i64 a, .int .i64 b, .int .i64 c] w fun e w' => e = .returned (.int .i64 n) ∧ w = w' := by
  subst hn
  by_cases h1 : a < b
  · rw [clampAt_low h1]
    go_enter Try.func30, Try.ntmps30
    go_wp2
    go_ret
    exact ⟨rfl, rfl⟩
  · by_cases h2 : c < a
    · rw [clampAt_high h1 h2]
      go_enter Try.func30, Try.ntmps30
      go_wp2
      go_ret
      exact ⟨rfl, rfl⟩
    · rw [clampAt_in h1 h2]
      go_enter Try.func30, Try.ntmps30
      go_wp2
      go_ret
      exact ⟨rfl, rfl⟩

end Go.Proofs.Ytmdekgcgfcdppaa
