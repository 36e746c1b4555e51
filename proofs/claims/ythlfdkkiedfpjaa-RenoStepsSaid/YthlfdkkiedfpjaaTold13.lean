/-
  Plain words of layer 13: the window that the old law would have.
-/
import Derived.Test.YthlfdkkiedfpjaaTold11
namespace Go.Proofs.Ythlfdkkiedfpjaa
open Go.RowKit

/-- The window that counts. -/
def winR (n : Int) : Int := if n < 65536 then 65536 else if 68719476736 < n then 68719476736 else n
theorem winR_range (n : Int) : 65536 ≤ winR n ∧ winR n ≤ 68719476736 := by unfold winR; split <;> (try split) <;> omega
theorem winR_mono {a b : Int} (h : a ≤ b) : winR a ≤ winR b := by unfold winR; split <;> split <;> (try split) <;> (try split) <;> omega
theorem winR_of {n : Int} (h : 65536 ≤ n ∧ n ≤ 68719476736) : winR n = n := by unfold winR; rw [if_neg (by omega), if_neg (by omega)]
/-- By which part it grows. -/
def numR (est prior : Int) : Int := if est < prior then 9 else 1
def denR (est prior : Int) : Int := if est < prior then 17 else 1
/-- What is added. -/
def addR (num den w t : Int) : Int := num * t * 65536 / (den * w)
def stepR (est prior window told : Int) : Int := gapK (gapK est + addR (numR est prior) (denR est prior) (winR window) (gapK told))
def stepsR (est prior window : Int) : List Int → Int
  | [] => est
  | t :: l => stepsR (stepR est prior window t) prior window l
theorem stepsR_app (prior window : Int) (l r : List Int) : ∀ est, stepsR est prior window (l ++ r) = stepsR (stepsR est prior window l) prior window r := by
  induction l with
  | nil => intro est; rfl
  | cons t l ih => intro est; exact ih _
/-- Either part. -/
def PartR (num den : Int) : Prop := (num = 9 ∧ den = 17) ∨ (num = 1 ∧ den = 1)
theorem part_is (est prior : Int) : PartR (numR est prior) (denR est prior) := by
  unfold numR denR
  by_cases h : est < prior
  · rw [if_pos h, if_pos h]; exact Or.inl ⟨rfl, rfl⟩
  · rw [if_neg h, if_neg h]; exact Or.inr ⟨rfl, rfl⟩
theorem add_zero (num den w : Int) : addR num den w 0 = 0 := by unfold addR; simp
theorem add_pos {num den w t : Int} (p : PartR num den) (hw : 0 < w) (ht : 0 ≤ t) : 0 ≤ addR num den w t := by
  unfold addR
  rcases p with ⟨rfl, rfl⟩ | ⟨rfl, rfl⟩ <;> exact Int.ediv_nonneg (by omega) (by omega)
theorem add_bound {num den w t : Int} (p : PartR num den) (hw : 65536 ≤ w) (ht : 0 ≤ t) : addR num den w t ≤ t := by
  unfold addR
  rcases p with ⟨rfl, rfl⟩ | ⟨rfl, rfl⟩
  · refine Int.ediv_le_of_le_mul (by omega) ?_
    have : t * (17 * 65536) ≤ t * (17 * w) := Int.mul_le_mul_of_nonneg_left (by omega) ht
    omega
  · refine Int.ediv_le_of_le_mul (by omega) ?_
    have : t * (1 * 65536) ≤ t * (1 * w) := Int.mul_le_mul_of_nonneg_left (by omega) ht
    omega
theorem add_told {num den w t u : Int} (p : PartR num den) (hw : 0 < w) (h : t ≤ u) : addR num den w t ≤ addR num den w u := by
  unfold addR
  rcases p with ⟨rfl, rfl⟩ | ⟨rfl, rfl⟩ <;> exact Int.ediv_le_ediv (by omega) (by omega)
theorem div_less {n a b : Int} (hn : 0 ≤ n) (ha : 0 < a) (h : a ≤ b) : n / b ≤ n / a := by
  refine Int.le_ediv_of_mul_le ha ?_
  have h1 : n / b * b ≤ n := Int.ediv_mul_le n (by omega)
  have h2 : n / b * a ≤ n / b * b := Int.mul_le_mul_of_nonneg_left h (Int.ediv_nonneg hn (by omega))
  omega
theorem add_win {num den w v t : Int} (p : PartR num den) (hw : 0 < w) (ht : 0 ≤ t) (h : w ≤ v) : addR num den v t ≤ addR num den w t := by
  unfold addR
  rcases p with ⟨rfl, rfl⟩ | ⟨rfl, rfl⟩ <;> exact div_less (by omega) (by omega) (by omega)
theorem add_whole {w : Int} (hw : 0 < w) : addR 9 17 w w = 34695 ∧ addR 1 1 w w = 65536 := by
  unfold addR
  constructor
  · have a : (34695 : Int) ≤ 9 * w * 65536 / (17 * w) := Int.le_ediv_of_mul_le (by omega) (by omega)
    have b : 9 * w * 65536 / (17 * w) < 34696 := Int.ediv_lt_of_lt_mul (by omega) (by omega)
    omega
  · have a : (65536 : Int) ≤ 1 * w * 65536 / (1 * w) := Int.le_ediv_of_mul_le (by omega) (by omega)
    have b : 1 * w * 65536 / (1 * w) < 65537 := Int.ediv_lt_of_lt_mul (by omega) (by omega)
    omega
theorem floor_sum {a b c : Int} (hc : 0 < c) : a / c + b / c ≤ (a + b) / c ∧ (a + b) / c ≤ a / c + b / c + 1 := by
  have a1 := Int.ediv_mul_le a (b := c) (by omega)
  have b1 := Int.ediv_mul_le b (b := c) (by omega)
  have a2 := Int.lt_ediv_add_one_mul_self a hc
  have b2 := Int.lt_ediv_add_one_mul_self b hc
  constructor
  · refine Int.le_ediv_of_mul_le hc ?_
    rw [Int.add_mul]; omega
  · have : (a + b) / c < a / c + b / c + 2 := Int.ediv_lt_of_lt_mul hc (by
      have e : (a / c + b / c + 2) * c = (a / c + 1) * c + (b / c + 1) * c := by rw [← Int.add_mul]; congr 1; omega
      rw [e]; omega)
    omega
theorem add_sum {num den w a b : Int} (p : PartR num den) (hw : 0 < w) : addR num den w a + addR num den w b ≤ addR num den w (a + b) ∧ addR num den w (a + b) ≤ addR num den w a + addR num den w b + 1 := by
  unfold addR
  have e : num * (a + b) * 65536 = num * a * 65536 + num * b * 65536 := by rw [Int.mul_add, Int.add_mul]
  rw [e]
  rcases p with ⟨rfl, rfl⟩ | ⟨rfl, rfl⟩ <;> exact floor_sum (by omega)
theorem step_range (est prior window told : Int) : 0 ≤ stepR est prior window told ∧ stepR est prior window told ≤ 68719476736 := gapK_range _
theorem step_zero {est : Int} (prior window : Int) (h : 0 ≤ est ∧ est ≤ 68719476736) : stepR est prior window 0 = est := by
  unfold stepR
  rw [gapK_in (g := 0) (by omega), add_zero, gapK_in h, Int.add_zero, gapK_in h]
theorem step_same (est prior window : Int) : stepR est prior window 0 = gapK est := by
  unfold stepR
  rw [gapK_in (g := 0) (by omega), add_zero, Int.add_zero, gapK_in (gapK_range est)]
theorem step_up {est : Int} (prior window told : Int) (h : 0 ≤ est ∧ est ≤ 68719476736) : est ≤ stepR est prior window told := by
  unfold stepR
  have := add_pos (part_is est prior) (w := winR window) (by have := winR_range window; omega) (gapK_range told).1
  rw [gapK_in h]
  have q := gapK_rises (a := est) (b := est + addR (numR est prior) (denR est prior) (winR window) (gapK told)) (by omega)
  rw [gapK_in h] at q
  exact q
theorem step_told (est prior window : Int) {t u : Int} (h : t ≤ u) : stepR est prior window t ≤ stepR est prior window u := by
  unfold stepR
  have := add_told (part_is est prior) (w := winR window) (by have := winR_range window; omega) (gapK_rises h)
  exact gapK_rises (by omega)
theorem step_win (est prior told : Int) {w v : Int} (h : w ≤ v) : stepR est prior v told ≤ stepR est prior w told := by
  unfold stepR
  have := add_win (part_is est prior) (w := winR w) (v := winR v) (by have := winR_range w; omega) (gapK_range told).1 (winR_mono h)
  exact gapK_rises (by omega)
theorem step_small {est prior window told : Int} (h : 0 ≤ est ∧ est ≤ 4294967295) (t : 0 ≤ told ∧ told ≤ 4295032831) : stepR est prior window told = est + addR (numR est prior) (denR est prior) (winR window) told := by
  unfold stepR
  rw [gapK_in (g := est) (by omega), gapK_in (g := told) (by omega)]
  have a := add_pos (part_is est prior) (w := winR window) (by have := winR_range window; omega) t.1
  have b := add_bound (part_is est prior) (w := winR window) (winR_range window).1 t.1
  exact gapK_in (by omega)
theorem steps_up (prior window : Int) (l : List Int) : ∀ est, (0 ≤ est ∧ est ≤ 68719476736) → est ≤ stepsR est prior window l ∧ stepsR est prior window l ≤ 68719476736 := by
  induction l with
  | nil => intro est h; exact ⟨Int.le_refl _, h.2⟩
  | cons t l ih =>
    intro est h
    have a := step_up prior window t h
    have b := step_range est prior window t
    have c := ih _ b
    exact ⟨Int.le_trans a c.1, c.2⟩
theorem steps_in (prior window : Int) (l : List Int) (est : Int) (h : In64 est) : In64 (stepsR est prior window l) := by
  cases l with
  | nil => exact h
  | cons t l =>
    have b := step_range est prior window t
    have c := steps_up prior window l _ b
    show In64 (stepsR (stepR est prior window t) prior window l)
    unfold In64; omega
/-- A whole window. -/
theorem step_round {e prior window : Int} (h : 0 ≤ e ∧ e ≤ 4294967295) (w : 65536 ≤ window ∧ window ≤ 4295032831) : stepR e prior window window - e ≤ 65536 ∧ 9 * 65536 < 17 * (stepR e prior window window - e + 1) ∧ (e < prior ∨ stepR e prior window window - e = 65536) := by
  rw [step_small h (by omega), winR_of (by omega)]
  have q := add_whole (w := window) (by omega)
  unfold numR denR
  by_cases p : e < prior
  · rw [if_pos p, if_pos p, q.1]; exact ⟨by omega, by omega, Or.inl p⟩
  · rw [if_neg p, if_neg p, q.2]; exact ⟨by omega, by omega, Or.inr (by omega)⟩
/-- In two parts. -/
theorem step_parts {e prior window a b : Int} (h : 0 ≤ e ∧ e ≤ 4294967295) (ha : 0 ≤ a ∧ a ≤ 65535) (hb : 0 ≤ b ∧ b ≤ 65535) (hs : e < prior ↔ stepR e prior window a < prior) :
    stepR (stepR e prior window a) prior window b ≤ stepR e prior window (a + b) ∧ stepR e prior window (a + b) - stepR (stepR e prior window a) prior window b ≤ 1 := by
  have e1 := step_small (prior := prior) (window := window) h (told := a) (by omega)
  have e2 := step_small (prior := prior) (window := window) h (told := a + b) (by omega)
  have p := part_is e prior
  have r := winR_range window
  have b1 := add_pos p (w := winR window) (by omega) ha.1
  have b2 := add_bound p (w := winR window) r.1 ha.1
  have b3 := add_pos p (w := winR window) (by omega) hb.1
  have b4 := add_bound p (w := winR window) r.1 hb.1
  have n : numR (stepR e prior window a) prior = numR e prior ∧ denR (stepR e prior window a) prior = denR e prior := by
    unfold numR denR
    by_cases z : e < prior
    · rw [if_pos z, if_pos z, if_pos (hs.1 z), if_pos (hs.1 z)]; exact ⟨rfl, rfl⟩
    · rw [if_neg z, if_neg z, if_neg (fun y => z (hs.2 y)), if_neg (fun y => z (hs.2 y))]; exact ⟨rfl, rfl⟩
  have e3 : stepR (stepR e prior window a) prior window b = e + addR (numR e prior) (denR e prior) (winR window) a + addR (numR e prior) (denR e prior) (winR window) b := by
    rw [← e1]
    generalize hm : stepR e prior window a = m at *
    conv => lhs; unfold stepR
    rw [n.1, n.2, gapK_in (g := m) (by omega), gapK_in (g := b) (by omega)]
    exact gapK_in (by omega)
  have s := add_sum (a := a) (b := b) p (w := winR window) (by omega)
  rw [e3, e2]
  omega
end Go.Proofs.Ythlfdkkiedfpjaa
