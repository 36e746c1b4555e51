/-
  Plain words of layer 11: the time between two losses.
-/
import Derived.Test.YtdbikeehoildlaaDoorClock05
import Derived.Test.YtdbikeehoildlaaDoorMath03
namespace Go.Proofs.YtdbikeehoildlaaDoor
open Go.RowKit

/-- The gap that counts. -/
def gapK (g : Int) : Int := if g < 0 then 0 else if 68719476736 < g then 68719476736 else g
theorem gapK_range (g : Int) : 0 ≤ gapK g ∧ gapK g ≤ 68719476736 := by
  unfold gapK
  repeat' split
  all_goals omega
theorem gapK_rises {a b : Int} (h : a ≤ b) : gapK a ≤ gapK b := by
  unfold gapK
  repeat' split
  all_goals omega
theorem gapK_in {g : Int} (h : 0 ≤ g ∧ g ≤ 68719476736) : gapK g = g := by unfold gapK; rw [if_neg (by omega), if_neg (by omega)]
theorem gapK_low {g : Int} (h : g ≤ 0) : gapK g = 0 := by
  unfold gapK
  repeat' split
  all_goals omega
theorem gapK_high {g : Int} (h : 68719476736 ≤ g) : gapK g = 68719476736 := by
  unfold gapK
  repeat' split
  all_goals omega
/-- How long a gap takes. -/
def KIs (g n : Int) : Prop := IsThird (gapK g * 10000000000000000000 / 262144) n
theorem k_ex (g : Int) : ∃ n, KIs g n := third_ex (by have := gapK_range g; omega)
theorem k_uniq {g m n : Int} (h : KIs g m) (k : KIs g n) : m = n := third_uniq h k
theorem k_rises {a b m n : Int} (h : KIs a m) (k : KIs b n) (l : a ≤ b) : m ≤ n := third_rises h k (by have := gapK_rises l; omega)
theorem k_same {a b m n : Int} (h : KIs a m) (k : KIs b n) (l : gapK a = gapK b) : m = n := by unfold KIs at h k; rw [l] at h; exact third_uniq h k
/-- A cube times 2^18 is at most the gap times 10^19 just if it is no more than the root. -/
theorem k_little {g n m : Int} (h : KIs g n) (h0 : 0 ≤ m) : m * m * m * 262144 ≤ gapK g * 10000000000000000000 ↔ m ≤ n := by
  rw [← third_iff h h0]
  generalize m * m * m = c
  omega
theorem k_range {g n : Int} (h : KIs g n) : 0 ≤ n ∧ n ≤ 137883820 := by
  refine ⟨h.1, ?_⟩
  have t : ¬ (137883821 : Int) ≤ n := fun l => by
    have := (k_little h (m := 137883821) (by omega)).2 l
    have := gapK_range g
    omega
  omega
theorem k_zero {g n : Int} (h : KIs g n) (l : g ≤ 0) : n = 0 := by
  have h0 := h.1
  have : ¬ 1 ≤ n := fun x => by
    have := (k_little h (m := 1) (by omega)).2 x
    rw [gapK_low l] at this
    omega
  omega
theorem k_eight {g m n : Int} (h0 : 0 ≤ g) (h1 : 8 * g ≤ 68719476736) (h : KIs g n) (k : KIs (8 * g) m) : 0 ≤ m - 2 * n ∧ m - 2 * n ≤ 1 := by
  have a := (k_little k (m := 2 * n) (by have := h.1; omega)).2
  have b : 2 * n ≤ m := by
    refine (k_little k (m := 2 * n) (by have := h.1; omega)).1 ?_
    rw [cu_double, gapK_in (by omega)]
    have := (k_little h h.1).2 (Int.le_refl n)
    rw [gapK_in (by omega)] at this
    generalize n * n * n = c at *
    omega
  have c : ¬ 2 * (n + 1) ≤ m := fun l => by
    have := (k_little k (m := 2 * (n + 1)) (by have := h.1; omega)).2 l
    rw [cu_double, gapK_in (by omega)] at this
    have e : ¬ (n + 1) * (n + 1) * (n + 1) * 262144 ≤ gapK g * 10000000000000000000 := fun x => by
      have := (k_little h (m := n + 1) (by have := h.1; omega)).1 x; omega
    rw [gapK_in (by omega)] at e
    generalize (n + 1) * (n + 1) * (n + 1) = c at *
    omega
  omega
/-- Where a window grows next. -/
def fastN (last now : Int) : Int := if last ≤ now then now else if now < 0 then 0 else now * 17 / 20
theorem fast_in {last now : Int} (h : In64 now) : In64 (fastN last now) := by
  unfold In64 at *
  unfold fastN
  repeat' split
  all_goals omega
def IsWin (n : Int) : Prop := 0 ≤ n ∧ n ≤ 68719476736
instance (n : Int) : Decidable (IsWin n) := by unfold IsWin; infer_instance

/-- The time between two losses. -/
structure Ep where
  on : Bool
  start : Int
  first : Int
  most : Int
  k : Int
  est : Int
def Ep.new : Ep := ⟨false, 0, 0, 0, 0, 0⟩
def In64E (e : Ep) : Prop := In64 e.start ∧ In64 e.first ∧ In64 e.most ∧ In64 e.k ∧ In64 e.est
/-- It may be. -/
def MayE (e : Ep) : Prop := (e.on = false ∧ e.start = 0 ∧ e.first = 0 ∧ e.most = 0 ∧ e.k = 0 ∧ e.est = 0) ∨
  (e.on = true ∧ IsTime e.start ∧ IsWin e.first ∧ IsWin e.most ∧ IsWin e.est ∧ e.first ≤ e.most ∧ KIs (e.most - e.first) e.k)
instance (g n : Int) : Decidable (KIs g n) := by unfold KIs IsThird; infer_instance
instance (e : Ep) : Decidable (MayE e) := by unfold MayE IsTime; infer_instance
/-- What begins one. -/
def BeginIs (a now most : Int) (e : Ep) (er : Int) : Prop :=
  (¬ (IsTime a ∧ IsWin now ∧ IsWin most) ∧ e = Ep.new ∧ er = 201) ∨
  (IsTime a ∧ IsWin now ∧ IsWin most ∧ er = 0 ∧ ∃ k, KIs ((if most < now then now else most) - now) k ∧ e = ⟨true, a, now, if most < now then now else most, k, now⟩)
theorem begin_ex (a now most : Int) : ∃ e er, BeginIs a now most e er := by
  by_cases h : IsTime a ∧ IsWin now ∧ IsWin most
  · obtain ⟨k, hk⟩ := k_ex ((if most < now then now else most) - now)
    exact ⟨_, 0, Or.inr ⟨h.1, h.2.1, h.2.2, rfl, k, hk, rfl⟩⟩
  · exact ⟨Ep.new, 201, Or.inl ⟨h, rfl, rfl⟩⟩
theorem begin_in64 {a now most er : Int} {e : Ep} (h : BeginIs a now most e er) : In64E e := by
  rcases h with ⟨_, rfl, _⟩ | ⟨ht, hn, hm, _, k, hk, rfl⟩
  · unfold In64E In64 Ep.new; decide
  · have := k_range hk
    unfold IsTime at ht
    unfold IsWin at hn hm
    unfold In64E In64
    simp only []
    split <;> omega
theorem begin_may {a now most er : Int} {e : Ep} (h : BeginIs a now most e er) : MayE e := by
  rcases h with ⟨_, rfl, _⟩ | ⟨ht, hn, hm, _, k, hk, rfl⟩
  · exact Or.inl ⟨rfl, rfl, rfl, rfl, rfl, rfl⟩
  · refine Or.inr ⟨rfl, ht, hn, ?_, hn, ?_, hk⟩
    · simp only []; split <;> assumption
    · simp only []; split <;> omega
/-- Later. -/
def shiftE (e : Ep) (d : Int) : Ep :=
  if e.on = false ∨ d < 1 then e else ⟨true, if 1099511627776 < e.start + d then 1099511627776 else e.start + d, e.first, e.most, e.k, e.est⟩
theorem shift_in64 {e : Ep} {d : Int} (h : In64E e) (hd : In64 d) : In64E (shiftE e d) := by
  unfold shiftE
  split
  · exact h
  · unfold In64E In64 at *
    simp only []
    split <;> omega
theorem shift_may {e : Ep} {d : Int} (h : MayE e) : MayE (shiftE e d) := by
  unfold shiftE
  split
  · exact h
  · rcases h with ⟨h0, _⟩ | ⟨_, ht, h⟩
    · rename_i x _; exact absurd (Or.inl h0) x
    · refine Or.inr ⟨rfl, ?_, h⟩
      rename_i x
      unfold IsTime at *
      simp only []
      split <;> omega
end Go.Proofs.YtdbikeehoildlaaDoor
