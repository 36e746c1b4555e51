/-
  In one text: Told04, Frac04, Round04, Parts04.
-/
import Derived.Test.YtdbikeehoildlaaDoorSemA02
import Derived.Test.YtdbikeehoildlaaDoorRoom
import Derived.Deep.RegionHeld3
import Derived.Deep.RegionWith
import Derived.Deep.DeepCutAuto
namespace Go.Proofs.YtdbikeehoildlaaDoor
open Go.RowKit

/-- What is told of a whole number: it, or that it is none of 64 bits. -/
def Told (n v e : Int) : Prop := (In64 n ∧ v = n ∧ e = 0) ∨ (¬ In64 n ∧ v = 0 ∧ e = 10)
/-- What is told of a part by c: that c is below 1, or the number. -/
def Part (c n v e : Int) : Prop := (c < 1 ∧ v = 0 ∧ e = 20) ∨ (1 ≤ c ∧ Told n v e)
theorem told_ex (n : Int) : ∃ v e, Told n v e := by
  by_cases h : In64 n
  · exact ⟨n, 0, Or.inl ⟨h, rfl, rfl⟩⟩
  · exact ⟨0, 10, Or.inr ⟨h, rfl, rfl⟩⟩
theorem part_ex (c n : Int) : ∃ v e, Part c n v e := by
  by_cases h : c < 1
  · exact ⟨0, 20, Or.inl ⟨h, rfl, rfl⟩⟩
  · obtain ⟨v, e, t⟩ := told_ex n
    exact ⟨v, e, Or.inr ⟨by omega, t⟩⟩
theorem part_yes {c n : Int} (hc : 1 ≤ c) (h : In64 n) : Part c n n 0 := Or.inr ⟨hc, Or.inl ⟨h, rfl, rfl⟩⟩
theorem part_over {c n : Int} (hc : 1 ≤ c) (h : ¬ In64 n) : Part c n 0 10 := Or.inr ⟨hc, Or.inr ⟨h, rfl, rfl⟩⟩
theorem part_zero {c n : Int} (hc : c < 1) : Part c n 0 20 := Or.inl ⟨hc, rfl, rfl⟩
theorem told_uniq {n v e v' e' : Int} (t : Told n v e) (t' : Told n v' e') : v = v' ∧ e = e' := by
  rcases t with ⟨h, rfl, rfl⟩ | ⟨h, rfl, rfl⟩ <;> rcases t' with ⟨h', rfl, rfl⟩ | ⟨h', rfl, rfl⟩ <;> first | exact ⟨rfl, rfl⟩ | exact absurd h h' | exact absurd h' h
theorem part_uniq {c n v e v' e' : Int} (t : Part c n v e) (t' : Part c n v' e') : v = v' ∧ e = e' := by
  rcases t with ⟨h, rfl, rfl⟩ | ⟨h, t⟩ <;> rcases t' with ⟨h', rfl, rfl⟩ | ⟨h', t'⟩
  · exact ⟨rfl, rfl⟩
  · exfalso; omega
  · exfalso; omega
  · exact told_uniq t t'
theorem told_in {n v e : Int} (t : Told n v e) : In64 v := by
  rcases t with ⟨h, rfl, rfl⟩ | ⟨h, rfl, rfl⟩
  · exact h
  · unfold In64; omega
theorem part_in {c n v e : Int} (t : Part c n v e) : In64 v := by
  rcases t with ⟨h, rfl, rfl⟩ | ⟨h, t⟩
  · unfold In64; omega
  · exact told_in t
theorem part_ok {c n v : Int} (t : Part c n v 0) : 1 ≤ c ∧ v = n ∧ In64 n := by
  rcases t with ⟨h, rfl, h2⟩ | ⟨h, ⟨h1, rfl, h2⟩ | ⟨h1, rfl, h2⟩⟩
  · exact absurd h2 (by omega)
  · exact ⟨h, rfl, h1⟩
  · exact absurd h2 (by omega)
theorem part_err {c n v e : Int} (t : Part c n v e) : (e = 0 ∧ 1 ≤ c) ∨ (e = 10 ∧ v = 0 ∧ 1 ≤ c) ∨ (e = 20 ∧ v = 0 ∧ c < 1) := by
  rcases t with ⟨h, rfl, rfl⟩ | ⟨h, ⟨h1, rfl, rfl⟩ | ⟨h1, rfl, rfl⟩⟩
  · exact Or.inr (Or.inr ⟨rfl, rfl, h⟩)
  · exact Or.inl ⟨rfl, h⟩
  · exact Or.inr (Or.inl ⟨rfl, rfl, h⟩)

/-- From above, and the nearest one. -/
def ceilOf (m c : Int) : Int := (m + (c - 1)) / c
def nearOf (m c : Int) : Int := (m + c / 2) / c

theorem up_part {m c k : Int} (hc : 1 ≤ c) (h0 : 0 ≤ k) (h1 : k < c) : (m + k) / c = if c - k ≤ m % c then m / c + 1 else m / c := by
  have a := Int.mul_ediv_add_emod m c
  have a2 := Int.emod_nonneg m (show c ≠ 0 by omega)
  have a3 := Int.emod_lt_of_pos m (show 0 < c by omega)
  split
  · refine ((Int.ediv_emod_unique (a := m + k) (q := m / c + 1) (r := m % c + k - c) (show 0 < c by omega)).2 ⟨?_, by omega, by omega⟩).1
    rw [Int.mul_add, Int.mul_one]; omega
  · refine ((Int.ediv_emod_unique (a := m + k) (q := m / c) (r := m % c + k) (show 0 < c by omega)).2 ⟨?_, by omega, by omega⟩).1
    omega
theorem ceil_part {m c : Int} (hc : 1 ≤ c) : ceilOf m c = if m % c = 0 then m / c else m / c + 1 := by
  have a2 := Int.emod_nonneg m (show c ≠ 0 by omega)
  unfold ceilOf
  rw [up_part hc (by omega) (by omega)]
  split <;> split <;> omega
theorem near_part {m c : Int} (hc : 1 ≤ c) : nearOf m c = if c - m % c ≤ m % c then m / c + 1 else m / c := by
  unfold nearOf
  rw [up_part hc (by omega) (by omega)]
  split <;> split <;> omega

/-- A size that a product of two numbers of 64 bits has. -/
def In126 (n : Int) : Prop := -85070591730234615865843651857942052864 ≤ n ∧ n ≤ 85070591730234615865843651857942052864
theorem mul_126 {a c : Int} (h : In64 a) (k : In64 c) : In126 (a * c) := by
  have e := mag_mul a c
  have m1 : 0 ≤ mag a ∧ mag a ≤ 9223372036854775808 := by unfold In64 at h; unfold mag; split <;> omega
  have m2 : 0 ≤ mag c ∧ mag c ≤ 9223372036854775808 := by unfold In64 at k; unfold mag; split <;> omega
  have := Int.mul_le_mul m1.2 m2.2 m2.1 (by omega)
  rw [← e] at this
  unfold In126; unfold mag at this; split at this <;> omega
theorem div_126 {m c : Int} (h : In126 m) (hc : 1 ≤ c) : In126 (m / c) := by
  have a := Int.mul_ediv_add_emod m c
  have a2 := Int.emod_nonneg m (show c ≠ 0 by omega)
  have a3 := Int.emod_lt_of_pos m (show 0 < c by omega)
  unfold In126 at *
  constructor
  · rw [Int.le_ediv_iff_mul_le (by omega)]
    have := Int.mul_le_mul_of_nonpos_left (a := -85070591730234615865843651857942052864) (by omega) hc
    omega
  · rw [← Int.lt_add_one_iff, Int.ediv_lt_iff_lt_mul (by omega)]
    have := Int.mul_le_mul_of_nonneg_left (c := 85070591730234615865843651857942052865) hc (by omega)
    omega
theorem big_126 {n : Int} (h : In126 n) : InBig n := by unfold In126 at h; unfold InBig; omega
theorem big_127 {n : Int} (h : In126 n) : InBig (n + 1) := by unfold In126 at h; unfold InBig; omega

/-- A part's four cells. -/
theorem Kept.four {w1 w2 : World} {p0 p1 p2 p3 : Addr} {v0 v1 v2 v3 : Value} (k : Kept w1 w2) (h : Hid (w1.cell? p0 = some v0 ∧ w1.cell? p1 = some v1 ∧ w1.cell? p2 = some v2 ∧ w1.cell? p3 = some v3)) : w2.cell? p0 = some v0 ∧ w2.cell? p1 = some v1 ∧ w2.cell? p2 = some v2 ∧ w2.cell? p3 = some v3 := by
  obtain ⟨h0, h1, h2, h3⟩ := h.out
  exact ⟨k.read h0, k.read h1, k.read h2, k.read h3⟩
theorem far_four {w1 : World} {p0 p1 p2 p3 : Addr} {v0 v1 v2 v3 : Value} {b : Nat} {x y z : Value} (h : w1.cell? p0 = some v0 ∧ w1.cell? p1 = some v1 ∧ w1.cell? p2 = some v2 ∧ w1.cell? p3 = some v3) (f : p0.block ≠ b ∧ p1.block ≠ b ∧ p2.block ≠ b ∧ p3.block ≠ b) : (((w1.setCell ⟨b, 0, none⟩ x).setCell ⟨b, 1, none⟩ y).setCell ⟨b, 2, none⟩ z).cell? p0 = some v0 ∧ (((w1.setCell ⟨b, 0, none⟩ x).setCell ⟨b, 1, none⟩ y).setCell ⟨b, 2, none⟩ z).cell? p1 = some v1 ∧ (((w1.setCell ⟨b, 0, none⟩ x).setCell ⟨b, 1, none⟩ y).setCell ⟨b, 2, none⟩ z).cell? p2 = some v2 ∧ (((w1.setCell ⟨b, 0, none⟩ x).setCell ⟨b, 1, none⟩ y).setCell ⟨b, 2, none⟩ z).cell? p3 = some v3 := by
  obtain ⟨h0, h1, h2, h3⟩ := h
  obtain ⟨f0, f1, f2, f3⟩ := f
  exact ⟨read_far (read_far (read_far h0 f0) f0) f0, read_far (read_far (read_far h1 f1) f1) f1, read_far (read_far (read_far h2 f2) f2) f2, read_far (read_far (read_far h3 f3) f3) f3⟩
theorem Kept.new1 {w w2 : World} {x : Value} {t : TypeId} (k : Kept (w.alloc (.cells #[x] t)) w2) : w2.cell? ⟨w.heap.size, 0, none⟩ = some x := k.read (by simp [go_sem])

end Go.Proofs.YtdbikeehoildlaaDoor
namespace Go.Proofs.YtdbikeehoildlaaDoor
open Go.RowKit Go.BigFrame

end Go.Proofs.YtdbikeehoildlaaDoor
namespace Go.Proofs.YtdbikeehoildlaaDoor
open Go.RowKit Go.BigFrame

end Go.Proofs.YtdbikeehoildlaaDoor
namespace Go.Proofs.YtdbikeehoildlaaDoor
open Go.RowKit Go.BigFrame

theorem one_in : In64 65536 := by unfold In64; omega
theorem whole_in {n : Int} (h : In64 n) : In64 (n * 1 / 65536) := by unfold In64 at *; omega
end Go.Proofs.YtdbikeehoildlaaDoor
