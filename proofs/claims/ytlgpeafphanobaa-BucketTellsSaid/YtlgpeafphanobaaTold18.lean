/-
  Plain words of layer 18: a bucket of bytes.
-/
import Derived.Test.YtlgpeafphanobaaClock05
import Derived.Test.YtlgpeafphanobaaTold17
namespace Go.Proofs.Ytlgpeafphanobaa
open Go.RowKit

/-- It may be. -/
def MayB (a h : Int) : Prop := IsTime a ∧ 0 ≤ h ∧ h ≤ 1152921504606846976
instance (a h : Int) : Decidable (MayB a h) := by unfold MayB IsTime; infer_instance
theorem taken_range (n : Int) : 0 ≤ heldTime n ∧ heldTime n ≤ 1099511627776 := by unfold heldTime; split <;> (try split) <;> omega
/-- What it has at most. -/
def topN (most : Int) : Int := heldTime most * 1000000
theorem topN_range (most : Int) : 0 ≤ topN most ∧ topN most ≤ 1099511627776000000 := by have := taken_range most; unfold topN; omega
/-- What it has, so much later. -/
def rawB (h rate d : Int) : Int := heldAt (h + heldAt (heldTime rate * d))
def capB (h rate d most : Int) : Int := if topN most < rawB h rate d then topN most else rawB h rate d
def fillB (h rate d most : Int) : Int := if capB h rate d most < h then h else capB h rate d most
theorem fill_min {h rate d most : Int} (h0 : 0 ≤ h) (h1 : h ≤ 1152921504606846976) (d0 : 0 ≤ d) : fillB h rate d most = max h (min (h + heldTime rate * d) (topN most)) := by
  have t := topN_range most
  have p : 0 ≤ heldTime rate * d := Int.mul_nonneg (taken_range rate).1 d0
  unfold fillB capB rawB
  generalize heldTime rate * d = x at *
  generalize topN most = m at *
  have e : heldAt x = if 9223372036854775807 < x then 9223372036854775807 else x := by
    unfold heldAt; split
    · rfl
    · rw [if_neg (by omega)]
  rw [e]
  by_cases c : 9223372036854775807 < x
  · rw [if_pos c]
    have e2 : heldAt (h + 9223372036854775807) = 9223372036854775807 := by unfold heldAt; split; rfl; rw [if_neg (by omega)]; omega
    rw [e2, if_pos (show m < 9223372036854775807 by omega)]
    split <;> omega
  · rw [if_neg c]
    by_cases c2 : 9223372036854775807 < h + x
    · rw [heldAt_up c2, if_pos (show m < 9223372036854775807 by omega)]; split <;> omega
    · rw [heldAt_of (by unfold In64; omega)]; split <;> split <;> omega
theorem fill_range {h rate d most : Int} (h0 : 0 ≤ h) (h1 : h ≤ 1152921504606846976) (d0 : 0 ≤ d) : h ≤ fillB h rate d most ∧ fillB h rate d most ≤ 1152921504606846976 := by
  have t := topN_range most
  rw [fill_min h0 h1 d0]; omega
/-- In two steps. -/
theorem fill_parts {h rate a b most : Int} (h0 : 0 ≤ h) (h1 : h ≤ 1152921504606846976) (a0 : 0 ≤ a) (b0 : 0 ≤ b) : fillB (fillB h rate a most) rate b most = fillB h rate (a + b) most := by
  have r := fill_range (rate := rate) (most := most) h0 h1 a0
  rw [fill_min (h := fillB h rate a most) (by omega) r.2 b0, fill_min h0 h1 a0, fill_min h0 h1 (by omega), Int.mul_add]
  have p : 0 ≤ heldTime rate * a := Int.mul_nonneg (taken_range rate).1 a0
  have q : 0 ≤ heldTime rate * b := Int.mul_nonneg (taken_range rate).1 b0
  omega
/-- How many whole bytes. -/
def bytesB (a h : Int) : Int := if MayB a h then h / 1000000 else 0
/-- It behind some time, and its error. -/
def FillIs (a h at_ rate most a' h' er : Int) : Prop :=
  (¬ MayB a h ∧ a' = a ∧ h' = h ∧ er = 201) ∨ (MayB a h ∧ ¬ IsTime at_ ∧ a' = a ∧ h' = h ∧ er = 51) ∨ (MayB a h ∧ IsTime at_ ∧ at_ < a ∧ a' = a ∧ h' = h ∧ er = 50) ∨
  (MayB a h ∧ IsTime at_ ∧ a ≤ at_ ∧ a' = at_ ∧ h' = fillB h rate (at_ - a) most ∧ er = 0)
theorem fill_ex (a h at_ rate most : Int) : ∃ a' h' er, FillIs a h at_ rate most a' h' er := by
  by_cases m : MayB a h
  · by_cases t : IsTime at_
    · by_cases l : at_ < a
      · exact ⟨_, _, _, Or.inr (Or.inr (Or.inl ⟨m, t, l, rfl, rfl, rfl⟩))⟩
      · exact ⟨_, _, _, Or.inr (Or.inr (Or.inr ⟨m, t, by omega, rfl, rfl, rfl⟩))⟩
    · exact ⟨_, _, _, Or.inr (Or.inl ⟨m, t, rfl, rfl, rfl⟩)⟩
  · exact ⟨_, _, _, Or.inl ⟨m, rfl, rfl, rfl⟩⟩
theorem fill_may {a h at_ rate most a' h' er : Int} (f : FillIs a h at_ rate most a' h' er) (m : MayB a h) : MayB a' h' := by
  rcases f with ⟨x, _⟩ | ⟨_, _, rfl, rfl, _⟩ | ⟨_, _, _, rfl, rfl, _⟩ | ⟨_, t, l, rfl, rfl, _⟩
  · exact absurd m x
  · exact m
  · exact m
  · have r := fill_range (rate := rate) (d := a' - a) (most := most) m.2.1 m.2.2 (by omega)
    exact ⟨t, by have := m.2.1; omega, r.2⟩
/-- With so many bytes less, and its error. -/
def TakeIs (a h n h' er : Int) : Prop :=
  (¬ (MayB a h ∧ 1 ≤ n) ∧ h' = h ∧ er = 201) ∨ (MayB a h ∧ 1 ≤ n ∧ h / 1000000 < n ∧ h' = h ∧ er = 203) ∨ (MayB a h ∧ 1 ≤ n ∧ n ≤ h / 1000000 ∧ h' = h - 1000000 * n ∧ er = 0)
theorem take_ex (a h n : Int) : ∃ h' er, TakeIs a h n h' er := by
  by_cases m : MayB a h ∧ 1 ≤ n
  · by_cases l : h / 1000000 < n
    · exact ⟨_, _, Or.inr (Or.inl ⟨m.1, m.2, l, rfl, rfl⟩)⟩
    · exact ⟨_, _, Or.inr (Or.inr ⟨m.1, m.2, by omega, rfl, rfl⟩)⟩
  · exact ⟨_, _, Or.inl ⟨m, rfl, rfl⟩⟩
theorem take_may {a h n h' er : Int} (f : TakeIs a h n h' er) (m : MayB a h) : MayB a h' := by
  rcases f with ⟨_, rfl, _⟩ | ⟨_, _, _, rfl, _⟩ | ⟨_, n0, l, rfl, _⟩
  · exact m
  · exact m
  · exact ⟨m.1, by omega, by have := m.2.2; omega⟩
/-- How long it takes, till it has so many bytes. -/
def needB (n : Int) : Int := heldAt ((if n < 0 then 0 else n) * 1000000)
def waitB (a h n rate : Int) : Int := if ¬ MayB a h ∨ needB n ≤ h then 0 else if rate < 1 then 1099511627776 else if 1099511627776 < ceilOf (needB n - h) (heldTime rate) then 1099511627776 else ceilOf (needB n - h) (heldTime rate)
theorem need_of {n : Int} (h0 : 0 ≤ n) (h1 : n ≤ 9223372036854) : needB n = n * 1000000 := by unfold needB; rw [if_neg (by omega)]; exact heldAt_of (by unfold In64; omega)
/-- After the time to wait they are there, and one millionth ahead they are not. -/
theorem wait_fills {a h k r : Int} (m : MayB a h) (k0 : 0 ≤ k) (k1 : k ≤ 65535) (r0 : 1 ≤ r) (r1 : r ≤ 4294967296) (t1 : waitB a h k r ≤ 274877906944) :
    k ≤ fillB h r (waitB a h k r) k / 1000000 ∧ (waitB a h k r = 0 ∨ fillB h r (waitB a h k r - 1) k / 1000000 < k) := by
  obtain ⟨_, h0, h1⟩ := m
  have mm : MayB a h := ⟨by assumption, h0, h1⟩
  have tp : topN k = k * 1000000 := by unfold topN heldTime; rw [if_neg (by omega), if_neg (by omega)]
  have hr : heldTime r = r := by unfold heldTime; rw [if_neg (by omega), if_neg (by omega)]
  have nd := need_of (n := k) k0 (by omega)
  by_cases c : k * 1000000 ≤ h
  · have e : waitB a h k r = 0 := by unfold waitB; rw [if_pos (Or.inr (by rw [nd]; exact c))]
    rw [e]
    have f := fill_range (rate := r) (d := 0) (most := k) h0 h1 (by omega)
    exact ⟨by omega, Or.inl rfl⟩
  · have e : waitB a h k r = ceilOf (k * 1000000 - h) r := by
      have w : waitB a h k r = if 1099511627776 < ceilOf (k * 1000000 - h) r then 1099511627776 else ceilOf (k * 1000000 - h) r := by
        unfold waitB
        rw [if_neg (by rw [nd]; intro x; rcases x with x | x; exact x mm; exact c x), if_neg (by omega), nd, hr]
      rw [w] at t1 ⊢
      split at t1
      · omega
      · rw [if_neg (by assumption)]
    have cl := ceil_least (m := k * 1000000 - h) (c := r) r0
    have cp : 0 ≤ ceilOf (k * 1000000 - h) r := ceil_pos (by omega) r0
    rw [← e] at cl cp
    have c1 : 1 ≤ waitB a h k r := by
      rcases Int.lt_or_le 0 (waitB a h k r) with z | z
      · omega
      · have z0 : waitB a h k r = 0 := by omega
        rw [z0] at cl; omega
    rw [fill_min h0 h1 cp, fill_min h0 h1 (by omega), tp, hr]
    have e1 : r * waitB a h k r = waitB a h k r * r := Int.mul_comm _ _
    have e2 : r * (waitB a h k r - 1) = (waitB a h k r - 1) * r := Int.mul_comm _ _
    rw [e1, e2]
    generalize waitB a h k r * r = x at *
    generalize (waitB a h k r - 1) * r = y at *
    exact ⟨by omega, Or.inr (by omega)⟩
end Go.Proofs.Ytlgpeafphanobaa
