/-
  Plain words of layer 7: what timeouts are.
-/
import Derived.Test.YtmdekgcgfcdppaaRtt06
namespace Go.Proofs.Ytmdekgcgfcdppaa
open Go.RowKit

theorem Kept.all7 {w1 w2 : World} {p0 p1 p2 p3 p4 p5 p6 : Addr} {v0 v1 v2 v3 v4 v5 v6 : Value} (k : Kept w1 w2) (h : Hid (w1.cell? p0 = some v0 ∧ w1.cell? p1 = some v1 ∧ w1.cell? p2 = some v2 ∧ w1.cell? p3 = some v3 ∧ w1.cell? p4 = some v4 ∧ w1.cell? p5 = some v5 ∧ w1.cell? p6 = some v6)) : w2.cell? p0 = some v0 ∧ w2.cell? p1 = some v1 ∧ w2.cell? p2 = some v2 ∧ w2.cell? p3 = some v3 ∧ w2.cell? p4 = some v4 ∧ w2.cell? p5 = some v5 ∧ w2.cell? p6 = some v6 := by
  obtain ⟨h0, h1, h2, h3, h4, h5, h6⟩ := h.out
  exact ⟨k.read h0, k.read h1, k.read h2, k.read h3, k.read h4, k.read h5, k.read h6⟩
theorem kw7 {W : World} {p0 p1 p2 p3 p4 p5 p6 : Addr} {v0 v1 v2 v3 v4 v5 v6 : Value} (h : Hid (W.cell? p0 = some v0 ∧ W.cell? p1 = some v1 ∧ W.cell? p2 = some v2 ∧ W.cell? p3 = some v3 ∧ W.cell? p4 = some v4 ∧ W.cell? p5 = some v5 ∧ W.cell? p6 = some v6)) :
    (∀ p : KW W, p.w.cell? p0 = some v0) ∧ (∀ p : KW W, p.w.cell? p1 = some v1) ∧ (∀ p : KW W, p.w.cell? p2 = some v2) ∧ (∀ p : KW W, p.w.cell? p3 = some v3) ∧ (∀ p : KW W, p.w.cell? p4 = some v4) ∧ (∀ p : KW W, p.w.cell? p5 = some v5) ∧ (∀ p : KW W, p.w.cell? p6 = some v6) :=
  ⟨fun p => p.k.read h.out.1, fun p => p.k.read h.out.2.1, fun p => p.k.read h.out.2.2.1, fun p => p.k.read h.out.2.2.2.1, fun p => p.k.read h.out.2.2.2.2.1, fun p => p.k.read h.out.2.2.2.2.2.1, fun p => p.k.read h.out.2.2.2.2.2.2⟩

theorem int_same_r {k : IntKind} {a b : Int} (h : a = b) : Value.int k a = Value.int k b := by rw [h]
/-- A number, from 1 to 2^40. -/
def heldT (n : Int) : Int := if n < 1 then 1 else if 1099511627776 < n then 1099511627776 else n
theorem heldT_range (n : Int) : 1 ≤ heldT n ∧ heldT n ≤ 1099511627776 := by
  unfold heldT; repeat' split
  all_goals omega
theorem heldT_mono {m n : Int} (h : m ≤ n) : heldT m ≤ heldT n := by
  unfold heldT; repeat' split
  all_goals omega
theorem heldT_is (n : Int) : heldT n = min (max n 1) 1099511627776 := by
  unfold heldT; repeat' split
  all_goals omega
/-- A timeout's base. -/
def BaseIs (b : Bool) (m f g n : Int) : Prop := (¬ (MayRtt b m f ∧ b = true) ∧ n = 1000000) ∨ (MayRtt b m f ∧ b = true ∧ n = m / 8 + max f (heldT g))
theorem base_ex (b : Bool) (m f g : Int) : ∃ n, BaseIs b m f g n := by
  by_cases h : MayRtt b m f ∧ b = true
  · exact ⟨_, Or.inr ⟨h.1, h.2, rfl⟩⟩
  · exact ⟨_, Or.inl ⟨h, rfl⟩⟩
theorem base_one {b : Bool} {m f g n k : Int} (h1 : BaseIs b m f g n) (h2 : BaseIs b m f g k) : n = k := by
  rcases h1 with ⟨a, rfl⟩ | ⟨a, c, rfl⟩ <;> rcases h2 with ⟨a', rfl⟩ | ⟨a', c', rfl⟩
  · rfl
  · exact absurd ⟨a', c'⟩ a
  · exact absurd ⟨a, c⟩ a'
  · rfl
theorem base_range {b : Bool} {m f g n : Int} (h : BaseIs b m f g n) : 1 ≤ n ∧ n ≤ 1100585369600 := by
  have hg := heldT_range g
  rcases h with ⟨_, rfl⟩ | ⟨hm, hb, rfl⟩
  · omega
  · rcases hm with ⟨e, _⟩ | ⟨_, h1, h2, h3, h4⟩
    · rw [e] at hb; cases hb
    · omega
/-- One that is between both bounds. -/
def firstOf (n L G : Int) : Int := min (max n L) G
/-- Doubled so often, each time at most the greatest one. -/
def dblN (G n : Int) : Nat → Int | 0 => n | k + 1 => min (2 * dblN G n k) G
theorem dbl_zero (G n : Int) : dblN G n 0 = n := rfl
theorem dbl_next (G n : Int) (k : Nat) : dblN G n (k + 1) = min (2 * dblN G n k) G := rfl
theorem dbl_range {G n : Int} (h0 : 1 ≤ n) (h1 : n ≤ G) : ∀ k, n ≤ dblN G n k ∧ dblN G n k ≤ G
  | 0 => ⟨Int.le_refl _, h1⟩
  | k + 1 => by
    have := dbl_range h0 h1 k
    rw [dbl_next]; omega
theorem dbl_stays {G n : Int} (h0 : 1 ≤ n) (h1 : n ≤ G) {k : Nat} (h : dblN G n k = G) : ∀ j, dblN G n (k + j) = G
  | 0 => h
  | j + 1 => by
    have := dbl_stays h0 h1 h j
    rw [show k + (j + 1) = (k + j) + 1 by omega, dbl_next]; omega
theorem dbl_more {G n : Int} (h0 : 1 ≤ n) (h1 : n ≤ G) (k : Nat) : ∀ j, dblN G n k ≤ dblN G n (k + j)
  | 0 => Int.le_refl _
  | j + 1 => by
    have := dbl_more h0 h1 k j
    have r := dbl_range h0 h1 (k + j)
    rw [show k + (j + 1) = (k + j) + 1 by omega, dbl_next]; omega
theorem dbl_great {G n : Int} (h0 : 1 ≤ n) (h1 : n ≤ G) : ∀ k : Nat, dblN G n k = G ∨ (2 : Int) ^ k ≤ dblN G n k
  | 0 => Or.inr (by simp [dblN]; omega)
  | k + 1 => by
    rw [dbl_next, Int.pow_succ]
    rcases dbl_great h0 h1 k with h | h
    · left; omega
    · by_cases hg : 2 * dblN G n k ≤ G
      · right; omega
      · left; omega
theorem dbl_forty {G n : Int} (h0 : 1 ≤ n) (h1 : n ≤ G) (h2 : G ≤ 1099511627776) : dblN G n 40 = G := by
  have r := dbl_range h0 h1 40
  rcases dbl_great h0 h1 40 with h | h
  · exact h
  · have e : (2 : Int) ^ 40 = 1099511627776 := by decide
    omega
theorem dbl_late {G n : Int} (h0 : 1 ≤ n) (h1 : n ≤ G) (h2 : G ≤ 1099511627776) {k : Nat} (hk : 40 ≤ k) : dblN G n k = G := by
  have := dbl_stays h0 h1 (dbl_forty h0 h1 h2) (k - 40)
  rwa [show 40 + (k - 40) = k by omega] at this
theorem dbl_mono {G H n m : Int} (h0 : 1 ≤ n) (hn : n ≤ m) (hG : G ≤ H) : ∀ k, dblN G n k ≤ dblN H m k
  | 0 => hn
  | k + 1 => by
    have := dbl_mono h0 hn hG k
    rw [dbl_next, dbl_next]; omega
/-- A timeout, doubled. -/
def OfIs (b : Bool) (m f g l t times v : Int) : Prop := ∃ n, BaseIs b m f g n ∧ v = dblN (heldT t) (firstOf n (heldT l) (heldT t)) times.toNat
theorem of_ex (b : Bool) (m f g l t times : Int) : ∃ v, OfIs b m f g l t times v := by
  obtain ⟨n, h⟩ := base_ex b m f g
  exact ⟨_, n, h, rfl⟩
theorem of_one {b : Bool} {m f g l t times v u : Int} (h1 : OfIs b m f g l t times v) (h2 : OfIs b m f g l t times u) : v = u := by
  obtain ⟨n, a, rfl⟩ := h1
  obtain ⟨k, c, rfl⟩ := h2
  rw [base_one a c]
theorem first_range {n L G : Int} (h0 : 1 ≤ n) (h1 : 1 ≤ L) (h2 : 1 ≤ G) : 1 ≤ firstOf n L G ∧ firstOf n L G ≤ G ∧ min L G ≤ firstOf n L G := by
  unfold firstOf; omega
theorem of_range {b : Bool} {m f g l t times v : Int} (h : OfIs b m f g l t times v) : 1 ≤ v ∧ v ≤ heldT t ∧ min (heldT l) (heldT t) ≤ v ∧ heldT t ≤ 1099511627776 := by
  obtain ⟨n, a, rfl⟩ := h
  have r := base_range a
  have L := heldT_range l
  have G := heldT_range t
  have q := first_range (n := n) r.1 L.1 G.1
  have d := dbl_range q.1 q.2.1 times.toNat
  omega
/-- How often it is to be doubled next. -/
def BackIs (b : Bool) (m f g l t times u : Int) : Prop := (times < 0 ∧ u = 0) ∨ (0 ≤ times ∧ ∃ v, OfIs b m f g l t times v ∧ ((v < heldT t ∧ u = times + 1) ∨ (v = heldT t ∧ u = times)))
theorem back_ex (b : Bool) (m f g l t times : Int) : ∃ u, BackIs b m f g l t times u := by
  by_cases h : times < 0
  · exact ⟨_, Or.inl ⟨h, rfl⟩⟩
  · obtain ⟨v, hv⟩ := of_ex b m f g l t times
    have r := of_range hv
    by_cases e : v < heldT t
    · exact ⟨_, Or.inr ⟨by omega, v, hv, Or.inl ⟨e, rfl⟩⟩⟩
    · exact ⟨_, Or.inr ⟨by omega, v, hv, Or.inr ⟨by omega, rfl⟩⟩⟩
/-- Where it is not the greatest one yet it was doubled fewer than 40 times. -/
theorem of_few {b : Bool} {m f g l t times v : Int} (h : OfIs b m f g l t times v) (hv : v < heldT t) : times < 40 := by
  obtain ⟨n, a, rfl⟩ := h
  have r := base_range a
  have q := first_range (n := n) r.1 (heldT_range l).1 (heldT_range t).1
  by_cases hk : 40 ≤ times.toNat
  · rw [dbl_late q.1 q.2.1 (heldT_range t).2 hk] at hv; omega
  · omega
end Go.Proofs.Ytmdekgcgfcdppaa
