/-
  Plain words of layer 12: the window of the law, by the cube of the time.
-/
import Derived.Test.YtlonfobeblnbbaaDoorTold11
namespace Go.Proofs.YtlonfobeblnbbaaDoor
open Go.RowKit

/-- Cubes rise. -/
theorem cu_rise {a b : Int} (h : a ≤ b) : a * a * a ≤ b * b * b := by
  by_cases ha : 0 ≤ a
  · exact cu_le ha h
  · by_cases hb : 0 ≤ b
    · have x := cu_nonneg hb
      have y := cu_nonneg (a := -a) (by omega)
      have e : -a * -a * -a = -(a * a * a) := by rw [Int.neg_mul_neg, Int.mul_neg]
      rw [e] at y
      omega
    · have y := cu_le (a := -b) (b := -a) (by omega) (by omega)
      have e : ∀ x : Int, -x * -x * -x = -(x * x * x) := fun x => by rw [Int.neg_mul_neg, Int.mul_neg]
      rw [e, e] at y
      omega
theorem cu_neg (x : Int) : -x * -x * -x = -(x * x * x) := by rw [Int.neg_mul_neg, Int.mul_neg]
/-- The time that counts. -/
def clampT (d : Int) : Int := if d < -2147483648 then -2147483648 else if 2147483648 < d then 2147483648 else d
theorem clampT_range (d : Int) : -2147483648 ≤ clampT d ∧ clampT d ≤ 2147483648 := by unfold clampT; split <;> (try split) <;> omega
theorem clampT_mono {a b : Int} (h : a ≤ b) : clampT a ≤ clampT b := by unfold clampT; split <;> split <;> (try split) <;> (try split) <;> omega
theorem clampT_of {d : Int} (h : -2147483648 ≤ d ∧ d ≤ 2147483648) : clampT d = d := by unfold clampT; rw [if_neg (by omega), if_neg (by omega)]
theorem clampT_up {d : Int} (h : 2147483648 ≤ d) : clampT d = 2147483648 := by unfold clampT; rw [if_neg (by omega)]; split <;> omega
/-- What rises. -/
def riseN (d : Int) : Int := clampT d * clampT d * clampT d * 262144 / 10000000000000000000
theorem rise_mono {a b : Int} (h : a ≤ b) : riseN a ≤ riseN b := by
  have := cu_rise (clampT_mono h)
  unfold riseN
  generalize clampT a * clampT a * clampT a = x at *
  generalize clampT b * clampT b * clampT b = y at *
  omega
theorem rise_top : riseN 2147483648 = 259614842926741 := by decide
theorem rise_low : riseN (-2147483648) = -259614842926742 := by decide
theorem rise_zero : riseN 0 = 0 := by decide
theorem rise_range (d : Int) : -259614842926742 ≤ riseN d ∧ riseN d ≤ 259614842926741 := by
  have a : riseN (clampT d) = riseN d := by unfold riseN; rw [clampT_of (clampT_range d)]
  have b := rise_mono (clampT_range d).1
  have c := rise_mono (clampT_range d).2
  rw [rise_low] at b
  rw [rise_top] at c
  omega
theorem rise_pos {d : Int} (h : 0 ≤ d) : 0 ≤ riseN d := by have := rise_mono h; rw [rise_zero] at this; exact this
theorem rise_up {d : Int} (h : 2147483648 ≤ d) : riseN d = 259614842926741 := by rw [← rise_top]; unfold riseN; rw [clampT_up h, clampT_up (Int.le_refl _)]
/-- The cube that is divided. -/
def cubeN (d : Int) : Int := d * d * d * 262144
theorem cube_range {d : Int} (h : -2147483648 ≤ d ∧ d ≤ 2147483648) : -2596148429267413814265248164610048 ≤ cubeN d ∧ cubeN d ≤ 2596148429267413814265248164610048 := by
  have b := cu_rise h.1
  have c := cu_rise h.2
  unfold cubeN
  generalize d * d * d = x at *
  omega
theorem rise_of {d : Int} (h : -2147483648 ≤ d ∧ d ≤ 2147483648) : riseN d = cubeN d / 10000000000000000000 := by unfold riseN cubeN; rw [clampT_of h]
theorem rise_exact {d : Int} (h : -2147483648 ≤ d ∧ d ≤ 2147483648) : riseN d * 10000000000000000000 ≤ cubeN d ∧ cubeN d < (riseN d + 1) * 10000000000000000000 := by
  rw [rise_of h]
  generalize cubeN d = x
  omega
theorem rise_turned {d : Int} (h : -2147483648 ≤ d ∧ d ≤ 2147483648) : riseN (-d) = -(riseN d) ∨ riseN (-d) = -(riseN d) - 1 := by
  rw [rise_of h, rise_of (by omega)]
  have e : cubeN (-d) = -(cubeN d) := by unfold cubeN; rw [cu_neg]; omega
  rw [e]
  generalize cubeN d = x
  omega
/-- An epoch that may be, and goes on. -/
def OnE (e : Ep) : Prop := MayE e ∧ e.on = true
instance (e : Ep) : Decidable (OnE e) := by unfold OnE; infer_instance
/-- The window of the law, of such a one. -/
def atV (e : Ep) (now : Int) : Int := gapK (e.most + riseN (heldAt (heldAt (now - e.start) - e.k)))
def atN (e : Ep) (now : Int) : Int := if OnE e then atV e now else 0
theorem atV_mono (e : Ep) {a b : Int} (h : a ≤ b) : atV e a ≤ atV e b := by
  unfold atV
  have h1 : heldAt (a - e.start) ≤ heldAt (b - e.start) := heldAt_mono (by omega)
  have h2 : heldAt (heldAt (a - e.start) - e.k) ≤ heldAt (heldAt (b - e.start) - e.k) := heldAt_mono (by omega)
  have := rise_mono h2
  exact gapK_rises (by omega)
theorem atN_mono (e : Ep) {a b : Int} (h : a ≤ b) : atN e a ≤ atN e b := by
  unfold atN
  split
  · exact atV_mono e h
  · exact Int.le_refl _
theorem atV_range (e : Ep) (now : Int) : 0 ≤ atV e now ∧ atV e now ≤ 68719476736 := gapK_range _
theorem atN_range (e : Ep) (now : Int) : 0 ≤ atN e now ∧ atN e now ≤ 68719476736 := by
  unfold atN
  split
  · exact atV_range e now
  · omega
theorem atN_on {e : Ep} (h : OnE e) (now : Int) : atN e now = atV e now := by unfold atN; rw [if_pos h]
/-- What an epoch's numbers lie in. -/
theorem onE_in {e : Ep} (h : OnE e) : IsTime e.start ∧ IsWin e.first ∧ IsWin e.most ∧ e.first ≤ e.most ∧ 0 ≤ e.k ∧ e.k ≤ 137883820 := by
  rcases h.1 with ⟨h0, _⟩ | ⟨_, a, b, c, _, d, k⟩
  · rw [h.2] at h0; cases h0
  · exact ⟨a, b, c, d, (k_range k).1, (k_range k).2⟩
/-- Of a time since the beginning, nothing is held. -/
theorem atV_since {e : Ep} (h : OnE e) {t : Int} (h0 : -4611686018427387904 ≤ t) (h1 : t ≤ 4611686018427387904) : atV e (e.start + t) = gapK (e.most + riseN (t - e.k)) := by
  have q := onE_in h
  unfold atV
  rw [show e.start + t - e.start = t by omega, heldAt_of (n := t) (by unfold In64; omega), heldAt_of (by unfold In64; omega)]
theorem atV_at_k {e : Ep} (h : OnE e) : atV e (e.start + e.k) = e.most := by
  have q := onE_in h
  rw [atV_since h (by omega) (by omega), show e.k - e.k = 0 by omega, rise_zero, Int.add_zero]
  exact gapK_in q.2.2.1
theorem atV_top {e : Ep} (h : OnE e) : atV e (e.start + 2147483648 + e.k) = 68719476736 := by
  have q := onE_in h
  rw [show e.start + 2147483648 + e.k = e.start + (2147483648 + e.k) by omega, atV_since h (by omega) (by omega), show 2147483648 + e.k - e.k = 2147483648 by omega, rise_top]
  have := q.2.2.1
  unfold IsWin at this
  exact gapK_high (by omega)
theorem atV_later {e : Ep} (h : OnE e) {l : Int} (h0 : 0 ≤ l) (h1 : l ≤ 4294967296) : e.most ≤ atV e (e.start + e.k + l) := by
  have q := onE_in h
  have := atV_mono e (a := e.start + e.k) (b := e.start + e.k + l) (by omega)
  rw [atV_at_k h] at this
  exact this
/-- The law at the beginning. -/
theorem atV_first {e : Ep} (h : OnE e) : e.first ≤ atV e e.start ∧ atV e e.start ≤ e.first + 1500 ∧ atV e e.start ≤ e.most := by
  have q := onE_in h
  have hk : KIs (e.most - e.first) e.k := by
    rcases h.1 with ⟨h0, _⟩ | ⟨_, _, _, _, _, _, k⟩
    · rw [h.2] at h0; cases h0
    · exact k
  have e0 : atV e e.start = gapK (e.most + riseN (-e.k)) := by
    have := atV_since h (t := 0) (by omega) (by omega)
    rw [Int.add_zero, show 0 - e.k = -e.k by omega] at this
    exact this
  have m := atV_mono e (a := e.start) (b := e.start + e.k) (by omega)
  rw [atV_at_k h] at m
  have w := q.2.2.1
  have f := q.2.1
  unfold IsWin at w f
  have l1 := (k_little hk hk.1).2 (Int.le_refl _)
  have l2 : ¬ (e.k + 1) * (e.k + 1) * (e.k + 1) * 262144 ≤ gapK (e.most - e.first) * 10000000000000000000 := fun x => by
    have := (k_little hk (m := e.k + 1) (by omega)).1 x; omega
  rw [gapK_in (by omega)] at l1 l2
  rw [cu_next] at l2
  have s := sq_le hk.1 q.2.2.2.2.2
  have r : riseN (-e.k) = -(e.k * e.k * e.k * 262144) / 10000000000000000000 := by
    rw [rise_of (by omega)]; unfold cubeN; rw [cu_neg, Int.neg_mul]
  generalize e.k * e.k * e.k = c at *
  generalize e.k * e.k = d at *
  have b1 : -(e.most - e.first) ≤ riseN (-e.k) := by rw [r]; omega
  have b2 : riseN (-e.k) ≤ -(e.most - e.first) + 1499 := by rw [r]; omega
  refine ⟨?_, ?_, m⟩
  · rw [e0]
    have := gapK_rises (a := e.first) (b := e.most + riseN (-e.k)) (by omega)
    rw [gapK_in (by omega)] at this
    exact this
  · rw [e0]
    have := gapK_rises (a := e.most + riseN (-e.k)) (b := e.first + 1500) (by omega)
    have t : gapK (e.first + 1500) ≤ e.first + 1500 := by
      unfold gapK
      repeat' split
      all_goals omega
    omega
/-- Up to where a window may grow. -/
def targetN (e : Ep) (now w : Int) : Int := if OnE e ∧ 0 ≤ w then (if atV e now < w then w else if heldAt (w + w / 2) < atV e now then heldAt (w + w / 2) else atV e now) else w
theorem target_in {e : Ep} {now w : Int} (h : In64 w) : In64 (targetN e now w) := by
  have a := atV_range e now
  have b := heldAt_in (w + w / 2)
  unfold targetN
  split
  · split
    · exact h
    · split
      · exact b
      · unfold In64; omega
  · exact h
/-- When a window is reached. -/
def ReachIs (e : Ep) (w n : Int) (b : Bool) : Prop :=
  (¬ (OnE e ∧ w ≤ 68719476736) ∧ n = 0 ∧ b = false) ∨
  (OnE e ∧ w ≤ 68719476736 ∧ b = true ∧ 0 ≤ n ∧ n ≤ 2147483648 + e.k ∧ w ≤ atV e (e.start + n) ∧ (n = 0 ∨ atV e (e.start + n - 1) < w))
theorem reach_one {e : Ep} {w n m : Int} {b c : Bool} (h : ReachIs e w n b) (k : ReachIs e w m c) : n = m ∧ b = c := by
  rcases h with ⟨h0, rfl, rfl⟩ | ⟨h0, h1, rfl, h2, h3, h4, h5⟩ <;> rcases k with ⟨k0, rfl, rfl⟩ | ⟨k0, k1, rfl, k2, k3, k4, k5⟩
  · exact ⟨rfl, rfl⟩
  · exact absurd ⟨k0, k1⟩ h0
  · exact absurd ⟨h0, h1⟩ k0
  · refine ⟨?_, rfl⟩
    rcases Int.lt_trichotomy n m with z | z | z
    · rcases k5 with y | y
      · omega
      · have := atV_mono e (a := e.start + n) (b := e.start + m - 1) (by omega); omega
    · exact z
    · rcases h5 with y | y
      · omega
      · have := atV_mono e (a := e.start + m) (b := e.start + n - 1) (by omega); omega
theorem first_nat (p : Nat → Prop) [DecidablePred p] : ∀ m : Nat, (∃ k, k < m ∧ p k ∧ ∀ j, j < k → ¬ p j) ∨ ∀ k, k < m → ¬ p k
  | 0 => Or.inr (fun k h => absurd h (by omega))
  | m + 1 => by
    rcases first_nat p m with ⟨k, hk, h⟩ | h
    · exact Or.inl ⟨k, by omega, h⟩
    · by_cases hm : p m
      · exact Or.inl ⟨m, by omega, hm, h⟩
      · exact Or.inr (fun k hk => by
          rcases (show k < m ∨ k = m by omega) with g | rfl
          · exact h k g
          · exact hm)
theorem reach_ex (e : Ep) (w : Int) : ∃ n b, ReachIs e w n b := by
  by_cases h : OnE e ∧ w ≤ 68719476736
  · have q := onE_in h.1
    obtain ⟨top, ht⟩ := Int.eq_ofNat_of_zero_le (a := 2147483648 + e.k) (by omega)
    rcases first_nat (fun k => w ≤ atV e (e.start + (k : Int))) (top + 1) with ⟨k, hk, h1, h2⟩ | h1
    · refine ⟨k, true, Or.inr ⟨h.1, h.2, rfl, by omega, by omega, h1, ?_⟩⟩
      by_cases z : k = 0
      · exact Or.inl (by omega)
      · have := h2 (k - 1) (by omega)
        rw [show e.start + ((k - 1 : Nat) : Int) = e.start + (k : Int) - 1 by omega] at this
        exact Or.inr (Int.not_le.1 this)
    · exfalso
      have := h1 top (by omega)
      rw [← ht, ← Int.add_assoc, atV_top h.1] at this
      exact this h.2
  · exact ⟨0, false, Or.inl ⟨h, rfl, rfl⟩⟩
theorem reach_in {e : Ep} {w n : Int} {b : Bool} (h : ReachIs e w n b) : 0 ≤ n ∧ n ≤ 2285367468 := by
  rcases h with ⟨_, rfl, _⟩ | ⟨h0, _, _, h2, h3, _⟩
  · omega
  · have := onE_in h0; omega
/-- A greater window is not reached earlier. -/
theorem reach_rises {e : Ep} {w v n m : Int} (h : ReachIs e w n true) (k : ReachIs e v m true) (l : w ≤ v) : n ≤ m := by
  rcases h with ⟨_, _, z⟩ | ⟨h0, h1, _, h2, h3, h4, h5⟩
  · cases z
  · rcases k with ⟨_, _, z⟩ | ⟨k0, k1, _, k2, k3, k4, k5⟩
    · cases z
    · rcases h5 with y | y
      · omega
      · by_cases x : n ≤ m
        · exact x
        · have := atV_mono e (a := e.start + m) (b := e.start + n - 1) (by omega); omega
/-- So much later. -/
theorem later_on {e : Ep} {by_ : Int} (h : OnE e) (h0 : 0 ≤ by_) (h1 : e.start + by_ ≤ 1099511627776) : OnE (shiftE e by_) ∧ (shiftE e by_).start = e.start + by_ ∧ (shiftE e by_).most = e.most ∧ (shiftE e by_).k = e.k := by
  refine ⟨⟨shift_may h.1, ?_⟩, ?_⟩
  · unfold shiftE; split
    · exact h.2
    · rfl
  · unfold shiftE
    split
    · rename_i x
      rcases x with x | x
      · rw [h.2] at x; cases x
      · exact ⟨by omega, rfl, rfl⟩
    · refine ⟨?_, rfl, rfl⟩
      simp only []
      rw [if_neg (by omega)]
theorem later_at {e : Ep} {by_ t : Int} (h : OnE e) (h0 : 0 ≤ by_) (h1 : e.start + by_ ≤ 1099511627776) (t0 : -4611686018427387904 ≤ t) (t1 : t ≤ 4611686018427387904) : atV (shiftE e by_) (e.start + by_ + t) = atV e (e.start + t) := by
  obtain ⟨a, b, c, d⟩ := later_on h h0 h1
  rw [← b, atV_since a t0 t1, atV_since h t0 t1, c, d]
theorem later_reach {e : Ep} {by_ w n : Int} {b : Bool} (h : OnE e) (h0 : 0 ≤ by_) (h1 : e.start + by_ ≤ 1099511627776) (r : ReachIs e w n b) : ReachIs (shiftE e by_) w n b := by
  obtain ⟨a, bs, c, d⟩ := later_on h h0 h1
  have q := onE_in h
  rcases r with ⟨r0, rfl, rfl⟩ | ⟨r0, r1, rfl, r2, r3, r4, r5⟩
  · exact Or.inl ⟨fun z => r0 ⟨h, z.2⟩, rfl, rfl⟩
  · refine Or.inr ⟨a, r1, rfl, r2, by rw [d]; exact r3, ?_, ?_⟩
    · rw [bs, later_at h h0 h1 (by omega) (by omega)]; exact r4
    · rcases r5 with z | z
      · exact Or.inl z
      · refine Or.inr ?_
        rw [bs, show e.start + by_ + n - 1 = e.start + by_ + (n - 1) by omega, later_at h h0 h1 (by omega) (by omega), show e.start + (n - 1) = e.start + n - 1 by omega]
        exact z
end Go.Proofs.YtlonfobeblnbbaaDoor
