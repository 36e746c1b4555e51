/-
  Plain words of layer 17: how many bytes go in a second.
-/
import Derived.Test.YtlgpeafphanobaaTold11
import Derived.Test.YtlgpeafphanobaaPartA04
import Derived.Test.YtlgpeafphanobaaRtt06
namespace Go.Proofs.Ytlgpeafphanobaa
open Go.RowKit

instance (b : Bool) (m f : Int) : Decidable (MayRtt b m f) := by unfold MayRtt; infer_instance
/-- A segment's bytes. -/
def segT (n : Int) : Int := if n < 1 then 1 else if 65535 < n then 65535 else n
theorem segT_range (n : Int) : 1 ≤ segT n ∧ segT n ≤ 65535 := by unfold segT; split <;> (try split) <;> omega
theorem segT_mono {a b : Int} (h : a ≤ b) : segT a ≤ segT b := by unfold segT; split <;> split <;> (try split) <;> (try split) <;> omega
theorem segT_of {n : Int} (h : 1 ≤ n ∧ n ≤ 65535) : segT n = n := by unfold segT; rw [if_neg (by omega), if_neg (by omega)]
/-- The time there and back that is taken. -/
def timeT (b : Bool) (m f : Int) : Int := if MayRtt b m f ∧ b = true then m.tdiv 8 else 100000
theorem timeT_range (b : Bool) (m f : Int) : 1 ≤ timeT b m f ∧ timeT b m f ≤ 1073741824 := by
  unfold timeT
  split
  · rename_i h
    rcases h.1 with ⟨h0, _⟩ | ⟨_, h1, h2, _⟩
    · rw [h.2] at h0; cases h0
    · rw [Int.tdiv_eq_ediv_of_nonneg (by omega)]; omega
  · omega
theorem timeT_of {m : Int} (h : 1 ≤ m ∧ m ≤ 1073741824) : timeT true (8 * m) 0 = m := by
  unfold timeT
  rw [if_pos ⟨Or.inr ⟨rfl, by omega, by omega, by omega, by omega⟩, rfl⟩, Int.tdiv_eq_ediv_of_nonneg (by omega)]; omega
/-- The gain. -/
def numT (s : Bool) : Int := if s then 2 else 5
def denT (s : Bool) : Int := if s then 1 else 4
/-- How many go, ahead of the least. -/
def goT (s : Bool) (w g t : Int) : Int := w * (numT s * 1000000 * g) / (denT s * 65536 * t)
def ofT (window seg : Int) (b : Bool) (m f : Int) (s : Bool) : Int := if goT s (gapK window) (segT seg) (timeT b m f) < 1 then 1 else goT s (gapK window) (segT seg) (timeT b m f)
theorem div_less17 {n a b : Int} (hn : 0 ≤ n) (ha : 0 < a) (h : a ≤ b) : n / b ≤ n / a := by
  refine Int.le_ediv_of_mul_le ha ?_
  have h1 : n / b * b ≤ n := Int.ediv_mul_le n (by omega)
  have h2 : n / b * a ≤ n / b * b := Int.mul_le_mul_of_nonneg_left h (Int.ediv_nonneg hn (by omega))
  omega
theorem go_pos {s : Bool} {w g t : Int} (hw : 0 ≤ w) (hg : 1 ≤ g) (ht : 1 ≤ t) : 0 ≤ goT s w g t := by
  unfold goT
  cases s <;> exact Int.ediv_nonneg (Int.mul_nonneg hw (by simp [numT]; omega)) (by simp [denT]; omega)
theorem prod_bound {w g : Int} {s : Bool} (hw : 0 ≤ w ∧ w ≤ 68719476736) (hg : 1 ≤ g ∧ g ≤ 65535) : 0 ≤ numT s * 1000000 * g ∧ numT s * 1000000 * g ≤ 327675000000 ∧ 0 ≤ w * (numT s * 1000000 * g) ∧ w * (numT s * 1000000 * g) ≤ 22517654539468800000000 := by
  have a : 0 ≤ numT s * 1000000 * g ∧ numT s * 1000000 * g ≤ 327675000000 := by cases s <;> simp [numT] <;> omega
  refine ⟨a.1, a.2, Int.mul_nonneg hw.1 a.1, ?_⟩
  have := Int.mul_le_mul hw.2 a.2 a.1 (by omega)
  omega
theorem go_bound {w g t : Int} {s : Bool} (hw : 0 ≤ w ∧ w ≤ 68719476736) (hg : 1 ≤ g ∧ g ≤ 65535) (ht : 1 ≤ t) : goT s w g t ≤ 343592140800000000 := by
  have p := prod_bound (s := s) hw hg
  have d : 65536 ≤ denT s * 65536 * t := by cases s <;> simp [denT] <;> omega
  have l := div_less17 (n := w * (numT s * 1000000 * g)) (a := 65536) (b := denT s * 65536 * t) p.2.2.1 (by omega) d
  have q : goT s w g t = w * (numT s * 1000000 * g) / (denT s * 65536 * t) := rfl
  generalize w * (numT s * 1000000 * g) = x at *
  omega
theorem of_range (window seg : Int) (b : Bool) (m f : Int) (s : Bool) : 1 ≤ ofT window seg b m f s ∧ ofT window seg b m f s ≤ 343592140800000000 := by
  have := go_bound (s := s) (gapK_range window) (segT_range seg) (timeT_range b m f).1
  unfold ofT; split <;> omega
theorem go_win {s : Bool} {w v g t : Int} (hg : 1 ≤ g) (ht : 1 ≤ t) (h : w ≤ v) : goT s w g t ≤ goT s v g t := by
  unfold goT
  have a : 0 ≤ numT s * 1000000 * g := by cases s <;> simp [numT] <;> omega
  have d : 0 < denT s * 65536 * t := by cases s <;> simp [denT] <;> omega
  exact Int.ediv_le_ediv d (Int.mul_le_mul_of_nonneg_right h a)
theorem go_seg {s : Bool} {w g k t : Int} (hw : 0 ≤ w) (ht : 1 ≤ t) (h : g ≤ k) : goT s w g t ≤ goT s w k t := by
  unfold goT
  have a : numT s * 1000000 * g ≤ numT s * 1000000 * k := by cases s <;> simp [numT] <;> omega
  have d : 0 < denT s * 65536 * t := by cases s <;> simp [denT] <;> omega
  exact Int.ediv_le_ediv d (Int.mul_le_mul_of_nonneg_left a hw)
theorem go_time {s : Bool} {w g t u : Int} (hw : 0 ≤ w) (hg : 1 ≤ g) (ht : 1 ≤ t) (h : t ≤ u) : goT s w g u ≤ goT s w g t := by
  unfold goT
  have a : 0 ≤ w * (numT s * 1000000 * g) := Int.mul_nonneg hw (by cases s <;> simp [numT] <;> omega)
  cases s
  · exact div_less17 a (by simp [denT]; omega) (by simp [denT]; omega)
  · exact div_less17 a (by simp [denT]; omega) (by simp [denT]; omega)
theorem go_slow {w g t : Int} (hw : 0 ≤ w) (hg : 1 ≤ g) (ht : 1 ≤ t) : goT false w g t ≤ goT true w g t := by
  have e1 : goT false w g t = w * (5 * 1000000 * g) / (4 * 65536 * t) := rfl
  have e2 : goT true w g t = w * (2 * 1000000 * g) / (1 * 65536 * t) := rfl
  rw [e1, e2]
  have p : 0 ≤ w * g := Int.mul_nonneg hw (by omega)
  have x1 : w * (5 * 1000000 * g) = 5000000 * (w * g) := by rw [show 5 * 1000000 * g = 5000000 * g by omega, Int.mul_left_comm]
  have x2 : w * (2 * 1000000 * g) = 2000000 * (w * g) := by rw [show 2 * 1000000 * g = 2000000 * g by omega, Int.mul_left_comm]
  rw [x1, x2]
  generalize w * g = z at *
  refine Int.le_ediv_of_mul_le (by omega) ?_
  have q := Int.ediv_mul_le (5000000 * z) (b := 4 * 65536 * t) (by omega)
  have q0 : 0 ≤ 5000000 * z / (4 * 65536 * t) := Int.ediv_nonneg (by omega) (by omega)
  have e4 : 5000000 * z / (4 * 65536 * t) * (4 * 65536 * t) = 4 * (5000000 * z / (4 * 65536 * t) * (1 * 65536 * t)) := by
    generalize 5000000 * z / (4 * 65536 * t) = y
    rw [show 4 * 65536 * t = 4 * (1 * 65536 * t) by omega, Int.mul_left_comm]
  rw [e4] at q
  generalize 5000000 * z / (4 * 65536 * t) * (1 * 65536 * t) = k at *
  omega
theorem of_win {window v : Int} (seg : Int) (b : Bool) (m f : Int) (s : Bool) (h : window ≤ v) : ofT window seg b m f s ≤ ofT v seg b m f s := by
  have := go_win (s := s) (segT_range seg).1 (timeT_range b m f).1 (gapK_rises h)
  unfold ofT; split <;> split <;> omega
theorem of_seg (window : Int) {seg k : Int} (b : Bool) (m f : Int) (s : Bool) (h : seg ≤ k) : ofT window seg b m f s ≤ ofT window k b m f s := by
  have := go_seg (s := s) (gapK_range window).1 (timeT_range b m f).1 (segT_mono h)
  unfold ofT; split <;> split <;> omega
theorem of_time (window seg : Int) {m n : Int} (s : Bool) (hm : 1 ≤ m ∧ m ≤ 1073741824) (hn : 1 ≤ n ∧ n ≤ 1073741824) (h : m ≤ n) : ofT window seg true (8 * n) 0 s ≤ ofT window seg true (8 * m) 0 s := by
  have := go_time (s := s) (gapK_range window).1 (segT_range seg).1 hm.1 h
  unfold ofT; rw [timeT_of hm, timeT_of hn]; split <;> split <;> omega
theorem of_slow (window seg : Int) (b : Bool) (m f : Int) : ofT window seg b m f false ≤ ofT window seg b m f true := by
  have := go_slow (gapK_range window).1 (segT_range seg).1 (timeT_range b m f).1
  unfold ofT; split <;> split <;> omega
/-- Exactly. -/
theorem of_exact {w g t : Int} (s : Bool) (hw : 0 ≤ w ∧ w ≤ 4294967295) (hg : 1 ≤ g ∧ g ≤ 65535) (ht : 1 ≤ t ∧ t ≤ 1073741824) :
    (ofT w g true (8 * t) 0 s = 1 ∨ ofT w g true (8 * t) 0 s * (denT s * 65536 * t) ≤ w * (g * 1000000 * numT s)) ∧ w * (g * 1000000 * numT s) < (ofT w g true (8 * t) 0 s + 1) * (denT s * 65536 * t) := by
  have d : 0 < denT s * 65536 * t := by cases s <;> simp [denT] <;> omega
  have e : ofT w g true (8 * t) 0 s = if goT s w g t < 1 then 1 else goT s w g t := by unfold ofT; rw [timeT_of ht, segT_of hg, gapK_in (by omega)]
  have x : w * (g * 1000000 * numT s) = w * (numT s * 1000000 * g) := by congr 1; cases s <;> simp [numT] <;> omega
  have a1 := Int.ediv_mul_le (w * (numT s * 1000000 * g)) (b := denT s * 65536 * t) (by omega)
  have a2 := Int.lt_ediv_add_one_mul_self (w * (numT s * 1000000 * g)) d
  have q : goT s w g t = w * (numT s * 1000000 * g) / (denT s * 65536 * t) := rfl
  have q0 := go_pos (s := s) hw.1 hg.1 ht.1
  rw [x, e]
  rw [← q] at a1 a2
  generalize goT s w g t = n at *
  generalize denT s * 65536 * t = p at *
  generalize w * (numT s * 1000000 * g) = z at *
  split
  · refine ⟨Or.inl rfl, ?_⟩
    have : n = 0 := by omega
    subst this
    omega
  · exact ⟨Or.inr a1, a2⟩
/-- Twice. -/
theorem double_div {x d : Int} (hd : 0 < d) : 2 * (x / d) ≤ 2 * x / d ∧ 2 * x / d ≤ 2 * (x / d) + 1 := by
  have a1 := Int.ediv_mul_le x (b := d) (by omega)
  have a2 := Int.lt_ediv_add_one_mul_self x hd
  constructor
  · refine Int.le_ediv_of_mul_le hd ?_
    rw [Int.mul_assoc]; omega
  · have : 2 * x / d < 2 * (x / d) + 2 := Int.ediv_lt_of_lt_mul hd (by
      have e : (2 * (x / d) + 2) * d = 2 * ((x / d + 1) * d) := by rw [← Int.mul_assoc]; congr 1; omega
      rw [e]; omega)
    omega
theorem of_twice {w g : Int} (b : Bool) (m f : Int) (s : Bool) (hw : 0 ≤ w ∧ w ≤ 4294967295) (hg : 1 ≤ g ∧ g ≤ 32768) :
    ((2 * ofT w g b m f s ≤ ofT (2 * w) g b m f s ∧ ofT (2 * w) g b m f s - 2 * ofT w g b m f s ≤ 1) ∨ (ofT w g b m f s = 1 ∧ ofT (2 * w) g b m f s ≤ 2)) ∧ (g ≤ 32767 → ofT w (2 * g) b m f s = ofT (2 * w) g b m f s) := by
  have t := timeT_range b m f
  have d : 0 < denT s * 65536 * timeT b m f := by cases s <;> simp [denT] <;> omega
  have x1 : goT s (2 * w) g (timeT b m f) = 2 * (w * (numT s * 1000000 * g)) / (denT s * 65536 * timeT b m f) := by unfold goT; rw [Int.mul_assoc]
  have q := double_div (x := w * (numT s * 1000000 * g)) d
  rw [← x1] at q
  have q2 : w * (numT s * 1000000 * g) / (denT s * 65536 * timeT b m f) = goT s w g (timeT b m f) := rfl
  rw [q2] at q
  have q0 := go_pos (s := s) (g := g) (t := timeT b m f) hw.1 hg.1 t.1
  have e1 : ofT w g b m f s = if goT s w g (timeT b m f) < 1 then 1 else goT s w g (timeT b m f) := by unfold ofT; rw [segT_of (by omega), gapK_in (by omega)]
  have e2 : ofT (2 * w) g b m f s = if goT s (2 * w) g (timeT b m f) < 1 then 1 else goT s (2 * w) g (timeT b m f) := by unfold ofT; rw [segT_of (by omega), gapK_in (by omega)]
  refine ⟨?_, fun h => ?_⟩
  · rw [e1, e2]
    generalize goT s w g (timeT b m f) = n at *
    generalize goT s (2 * w) g (timeT b m f) = k at *
    split <;> split <;> omega
  · have e3 : ofT w (2 * g) b m f s = if goT s w (2 * g) (timeT b m f) < 1 then 1 else goT s w (2 * g) (timeT b m f) := by unfold ofT; rw [segT_of (by omega), gapK_in (by omega)]
    have x : goT s w (2 * g) (timeT b m f) = goT s (2 * w) g (timeT b m f) := by
      rw [x1]; unfold goT
      rw [show numT s * 1000000 * (2 * g) = 2 * (numT s * 1000000 * g) by cases s <;> simp [numT] <;> omega, Int.mul_left_comm]
    rw [e3, e2, x]
/-- How long any bytes take. -/
def spanC (bytes rate : Int) : Int := ceilOf ((if bytes < 0 then 0 else bytes) * 1000000) (if rate < 1 then 1 else rate)
def spanT (bytes rate : Int) : Int := if 1099511627776 < spanC bytes rate then 1099511627776 else spanC bytes rate
theorem ceil_pos {m c : Int} (hm : 0 ≤ m) (hc : 1 ≤ c) : 0 ≤ ceilOf m c := by unfold ceilOf; exact Int.ediv_nonneg (by omega) (by omega)
theorem span_range (bytes rate : Int) : 0 ≤ spanT bytes rate ∧ spanT bytes rate ≤ 1099511627776 := by
  have : 0 ≤ spanC bytes rate := by unfold spanC; exact ceil_pos (by split <;> omega) (by split <;> omega)
  unfold spanT; split <;> omega
theorem ceil_least {m c : Int} (hc : 1 ≤ c) : m ≤ ceilOf m c * c ∧ (ceilOf m c - 1) * c < m := by
  unfold ceilOf
  have a1 := Int.ediv_mul_le (m + (c - 1)) (b := c) (by omega)
  have a2 := Int.lt_ediv_add_one_mul_self (m + (c - 1)) (b := c) (by omega)
  rw [Int.add_mul] at a2
  rw [Int.sub_mul]
  omega
theorem ceil_mono {m n c : Int} (hc : 1 ≤ c) (h : m ≤ n) : ceilOf m c ≤ ceilOf n c := by unfold ceilOf; exact Int.ediv_le_ediv (by omega) (by omega)
theorem span_bytes {a b : Int} (rate : Int) (h : a ≤ b) : spanT a rate ≤ spanT b rate := by
  have : spanC a rate ≤ spanC b rate := by unfold spanC; exact ceil_mono (by split <;> omega) (by split <;> split <;> omega)
  unfold spanT; split <;> split <;> omega
theorem span_exact {b r : Int} (hb : 0 ≤ b) (hr : 1 ≤ r) : (spanT b r = 1099511627776 ∨ b * 1000000 ≤ spanT b r * r) ∧ (spanT b r = 0 ∨ (spanT b r - 1) * r < b * 1000000) := by
  have e : spanC b r = ceilOf (b * 1000000) r := by unfold spanC; rw [if_neg (by omega), if_neg (by omega)]
  have c := ceil_least (m := b * 1000000) (c := r) hr
  rw [← e] at c
  unfold spanT
  split
  · refine ⟨Or.inl rfl, Or.inr ?_⟩
    have : 1099511627775 * r ≤ (spanC b r - 1) * r := Int.mul_le_mul_of_nonneg_right (by omega) (by omega)
    omega
  · exact ⟨Or.inr c.1, Or.inr c.2⟩
theorem span_parts {a b r : Int} (ha : 0 ≤ a) (hb : 0 ≤ b) (hr : 1 ≤ r) : spanT (a + b) r = 1099511627776 ∨ (spanT (a + b) r ≤ spanT a r + spanT b r ∧ spanT a r + spanT b r - spanT (a + b) r ≤ 1) := by
  by_cases z : spanT (a + b) r = 1099511627776
  · exact Or.inl z
  · right
    have ma := span_bytes (a := a) (b := a + b) r (by omega)
    have mb := span_bytes (a := b) (b := a + b) r (by omega)
    have rg := span_range (a + b) r
    have un : ∀ x, 0 ≤ x → spanT x r < 1099511627776 → spanT x r = ceilOf (x * 1000000) r := fun x hx l => by
      have e : spanC x r = ceilOf (x * 1000000) r := by unfold spanC; rw [if_neg (by omega), if_neg (by omega)]
      unfold spanT at l ⊢
      split at l
      · omega
      · rw [if_neg (by assumption), e]
    rw [un a ha (by omega), un b hb (by omega), un (a + b) (by omega) (by omega)]
    have ca := ceil_least (m := a * 1000000) (c := r) hr
    have cb := ceil_least (m := b * 1000000) (c := r) hr
    have cc := ceil_least (m := (a + b) * 1000000) (c := r) hr
    generalize ceilOf (a * 1000000) r = x at *
    generalize ceilOf (b * 1000000) r = y at *
    generalize ceilOf ((a + b) * 1000000) r = u at *
    constructor
    · have h : (u - 1) * r < (x + y) * r := by rw [Int.add_mul]; omega
      have := Int.lt_of_mul_lt_mul_right h (by omega); omega
    · have h : (x + y - 2) * r < u * r := by
        have e : (x + y - 2) * r = (x - 1) * r + (y - 1) * r := by rw [← Int.add_mul]; congr 1; omega
        rw [e]; omega
      have := Int.lt_of_mul_lt_mul_right h (by omega); omega
end Go.Proofs.Ytlgpeafphanobaa
