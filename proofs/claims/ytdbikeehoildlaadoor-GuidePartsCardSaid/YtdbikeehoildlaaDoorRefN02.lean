/-
  In one text: RefG02, RefI02.
-/
import Derived.Test.YtdbikeehoildlaaDoorRefL02
import Derived.Deep.RegionWith
import Derived.Test.YtdbikeehoildlaaDoorRefM02
namespace Go.Proofs.YtdbikeehoildlaaDoor
open Go.RowKit Go.BigFrame

/-- What holds behind i steps: rest, what is left of the low word, and the quotient. -/
def Step (N d : Int) (i : Nat) (rest low q : Int) : Prop := i ≤ 64 ∧ 0 ≤ rest ∧ rest < d ∧ 0 ≤ q ∧ q < 2 ^ i ∧ ∃ r : Int, 0 ≤ r ∧ r < 2 ^ (64 - i) ∧ low = r * 2 ^ i ∧ (q * d + rest) * 2 ^ (64 - i) + r = N
theorem step_first {h d l : Int} (hd : 0 < d) (h2 : Word l) : Step (h % d * 18446744073709551616 + l) d 0 (h % d) l 0 :=
  ⟨by omega, Int.emod_nonneg _ (by omega), Int.emod_lt_of_pos _ hd, by omega, by decide, l, h2.1, h2.2, by simp, by simp⟩
theorem step_low {N d rest low q : Int} {i : Nat} (h : Step N d i rest low q) : 0 ≤ low ∧ low < 18446744073709551616 := by
  obtain ⟨a, _, _, _, _, r, r0, r1, rfl, _⟩ := h
  have p : (0 : Int) < 2 ^ i := Int.pow_pos (by decide)
  have e : (2 : Int) ^ (64 - i) * 2 ^ i = 18446744073709551616 := by rw [← Int.pow_add, show 64 - i + i = 64 by omega]; rfl
  have := Int.mul_lt_mul_of_pos_right r1 p
  exact ⟨Int.mul_nonneg r0 (by omega), by omega⟩
theorem step_q {N d rest low q : Int} {i : Nat} (h : Step N d i rest low q) (hi : i < 64) : q < 9223372036854775808 := by
  have := h.2.2.2.2.1
  have e : (2 : Int) ^ i ≤ 2 ^ 63 := by
    have := Nat.pow_le_pow_right (show 0 < 2 by omega) (show i ≤ 63 by omega)
    exact_mod_cast this
  have : (2 : Int) ^ 63 = 9223372036854775808 := rfl
  omega
theorem step_next {N d rest low q : Int} {i : Nat} (h : Step N d i rest low q) (hi : i < 64) (v u : Int) (hv : 0 ≤ v) (hv' : v < d)
    (e : (q * 2 + u) * d + v = (q * d + rest) * 2 + low / 9223372036854775808) (hu : 0 ≤ u ∧ u ≤ 1) : Step N d (i + 1) v (low * 2 % 18446744073709551616) (q * 2 + u) := by
  obtain ⟨a, b, c, q0, q1, r, r0, r1, rfl, f⟩ := h
  have p : (0 : Int) < 2 ^ i := Int.pow_pos (by decide)
  have P0 : (0 : Int) < 2 ^ (63 - i) := Int.pow_pos (by decide)
  have e1 : (2 : Int) ^ (64 - i) = 2 ^ (63 - i) * 2 := by rw [show 64 - i = (63 - i) + 1 by omega, Int.pow_succ]
  have e2 : (2 : Int) ^ (i + 1) = 2 ^ i * 2 := Int.pow_succ _ _
  have e3 : (2 : Int) ^ (63 - i) * 2 ^ i = 9223372036854775808 := by rw [← Int.pow_add, show 63 - i + i = 63 by omega]; rfl
  have d1 : r * 2 ^ i / 9223372036854775808 = r / 2 ^ (63 - i) := by
    rw [← e3]; exact Int.mul_ediv_mul_of_pos_left _ _ p
  have m := Int.mul_ediv_add_emod r (2 ^ (63 - i))
  have m1 := Int.emod_nonneg r (show (2 : Int) ^ (63 - i) ≠ 0 by omega)
  have m2 := Int.emod_lt_of_pos r P0
  rw [d1] at e
  rw [e1] at r1 f
  generalize hP : (2 : Int) ^ (63 - i) = P at *
  generalize hM : (2 : Int) ^ i = M at *
  generalize hb : r / P = bit at *
  generalize hr : r % P = s at *
  refine ⟨by omega, hv, hv', by omega, by rw [e2]; omega, s, m1, by rw [show 64 - (i + 1) = 63 - i by omega, hP]; exact m2, ?_, ?_⟩
  · rw [e2]
    have : r * M * 2 = bit * 18446744073709551616 + s * M * 2 := by
      have k : r * M = bit * (P * M) + s * M := by rw [← m, Int.add_mul, Int.mul_comm P bit, Int.mul_assoc]
      rw [k, e3]; omega
    rw [this, ← Int.mul_assoc]
    have l0 : 0 ≤ s * M := Int.mul_nonneg m1 (by omega)
    have l1 := Int.mul_lt_mul_of_pos_right m2 p
    rw [e3] at l1
    omega
  · rw [show 64 - (i + 1) = 63 - i by omega, hP, e, Int.add_mul]
    rw [← f, Int.mul_comm P 2, ← Int.mul_assoc, Int.mul_comm bit P]
    omega
theorem step_last {N d rest low q : Int} (hd : 0 < d) (h : Step N d 64 rest low q) : q = N / d ∧ rest = N % d := by
  obtain ⟨_, b, c, _, _, r, r0, r1, _, f⟩ := h
  have r2 : r < 1 := r1
  have : r = 0 := by omega
  subst this
  simp at f
  have := (Int.ediv_emod_unique hd (a := N) (q := q) (r := rest)).2 ⟨by rw [Int.mul_comm, Int.add_comm]; omega, b, c⟩
  exact ⟨this.1.symm, this.2.symm⟩

/-- A number's cells, which may be written. -/
def QC (w : World) (g : Nat) (b : Bool) (h l : Int) : Prop := (w.cell? ⟨g, 0, none⟩ = some (.bool b) ∧ w.cell? ⟨g, 1, none⟩ = some (.int .u64 h) ∧ w.cell? ⟨g, 2, none⟩ = some (.int .u64 l)) ∧ w.frozen? ⟨g, 0, none⟩ = false ∧ w.frozen? ⟨g, 1, none⟩ = false ∧ w.frozen? ⟨g, 2, none⟩ = false
theorem QC.kept {w1 w2 : World} {g : Nat} {b : Bool} {h l : Int} (q : QC w1 g b h l) (k : Kept w1 w2) : QC w2 g b h l :=
  ⟨⟨k.read q.1.1, k.read q.1.2.1, k.read q.1.2.2⟩, k.thaw q.2.1, k.thaw q.2.2.1, k.thaw q.2.2.2⟩
end Go.Proofs.YtdbikeehoildlaaDoor
namespace Go.Proofs.YtdbikeehoildlaaDoor
open Go.RowKit Go.BigFrame

theorem refMul_rep {a c : Int} (h : In64 a) (k : In64 c) {b : Bool} {xh xl : Int} (r : Rep b xh xl (a * c)) (w : World) : Calls Tryd.prog 36 #[.int .i64 a, .int .i64 c] w fun e w' => e = .returned (.agg #[.bool b, .int .u64 xh, .int .u64 xl]) ∧ Kept w w' := by
  have ra := (Of_ok a h).1
  obtain ⟨a1, a2, a3, _⟩ := id ra
  have O1 := fun w => refOf_ok a h w
  have Z1 := size_ok c k
  have wm := mag_word k
  by_cases cn : c < 0
  · have em : mag c = -c := by unfold mag; rw [if_pos cn]
    obtain ⟨pb, rp⟩ := Neg_rep (b1 := b) r.1 r.2.1
    have e : numOf (decide (a < 0)) 0 (mag a) * mag c = -(numOf b xh xl) := by rw [a3, em, r.2.2.1, Int.mul_neg]
    have S1 := fun w => refScale_yes (b1 := decide (a < 0)) (b := pb) a1 a2 wm (by rw [e]; exact rp) w
    have N1 := fun w => refNeg_ok (b1 := pb) (b := b) r.1 r.2.1 (by rw [rp.2.2.1, Int.neg_neg, r.2.2.1]; exact r) w
    exact refMul_neg a c _ _ _ _ _ _ _ _ w cn O1 Z1 S1 N1
  · have em : mag c = c := by unfold mag; rw [if_neg cn]
    have S1 := fun w => refScale_yes (b1 := decide (a < 0)) (b := b) a1 a2 wm (by rw [a3, em]; exact r) w
    exact refMul_pos a c _ _ _ _ _ _ _ w cn O1 Z1 S1
end Go.Proofs.YtdbikeehoildlaaDoor
