/-
  Plain arithmetic of a long division by digits of 32 bits, no Go in sight.
-/
import Derived.Test.YtfkdbelajideiaaWide
import Derived.Lib.ItoaNum
import Derived.Shelf.Bits.Mul64
import Derived.Laws.MathBits
namespace Go.Proofs.Ytfkdbelajideiaa
open Go.RowKit

/-- What holds of a guess q of the quotient of u and d by a and b, with what it leaves of u by a. -/
def Guess (u a b d q r : Int) : Prop := (u * 4294967296 + d) / (a * 4294967296 + b) ≤ q ∧ q ≤ 4294967297 ∧ r = u - q * a ∧ 0 ≤ r ∧ r < 4294967296

section
variable {u a b d q r : Int}

theorem guess_mul (h : r = u - q * a) : q * (a * 4294967296 + b) = (u - r) * 4294967296 + q * b := by
  have e : q * a = u - r := by omega
  rw [Int.mul_add, ← Int.mul_assoc, e]

theorem quo_small (hu : u < a * 4294967296 + b) (hd : d < 4294967296) (hu0 : 0 ≤ u) : (u * 4294967296 + d) / (a * 4294967296 + b) < 4294967296 := by
  rw [Int.ediv_lt_iff_lt_mul (by omega)]; omega

theorem guess_first (ha : 2147483648 ≤ a) (ha' : a < 4294967296) (hb : 0 ≤ b) (hb' : b < 4294967296) (hd' : d < 4294967296) (hu0 : 0 ≤ u) (hu : u < a * 4294967296 + b) :
    Guess u a b d (u / a) (u - u / a * a) := by
  have h1 := Int.mul_ediv_add_emod u a
  have h2 := Int.emod_nonneg u (show a ≠ 0 by omega)
  have h3 := Int.emod_lt_of_pos u (show 0 < a by omega)
  have hm : u - u / a * a = u % a := by rw [Int.mul_comm]; omega
  refine ⟨?_, ?_, rfl, by omega, by omega⟩
  · have : (u * 4294967296 + d) / (a * 4294967296 + b) < u / a + 1 := by
      rw [Int.ediv_lt_iff_lt_mul (by omega), Int.mul_add]
      have e1 : (u / a + 1) * (a * 4294967296) = ((u / a) * a + a) * 4294967296 := by
        rw [← Int.mul_assoc, Int.add_mul, Int.one_mul]
      have e2 : u / a * a = u - u % a := by omega
      have e3 : 0 ≤ (u / a + 1) * b := Int.mul_nonneg (by have := Int.ediv_nonneg hu0 (show 0 ≤ a by omega); omega) hb
      rw [e1, e2]; omega
    omega
  · have : u / a < 4294967298 := by
      rw [Int.ediv_lt_iff_lt_mul (by omega)]; omega
    omega

theorem guess_done (ha : 2147483648 ≤ a) (hb : 0 ≤ b) (g : Guess u a b d q r) (h : q * b ≤ 4294967296 * r + d) : q = (u * 4294967296 + d) / (a * 4294967296 + b) := by
  obtain ⟨g1, _, g3, _, _⟩ := g
  have : q ≤ (u * 4294967296 + d) / (a * 4294967296 + b) := by
    rw [Int.le_ediv_iff_mul_le (by omega), guess_mul g3]; omega
  omega

/-- One less, where the guess is too great. -/
theorem guess_less (ha : 2147483648 ≤ a) (ha' : a < 4294967296) (hb : 0 ≤ b) (hd : 0 ≤ d) (hd' : d < 4294967296) (hu0 : 0 ≤ u) (hu : u < a * 4294967296 + b) (g : Guess u a b d q r)
    (h : 4294967296 ≤ q ∨ 4294967296 * r + d < q * b) : (u * 4294967296 + d) / (a * 4294967296 + b) ≤ q - 1 ∧ q - 1 ≤ 4294967296 ∧ r + a = u - (q - 1) * a ∧ 0 ≤ r + a ∧ r + a < 8589934592 ∧ 1 ≤ q := by
  obtain ⟨g1, g2, g3, g4, g5⟩ := g
  have hq : (u * 4294967296 + d) / (a * 4294967296 + b) < q := by
    rcases h with h | h
    · have := quo_small hu hd' hu0; omega
    · rw [Int.ediv_lt_iff_lt_mul (by omega), guess_mul g3]; omega
  have e : (q - 1) * a = q * a - a := by rw [Int.sub_mul, Int.one_mul]
  have : 0 ≤ (u * 4294967296 + d) / (a * 4294967296 + b) := Int.ediv_nonneg (by omega) (by omega)
  exact ⟨by omega, by omega, by omega, by omega, by omega, by omega⟩

theorem guess_over (ha : 2147483648 ≤ a) (hb : 0 ≤ b) (hb' : b < 4294967296) (hd : 0 ≤ d) (g1 : (u * 4294967296 + d) / (a * 4294967296 + b) ≤ q) (g2 : q ≤ 4294967296) (g3 : r = u - q * a) (h : 4294967296 ≤ r) :
    q = (u * 4294967296 + d) / (a * 4294967296 + b) := by
  have h2 : q * b ≤ 4294967296 * b := Int.mul_le_mul_of_nonneg_right g2 hb
  have : q ≤ (u * 4294967296 + d) / (a * 4294967296 + b) := by
    rw [Int.le_ediv_iff_mul_le (by omega), guess_mul g3]; omega
  omega

/-- A product that is asked for only below 2^32 goes into 64 bits. -/
theorem guess_prod (hb : 0 ≤ b) (hb' : b < 4294967296) (hq0 : 0 ≤ q) (hq : q < 4294967296) : 0 ≤ q * b ∧ q * b < 18446744073709551616 := by
  have h := Int.mul_le_mul (show q ≤ 4294967295 by omega) (show b ≤ 4294967295 by omega) hb (by omega)
  exact ⟨Int.mul_nonneg hq0 hb, by omega⟩
end

/-- Both digits, put together, and the divisor's shift taken away. -/
theorem long_div {N y Y u d1 d0 p : Int} (hp : 0 < p) (hy : 0 < y) (hY : Y = y * p) (hN : N * p = (u * 4294967296 + d1) * 4294967296 + d0) :
    (u * 4294967296 + d1) / Y * 4294967296 + ((u * 4294967296 + d1) % Y * 4294967296 + d0) / Y = N / y ∧
    ((u * 4294967296 + d1) % Y * 4294967296 + d0) % Y / p = N % y := by
  have hY0 : 0 < Y := by rw [hY]; exact Int.mul_pos hy hp
  generalize hA : u * 4294967296 + d1 = A at *
  have a1 := Int.mul_ediv_add_emod A Y
  generalize hq1 : A / Y = q1 at *
  generalize hr1 : A % Y = r1 at *
  have b1 := Int.mul_ediv_add_emod (r1 * 4294967296 + d0) Y
  have b2 := Int.emod_nonneg (r1 * 4294967296 + d0) (show Y ≠ 0 by omega)
  have b3 := Int.emod_lt_of_pos (r1 * 4294967296 + d0) hY0
  generalize hq0 : (r1 * 4294967296 + d0) / Y = q0 at *
  generalize hr0 : (r1 * 4294967296 + d0) % Y = r0 at *
  have c : N * p = (q1 * 4294967296 + q0) * y * p + r0 := by
    have e : (q1 * 4294967296 + q0) * y * p = Y * q1 * 4294967296 + Y * q0 := by
      rw [hY]
      rw [Int.mul_assoc, Int.add_mul, Int.mul_comm q0, Int.mul_right_comm q1, Int.mul_comm q1 (y * p)]
    rw [e, hN]; omega
  have d : r0 = (N - (q1 * 4294967296 + q0) * y) * p := by rw [Int.sub_mul]; omega
  generalize hQ : q1 * 4294967296 + q0 = Q at *
  have r1' : 0 ≤ N - Q * y := by
    rcases Int.lt_or_le (N - Q * y) 0 with h | h
    · have := Int.mul_neg_of_neg_of_pos h hp; omega
    · exact h
  have r2' : N - Q * y < y := by
    rcases Int.lt_or_le (N - Q * y) y with h | h
    · exact h
    · have := Int.mul_le_mul_of_nonneg_right h (Int.le_of_lt hp); rw [← d, ← hY] at this; omega
  have q' : N / y = Q := by
    rw [show N = (N - Q * y) + Q * y by omega, Int.add_mul_ediv_right _ _ (by omega), Int.ediv_eq_zero_of_lt r1' r2']; omega
  have r' : N % y = N - Q * y := by rw [Int.emod_def, q', Int.mul_comm]
  exact ⟨q'.symm, by rw [d, Int.mul_ediv_cancel _ (by omega), r']⟩

theorem or_add {x z s : Nat} (hz : z < 2 ^ s) : x * 2 ^ s ||| z = x * 2 ^ s + z := by
  rw [Nat.mul_comm, Nat.two_pow_add_eq_or_of_lt hz]

/-- What the shift makes of a divisor, and of what is divided. -/
theorem shift_nat {hi lo y : Nat} (hh : hi < y) (hl' : lo < 18446744073709551616) (s : Nat) (hs : s ≤ 63) :
    lo / 2 ^ (64 - s) < 2 ^ s ∧ hi * 2 ^ s + lo / 2 ^ (64 - s) < y * 2 ^ s ∧ (hi * 2 ^ s ||| lo / 2 ^ (64 - s)) = hi * 2 ^ s + lo / 2 ^ (64 - s) ∧ lo * 2 ^ s = lo / 2 ^ (64 - s) * 18446744073709551616 + lo * 2 ^ s % 18446744073709551616 := by
  have hW : (18446744073709551616 : Nat) = 2 ^ (64 - s) * 2 ^ s := by
    rw [← Nat.pow_add]; exact (congrArg (2 ^ ·) (show 64 = 64 - s + s by omega))
  have h1 : lo / 2 ^ (64 - s) < 2 ^ s := Nat.div_lt_of_lt_mul (by rw [← hW]; exact hl')
  have h2 : (hi + 1) * 2 ^ s ≤ y * 2 ^ s := Nat.mul_le_mul_right _ hh
  rw [Nat.add_mul, Nat.one_mul] at h2
  refine ⟨h1, by omega, or_add h1, ?_⟩
  have h3 : lo * 2 ^ s / 18446744073709551616 = lo / 2 ^ (64 - s) := by
    rw [hW]; exact Nat.mul_div_mul_right _ _ (Nat.two_pow_pos s)
  have h4 := Nat.div_add_mod (lo * 2 ^ s) 18446744073709551616
  rw [h3] at h4; omega

theorem shift_facts {hi lo y : Int} (h0 : 0 ≤ hi) (hh : hi < y) (hl : 0 ≤ lo) (hl' : lo < 18446744073709551616) (s : Nat) (hs : s ≤ 63) (hlow : 9223372036854775808 ≤ y * 2 ^ s) (hup : y * 2 ^ s < 18446744073709551616) :
    ∃ Y a b u v d1 d0 : Int, IntKind.u64.wrap (y * 2 ^ s) = Y ∧ Y / 4294967296 = a ∧ bits .and .u64 Y 4294967295 = b ∧ bits .or .u64 (IntKind.u64.wrap (hi * 2 ^ s)) (lo / 2 ^ (64 - s)) = u ∧ IntKind.u64.wrap (lo * 2 ^ s) = v ∧ v / 4294967296 = d1 ∧ bits .and .u64 v 4294967295 = d0 ∧
      2147483648 ≤ a ∧ a < 4294967296 ∧ 0 ≤ b ∧ b < 4294967296 ∧ 0 ≤ u ∧ u < a * 4294967296 + b ∧ 0 ≤ d1 ∧ d1 < 4294967296 ∧ 0 ≤ d0 ∧ d0 < 4294967296 ∧ Y = a * 4294967296 + b ∧ Y = y * 2 ^ s ∧ (hi * 18446744073709551616 + lo) * 2 ^ s = (u * 4294967296 + d1) * 4294967296 + d0 := by
  obtain ⟨hi, rfl⟩ := Int.eq_ofNat_of_zero_le h0
  obtain ⟨lo, rfl⟩ := Int.eq_ofNat_of_zero_le hl
  obtain ⟨y, rfl⟩ := Int.eq_ofNat_of_zero_le (show 0 ≤ y by omega)
  have cy : ((y : Int) * 2 ^ s) = ((y * 2 ^ s : Nat) : Int) := by simp
  have ch : ((hi : Int) * 2 ^ s) = ((hi * 2 ^ s : Nat) : Int) := by simp
  have cl : ((lo : Int) * 2 ^ s) = ((lo * 2 ^ s : Nat) : Int) := by simp
  have cd : ((lo : Int) / 2 ^ (64 - s)) = ((lo / 2 ^ (64 - s) : Nat) : Int) := by simp
  have cN : ((hi : Int) * 18446744073709551616 + lo) * 2 ^ s = ((hi * 2 ^ s * 18446744073709551616 + lo * 2 ^ s : Nat) : Int) := by
    rw [Int.add_mul, Int.mul_right_comm]; simp
  rw [cN, cy, ch, cl, cd]
  rw [cy] at hlow hup
  obtain ⟨f1, f2, f3, f4⟩ := shift_nat (hi := hi) (lo := lo) (y := y) (by omega) (by omega) s hs
  generalize y * 2 ^ s = Y at *
  generalize hi * 2 ^ s = H at *
  generalize lo * 2 ^ s = L at *
  generalize lo / 2 ^ (64 - s) = D at *
  have wY : IntKind.u64.wrap (Y : Int) = (Y : Int) := by rw [IntKind.wrap_u64]; omega
  have wH : IntKind.u64.wrap (H : Int) = (H : Int) := by rw [IntKind.wrap_u64]; omega
  have wL : IntKind.u64.wrap (L : Int) = (L : Int) % 18446744073709551616 := by rw [IntKind.wrap_u64]
  have oU : bits .or .u64 (H : Int) (D : Int) = ((H + D : Nat) : Int) := by rw [bits_or_u64_nat H D (by omega) (by omega), f3]
  refine ⟨Y, (Y : Int) / 4294967296, (Y : Int) % 4294967296, ((H + D : Nat) : Int), (L : Int) % 18446744073709551616, (L : Int) % 18446744073709551616 / 4294967296, (L : Int) % 18446744073709551616 % 4294967296, wY, rfl, and_low32 _ (by omega) (by omega), by rw [wH, oU], wL, rfl, and_low32 _ (by omega) (by omega), ?_⟩
  refine ⟨?_, ?_, ?_, ?_, ?_, ?_, ?_, ?_, ?_, ?_, ?_, ?_, ?_⟩ <;> omega

/-- How far a divisor is shifted. -/
theorem lead_facts {y : Int} (h : 0 < y) (hy : y < 18446744073709551616) : ∃ s : Nat, s ≤ 63 ∧ 64 - (Lib.bitLen y.toNat : Int) = s ∧ 9223372036854775808 ≤ y * 2 ^ s ∧ y * 2 ^ s < 18446744073709551616 := by
  obtain ⟨y, rfl⟩ := Int.eq_ofNat_of_zero_le (show 0 ≤ y by omega)
  have hb := Lib.bitLenAux_bounds 64 y (by omega) (by omega)
  have hle := Lib.bitLen_le y 64 (by omega) (by omega)
  rw [Int.toNat_natCast]
  change _ ≤ Lib.bitLen y ∧ 2 ^ (Lib.bitLen y - 1) ≤ y ∧ y < 2 ^ Lib.bitLen y at hb
  generalize Lib.bitLen y = k at *
  obtain ⟨b1, b2, b3⟩ := hb
  refine ⟨64 - k, by omega, by omega, ?_⟩
  have cy : ((y : Int) * 2 ^ (64 - k)) = ((y * 2 ^ (64 - k) : Nat) : Int) := by simp
  have e1 : 2 ^ (k - 1) * 2 ^ (64 - k) = 9223372036854775808 := by
    rw [← Nat.pow_add, show k - 1 + (64 - k) = 63 by omega]
  have e2 : 2 ^ k * 2 ^ (64 - k) = 18446744073709551616 := by
    rw [← Nat.pow_add, show k + (64 - k) = 64 by omega]
  have m1 := Nat.mul_le_mul_right (2 ^ (64 - k)) b2
  have m2 := Nat.mul_lt_mul_of_pos_right b3 (Nat.two_pow_pos (64 - k))
  rw [cy]; omega

end Go.Proofs.Ytfkdbelajideiaa
