/-
  In one text: Knuth, Div64, Quo02.
-/
import Derived.Test.YtdbikeehoildlaaDoorWide
import Derived.Lib.ItoaNum
import Derived.Shelf.Bits.Mul64
import Derived.Laws.MathBits
import Derived.Test.YtdbikeehoildlaaDoorLowA02
import Derived.Test.YtdbikeehoildlaaDoorRoom
import Derived.Deep.CutBlock
import Derived.Deep.DeepCutAuto
import Derived.Deep.RegionHeld3
import Derived.Deep.RegionWith
namespace Go.Proofs.YtdbikeehoildlaaDoor
open Go.RowKit

/-- What holds of a guess q of the quotient of u and d by a and b, with what it leaves of u by a. -/
def Guess (u a b d q r : Int) : Prop := (u * 4294967296 + d) / (a * 4294967296 + b) ≤ q ∧ q ≤ 4294967297 ∧ r = u - q * a ∧ 0 ≤ r ∧ r < 4294967296

section
variable {u a b d q r : Int}

theorem guess_mul (h : r = u - q * a) : q * (a * 4294967296 + b) = (u - r) * 4294967296 + q * b := by
  have e : q * a = u - r := by omega
  rw [Int.mul_add, ← Int.mul_assoc, e]

theorem quo_small (hu : u < a * 4294967296 + b) (hd : d < 4294967296) (hu0 : 0 ≤ u) : (u * 4294967296 + d) / (a * 4294967296 + b) < 4294967296 := by
  rw [Int.ediv_lt_iff_lt_mul (by omega)]; omega

theorem guess_first (ha : 2147483648 ≤ a) (ha' : a < 4294967296) (hb : 0 ≤ b) (hb' : b < 4294967296) (hd' : d < 4294967296) (hu0 : 0 ≤ u) (hu : u < a * 4294967296 + b) :
    Guess u a b d (u / a) (u - u / a * a) := by
  have h1 := Int.mul_ediv_add_emod u a
  have h2 := Int.emod_nonneg u (show a ≠ 0 by omega)
  have h3 := Int.emod_lt_of_pos u (show 0 < a by omega)
  have hm : u - u / a * a = u % a := by rw [Int.mul_comm]; omega
  refine ⟨?_, ?_, rfl, by omega, by omega⟩
  · have : (u * 4294967296 + d) / (a * 4294967296 + b) < u / a + 1 := by
      rw [Int.ediv_lt_iff_lt_mul (by omega), Int.mul_add]
      have e1 : (u / a + 1) * (a * 4294967296) = ((u / a) * a + a) * 4294967296 := by
        rw [← Int.mul_assoc, Int.add_mul, Int.one_mul]
      have e2 : u / a * a = u - u % a := by omega
      have e3 : 0 ≤ (u / a + 1) * b := Int.mul_nonneg (by have := Int.ediv_nonneg hu0 (show 0 ≤ a by omega); omega) hb
      rw [e1, e2]; omega
    omega
  · have : u / a < 4294967298 := by
      rw [Int.ediv_lt_iff_lt_mul (by omega)]; omega
    omega

theorem guess_done (ha : 2147483648 ≤ a) (hb : 0 ≤ b) (g : Guess u a b d q r) (h : q * b ≤ 4294967296 * r + d) : q = (u * 4294967296 + d) / (a * 4294967296 + b) := by
  obtain ⟨g1, _, g3, _, _⟩ := g
  have : q ≤ (u * 4294967296 + d) / (a * 4294967296 + b) := by
    rw [Int.le_ediv_iff_mul_le (by omega), guess_mul g3]; omega
  omega

/-- One less, where the guess is too great. -/
theorem guess_less (ha : 2147483648 ≤ a) (ha' : a < 4294967296) (hb : 0 ≤ b) (hd : 0 ≤ d) (hd' : d < 4294967296) (hu0 : 0 ≤ u) (hu : u < a * 4294967296 + b) (g : Guess u a b d q r)
    (h : 4294967296 ≤ q ∨ 4294967296 * r + d < q * b) : (u * 4294967296 + d) / (a * 4294967296 + b) ≤ q - 1 ∧ q - 1 ≤ 4294967296 ∧ r + a = u - (q - 1) * a ∧ 0 ≤ r + a ∧ r + a < 8589934592 ∧ 1 ≤ q := by
  obtain ⟨g1, g2, g3, g4, g5⟩ := g
  have hq : (u * 4294967296 + d) / (a * 4294967296 + b) < q := by
    rcases h with h | h
    · have := quo_small hu hd' hu0; omega
    · rw [Int.ediv_lt_iff_lt_mul (by omega), guess_mul g3]; omega
  have e : (q - 1) * a = q * a - a := by rw [Int.sub_mul, Int.one_mul]
  have : 0 ≤ (u * 4294967296 + d) / (a * 4294967296 + b) := Int.ediv_nonneg (by omega) (by omega)
  exact ⟨by omega, by omega, by omega, by omega, by omega, by omega⟩

theorem guess_over (ha : 2147483648 ≤ a) (hb : 0 ≤ b) (hb' : b < 4294967296) (hd : 0 ≤ d) (g1 : (u * 4294967296 + d) / (a * 4294967296 + b) ≤ q) (g2 : q ≤ 4294967296) (g3 : r = u - q * a) (h : 4294967296 ≤ r) :
    q = (u * 4294967296 + d) / (a * 4294967296 + b) := by
  have h2 : q * b ≤ 4294967296 * b := Int.mul_le_mul_of_nonneg_right g2 hb
  have : q ≤ (u * 4294967296 + d) / (a * 4294967296 + b) := by
    rw [Int.le_ediv_iff_mul_le (by omega), guess_mul g3]; omega
  omega

/-- A product that is asked for only below 2^32 goes into 64 bits. -/
theorem guess_prod (hb : 0 ≤ b) (hb' : b < 4294967296) (hq0 : 0 ≤ q) (hq : q < 4294967296) : 0 ≤ q * b ∧ q * b < 18446744073709551616 := by
  have h := Int.mul_le_mul (show q ≤ 4294967295 by omega) (show b ≤ 4294967295 by omega) hb (by omega)
  exact ⟨Int.mul_nonneg hq0 hb, by omega⟩
end

/-- Both digits, put together, and the divisor's shift taken away. -/
theorem long_div {N y Y u d1 d0 p : Int} (hp : 0 < p) (hy : 0 < y) (hY : Y = y * p) (hN : N * p = (u * 4294967296 + d1) * 4294967296 + d0) :
    (u * 4294967296 + d1) / Y * 4294967296 + ((u * 4294967296 + d1) % Y * 4294967296 + d0) / Y = N / y ∧
    ((u * 4294967296 + d1) % Y * 4294967296 + d0) % Y / p = N % y := by
  have hY0 : 0 < Y := by rw [hY]; exact Int.mul_pos hy hp
  generalize hA : u * 4294967296 + d1 = A at *
  have a1 := Int.mul_ediv_add_emod A Y
  generalize hq1 : A / Y = q1 at *
  generalize hr1 : A % Y = r1 at *
  have b1 := Int.mul_ediv_add_emod (r1 * 4294967296 + d0) Y
  have b2 := Int.emod_nonneg (r1 * 4294967296 + d0) (show Y ≠ 0 by omega)
  have b3 := Int.emod_lt_of_pos (r1 * 4294967296 + d0) hY0
  generalize hq0 : (r1 * 4294967296 + d0) / Y = q0 at *
  generalize hr0 : (r1 * 4294967296 + d0) % Y = r0 at *
  have c : N * p = (q1 * 4294967296 + q0) * y * p + r0 := by
    have e : (q1 * 4294967296 + q0) * y * p = Y * q1 * 4294967296 + Y * q0 := by
      rw [hY]
      rw [Int.mul_assoc, Int.add_mul, Int.mul_comm q0, Int.mul_right_comm q1, Int.mul_comm q1 (y * p)]
    rw [e, hN]; omega
  have d : r0 = (N - (q1 * 4294967296 + q0) * y) * p := by rw [Int.sub_mul]; omega
  generalize hQ : q1 * 4294967296 + q0 = Q at *
  have r1' : 0 ≤ N - Q * y := by
    rcases Int.lt_or_le (N - Q * y) 0 with h | h
    · have := Int.mul_neg_of_neg_of_pos h hp; omega
    · exact h
  have r2' : N - Q * y < y := by
    rcases Int.lt_or_le (N - Q * y) y with h | h
    · exact h
    · have := Int.mul_le_mul_of_nonneg_right h (Int.le_of_lt hp); rw [← d, ← hY] at this; omega
  have q' : N / y = Q := by
    rw [show N = (N - Q * y) + Q * y by omega, Int.add_mul_ediv_right _ _ (by omega), Int.ediv_eq_zero_of_lt r1' r2']; omega
  have r' : N % y = N - Q * y := by rw [Int.emod_def, q', Int.mul_comm]
  exact ⟨q'.symm, by rw [d, Int.mul_ediv_cancel _ (by omega), r']⟩

theorem or_add {x z s : Nat} (hz : z < 2 ^ s) : x * 2 ^ s ||| z = x * 2 ^ s + z := by
  rw [Nat.mul_comm, Nat.two_pow_add_eq_or_of_lt hz]

/-- What the shift makes of a divisor, and of what is divided. -/
theorem shift_nat {hi lo y : Nat} (hh : hi < y) (hl' : lo < 18446744073709551616) (s : Nat) (hs : s ≤ 63) :
    lo / 2 ^ (64 - s) < 2 ^ s ∧ hi * 2 ^ s + lo / 2 ^ (64 - s) < y * 2 ^ s ∧ (hi * 2 ^ s ||| lo / 2 ^ (64 - s)) = hi * 2 ^ s + lo / 2 ^ (64 - s) ∧ lo * 2 ^ s = lo / 2 ^ (64 - s) * 18446744073709551616 + lo * 2 ^ s % 18446744073709551616 := by
  have hW : (18446744073709551616 : Nat) = 2 ^ (64 - s) * 2 ^ s := by
    rw [← Nat.pow_add]; exact (congrArg (2 ^ ·) (show 64 = 64 - s + s by omega))
  have h1 : lo / 2 ^ (64 - s) < 2 ^ s := Nat.div_lt_of_lt_mul (by rw [← hW]; exact hl')
  have h2 : (hi + 1) * 2 ^ s ≤ y * 2 ^ s := Nat.mul_le_mul_right _ hh
  rw [Nat.add_mul, Nat.one_mul] at h2
  refine ⟨h1, by omega, or_add h1, ?_⟩
  have h3 : lo * 2 ^ s / 18446744073709551616 = lo / 2 ^ (64 - s) := by
    rw [hW]; exact Nat.mul_div_mul_right _ _ (Nat.two_pow_pos s)
  have h4 := Nat.div_add_mod (lo * 2 ^ s) 18446744073709551616
  rw [h3] at h4; omega

theorem shift_facts {hi lo y : Int} (h0 : 0 ≤ hi) (hh : hi < y) (hl : 0 ≤ lo) (hl' : lo < 18446744073709551616) (s : Nat) (hs : s ≤ 63) (hlow : 9223372036854775808 ≤ y * 2 ^ s) (hup : y * 2 ^ s < 18446744073709551616) :
    ∃ Y a b u v d1 d0 : Int, IntKind.u64.wrap (y * 2 ^ s) = Y ∧ Y / 4294967296 = a ∧ bits .and .u64 Y 4294967295 = b ∧ bits .or .u64 (IntKind.u64.wrap (hi * 2 ^ s)) (lo / 2 ^ (64 - s)) = u ∧ IntKind.u64.wrap (lo * 2 ^ s) = v ∧ v / 4294967296 = d1 ∧ bits .and .u64 v 4294967295 = d0 ∧
      2147483648 ≤ a ∧ a < 4294967296 ∧ 0 ≤ b ∧ b < 4294967296 ∧ 0 ≤ u ∧ u < a * 4294967296 + b ∧ 0 ≤ d1 ∧ d1 < 4294967296 ∧ 0 ≤ d0 ∧ d0 < 4294967296 ∧ Y = a * 4294967296 + b ∧ Y = y * 2 ^ s ∧ (hi * 18446744073709551616 + lo) * 2 ^ s = (u * 4294967296 + d1) * 4294967296 + d0 := by
  obtain ⟨hi, rfl⟩ := Int.eq_ofNat_of_zero_le h0
  obtain ⟨lo, rfl⟩ := Int.eq_ofNat_of_zero_le hl
  obtain ⟨y, rfl⟩ := Int.eq_ofNat_of_zero_le (show 0 ≤ y by omega)
  have cy : ((y : Int) * 2 ^ s) = ((y * 2 ^ s : Nat) : Int) := by simp
  have ch : ((hi : Int) * 2 ^ s) = ((hi * 2 ^ s : Nat) : Int) := by simp
  have cl : ((lo : Int) * 2 ^ s) = ((lo * 2 ^ s : Nat) : Int) := by simp
  have cd : ((lo : Int) / 2 ^ (64 - s)) = ((lo / 2 ^ (64 - s) : Nat) : Int) := by simp
  have cN : ((hi : Int) * 18446744073709551616 + lo) * 2 ^ s = ((hi * 2 ^ s * 18446744073709551616 + lo * 2 ^ s : Nat) : Int) := by
    rw [Int.add_mul, Int.mul_right_comm]; simp
  rw [cN, cy, ch, cl, cd]
  rw [cy] at hlow hup
  obtain ⟨f1, f2, f3, f4⟩ := shift_nat (hi := hi) (lo := lo) (y := y) (by omega) (by omega) s hs
  generalize y * 2 ^ s = Y at *
  generalize hi * 2 ^ s = H at *
  generalize lo * 2 ^ s = L at *
  generalize lo / 2 ^ (64 - s) = D at *
  have wY : IntKind.u64.wrap (Y : Int) = (Y : Int) := by rw [IntKind.wrap_u64]; omega
  have wH : IntKind.u64.wrap (H : Int) = (H : Int) := by rw [IntKind.wrap_u64]; omega
  have wL : IntKind.u64.wrap (L : Int) = (L : Int) % 18446744073709551616 := by rw [IntKind.wrap_u64]
  have oU : bits .or .u64 (H : Int) (D : Int) = ((H + D : Nat) : Int) := by rw [bits_or_u64_nat H D (by omega) (by omega), f3]
  refine ⟨Y, (Y : Int) / 4294967296, (Y : Int) % 4294967296, ((H + D : Nat) : Int), (L : Int) % 18446744073709551616, (L : Int) % 18446744073709551616 / 4294967296, (L : Int) % 18446744073709551616 % 4294967296, wY, rfl, and_low32 _ (by omega) (by omega), by rw [wH, oU], wL, rfl, and_low32 _ (by omega) (by omega), ?_⟩
  refine ⟨?_, ?_, ?_, ?_, ?_, ?_, ?_, ?_, ?_, ?_, ?_, ?_, ?_⟩ <;> omega

/-- How far a divisor is shifted. -/
theorem lead_facts {y : Int} (h : 0 < y) (hy : y < 18446744073709551616) : ∃ s : Nat, s ≤ 63 ∧ 64 - (Lib.bitLen y.toNat : Int) = s ∧ 9223372036854775808 ≤ y * 2 ^ s ∧ y * 2 ^ s < 18446744073709551616 := by
  obtain ⟨y, rfl⟩ := Int.eq_ofNat_of_zero_le (show 0 ≤ y by omega)
  have hb := Lib.bitLenAux_bounds 64 y (by omega) (by omega)
  have hle := Lib.bitLen_le y 64 (by omega) (by omega)
  rw [Int.toNat_natCast]
  change _ ≤ Lib.bitLen y ∧ 2 ^ (Lib.bitLen y - 1) ≤ y ∧ y < 2 ^ Lib.bitLen y at hb
  generalize Lib.bitLen y = k at *
  obtain ⟨b1, b2, b3⟩ := hb
  refine ⟨64 - k, by omega, by omega, ?_⟩
  have cy : ((y : Int) * 2 ^ (64 - k)) = ((y * 2 ^ (64 - k) : Nat) : Int) := by simp
  have e1 : 2 ^ (k - 1) * 2 ^ (64 - k) = 9223372036854775808 := by
    rw [← Nat.pow_add, show k - 1 + (64 - k) = 63 by omega]
  have e2 : 2 ^ k * 2 ^ (64 - k) = 18446744073709551616 := by
    rw [← Nat.pow_add, show k + (64 - k) = 64 by omega]
  have m1 := Nat.mul_le_mul_right (2 ^ (64 - k)) b2
  have m2 := Nat.mul_lt_mul_of_pos_right b3 (Nat.two_pow_pos (64 - k))
  rw [cy]; omega

end Go.Proofs.YtdbikeehoildlaaDoor
namespace Go.Proofs.YtdbikeehoildlaaDoor
open Go.RowKit

/-- The first loop's end, and the second one's: the true quotient. -/
theorem u64_wrap (n : Int) (h0 : 0 ≤ n) (h1 : n < 18446744073709551616) (m : Int) (h : m % 18446744073709551616 = n % 18446744073709551616) : m % 18446744073709551616 = n := by omega

set_option maxHeartbeats 1600000 in
theorem Div64_norm (hi lo y : Int) (s : Nat) (w : World) (_hy : ¬ y = 0) (hy' : (y == 0) = false) (hh : hi < y) (_h0 : 0 ≤ hi) (hn : (hi == 0) = false) (hs : s ≤ 63) (_hl : 0 ≤ lo) (_hl' : lo < 18446744073709551616) (_hy'' : y < 18446744073709551616)
   (C : ∀ w, Calls Tryd.prog 82 #[.int .u64 y] w fun e w' => e = .returned (.int .i64 s) ∧ w = w') (Y a b u v d1 d0 Q1 R1 Q0 R0 : Int)
   (e1 : IntKind.u64.wrap (y * 2 ^ s) = Y) (e2 : Y / 4294967296 = a) (e3 : bits .and .u64 Y 4294967295 = b) (e4 : bits .or .u64 (IntKind.u64.wrap (hi * 2 ^ s)) (lo / 2 ^ (64 - s)) = u) (e5 : IntKind.u64.wrap (lo * 2 ^ s) = v) (e6 : v / 4294967296 = d1) (e7 : bits .and .u64 v 4294967295 = d0)
   (f1 : 2147483648 ≤ a) (f2 : a < 4294967296) (f3 : 0 ≤ b) (f4 : b < 4294967296) (f5 : 0 ≤ u) (f6 : u < a * 4294967296 + b) (f7 : 0 ≤ d1) (f8 : d1 < 4294967296) (f9 : 0 ≤ d0) (f10 : d0 < 4294967296) (e8 : Y = a * 4294967296 + b)
   (k1 : (u * 4294967296 + d1) / (a * 4294967296 + b) = Q1) (k2 : (u * 4294967296 + d1) % (a * 4294967296 + b) = R1) (k3 : (R1 * 4294967296 + d0) / (a * 4294967296 + b) = Q0) (k4 : (R1 * 4294967296 + d0) % (a * 4294967296 + b) = R0) :
    Calls Tryd.prog 80 #[.int .u64 hi, .int .u64 lo, .int .u64 y] w fun e w' => e = .returned (.tuple #[.int .u64 (Q1 * 4294967296 + Q0), .int .u64 (R0 / 2 ^ s)]) ∧ w = w' := by
  have C' := Lib.hid C
  have j1 : 0 ≤ Y := by omega
  have j2 : Y < 18446744073709551616 := by omega
  have j3 : 0 ≤ R1 := by rw [← k2]; exact Int.emod_nonneg _ (by omega)
  have j4 : R1 < a * 4294967296 + b := by rw [← k2]; exact Int.emod_lt_of_pos _ (by omega)
  have j5 : 0 ≤ R0 := by rw [← k4]; exact Int.emod_nonneg _ (by omega)
  have j6 : R0 < a * 4294967296 + b := by rw [← k4]; exact Int.emod_lt_of_pos _ (by omega)
  have j7 : Q1 < 4294967296 := by rw [← k1]; exact quo_small f6 f8 f5
  have j8 : Q0 < 4294967296 := by rw [← k3]; exact quo_small j4 f10 j3
  have j9 : 0 ≤ Q1 := by rw [← k1]; exact Int.ediv_nonneg (by omega) (by omega)
  have j10 : 0 ≤ Q0 := by rw [← k3]; exact Int.ediv_nonneg (by omega) (by omega)
  have m1 : IntKind.u64.wrap (u - IntKind.u64.wrap (u / a * a)) = u - u / a * a := by
    have := (guess_first (d := d1) f1 f2 f3 f4 f8 f5 f6).2.2
    rw [IntKind.wrap_u64, IntKind.wrap_u64]; generalize u / a * a = z at *; omega
  have m2 : IntKind.u64.wrap (R1 - IntKind.u64.wrap (R1 / a * a)) = R1 - R1 / a * a := by
    have := (guess_first (d := d0) f1 f2 f3 f4 f10 j3 j4).2.2
    rw [IntKind.wrap_u64, IntKind.wrap_u64]; generalize R1 / a * a = z at *; omega
  have g01 := Lib.hid (guess_first (d := d1) f1 f2 f3 f4 f8 f5 f6)
  have g02 := Lib.hid (guess_first (d := d0) f1 f2 f3 f4 f10 j3 j4)
  have n1 : u * 4294967296 + d1 = Q1 * Y + R1 := by have := Int.mul_ediv_add_emod (u * 4294967296 + d1) (a * 4294967296 + b); rw [k1, k2] at this; rw [e8, Int.mul_comm Q1]; exact this.symm
  have n2 : R1 * 4294967296 + d0 = Q0 * Y + R0 := by have := Int.mul_ediv_add_emod (R1 * 4294967296 + d0) (a * 4294967296 + b); rw [k3, k4] at this; rw [e8, Int.mul_comm Q0]; exact this.symm
  have E1 := Lib.hid e1; have E2 := Lib.hid e2; have E3 := Lib.hid e3; have E4 := Lib.hid e4; have E5 := Lib.hid e5; have E6 := Lib.hid e6; have E7 := Lib.hid e7
  have K1 := Lib.hid k1; have K3 := Lib.hid k3; have M1 := Lib.hid m1; have M2 := Lib.hid m2; have N1 := Lib.hid n1; have N2 := Lib.hid n2; have E8 := Lib.hid e8
  clear e1 e2 e3 e4 e5 e6 e7 k1 k2 k3 k4 C m1 m2 n1 n2 e8
  have ha0 : ¬ a = 0 := by omega
  have ha1 : (a == 0) = false := by simp [ha0]
  go_enter Tryd.func80, Tryd.ntmps80
  go_wp2_with fail
  refine (C'.out _).mono ?_
  rintro e w1 ⟨rfl, rfl⟩
  go_upto_region 15 with fail
  rw [E1.out, E2.out, E3.out, E4.out, E5.out, E6.out, E7.out]
  go_upto_block 0 with fail
  rw [M1.out]
  have g03 := Lib.hid g01.out
  generalize u / a = qa at *
  generalize u - qa * a = ra at *
  go_cut [15] (fun s15 wx => s15 = .int .u64 Q1 ∧ w = wx)
  case first =>
    go_wp2_with fail
    go_loop [15, 16] (fun q r => ∃ qv rv : Int, q = .int .u64 qv ∧ r = .int .u64 rv ∧ Guess u a b d1 qv rv) (fun q _ => (intOf q).toNat)
    case atStart => exact ⟨_, _, rfl, rfl, g03.out⟩
    case round =>
      obtain ⟨q, r, rfl, rfl, g⟩ := hrel
      have g1 := g.1
      have g2 := g.2.1
      have g4 := g.2.2.2.1
      have g5 := g.2.2.2.2
      have hq0 : 0 ≤ q := Int.le_trans (Int.ediv_nonneg (by omega) (by omega)) g1
      by_cases h1 : 4294967296 ≤ q
      · obtain ⟨l1, l2, l3, l4, l5, l6⟩ := guess_less f1 f2 f3 f7 f8 f5 f6 g (Or.inl h1)
        have L3 := Lib.hid l3
        have G := Lib.hid g
        clear l3 g1 g
        by_cases h2 : 4294967296 ≤ r + a
        · have E := Lib.hid (guess_over f1 f3 f4 f7 l1 l2 L3.out h2)
          go_wp2_with fail
          go_meet
          exact ⟨by rw [E.out, K1.out], rfl⟩
        · have N := Lib.hid (show Guess u a b d1 (q - 1) (r + a) from ⟨l1, by omega, L3.out, by omega, by omega⟩)
          clear l1
          go_wp2_with fail
          go_round
          case rel => exact ⟨_, _, rfl, rfl, N.out⟩
          case measure => simp [intOf]; omega
      · obtain ⟨p1, p2⟩ := guess_prod f3 f4 hq0 (by omega : q < 4294967296)
        by_cases h3 : 4294967296 * r + d1 < q * b
        · obtain ⟨l1, l2, l3, l4, l5, l6⟩ := guess_less f1 f2 f3 f7 f8 f5 f6 g (Or.inr h3)
          have L3 := Lib.hid l3
          have G := Lib.hid g
          clear l3 g1 g
          by_cases h2 : 4294967296 ≤ r + a
          · have E := Lib.hid (guess_over f1 f3 f4 f7 l1 l2 L3.out h2)
            go_wp2_with fail
            go_meet
            exact ⟨by rw [E.out, K1.out], rfl⟩
          · have N := Lib.hid (show Guess u a b d1 (q - 1) (r + a) from ⟨l1, by omega, L3.out, by omega, by omega⟩)
            clear l1
            go_wp2_with fail
            go_round
            case rel => exact ⟨_, _, rfl, rfl, N.out⟩
            case measure => simp [intOf]; omega
        · have E := Lib.hid (guess_done f1 f3 g (by omega : q * b ≤ 4294967296 * r + d1))
          clear g1 g
          go_wp2_with fail
          go_meet
          exact ⟨by rw [E.out, K1.out], rfl⟩
  case rest =>
    obtain ⟨rfl, rfl⟩ := hcut
    have P1 : IntKind.u64.wrap (IntKind.u64.wrap (IntKind.u64.wrap (u * 4294967296) + d1) - IntKind.u64.wrap (Q1 * Y)) = R1 := by
      have := N1.out
      simp only [IntKind.wrap_u64]; generalize Q1 * Y = z at *; omega
    have P2 : IntKind.u64.wrap (IntKind.u64.wrap (IntKind.u64.wrap (R1 * 4294967296) + d0) - IntKind.u64.wrap (Q0 * Y)) = R0 := by
      have := N2.out
      simp only [IntKind.wrap_u64]; generalize Q0 * Y = z at *; omega
    have P1' := Lib.hid P1
    have P2' := Lib.hid P2
    clear P1 P2
    have j11 : R1 < 18446744073709551616 := by omega
    go_upto_region 22 with fail
    rw [P1'.out]
    go_upto_block 2 with fail
    rw [M2.out]
    have g04 := Lib.hid g02.out
    generalize R1 / a = qb at *
    generalize R1 - qb * a = rb at *
    go_cut [18] (fun s18 wx => s18 = .int .u64 Q0 ∧ w = wx)
    case first =>
      go_wp2_with fail
      go_loop [18, 16] (fun q r => ∃ qv rv : Int, q = .int .u64 qv ∧ r = .int .u64 rv ∧ Guess R1 a b d0 qv rv) (fun q _ => (intOf q).toNat)
      case atStart => exact ⟨_, _, rfl, rfl, g04.out⟩
      case round =>
        obtain ⟨q, r, rfl, rfl, g⟩ := hrel
        have g1 := g.1
        have g2 := g.2.1
        have g4 := g.2.2.2.1
        have g5 := g.2.2.2.2
        have hq0 : 0 ≤ q := Int.le_trans (Int.ediv_nonneg (by omega) (by omega)) g1
        by_cases h1 : 4294967296 ≤ q
        · obtain ⟨l1, l2, l3, l4, l5, l6⟩ := guess_less f1 f2 f3 f9 f10 j3 j4 g (Or.inl h1)
          have L3 := Lib.hid l3
          have G := Lib.hid g
          clear l3 g1 g
          by_cases h2 : 4294967296 ≤ r + a
          · have E := Lib.hid (guess_over f1 f3 f4 f9 l1 l2 L3.out h2)
            go_wp2_with fail
            go_meet
            exact ⟨by rw [E.out, K3.out], rfl⟩
          · have N := Lib.hid (show Guess R1 a b d0 (q - 1) (r + a) from ⟨l1, by omega, L3.out, by omega, by omega⟩)
            clear l1
            go_wp2_with fail
            go_round
            case rel => exact ⟨_, _, rfl, rfl, N.out⟩
            case measure => simp [intOf]; omega
        · obtain ⟨p1, p2⟩ := guess_prod f3 f4 hq0 (by omega : q < 4294967296)
          by_cases h3 : 4294967296 * r + d0 < q * b
          · obtain ⟨l1, l2, l3, l4, l5, l6⟩ := guess_less f1 f2 f3 f9 f10 j3 j4 g (Or.inr h3)
            have L3 := Lib.hid l3
            have G := Lib.hid g
            clear l3 g1 g
            by_cases h2 : 4294967296 ≤ r + a
            · have E := Lib.hid (guess_over f1 f3 f4 f9 l1 l2 L3.out h2)
              go_wp2_with fail
              go_meet
              exact ⟨by rw [E.out, K3.out], rfl⟩
            · have N := Lib.hid (show Guess R1 a b d0 (q - 1) (r + a) from ⟨l1, by omega, L3.out, by omega, by omega⟩)
              clear l1
              go_wp2_with fail
              go_round
              case rel => exact ⟨_, _, rfl, rfl, N.out⟩
              case measure => simp [intOf]; omega
          · have E := Lib.hid (guess_done f1 f3 g (by omega : q * b ≤ 4294967296 * r + d0))
            clear g1 g
            go_wp2_with fail
            go_meet
            exact ⟨by rw [E.out, K3.out], rfl⟩
    case rest =>
      obtain ⟨rfl, rfl⟩ := hcut
      go_wp2_with fail
      rw [P2'.out]
      go_ret2
      exact ⟨rfl, rfl⟩

theorem Div64_any (hi lo y : Int) (w : World) (hh : hi < y) (h0 : 0 ≤ hi) (hn : ¬ hi = 0) (hl : Word lo) (hy : Word y) :
    Calls Tryd.prog 80 #[.int .u64 hi, .int .u64 lo, .int .u64 y] w fun e w' => e = .returned (.tuple #[.int .u64 ((hi * 18446744073709551616 + lo) / y), .int .u64 ((hi * 18446744073709551616 + lo) % y)]) ∧ Kept w w' := by
  obtain ⟨s, hs, e, hlow, hup⟩ := lead_facts (y := y) (by omega) hy.2
  obtain ⟨Y, a, b, u, v, d1, d0, e1, e2, e3, e4, e5, e6, e7, f1, f2, f3, f4, f5, f6, f7, f8, f9, f10, e8, e9, e10⟩ := shift_facts h0 hh hl.1 hl.2 s hs hlow hup
  have L := long_div (N := hi * 18446744073709551616 + lo) (y := y) (Y := Y) (p := 2 ^ s) (Int.pow_pos (by decide)) (by omega) e9 e10
  have D := Div64_norm hi lo y s w (by omega) (by simp; omega) hh h0 (by simp [hn]) hs hl.1 hl.2 hy.2 (fun w => by rw [← e]; exact lead64 y hy w) Y a b u v d1 d0 _ _ _ _ e1 e2 e3 e4 e5 e6 e7 f1 f2 f3 f4 f5 f6 f7 f8 f9 f10 e8 rfl rfl rfl rfl
  rw [← e8, L.1, L.2] at D
  exact D.mono fun _ _ h => ⟨h.1, h.2 ▸ Kept.refl _⟩

set_option maxHeartbeats 800000 in
theorem Div64_zero (lo y : Int) (w : World) (hy : ¬ y = 0) (hy' : (y == 0) = false) (hh : 0 < y) (hl : 0 ≤ lo) (hl' : lo < 18446744073709551616) (hy'' : y < 18446744073709551616) :
    Calls Tryd.prog 80 #[.int .u64 0, .int .u64 lo, .int .u64 y] w fun e w' => e = .returned (.tuple #[.int .u64 (lo / y), .int .u64 (lo % y)]) ∧ Kept w w' := by
  go_enter Tryd.func80, Tryd.ntmps80
  go_wp2
  go_region
  go_wp2
  go_ret2
  exact ⟨rfl, (by (repeat (first | with_reducible exact Kept.refl _ | with_reducible apply Kept.drew | with_reducible apply Kept.alloc | ((with_reducible apply Kept.set); focus (simp <;> omega)) | ((with_reducible apply Kept.via); focus with_reducible assumption))))⟩

theorem div64 (hi lo y : Int) (w : World) (hh : hi < y) (h0 : Word hi) (hl : Word lo) (hy : Word y) :
    Calls Tryd.prog 80 #[.int .u64 hi, .int .u64 lo, .int .u64 y] w fun e w' => e = .returned (.tuple #[.int .u64 ((hi * 18446744073709551616 + lo) / y), .int .u64 ((hi * 18446744073709551616 + lo) % y)]) ∧ Kept w w' := by
  by_cases h : hi = 0
  · subst h
    rw [Int.zero_mul, Int.zero_add]
    exact Div64_zero lo y w (by omega) (by simp; omega) hh hl.1 hl.2 hy.2
  · exact Div64_any hi lo y w hh h0.1 h hl hy
end Go.Proofs.YtdbikeehoildlaaDoor
namespace Go.Proofs.YtdbikeehoildlaaDoor
open Go.RowKit

set_option maxHeartbeats 800000 in
theorem quotient_any (xh xl d q r : Int) (w : World) (h1 : Word xh) (h2 : Word xl) (h3 : Word d) (h4 : 0 < d) (e1 : (xh % d * 18446744073709551616 + xl) / d = q) (e2 : (xh % d * 18446744073709551616 + xl) % d = r) :
    Calls Tryd.prog 73 #[.agg #[.int .u64 xh, .int .u64 xl], .int .u64 d] w fun e w' => e = .returned (.tuple #[.agg #[.int .u64 (xh / d), .int .u64 q], .int .u64 r]) ∧ Kept w w' := by
  have M : ∀ w, Calls Tryd.prog 80 #[.int .u64 (xh.tmod d), .int .u64 xl, .int .u64 d] w fun e w' => e = .returned (.tuple #[.int .u64 q, .int .u64 r]) ∧ Kept w w' := fun w => by
    rw [← e1, ← e2, Int.tmod_eq_emod_of_nonneg h1.1]
    have a1 := Int.emod_nonneg xh (show d ≠ 0 by omega)
    have a2 := Int.emod_lt_of_pos xh h4
    unfold Word at h3
    exact div64 _ _ _ w a2 ⟨a1, by omega⟩ h2 (by unfold Word; exact h3)
  have M' := Lib.hid M
  have d0 : ¬ d = 0 := by omega
  have d1 : (d == 0) = false := by simp [d0]
  obtain ⟨a1, a2⟩ := h1
  obtain ⟨b1, b2⟩ := h3
  clear M e1 e2 h2
  go_enter Tryd.func73, Tryd.ntmps73
  go_upto_region 1 with fail
  generalize hW : (World.alloc (World.alloc w (.cells #[.int .u64 xh, .int .u64 xl] 83)) (.cells #[.int .u64 0, .int .u64 0] 83)) = W0
  have c0 : W0.cell? ⟨w.heap.size, 0, none⟩ = some (.int .u64 xh) := by subst hW; simp [go_sem]
  have c1 : W0.cell? ⟨w.heap.size, 1, none⟩ = some (.int .u64 xl) := by subst hW; simp [go_sem]
  have room : Room2 W0 (w.heap.size + 1) := by subst hW; exact ⟨_, _, by first | (simp [go_sem]; done) | (simp [go_sem]; rfl), by first | (simp [go_sem]; done) | (simp [go_sem]; rfl), by simp [go_sem], by simp [go_sem]⟩
  have kw : Kept w W0 := by subst hW; exact (by (repeat (first | with_reducible exact Kept.refl _ | with_reducible apply Kept.drew | with_reducible apply Kept.alloc | ((with_reducible apply Kept.set); focus (simp <;> omega)) | ((with_reducible apply Kept.via); focus with_reducible assumption))))
  clear hW
  go_region_with (first | (go_at_call 80; refine (M'.out _).mono ?_; rintro e w1 ⟨rfl, k1⟩))
  all_goals
    have k : Kept W0 w1 := (by (repeat (first | with_reducible exact Kept.refl _ | with_reducible apply Kept.drew | with_reducible apply Kept.alloc | ((with_reducible apply Kept.set); focus (simp <;> omega)) | ((with_reducible apply Kept.via); focus with_reducible assumption))))
    have q0 := k.read c0
    have q1 := k.read c1
    obtain ⟨x, y, n1, n2, m1, m2⟩ := room.kept k
    go_wp2
    simp [bodyPost, results, Tryd.results73, go_sem, *]
    exact (by (repeat (first | with_reducible exact Kept.refl _ | with_reducible apply Kept.drew | with_reducible apply Kept.alloc | ((with_reducible apply Kept.set); focus (simp <;> omega)) | ((with_reducible apply Kept.via); focus with_reducible assumption))))

set_option maxHeartbeats 400000 in
theorem Div_zero (b : Bool) (xh xl : Int) (w : World) :
    Calls Tryd.prog 63 #[.agg #[.bool b, .int .u64 xh, .int .u64 xl], .int .u64 0] w fun e w' => e = .returned (.tuple #[.agg #[.bool false, .int .u64 0, .int .u64 0], .int .u64 0, .int .i64 20]) ∧ Kept w w' := by
  go_enter Tryd.func63, Tryd.ntmps63
  go_wp2
  simp [bodyPost, results, Tryd.results63, go_sem]
  exact (by (repeat (first | with_reducible exact Kept.refl _ | with_reducible apply Kept.drew | with_reducible apply Kept.alloc | ((with_reducible apply Kept.set); focus (simp <;> omega)) | ((with_reducible apply Kept.via); focus with_reducible assumption))))

set_option maxHeartbeats 800000 in
theorem Div_even (b : Bool) (xh xl d qh ql r : Int) (w : World) (hd0 : ¬ d = 0) (C : ∀ w, Calls Tryd.prog 73 #[.agg #[.int .u64 xh, .int .u64 xl], .int .u64 d] w fun e w' => e = .returned (.tuple #[.agg #[.int .u64 qh, .int .u64 ql], .int .u64 r]) ∧ Kept w w') (hr : (b && (r != 0)) = false) :
    Calls Tryd.prog 63 #[.agg #[.bool b, .int .u64 xh, .int .u64 xl], .int .u64 d] w fun e w' => e = .returned (.tuple #[.agg #[.bool (b && nz qh ql), .int .u64 qh, .int .u64 ql], .int .u64 r, .int .i64 0]) ∧ Kept w w' := by
  have hd1 : (d == 0) = false := by simp [hd0]
  have C' := Lib.hid C
  clear C
  go_enter Tryd.func63, Tryd.ntmps63
  go_upto_region 3 with fail
  generalize hW : (World.alloc (World.alloc w (.cells #[.bool b, .int .u64 xh, .int .u64 xl] 61)) (.cells #[.bool false, .int .u64 0, .int .u64 0] 61)) = W0
  have base := Lib.hid (show W0.cell? ⟨w.heap.size, 0, none⟩ = some (.bool b) ∧ W0.cell? ⟨w.heap.size, 1, none⟩ = some (.int .u64 xh) ∧ W0.cell? ⟨w.heap.size, 2, none⟩ = some (.int .u64 xl) from by subst hW; simp [go_sem])
  have room : Room3 W0 (w.heap.size + 1) := by subst hW; exact ⟨_, _, _, by first | (simp [go_sem]; done) | (simp [go_sem]; rfl), by first | (simp [go_sem]; done) | (simp [go_sem]; rfl), by first | (simp [go_sem]; done) | (simp [go_sem]; rfl), by simp [go_sem], by simp [go_sem], by simp [go_sem]⟩
  have kw : Kept w W0 := by subst hW; exact (by (repeat (first | with_reducible exact Kept.refl _ | with_reducible apply Kept.drew | with_reducible apply Kept.alloc | ((with_reducible apply Kept.set); focus (simp <;> omega)) | ((with_reducible apply Kept.via); focus with_reducible assumption))))
  have zw : w.heap.size + 2 ≤ W0.heap.size := by subst hW; simp
  clear hW
  obtain ⟨c0, c1, c2⟩ := Kept.all3 (Kept.refl _) base
  go_wp2_with fail
  refine (sizeOf_any _ _ _ _).mono ?_
  rintro e w1 ⟨rfl, k1⟩
  go_wp2_with fail
  refine (C'.out _).mono ?_
  rintro e w2 ⟨rfl, k2⟩
  have k := k1.trans k2
  obtain ⟨q0, q1, q2⟩ := Kept.all3 k base
  have z2 : w.heap.size < w2.heap.size := by have := Kept.below k; omega
  clear c0 c1 c2 base
  cases b
  · go_wp2_with fail
    refine (on_any _ _ _ _).mono ?_
    rintro e w4 ⟨rfl, k4⟩
    obtain ⟨x, y, z, a1, a2, a3, b1, b2, b3⟩ : Room3 w4 (w.heap.size + 1) := room.kept (show Kept W0 w4 from (by (repeat (first | with_reducible exact Kept.refl _ | with_reducible apply Kept.drew | with_reducible apply Kept.alloc | ((with_reducible apply Kept.set); focus (simp <;> omega)) | ((with_reducible apply Kept.via); focus with_reducible assumption)))))
    go_wp2
    simp [bodyPost, results, Tryd.results63, go_sem, *]
    exact (by (repeat (first | with_reducible exact Kept.refl _ | with_reducible apply Kept.drew | with_reducible apply Kept.alloc | ((with_reducible apply Kept.set); focus (simp <;> omega)) | ((with_reducible apply Kept.via); focus with_reducible assumption))))
  · have hr2 : (r != 0) = false := by simpa using hr
    clear hr
    go_wp2_with fail
    refine (on_any _ _ _ _).mono ?_
    rintro e w4 ⟨rfl, k4⟩
    obtain ⟨x, y, z, a1, a2, a3, b1, b2, b3⟩ : Room3 w4 (w.heap.size + 1) := room.kept (show Kept W0 w4 from (by (repeat (first | with_reducible exact Kept.refl _ | with_reducible apply Kept.drew | with_reducible apply Kept.alloc | ((with_reducible apply Kept.set); focus (simp <;> omega)) | ((with_reducible apply Kept.via); focus with_reducible assumption)))))
    go_wp2
    simp [bodyPost, results, Tryd.results63, go_sem, *]
    exact (by (repeat (first | with_reducible exact Kept.refl _ | with_reducible apply Kept.drew | with_reducible apply Kept.alloc | ((with_reducible apply Kept.set); focus (simp <;> omega)) | ((with_reducible apply Kept.via); focus with_reducible assumption))))

set_option maxHeartbeats 800000 in
theorem Div_rest (xh xl d qh ql r : Int) (w : World) (hd0 : ¬ d = 0) (C : ∀ w, Calls Tryd.prog 73 #[.agg #[.int .u64 xh, .int .u64 xl], .int .u64 d] w fun e w' => e = .returned (.tuple #[.agg #[.int .u64 qh, .int .u64 ql], .int .u64 r]) ∧ Kept w w') (f : Bool) (h l : Int) (hd : d < 18446744073709551616) (h0 : 0 ≤ r) (hr1 : r < d) (hr : (r != 0) = true) (S : ∀ w, Calls Tryd.prog 74 #[.agg #[.int .u64 qh, .int .u64 ql], .agg #[.int .u64 0, .int .u64 1]] w fun e w' => e = .returned (.tuple #[.agg #[.int .u64 h, .int .u64 l], .bool f]) ∧ Kept w w') :
    Calls Tryd.prog 63 #[.agg #[.bool true, .int .u64 xh, .int .u64 xl], .int .u64 d] w fun e w' => e = .returned (.tuple #[.agg #[.bool (true && nz h l), .int .u64 h, .int .u64 l], .int .u64 (d - r), .int .i64 0]) ∧ Kept w w' := by
  have hd1 : (d == 0) = false := by simp [hd0]
  have C' := Lib.hid C
  clear C
  have S' := Lib.hid S
  clear S
  go_enter Tryd.func63, Tryd.ntmps63
  go_upto_region 3 with fail
  generalize hW : (World.alloc (World.alloc w (.cells #[.bool true, .int .u64 xh, .int .u64 xl] 61)) (.cells #[.bool false, .int .u64 0, .int .u64 0] 61)) = W0
  have base := Lib.hid (show W0.cell? ⟨w.heap.size, 0, none⟩ = some (.bool true) ∧ W0.cell? ⟨w.heap.size, 1, none⟩ = some (.int .u64 xh) ∧ W0.cell? ⟨w.heap.size, 2, none⟩ = some (.int .u64 xl) from by subst hW; simp [go_sem])
  have room : Room3 W0 (w.heap.size + 1) := by subst hW; exact ⟨_, _, _, by first | (simp [go_sem]; done) | (simp [go_sem]; rfl), by first | (simp [go_sem]; done) | (simp [go_sem]; rfl), by first | (simp [go_sem]; done) | (simp [go_sem]; rfl), by simp [go_sem], by simp [go_sem], by simp [go_sem]⟩
  have kw : Kept w W0 := by subst hW; exact (by (repeat (first | with_reducible exact Kept.refl _ | with_reducible apply Kept.drew | with_reducible apply Kept.alloc | ((with_reducible apply Kept.set); focus (simp <;> omega)) | ((with_reducible apply Kept.via); focus with_reducible assumption))))
  have zw : w.heap.size + 2 ≤ W0.heap.size := by subst hW; simp
  clear hW
  obtain ⟨c0, c1, c2⟩ := Kept.all3 (Kept.refl _) base
  go_wp2_with fail
  refine (sizeOf_any _ _ _ _).mono ?_
  rintro e w1 ⟨rfl, k1⟩
  go_wp2_with fail
  refine (C'.out _).mono ?_
  rintro e w2 ⟨rfl, k2⟩
  have k := k1.trans k2
  obtain ⟨q0, q1, q2⟩ := Kept.all3 k base
  have z2 : w.heap.size < w2.heap.size := by have := Kept.below k; omega
  clear c0 c1 c2 base
  go_wp2_with fail
  refine (S'.out _).mono ?_
  rintro e w3 ⟨rfl, k3⟩
  obtain ⟨nx, ny, n1, n2, m1, m2⟩ := Room2.new k3
  have k23 : Kept w2 w3 := Kept.via k3 ((Kept.refl _).alloc _ _)
  have p0 := k23.read q0
  have p1 := k23.read q1
  have p2 := k23.read q2
  have z3 : ¬ w.heap.size = w2.heap.size := by omega
  have z4 : ¬ w2.heap.size = w.heap.size := by omega
  have z5 := Kept.below k
  clear q0 q1 q2
  go_wp2_with fail
  refine (on_any _ _ _ _).mono ?_
  rintro e w4 ⟨rfl, k4⟩
  obtain ⟨x, y, z, a1, a2, a3, b1, b2, b3⟩ : Room3 w4 (w.heap.size + 1) := room.kept (show Kept W0 w4 from (by (repeat (first | with_reducible exact Kept.refl _ | with_reducible apply Kept.drew | with_reducible apply Kept.alloc | ((with_reducible apply Kept.set); focus (simp <;> omega)) | ((with_reducible apply Kept.via); focus with_reducible assumption)))))
  go_wp2
  simp [bodyPost, results, Tryd.results63, go_sem, *]
  exact (by (repeat (first | with_reducible exact Kept.refl _ | with_reducible apply Kept.drew | with_reducible apply Kept.alloc | ((with_reducible apply Kept.set); focus (simp <;> omega)) | ((with_reducible apply Kept.via); focus with_reducible assumption))))
end Go.Proofs.YtdbikeehoildlaaDoor
