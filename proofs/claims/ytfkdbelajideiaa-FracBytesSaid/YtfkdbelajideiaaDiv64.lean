/-
  A contract of the library's Div64, walked through its own text.
-/
import Derived.Test.YtfkdbelajideiaaRooms
import Derived.Test.YtfkdbelajideiaaKnuth
import Derived.Deep.CutBlock
import Derived.Deep.DeepCutAuto
namespace Go.Proofs.Ytfkdbelajideiaa
open Go.RowKit

/-- The first loop's end, and the second one's: the true quotient. -/
theorem u64_wrap (n : Int) (h0 : 0 ≤ n) (h1 : n < 18446744073709551616) (m : Int) (h : m % 18446744073709551616 = n % 18446744073709551616) : m % 18446744073709551616 = n := by omega

set_option maxHeartbeats 1600000 in
theorem Div64_norm (hi lo y : Int) (s : Nat) (w : World) (_hy : ¬ y = 0) (hy' : (y == 0) = false) (hh : hi < y) (_h0 : 0 ≤ hi) (hn : (hi == 0) = false) (hs : s ≤ 63) (_hl : 0 ≤ lo) (_hl' : lo < 18446744073709551616) (_hy'' : y < 18446744073709551616)
   (C : ∀ w, Calls Try.prog 63 #[.int .u64 y] w fun e w' => e = .returned (.int .i64 s) ∧ w = w') (Y a b u v d1 d0 Q1 R1 Q0 R0 : Int)
   (e1 : IntKind.u64.wrap (y * 2 ^ s) = Y) (e2 : Y / 4294967296 = a) (e3 : bits .and .u64 Y 4294967295 = b) (e4 : bits .or .u64 (IntKind.u64.wrap (hi * 2 ^ s)) (lo / 2 ^ (64 - s)) = u) (e5 : IntKind.u64.wrap (lo * 2 ^ s) = v) (e6 : v / 4294967296 = d1) (e7 : bits .and .u64 v 4294967295 = d0)
   (f1 : 2147483648 ≤ a) (f2 : a < 4294967296) (f3 : 0 ≤ b) (f4 : b < 4294967296) (f5 : 0 ≤ u) (f6 : u < a * 4294967296 + b) (f7 : 0 ≤ d1) (f8 : d1 < 4294967296) (f9 : 0 ≤ d0) (f10 : d0 < 4294967296) (e8 : Y = a * 4294967296 + b)
   (k1 : (u * 4294967296 + d1) / (a * 4294967296 + b) = Q1) (k2 : (u * 4294967296 + d1) % (a * 4294967296 + b) = R1) (k3 : (R1 * 4294967296 + d0) / (a * 4294967296 + b) = Q0) (k4 : (R1 * 4294967296 + d0) % (a * 4294967296 + b) = R0) :
    Calls Try.prog 58 #[.int .u64 hi, .int .u64 lo, .int .u64 y] w fun e w' => e = .returned (.tuple #[.int .u64 (Q1 * 4294967296 + Q0), .int .u64 (R0 / 2 ^ s)]) ∧ w = w' := by
  have C' := Lib.hid C
  have j1 : 0 ≤ Y := by omega
  have j2 : Y < 18446744073709551616 := by omega
  have j3 : 0 ≤ R1 := by rw [← k2]; exact Int.emod_nonneg _ (by omega)
  have j4 : R1 < a * 4294967296 + b := by rw [← k2]; exact Int.emod_lt_of_pos _ (by omega)
  have j5 : 0 ≤ R0 := by rw [← k4]; exact Int.emod_nonneg _ (by omega)
  have j6 : R0 < a * 4294967296 + b := by rw [← k4]; exact Int.emod_lt_of_pos _ (by omega)
  have j7 : Q1 < 4294967296 := by rw [← k1]; exact quo_small f6 f8 f5
  have j8 : Q0 < 4294967296 := by rw [← k3]; exact quo_small j4 f10 j3
  have j9 : 0 ≤ Q1 := by rw [← k1]; exact Int.ediv_nonneg (by omega) (by omega)
  have j10 : 0 ≤ Q0 := by rw [← k3]; exact Int.ediv_nonneg (by omega) (by omega)
  have m1 : IntKind.u64.wrap (u - IntKind.u64.wrap (u / a * a)) = u - u / a * a := by
    have := (guess_first (d := d1) f1 f2 f3 f4 f8 f5 f6).2.2
    rw [IntKind.wrap_u64, IntKind.wrap_u64]; generalize u / a * a = z at *; omega
  have m2 : IntKind.u64.wrap (R1 - IntKind.u64.wrap (R1 / a * a)) = R1 - R1 / a * a := by
    have := (guess_first (d := d0) f1 f2 f3 f4 f10 j3 j4).2.2
    rw [IntKind.wrap_u64, IntKind.wrap_u64]; generalize R1 / a * a = z at *; omega
  have g01 := Lib.hid (guess_first (d := d1) f1 f2 f3 f4 f8 f5 f6)
  have g02 := Lib.hid (guess_first (d := d0) f1 f2 f3 f4 f10 j3 j4)
  have n1 : u * 4294967296 + d1 = Q1 * Y + R1 := by have := Int.mul_ediv_add_emod (u * 4294967296 + d1) (a * 4294967296 + b); rw [k1, k2] at this; rw [e8, Int.mul_comm Q1]; exact this.symm
  have n2 : R1 * 4294967296 + d0 = Q0 * Y + R0 := by have := Int.mul_ediv_add_emod (R1 * 4294967296 + d0) (a * 4294967296 + b); rw [k3, k4] at this; rw [e8, Int.mul_comm Q0]; exact this.symm
  have E1 := Lib.hid e1; have E2 := Lib.hid e2; have E3 := Lib.hid e3; have E4 := Lib.hid e4; have E5 := Lib.hid e5; have E6 := Lib.hid e6; have E7 := Lib.hid e7
  have K1 := Lib.hid k1; have K3 := Lib.hid k3; have M1 := Lib.hid m1; have M2 := Lib.hid m2; have N1 := Lib.hid n1; have N2 := Lib.hid n2; have E8 := Lib.hid e8
  clear e1 e2 e3 e4 e5 e6 e7 k1 k2 k3 k4 C m1 m2 n1 n2 e8
  have ha0 : ¬ a = 0 := by omega
  have ha1 : (a == 0) = false := by simp [ha0]
  go_enter Try.func58, Try.ntmps58
  go_wp2_with fail
  refine (C'.out _).mono ?_
  rintro e w1 ⟨rfl, rfl⟩
  go_upto_region 15 with fail
  rw [E1.out, E2.out, E3.out, E4.out, E5.out, E6.out, E7.out]
  go_upto_block 0 with fail
  rw [M1.out]
  have g03 := Lib.hid g01.out
  generalize u / a = qa at *
  generalize u - qa * a = ra at *
  go_cut [15] (fun s15 wx => s15 = .int .u64 Q1 ∧ w = wx)
  case first =>
    go_wp2_with fail
    go_loop [15, 16] (fun q r => ∃ qv rv : Int, q = .int .u64 qv ∧ r = .int .u64 rv ∧ Guess u a b d1 qv rv) (fun q _ => (intOf q).toNat)
    case atStart => exact ⟨_, _, rfl, rfl, g03.out⟩
    case round =>
      obtain ⟨q, r, rfl, rfl, g⟩ := hrel
      have g1 := g.1
      have g2 := g.2.1
      have g4 := g.2.2.2.1
      have g5 := g.2.2.2.2
      have hq0 : 0 ≤ q := Int.le_trans (Int.ediv_nonneg (by omega) (by omega)) g1
      by_cases h1 : 4294967296 ≤ q
      · obtain ⟨l1, l2, l3, l4, l5, l6⟩ := guess_less f1 f2 f3 f7 f8 f5 f6 g (Or.inl h1)
        have L3 := Lib.hid l3
        have G := Lib.hid g
        clear l3 g1 g
        by_cases h2 : 4294967296 ≤ r + a
        · have E := Lib.hid (guess_over f1 f3 f4 f7 l1 l2 L3.out h2)
          go_wp2_with fail
          go_meet
          exact ⟨by rw [E.out, K1.out], rfl⟩
        · have N := Lib.hid (show Guess u a b d1 (q - 1) (r + a) from ⟨l1, by omega, L3.out, by omega, by omega⟩)
          clear l1
          go_wp2_with fail
          go_round
          case rel => exact ⟨_, _, rfl, rfl, N.out⟩
          case measure => simp [intOf]; omega
      · obtain ⟨p1, p2⟩ := guess_prod f3 f4 hq0 (by omega : q < 4294967296)
        by_cases h3 : 4294967296 * r + d1 < q * b
        · obtain ⟨l1, l2, l3, l4, l5, l6⟩ := guess_less f1 f2 f3 f7 f8 f5 f6 g (Or.inr h3)
          have L3 := Lib.hid l3
          have G := Lib.hid g
          clear l3 g1 g
          by_cases h2 : 4294967296 ≤ r + a
          · have E := Lib.hid (guess_over f1 f3 f4 f7 l1 l2 L3.out h2)
            go_wp2_with fail
            go_meet
            exact ⟨by rw [E.out, K1.out], rfl⟩
          · have N := Lib.hid (show Guess u a b d1 (q - 1) (r + a) from ⟨l1, by omega, L3.out, by omega, by omega⟩)
            clear l1
            go_wp2_with fail
            go_round
            case rel => exact ⟨_, _, rfl, rfl, N.out⟩
            case measure => simp [intOf]; omega
        · have E := Lib.hid (guess_done f1 f3 g (by omega : q * b ≤ 4294967296 * r + d1))
          clear g1 g
          go_wp2_with fail
          go_meet
          exact ⟨by rw [E.out, K1.out], rfl⟩
  case rest =>
    obtain ⟨rfl, rfl⟩ := hcut
    have P1 : IntKind.u64.wrap (IntKind.u64.wrap (IntKind.u64.wrap (u * 4294967296) + d1) - IntKind.u64.wrap (Q1 * Y)) = R1 := by
      have := N1.out
      simp only [IntKind.wrap_u64]; generalize Q1 * Y = z at *; omega
    have P2 : IntKind.u64.wrap (IntKind.u64.wrap (IntKind.u64.wrap (R1 * 4294967296) + d0) - IntKind.u64.wrap (Q0 * Y)) = R0 := by
      have := N2.out
      simp only [IntKind.wrap_u64]; generalize Q0 * Y = z at *; omega
    have P1' := Lib.hid P1
    have P2' := Lib.hid P2
    clear P1 P2
    have j11 : R1 < 18446744073709551616 := by omega
    go_upto_region 22 with fail
    rw [P1'.out]
    go_upto_block 2 with fail
    rw [M2.out]
    have g04 := Lib.hid g02.out
    generalize R1 / a = qb at *
    generalize R1 - qb * a = rb at *
    go_cut [18] (fun s18 wx => s18 = .int .u64 Q0 ∧ w = wx)
    case first =>
      go_wp2_with fail
      go_loop [18, 16] (fun q r => ∃ qv rv : Int, q = .int .u64 qv ∧ r = .int .u64 rv ∧ Guess R1 a b d0 qv rv) (fun q _ => (intOf q).toNat)
      case atStart => exact ⟨_, _, rfl, rfl, g04.out⟩
      case round =>
        obtain ⟨q, r, rfl, rfl, g⟩ := hrel
        have g1 := g.1
        have g2 := g.2.1
        have g4 := g.2.2.2.1
        have g5 := g.2.2.2.2
        have hq0 : 0 ≤ q := Int.le_trans (Int.ediv_nonneg (by omega) (by omega)) g1
        by_cases h1 : 4294967296 ≤ q
        · obtain ⟨l1, l2, l3, l4, l5, l6⟩ := guess_less f1 f2 f3 f9 f10 j3 j4 g (Or.inl h1)
          have L3 := Lib.hid l3
          have G := Lib.hid g
          clear l3 g1 g
          by_cases h2 : 4294967296 ≤ r + a
          · have E := Lib.hid (guess_over f1 f3 f4 f9 l1 l2 L3.out h2)
            go_wp2_with fail
            go_meet
            exact ⟨by rw [E.out, K3.out], rfl⟩
          · have N := Lib.hid (show Guess R1 a b d0 (q - 1) (r + a) from ⟨l1, by omega, L3.out, by omega, by omega⟩)
            clear l1
            go_wp2_with fail
            go_round
            case rel => exact ⟨_, _, rfl, rfl, N.out⟩
            case measure => simp [intOf]; omega
        · obtain ⟨p1, p2⟩ := guess_prod f3 f4 hq0 (by omega : q < 4294967296)
          by_cases h3 : 4294967296 * r + d0 < q * b
          · obtain ⟨l1, l2, l3, l4, l5, l6⟩ := guess_less f1 f2 f3 f9 f10 j3 j4 g (Or.inr h3)
            have L3 := Lib.hid l3
            have G := Lib.hid g
            clear l3 g1 g
            by_cases h2 : 4294967296 ≤ r + a
            · have E := Lib.hid (guess_over f1 f3 f4 f9 l1 l2 L3.out h2)
              go_wp2_with fail
              go_meet
              exact ⟨by rw [E.out, K3.out], rfl⟩
            · have N := Lib.hid (show Guess R1 a b d0 (q - 1) (r + a) from ⟨l1, by omega, L3.out, by omega, by omega⟩)
              clear l1
              go_wp2_with fail
              go_round
              case rel => exact ⟨_, _, rfl, rfl, N.out⟩
              case measure => simp [intOf]; omega
          · have E := Lib.hid (guess_done f1 f3 g (by omega : q * b ≤ 4294967296 * r + d0))
            clear g1 g
            go_wp2_with fail
            go_meet
            exact ⟨by rw [E.out, K3.out], rfl⟩
    case rest =>
      obtain ⟨rfl, rfl⟩ := hcut
      go_wp2_with fail
      rw [P2'.out]
      go_ret2
      exact ⟨rfl, rfl⟩

theorem Div64_any (hi lo y : Int) (w : World) (hh : hi < y) (h0 : 0 ≤ hi) (hn : ¬ hi = 0) (hl : Word lo) (hy : Word y) :
    Calls Try.prog 58 #[.int .u64 hi, .int .u64 lo, .int .u64 y] w fun e w' => e = .returned (.tuple #[.int .u64 ((hi * 18446744073709551616 + lo) / y), .int .u64 ((hi * 18446744073709551616 + lo) % y)]) ∧ Kept w w' := by
  obtain ⟨s, hs, e, hlow, hup⟩ := lead_facts (y := y) (by omega) hy.2
  obtain ⟨Y, a, b, u, v, d1, d0, e1, e2, e3, e4, e5, e6, e7, f1, f2, f3, f4, f5, f6, f7, f8, f9, f10, e8, e9, e10⟩ := shift_facts h0 hh hl.1 hl.2 s hs hlow hup
  have L := long_div (N := hi * 18446744073709551616 + lo) (y := y) (Y := Y) (p := 2 ^ s) (Int.pow_pos (by decide)) (by omega) e9 e10
  have D := Div64_norm hi lo y s w (by omega) (by simp; omega) hh h0 (by simp [hn]) hs hl.1 hl.2 hy.2 (fun w => by rw [← e]; exact lead64 y hy w) Y a b u v d1 d0 _ _ _ _ e1 e2 e3 e4 e5 e6 e7 f1 f2 f3 f4 f5 f6 f7 f8 f9 f10 e8 rfl rfl rfl rfl
  rw [← e8, L.1, L.2] at D
  exact D.mono fun _ _ h => ⟨h.1, h.2 ▸ Kept.refl _⟩

set_option maxHeartbeats 800000 in
theorem Div64_zero (lo y : Int) (w : World) (hy : ¬ y = 0) (hy' : (y == 0) = false) (hh : 0 < y) (hl : 0 ≤ lo) (hl' : lo < 18446744073709551616) (hy'' : y < 18446744073709551616) :
    Calls Try.prog 58 #[.int .u64 0, .int .u64 lo, .int .u64 y] w fun e w' => e = .returned (.tuple #[.int .u64 (lo / y), .int .u64 (lo % y)]) ∧ Kept w w' := by
  go_enter Try.func58, Try.ntmps58
  go_wp2
  go_region
  go_wp2
  go_ret2
  exact ⟨rfl, (by (repeat (first | with_reducible exact Kept.refl _ | with_reducible apply Kept.drew | with_reducible apply Kept.alloc | ((with_reducible apply Kept.set); focus (simp <;> omega)) | ((with_reducible apply Kept.via); focus with_reducible assumption))))⟩

theorem div64 (hi lo y : Int) (w : World) (hh : hi < y) (h0 : Word hi) (hl : Word lo) (hy : Word y) :
    Calls Try.prog 58 #[.int .u64 hi, .int .u64 lo, .int .u64 y] w fun e w' => e = .returned (.tuple #[.int .u64 ((hi * 18446744073709551616 + lo) / y), .int .u64 ((hi * 18446744073709551616 + lo) % y)]) ∧ Kept w w' := by
  by_cases h : hi = 0
  · subst h
    rw [Int.zero_mul, Int.zero_add]
    exact Div64_zero lo y w (by omega) (by simp; omega) hh hl.1 hl.2 hy.2
  · exact Div64_any hi lo y w hh h0.1 h hl hy
end Go.Proofs.Ytfkdbelajideiaa
