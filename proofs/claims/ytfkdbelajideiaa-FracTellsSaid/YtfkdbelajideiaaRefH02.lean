/-
  What Scale and Mul of the document's answer do, said of whole numbers.
-/
import Derived.Test.YtfkdbelajideiaaRefE02
import Derived.Test.YtfkdbelajideiaaRefF02
namespace Go.Proofs.Ytfkdbelajideiaa
open Go.RowKit Go.BigFrame

theorem half_le {k a : Int} (k0 : 0 ≤ k) (k1 : k < 4294967296) (a0 : 0 ≤ a) (a1 : a < 4294967296) : 0 ≤ k * a ∧ k * a ≤ 18446744065119617025 :=
  ⟨Int.mul_nonneg k0 a0, by have := Int.mul_le_mul (show k ≤ 4294967295 by omega) (show a ≤ 4294967295 by omega) a0 (by omega); omega⟩
theorem mul_digits (j0 j1 a0 a1 a2 a3 : Int) : (a3 * 79228162514264337593543950336 + a2 * 18446744073709551616 + a1 * 4294967296 + a0) * (j1 * 4294967296 + j0) = j0 * a0 + (j0 * a1 + j1 * a0) * 4294967296 + (j0 * a2 + j1 * a1) * 18446744073709551616 + (j0 * a3 + j1 * a2) * 79228162514264337593543950336 + j1 * a3 * 340282366920938463463374607431768211456 := by
  grind
theorem refScale_ex {xh xl n : Int} (h1 : Word xh) (h2 : Word xl) (h3 : Word n) : ∃ s0 t0 t1 t2 t3 e4 : Int, (0 ≤ s0 ∧ s0 < 4294967296) ∧ (0 ≤ t0 ∧ t0 < 4294967296) ∧ (0 ≤ t1 ∧ t1 < 4294967296) ∧ (0 ≤ t2 ∧ t2 < 4294967296) ∧ 0 ≤ t3 ∧ 0 ≤ e4 ∧ sz xh xl * n = e4 * 1461501637330902918203684832716283019655932542976 + t3 * 340282366920938463463374607431768211456 + sz (t2 * 4294967296 + t1) (t0 * 4294967296 + s0) ∧
    (∀ (xb : Bool) (h l : Int) (w : World), h = t2 * 4294967296 + t1 → l = t0 * 4294967296 + s0 → t3 = 0 → e4 = 0 → Calls Try.prog 29 #[.agg #[.bool xb, .int .u64 xh, .int .u64 xl], .int .u64 n] w fun e w' => e = .returned (.tuple #[.agg #[.bool (xb && nz h l), .int .u64 h, .int .u64 l], .int .i64 0]) ∧ Kept w w') ∧
    (∀ (xb : Bool) (w : World), (0 < t3 ∨ (t3 = 0 ∧ 0 < e4)) → Calls Try.prog 29 #[.agg #[.bool xb, .int .u64 xh, .int .u64 xl], .int .u64 n] w fun e w' => e = .returned (.tuple #[.agg #[.bool false, .int .u64 0, .int .u64 0], .int .i64 10]) ∧ Kept w w') := by
  have a := dig_b h1; have b := dig_b h2; have c := dig_b h3
  obtain ⟨d0, d1⟩ := h3
  have md := mul_digits (n % 4294967296) (n / 4294967296) (xl % 4294967296) (xl / 4294967296) (xh % 4294967296) (xh / 4294967296)
  rw [show xh / 4294967296 * 79228162514264337593543950336 + xh % 4294967296 * 18446744073709551616 + xl / 4294967296 * 4294967296 + xl % 4294967296 = sz xh xl by unfold sz; omega, show n / 4294967296 * 4294967296 + n % 4294967296 = n by omega] at md
  have D := fun xb w => digits_any xb xh xl w h1 h2
  have W := fun (s0 t0 t1 t2 : Int) (i0 : 0 ≤ s0 ∧ s0 < 4294967296) (i1 : 0 ≤ t0 ∧ t0 < 4294967296) (i2 : 0 ≤ t1 ∧ t1 < 4294967296) (i3 : 0 ≤ t2 ∧ t2 < 4294967296) xb h l (eh : h = t2 * 4294967296 + t1) (el : l = t0 * 4294967296 + s0) w => whole_any s0 t0 t1 t2 h l xb w i0.1 i1.1 i2.1 i3.1 i0.2 i1.2 i2.2 i3.2 eh el
  have p00 := half_le c.1 c.2.1 b.1 b.2.1; have p01 := half_le c.1 c.2.1 b.2.2.1 b.2.2.2; have p02 := half_le c.1 c.2.1 a.1 a.2.1; have p03 := half_le c.1 c.2.1 a.2.2.1 a.2.2.2
  have p10 := half_le c.2.2.1 c.2.2.2 b.1 b.2.1; have p11 := half_le c.2.2.1 c.2.2.2 b.2.2.1 b.2.2.2; have p12 := half_le c.2.2.1 c.2.2.2 a.1 a.2.1; have p13 := half_le c.2.2.1 c.2.2.2 a.2.2.1 a.2.2.2
  have FIT := fun (xb : Bool) (c1 c2 c3 c4 s0 s1 s2 s3 e1 e2 e3 e4 t0 t1 t2 t3 h l : Int) (w : World) => refScale_fit xb xh xl n (n % 4294967296) (n / 4294967296) (xl % 4294967296) (xl / 4294967296) (xh % 4294967296) (xh / 4294967296) c1 c2 c3 c4 s0 s1 s2 s3 e1 e2 e3 e4 t0 t1 t2 t3 h l w d0 d1 rfl rfl
  have OVE := fun (xb : Bool) (c1 c2 c3 c4 s0 s1 s2 s3 e1 e2 e3 e4 t0 t1 t2 t3 : Int) (w : World) => refScale_over xb xh xl n (n % 4294967296) (n / 4294967296) (xl % 4294967296) (xl / 4294967296) (xh % 4294967296) (xh / 4294967296) c1 c2 c3 c4 s0 s1 s2 s3 e1 e2 e3 e4 t0 t1 t2 t3 w d0 d1 rfl rfl
  generalize n % 4294967296 * (xl % 4294967296) = m00 at *
  generalize n % 4294967296 * (xl / 4294967296) = m01 at *
  generalize n % 4294967296 * (xh % 4294967296) = m02 at *
  generalize n % 4294967296 * (xh / 4294967296) = m03 at *
  generalize n / 4294967296 * (xl % 4294967296) = m10 at *
  generalize n / 4294967296 * (xl / 4294967296) = m11 at *
  generalize n / 4294967296 * (xh % 4294967296) = m12 at *
  generalize n / 4294967296 * (xh / 4294967296) = m13 at *
  generalize sz xh xl * n = PP at *
  clear h1 h2 a b c
  obtain ⟨c1, hc1⟩ : ∃ x, m00 / 4294967296 = x := ⟨_, rfl⟩
  obtain ⟨s0, hs0⟩ : ∃ x, m00 % 4294967296 = x := ⟨_, rfl⟩
  obtain ⟨c2, hc2⟩ : ∃ x, (m01 + c1) / 4294967296 = x := ⟨_, rfl⟩
  obtain ⟨s1, hs1⟩ : ∃ x, (m01 + c1) % 4294967296 = x := ⟨_, rfl⟩
  obtain ⟨c3, hc3⟩ : ∃ x, (m02 + c2) / 4294967296 = x := ⟨_, rfl⟩
  obtain ⟨s2, hs2⟩ : ∃ x, (m02 + c2) % 4294967296 = x := ⟨_, rfl⟩
  obtain ⟨c4, hc4⟩ : ∃ x, (m03 + c3) / 4294967296 = x := ⟨_, rfl⟩
  obtain ⟨s3, hs3⟩ : ∃ x, (m03 + c3) % 4294967296 = x := ⟨_, rfl⟩
  obtain ⟨e1, he1⟩ : ∃ x, (m10 + s1) / 4294967296 = x := ⟨_, rfl⟩
  obtain ⟨t0, ht0⟩ : ∃ x, (m10 + s1) % 4294967296 = x := ⟨_, rfl⟩
  obtain ⟨e2, he2⟩ : ∃ x, (m11 + s2 + e1) / 4294967296 = x := ⟨_, rfl⟩
  obtain ⟨t1, ht1⟩ : ∃ x, (m11 + s2 + e1) % 4294967296 = x := ⟨_, rfl⟩
  obtain ⟨e3, he3⟩ : ∃ x, (m12 + s3 + e2) / 4294967296 = x := ⟨_, rfl⟩
  obtain ⟨t2, ht2⟩ : ∃ x, (m12 + s3 + e2) % 4294967296 = x := ⟨_, rfl⟩
  obtain ⟨e4, he4⟩ : ∃ x, (m13 + c4 + e3) / 4294967296 = x := ⟨_, rfl⟩
  obtain ⟨t3, ht3⟩ : ∃ x, (m13 + c4 + e3) % 4294967296 = x := ⟨_, rfl⟩
  have FIT' := fun xb h l w => FIT xb c1 c2 c3 c4 s0 s1 s2 s3 e1 e2 e3 e4 t0 t1 t2 t3 h l w
  have OVE' := fun xb w => OVE xb c1 c2 c3 c4 s0 s1 s2 s3 e1 e2 e3 e4 t0 t1 t2 t3 w
  have i0 : 0 ≤ s0 ∧ s0 < 4294967296 := by omega
  have i1 : 0 ≤ t0 ∧ t0 < 4294967296 := by omega
  have i2 : 0 ≤ t1 ∧ t1 < 4294967296 := by omega
  have i3 : 0 ≤ t2 ∧ t2 < 4294967296 := by omega
  refine ⟨s0, t0, t1, t2, t3, e4, i0, i1, i2, i3, by omega, by omega, by unfold sz; omega, fun xb h l w eh el z3 z4 => ?_, fun xb w hv => ?_⟩
  · exact FIT' xb h l w (by omega) (by omega) (by omega) (by omega) (by omega) (by omega) (by omega) (by omega) (by omega) (by omega) (by omega) (by omega) (by omega) (by omega) (by omega) (by omega) (by omega) (by omega) (by omega) (by omega) (by omega) (by omega) p00.1 p00.2 p01.1 p01.2 p02.1 p02.2 p03.1 p03.2 p10.1 p10.2 p11.1 p11.2 p12.1 p12.2 p13.1 p13.2 z3 z4 hc1 hs0 hc2 hs1 hc3 hs2 hc4 hs3 he1 ht0 he2 ht1 he3 ht2 he4 ht3 (D xb) (W s0 t0 t1 t2 i0 i1 i2 i3 xb h l eh el)
  · exact OVE' xb w (by omega) (by omega) (by omega) (by omega) (by omega) (by omega) (by omega) (by omega) (by omega) (by omega) (by omega) (by omega) (by omega) (by omega) (by omega) (by omega) (by omega) (by omega) (by omega) (by omega) (by omega) (by omega) p00.1 p00.2 p01.1 p01.2 p02.1 p02.2 p03.1 p03.2 p10.1 p10.2 p11.1 p11.2 p12.1 p12.2 p13.1 p13.2 hv hc1 hs0 hc2 hs1 hc3 hs2 hc4 hs3 he1 ht0 he2 ht1 he3 ht2 he4 ht3 (D xb)
section
variable {b1 b : Bool} {xh xl h l n : Int}
theorem refScale_yes (h1 : Word xh) (h2 : Word xl) (h3 : Word n) (r : Rep b h l (numOf b1 xh xl * n)) (w : World) : Calls Try.prog 29 #[.agg #[.bool b1, .int .u64 xh, .int .u64 xl], .int .u64 n] w fun e w' => e = .returned (.tuple #[.agg #[.bool b, .int .u64 h, .int .u64 l], .int .i64 0]) ∧ Kept w w' := by
  obtain ⟨h5, h6, _, _⟩ := id r
  have s := rep_size r
  have n1 := Int.mul_nonneg (sz_nonneg h1 h2) h3.1
  have s2 : sz h l = sz xh xl * n := by
    cases b1
    · rw [numOf_false] at s; split at s <;> omega
    · rw [numOf_true, Int.neg_mul] at s; split at s <;> omega
  obtain ⟨s0, t0, t1, t2, t3, e4, i0, i1, i2, i3, i4, i5, es, FI, _⟩ := refScale_ex h1 h2 h3
  have wh : Word (t2 * 4294967296 + t1) := by unfold Word; omega
  have wl : Word (t0 * 4294967296 + s0) := by unfold Word; omega
  have m1 := sz_nonneg wh wl; have m2 := sz_lt h5 h6
  obtain ⟨eh, el⟩ := sz_inj h5 h6 wh wl (by omega)
  rw [← rep_sign (s := b1) r (by cases b1 <;> simp [numOf, s2, Int.neg_mul])]
  exact FI b1 h l w eh el (by omega) (by omega)
theorem refScale_no (h1 : Word xh) (h2 : Word xl) (h3 : Word n) (r : ¬ InBig (numOf b1 xh xl * n)) (w : World) : Calls Try.prog 29 #[.agg #[.bool b1, .int .u64 xh, .int .u64 xl], .int .u64 n] w fun e w' => e = .returned (.tuple #[.agg #[.bool false, .int .u64 0, .int .u64 0], .int .i64 10]) ∧ Kept w w' := by
  have n1 := Int.mul_nonneg (sz_nonneg h1 h2) h3.1
  have o : 340282366920938463463374607431768211456 ≤ sz xh xl * n := by
    unfold InBig at r
    cases b1
    · rw [numOf_false] at r; omega
    · rw [numOf_true, Int.neg_mul] at r; omega
  obtain ⟨s0, t0, t1, t2, t3, e4, i0, i1, i2, i3, i4, i5, es, _, OV⟩ := refScale_ex h1 h2 h3
  have m1 : sz (t2 * 4294967296 + t1) (t0 * 4294967296 + s0) < 340282366920938463463374607431768211456 := sz_lt (by unfold Word; omega) (by unfold Word; omega)
  exact OV b1 w (by omega)
end
set_option maxHeartbeats 800000 in
theorem refMul_neg (a c m ah al ph pl : Int) (ab pb qb : Bool) (w : World) (hc : c < 0) (O1 : ∀ w, Calls Try.prog 30 #[.int .i64 a] w fun e w' => e = .returned (.agg #[.bool ab, .int .u64 ah, .int .u64 al]) ∧ Kept w w') (Z1 : ∀ w, Calls Try.prog 31 #[.int .i64 c] w fun e w' => e = .returned (.int .u64 m) ∧ w = w') (S1 : ∀ w, Calls Try.prog 29 #[.agg #[.bool ab, .int .u64 ah, .int .u64 al], .int .u64 m] w fun e w' => e = .returned (.tuple #[.agg #[.bool pb, .int .u64 ph, .int .u64 pl], .int .i64 0]) ∧ Kept w w') (N1 : ∀ w, Calls Try.prog 32 #[.agg #[.bool pb, .int .u64 ph, .int .u64 pl]] w fun e w' => e = .returned (.agg #[.bool qb, .int .u64 ph, .int .u64 pl]) ∧ Kept w w') :
    Calls Try.prog 22 #[.int .i64 a, .int .i64 c] w fun e w' => e = .returned (.agg #[.bool qb, .int .u64 ph, .int .u64 pl]) ∧ Kept w w' := by
  have O1' := Lib.hid O1
  have Z1' := Lib.hid Z1
  have S1' := Lib.hid S1
  have N1' := Lib.hid N1
  clear O1 Z1 S1 N1
  go_enter Try.func22, Try.ntmps22
  go_upto_region 1 with fail
  generalize hW : (World.alloc w (.cells #[.bool false, .int .u64 0, .int .u64 0] 31)) = W0
  have room : Room3 W0 w.heap.size := by subst hW; exact ⟨_, _, _, by first | (simp [go_sem]; done) | (simp [go_sem]; rfl), by first | (simp [go_sem]; done) | (simp [go_sem]; rfl), by first | (simp [go_sem]; done) | (simp [go_sem]; rfl), by simp [go_sem], by simp [go_sem], by simp [go_sem]⟩
  have kw : Kept w W0 := by subst hW; (repeat (first | with_reducible exact Kept.refl _ | with_reducible apply Kept.drew | with_reducible apply Kept.alloc | ((with_reducible apply Kept.set); focus (simp <;> omega)) | ((with_reducible apply Kept.via); focus with_reducible assumption)))
  clear hW
  go_wp2_with fail
  refine (O1'.out _).mono ?_
  rintro e w1 ⟨rfl, k1⟩
  go_wp2_with fail
  refine (Z1'.out _).mono ?_
  rintro e w2 ⟨rfl, rfl⟩
  go_wp2_with fail
  refine (S1'.out _).mono ?_
  rintro e w3 ⟨rfl, k3⟩
  go_upto_region 2 with fail
  generalize hW : World.alloc w3 (.cells #[.bool pb, .int .u64 ph, .int .u64 pl] 31) = W_p
  have K_p : Kept w3 W_p := by subst hW; exact (Kept.refl _).alloc _ _
  have H_p := Lib.hid (show W_p.cell? ⟨w3.heap.size, 0, none⟩ = some (.bool pb) ∧ W_p.cell? ⟨w3.heap.size, 1, none⟩ = some (.int .u64 ph) ∧ W_p.cell? ⟨w3.heap.size, 2, none⟩ = some (.int .u64 pl) from by subst hW; simp [go_sem])
  clear hW
  generalize w3.heap.size = g_p at *
  obtain ⟨c_p0, c_p1, c_p2⟩ := Kept.all3 (show Kept W_p W_p from (by (repeat (first | with_reducible exact Kept.refl _ | with_reducible apply Kept.drew | with_reducible apply Kept.alloc | ((with_reducible apply Kept.set); focus (simp <;> omega)) | ((with_reducible apply Kept.via); focus with_reducible assumption))))) H_p
  go_wp2_with fail
  refine (N1'.out _).mono ?_
  rintro e w4 ⟨rfl, k4⟩
  obtain ⟨x, y, z, u1, u2, u3, t1, t2, t3⟩ : Room3 w4 w.heap.size := room.kept (by (repeat (first | with_reducible exact Kept.refl _ | with_reducible apply Kept.drew | with_reducible apply Kept.alloc | ((with_reducible apply Kept.set); focus (simp <;> omega)) | ((with_reducible apply Kept.via); focus with_reducible assumption))))
  go_wp2
  simp [bodyPost, results, Try.results22, go_sem, *]
  exact (by (repeat (first | with_reducible exact Kept.refl _ | with_reducible apply Kept.drew | with_reducible apply Kept.alloc | ((with_reducible apply Kept.set); focus (simp <;> omega)) | ((with_reducible apply Kept.via); focus with_reducible assumption))))
set_option maxHeartbeats 800000 in
theorem refMul_pos (a c m ah al ph pl : Int) (ab pb : Bool) (w : World) (hc : ¬ c < 0) (O1 : ∀ w, Calls Try.prog 30 #[.int .i64 a] w fun e w' => e = .returned (.agg #[.bool ab, .int .u64 ah, .int .u64 al]) ∧ Kept w w') (Z1 : ∀ w, Calls Try.prog 31 #[.int .i64 c] w fun e w' => e = .returned (.int .u64 m) ∧ w = w') (S1 : ∀ w, Calls Try.prog 29 #[.agg #[.bool ab, .int .u64 ah, .int .u64 al], .int .u64 m] w fun e w' => e = .returned (.tuple #[.agg #[.bool pb, .int .u64 ph, .int .u64 pl], .int .i64 0]) ∧ Kept w w') :
    Calls Try.prog 22 #[.int .i64 a, .int .i64 c] w fun e w' => e = .returned (.agg #[.bool pb, .int .u64 ph, .int .u64 pl]) ∧ Kept w w' := by
  have O1' := Lib.hid O1
  have Z1' := Lib.hid Z1
  have S1' := Lib.hid S1
  clear O1 Z1 S1
  go_enter Try.func22, Try.ntmps22
  go_upto_region 1 with fail
  generalize hW : (World.alloc w (.cells #[.bool false, .int .u64 0, .int .u64 0] 31)) = W0
  have room : Room3 W0 w.heap.size := by subst hW; exact ⟨_, _, _, by first | (simp [go_sem]; done) | (simp [go_sem]; rfl), by first | (simp [go_sem]; done) | (simp [go_sem]; rfl), by first | (simp [go_sem]; done) | (simp [go_sem]; rfl), by simp [go_sem], by simp [go_sem], by simp [go_sem]⟩
  have kw : Kept w W0 := by subst hW; (repeat (first | with_reducible exact Kept.refl _ | with_reducible apply Kept.drew | with_reducible apply Kept.alloc | ((with_reducible apply Kept.set); focus (simp <;> omega)) | ((with_reducible apply Kept.via); focus with_reducible assumption)))
  clear hW
  go_wp2_with fail
  refine (O1'.out _).mono ?_
  rintro e w1 ⟨rfl, k1⟩
  go_wp2_with fail
  refine (Z1'.out _).mono ?_
  rintro e w2 ⟨rfl, rfl⟩
  go_wp2_with fail
  refine (S1'.out _).mono ?_
  rintro e w3 ⟨rfl, k3⟩
  go_upto_region 2 with fail
  generalize hW : World.alloc w3 (.cells #[.bool pb, .int .u64 ph, .int .u64 pl] 31) = W_p
  have K_p : Kept w3 W_p := by subst hW; exact (Kept.refl _).alloc _ _
  have H_p := Lib.hid (show W_p.cell? ⟨w3.heap.size, 0, none⟩ = some (.bool pb) ∧ W_p.cell? ⟨w3.heap.size, 1, none⟩ = some (.int .u64 ph) ∧ W_p.cell? ⟨w3.heap.size, 2, none⟩ = some (.int .u64 pl) from by subst hW; simp [go_sem])
  clear hW
  generalize w3.heap.size = g_p at *
  obtain ⟨c_p0, c_p1, c_p2⟩ := Kept.all3 (show Kept W_p W_p from (by (repeat (first | with_reducible exact Kept.refl _ | with_reducible apply Kept.drew | with_reducible apply Kept.alloc | ((with_reducible apply Kept.set); focus (simp <;> omega)) | ((with_reducible apply Kept.via); focus with_reducible assumption))))) H_p
  obtain ⟨x, y, z, u1, u2, u3, t1, t2, t3⟩ : Room3 W_p w.heap.size := room.kept (by (repeat (first | with_reducible exact Kept.refl _ | with_reducible apply Kept.drew | with_reducible apply Kept.alloc | ((with_reducible apply Kept.set); focus (simp <;> omega)) | ((with_reducible apply Kept.via); focus with_reducible assumption))))
  go_wp2
  simp [bodyPost, results, Try.results22, go_sem, *]
  exact (by (repeat (first | with_reducible exact Kept.refl _ | with_reducible apply Kept.drew | with_reducible apply Kept.alloc | ((with_reducible apply Kept.set); focus (simp <;> omega)) | ((with_reducible apply Kept.via); focus with_reducible assumption))))
end Go.Proofs.Ytfkdbelajideiaa
