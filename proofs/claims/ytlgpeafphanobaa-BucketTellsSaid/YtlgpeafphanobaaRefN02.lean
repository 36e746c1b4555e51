/-
  In one text: RefG02, RefI02.
-/
import Derived.Test.YtlgpeafphanobaaRefL02
import Derived.Deep.RegionWith
import Derived.Test.YtlgpeafphanobaaRefM02
namespace Go.Proofs.Ytlgpeafphanobaa
open Go.RowKit Go.BigFrame

/-- What holds behind i steps: rest, what is left of the low word, and the quotient. -/
def Step (N d : Int) (i : Nat) (rest low q : Int) : Prop := i ≤ 64 ∧ 0 ≤ rest ∧ rest < d ∧ 0 ≤ q ∧ q < 2 ^ i ∧ ∃ r : Int, 0 ≤ r ∧ r < 2 ^ (64 - i) ∧ low = r * 2 ^ i ∧ (q * d + rest) * 2 ^ (64 - i) + r = N
theorem step_first {h d l : Int} (hd : 0 < d) (h2 : Word l) : Step (h % d * 18446744073709551616 + l) d 0 (h % d) l 0 :=
  ⟨by omega, Int.emod_nonneg _ (by omega), Int.emod_lt_of_pos _ hd, by omega, by decide, l, h2.1, h2.2, by simp, by simp⟩
theorem step_low {N d rest low q : Int} {i : Nat} (h : Step N d i rest low q) : 0 ≤ low ∧ low < 18446744073709551616 := by
  obtain ⟨a, _, _, _, _, r, r0, r1, rfl, _⟩ := h
  have p : (0 : Int) < 2 ^ i := Int.pow_pos (by decide)
  have e : (2 : Int) ^ (64 - i) * 2 ^ i = 18446744073709551616 := by rw [← Int.pow_add, show 64 - i + i = 64 by omega]; rfl
  have := Int.mul_lt_mul_of_pos_right r1 p
  exact ⟨Int.mul_nonneg r0 (by omega), by omega⟩
theorem step_q {N d rest low q : Int} {i : Nat} (h : Step N d i rest low q) (hi : i < 64) : q < 9223372036854775808 := by
  have := h.2.2.2.2.1
  have e : (2 : Int) ^ i ≤ 2 ^ 63 := by
    have := Nat.pow_le_pow_right (show 0 < 2 by omega) (show i ≤ 63 by omega)
    exact_mod_cast this
  have : (2 : Int) ^ 63 = 9223372036854775808 := rfl
  omega
theorem step_next {N d rest low q : Int} {i : Nat} (h : Step N d i rest low q) (hi : i < 64) (v u : Int) (hv : 0 ≤ v) (hv' : v < d)
    (e : (q * 2 + u) * d + v = (q * d + rest) * 2 + low / 9223372036854775808) (hu : 0 ≤ u ∧ u ≤ 1) : Step N d (i + 1) v (low * 2 % 18446744073709551616) (q * 2 + u) := by
  obtain ⟨a, b, c, q0, q1, r, r0, r1, rfl, f⟩ := h
  have p : (0 : Int) < 2 ^ i := Int.pow_pos (by decide)
  have P0 : (0 : Int) < 2 ^ (63 - i) := Int.pow_pos (by decide)
  have e1 : (2 : Int) ^ (64 - i) = 2 ^ (63 - i) * 2 := by rw [show 64 - i = (63 - i) + 1 by omega, Int.pow_succ]
  have e2 : (2 : Int) ^ (i + 1) = 2 ^ i * 2 := Int.pow_succ _ _
  have e3 : (2 : Int) ^ (63 - i) * 2 ^ i = 9223372036854775808 := by rw [← Int.pow_add, show 63 - i + i = 63 by omega]; rfl
  have d1 : r * 2 ^ i / 9223372036854775808 = r / 2 ^ (63 - i) := by
    rw [← e3]; exact Int.mul_ediv_mul_of_pos_left _ _ p
  have m := Int.mul_ediv_add_emod r (2 ^ (63 - i))
  have m1 := Int.emod_nonneg r (show (2 : Int) ^ (63 - i) ≠ 0 by omega)
  have m2 := Int.emod_lt_of_pos r P0
  rw [d1] at e
  rw [e1] at r1 f
  generalize hP : (2 : Int) ^ (63 - i) = P at *
  generalize hM : (2 : Int) ^ i = M at *
  generalize hb : r / P = bit at *
  generalize hr : r % P = s at *
  refine ⟨by omega, hv, hv', by omega, by rw [e2]; omega, s, m1, by rw [show 64 - (i + 1) = 63 - i by omega, hP]; exact m2, ?_, ?_⟩
  · rw [e2]
    have : r * M * 2 = bit * 18446744073709551616 + s * M * 2 := by
      have k : r * M = bit * (P * M) + s * M := by rw [← m, Int.add_mul, Int.mul_comm P bit, Int.mul_assoc]
      rw [k, e3]; omega
    rw [this, ← Int.mul_assoc]
    have l0 : 0 ≤ s * M := Int.mul_nonneg m1 (by omega)
    have l1 := Int.mul_lt_mul_of_pos_right m2 p
    rw [e3] at l1
    omega
  · rw [show 64 - (i + 1) = 63 - i by omega, hP, e, Int.add_mul]
    rw [← f, Int.mul_comm P 2, ← Int.mul_assoc, Int.mul_comm bit P]
    omega
theorem step_last {N d rest low q : Int} (hd : 0 < d) (h : Step N d 64 rest low q) : q = N / d ∧ rest = N % d := by
  obtain ⟨_, b, c, _, _, r, r0, r1, _, f⟩ := h
  have r2 : r < 1 := r1
  have : r = 0 := by omega
  subst this
  simp at f
  have := (Int.ediv_emod_unique hd (a := N) (q := q) (r := rest)).2 ⟨by rw [Int.mul_comm, Int.add_comm]; omega, b, c⟩
  exact ⟨this.1.symm, this.2.symm⟩

set_option maxHeartbeats 400000 in
theorem refDiv_zero (b : Bool) (xh xl : Int) (w : World) :
    Calls Try.prog 59 #[.agg #[.bool b, .int .u64 xh, .int .u64 xl], .int .u64 0] w fun e w' => e = .returned (.tuple #[.agg #[.bool false, .int .u64 0, .int .u64 0], .int .u64 0, .int .i64 20]) ∧ Kept w w' := by
  go_enter Try.func59, Try.ntmps59
  go_wp2
  simp [bodyPost, results, Try.results59, go_sem]
  exact (by (repeat (first | with_reducible exact Kept.refl _ | with_reducible apply Kept.drew | with_reducible apply Kept.alloc | ((with_reducible apply Kept.set); focus (simp <;> omega)) | ((with_reducible apply Kept.via); focus with_reducible assumption))))

/-- A number's cells, which may be written. -/
def QC (w : World) (g : Nat) (b : Bool) (h l : Int) : Prop := (w.cell? ⟨g, 0, none⟩ = some (.bool b) ∧ w.cell? ⟨g, 1, none⟩ = some (.int .u64 h) ∧ w.cell? ⟨g, 2, none⟩ = some (.int .u64 l)) ∧ w.frozen? ⟨g, 0, none⟩ = false ∧ w.frozen? ⟨g, 1, none⟩ = false ∧ w.frozen? ⟨g, 2, none⟩ = false
theorem QC.kept {w1 w2 : World} {g : Nat} {b : Bool} {h l : Int} (q : QC w1 g b h l) (k : Kept w1 w2) : QC w2 g b h l :=
  ⟨⟨k.read q.1.1, k.read q.1.2.1, k.read q.1.2.2⟩, k.thaw q.2.1, k.thaw q.2.2.1, k.thaw q.2.2.2⟩
set_option maxRecDepth 100000 in
set_option maxHeartbeats 3200000 in
theorem refDiv_pos (xh xl d qh ql rest : Int) (w : World) (h1 : Word xh) (h2 : Word xl) (h3 : Word d) (hd0 : 0 < d) (eq1 : (xh % d * 18446744073709551616 + xl) / d = ql) (eq2 : (xh % d * 18446744073709551616 + xl) % d = rest) (eq3 : xh / d = qh) (wqh : Word qh) (wql : Word ql)   :
    Calls Try.prog 59 #[.agg #[.bool false, .int .u64 xh, .int .u64 xl], .int .u64 d] w fun e w' => e = .returned (.tuple #[.agg #[.bool false, .int .u64 qh, .int .u64 ql], .int .u64 rest, .int .i64 0]) ∧ Kept w w' := by
  have S0 := Lib.hid (step_first (h := xh) hd0 h2)
  have SL := Lib.hid (fun rv lv qv (s : Step (xh % d * 18446744073709551616 + xl) d 64 rv lv qv) => step_last hd0 s)
  have DIG := Lib.hid (fun w => digits_any false qh ql w wqh wql)
  have WHO := Lib.hid (fun w => whole_any (ql % 4294967296) (ql / 4294967296) (qh % 4294967296) (qh / 4294967296) qh ql false w (dig_b wql).1 (dig_b wql).2.2.1 (dig_b wqh).1 (dig_b wqh).2.2.1 (dig_b wql).2.1 (dig_b wql).2.2.2 (dig_b wqh).2.1 (dig_b wqh).2.2.2 (by omega) (by omega))
  obtain ⟨a1, a2⟩ := h1; obtain ⟨b1, b2⟩ := h2; obtain ⟨c1, c2⟩ := h3
  have ET := Lib.hid (show IntKind.u64.wrap (xh.tdiv d) = qh from by rw [Int.tdiv_eq_ediv_of_nonneg a1, eq3, IntKind.wrap_u64]; unfold Word at wqh; omega)
  clear wqh wql
  have d0 : ¬ d = 0 := by omega
  have d1 : (d == 0) = false := by simp [d0]
  have EQ1 := Lib.hid eq1; have EQ2 := Lib.hid eq2; have EQ3 := Lib.hid eq3
  clear eq1 eq2 eq3
  go_enter Try.func59, Try.ntmps59
  go_upto_region 5 with fail
  generalize xh % d * 18446744073709551616 + xl = NN at *
  generalize xh % d = rr at *
  generalize hW : (World.alloc (World.alloc w (.cells #[.bool false, .int .u64 xh, .int .u64 xl] 64)) (.cells #[.bool false, .int .u64 0, .int .u64 0] 64)) = W0
  have base := Lib.hid (show W0.cell? ⟨w.heap.size, 0, none⟩ = some (.bool false) ∧ W0.cell? ⟨w.heap.size, 1, none⟩ = some (.int .u64 xh) ∧ W0.cell? ⟨w.heap.size, 2, none⟩ = some (.int .u64 xl) from by subst hW; simp [go_sem])
  have room : Room3 W0 (w.heap.size + 1) := by subst hW; exact ⟨_, _, _, by first | (simp [go_sem]; done) | (simp [go_sem]; rfl), by first | (simp [go_sem]; done) | (simp [go_sem]; rfl), by first | (simp [go_sem]; done) | (simp [go_sem]; rfl), by simp [go_sem], by simp [go_sem], by simp [go_sem]⟩
  have kw : Kept w W0 := by subst hW; exact (by (repeat (first | with_reducible exact Kept.refl _ | with_reducible apply Kept.drew | with_reducible apply Kept.alloc | ((with_reducible apply Kept.set); focus (simp <;> omega)) | ((with_reducible apply Kept.via); focus with_reducible assumption))))
  have zw : w.heap.size + 2 ≤ W0.heap.size := by subst hW; simp
  clear hW
  have H_x := Lib.hid (Kept.all3 (Kept.refl _) base)
  go_cut [9] (fun s9 wx => ∃ g : Nat, s9 = .pointer (some ⟨g, 0, none⟩) ∧ W0.heap.size ≤ g ∧ QC wx g false qh 0 ∧ Kept W0 wx)
  case first =>
    go_region_held3 (fun w' => w'.cell? ⟨w.heap.size, 0, none⟩ = some (.bool false) ∧ w'.cell? ⟨w.heap.size, 1, none⟩ = some (.int .u64 xh) ∧ w'.cell? ⟨w.heap.size, 2, none⟩ = some (.int .u64 xl))
      ((first | (refine Kept.all3 ?_ base; focus ((repeat (first | with_reducible exact Kept.refl _ | with_reducible apply Kept.drew | with_reducible apply Kept.alloc | ((with_reducible apply Kept.set); focus (simp <;> omega)) | ((with_reducible apply Kept.via); focus with_reducible assumption))); done)) | (refine far3 (Kept.all3 (by (repeat (first | with_reducible exact Kept.refl _ | with_reducible apply Kept.drew | with_reducible apply Kept.alloc | ((with_reducible apply Kept.set); focus (simp <;> omega)) | ((with_reducible apply Kept.via); focus with_reducible assumption)))) base) ?_; focus ((repeat' apply And.intro) <;> (simp <;> omega)))))
      (first
        | fail)
    all_goals
      go_wp2_with fail
      go_meet
      rw [ET.out]
      exact ⟨_, rfl, by simp, ⟨⟨by simp [go_sem], by simp [go_sem], by simp [go_sem]⟩, by simp [go_sem], by simp [go_sem], by simp [go_sem]⟩, (by (repeat (first | with_reducible exact Kept.refl _ | with_reducible apply Kept.drew | with_reducible apply Kept.alloc | ((with_reducible apply Kept.set); focus (simp <;> omega)) | ((with_reducible apply Kept.via); focus with_reducible assumption))))⟩
  obtain ⟨g, rfl, hg, hq, kc⟩ := hcut
  clear base
  generalize wc = W1 at *
  go_wp2_with fail
  go_loopw [7, 8, 10] (fun r l i wx => ∃ (k : Nat) (rv lv qv : Int), r = .int .u64 rv ∧ l = .int .u64 lv ∧ i = .int .i64 (k : Int) ∧ Step NN d k rv lv qv ∧ QC wx g false qh qv ∧ Kept W0 wx) (fun _ _ i _ => (64 - intOf i).toNat)
  case atStart => exact ⟨0, _, _, 0, rfl, rfl, rfl, S0.out, hq, kc⟩
  case round =>
    clear hq kc
    obtain ⟨k, rv, lv, qv, rfl, rfl, rfl, st, hq, kr⟩ := hrel
    obtain ⟨lv0, lv1⟩ := step_low st
    have rv0 := st.2.1
    have rv1 := st.2.2.1
    have qv0 := st.2.2.2.1
    have k64 := st.1
    obtain ⟨⟨q0, q1, q2⟩, z0, z1, z2⟩ := hq
    by_cases hk : k < 64
    · have qv1 := step_q st hk
      have ST := Lib.hid st
      have EL := Lib.hid (show IntKind.u64.wrap (2 * lv) = lv * 2 % 18446744073709551616 from by rw [IntKind.wrap_u64, Int.mul_comm])
      have EQ := Lib.hid (show (qv * 2 + 1) * d = qv * d * 2 + d from by rw [Int.add_mul, Int.one_mul, Int.mul_right_comm])
      have EP := Lib.hid (show (qv * 2 + 0) * d = qv * d * 2 from by rw [Int.add_zero, Int.mul_right_comm])
      clear st
      by_cases ho : 9223372036854775808 ≤ rv
      · have EA := Lib.hid (show IntKind.u64.wrap (IntKind.u64.wrap (IntKind.u64.wrap (2 * rv) + lv / 9223372036854775808) - d) = 2 * rv + lv / 9223372036854775808 - d from by simp only [IntKind.wrap_u64]; omega)
        have NX := Lib.hid (step_next ST.out hk (2 * rv + lv / 9223372036854775808 - d) 1 (by omega) (by omega) (by rw [EQ.out]; omega) (by omega))
        go_wp2_with fail
        go_roundw
        case rel =>
          refine ⟨k + 1, _, _, 2 * qv + 1, rfl, rfl, rfl, ?_, ?_, ?_⟩
          · rw [EA.out, EL.out, Int.mul_comm 2 qv]; exact NX.out
          · exact ⟨⟨by simp [go_sem, *], by simp [go_sem, *], by simp [go_sem, *]⟩, by simp [go_sem, *], by simp [go_sem, *], by simp [go_sem, *]⟩
          · exact Kept.set hg (Kept.set hg kr)
        case measure => simp [intOf]; omega
      · by_cases hm : d ≤ 2 * rv + lv / 9223372036854775808
        · have NX := Lib.hid (step_next ST.out hk (2 * rv + lv / 9223372036854775808 - d) 1 (by omega) (by omega) (by rw [EQ.out]; omega) (by omega))
          go_wp2_with fail
          go_roundw
          case rel =>
            refine ⟨k + 1, _, _, 2 * qv + 1, rfl, rfl, rfl, ?_, ?_, ?_⟩
            · rw [EL.out, Int.mul_comm 2 qv]; exact NX.out
            · exact ⟨⟨by simp [go_sem, *], by simp [go_sem, *], by simp [go_sem, *]⟩, by simp [go_sem, *], by simp [go_sem, *], by simp [go_sem, *]⟩
            · exact Kept.set hg (Kept.set hg kr)
          case measure => simp [intOf]; omega
        · have NX := Lib.hid (step_next ST.out hk (2 * rv + lv / 9223372036854775808) 0 (by omega) (by omega) (by rw [EP.out]; omega) (by omega))
          go_wp2_with fail
          go_roundw
          case rel =>
            refine ⟨k + 1, _, _, 2 * qv, rfl, rfl, rfl, ?_, ?_, ?_⟩
            · rw [EL.out, Int.mul_comm 2 qv]; have := NX.out; rwa [Int.add_zero] at this
            · exact ⟨⟨by simp [go_sem, *], by simp [go_sem, *], by simp [go_sem, *]⟩, by simp [go_sem, *], by simp [go_sem, *], by simp [go_sem, *]⟩
            · exact Kept.set hg kr
          case measure => simp [intOf]; omega
    · obtain rfl : k = 64 := by omega
      obtain ⟨e1, e2⟩ := SL.out rv lv qv st
      rw [EQ1.out] at e1
      rw [EQ2.out] at e2
      subst e1 e2
      clear st SL S0 lv0 lv1 qv0 k64 hk EQ1 EQ2 EQ3 ET
      go_upto_region 16 with fail
      have QQ : QC wr g false qh qv := ⟨⟨q0, q1, q2⟩, z0, z1, z2⟩
      go_cut [7] (fun s7 wx => s7 = .int .u64 rv ∧ QC wx g (false && nz qh qv) qh qv ∧ Kept W0 wx)
      case first =>
        go_region_with (first
          | (go_at_call 73; refine (DIG.out _).mono ?_; rintro e v1 ⟨rfl, i1⟩; obtain ⟨⟨q0, q1, q2⟩, z0, z1, z2⟩ := QQ.kept (show Kept wr v1 from (by (repeat (first | with_reducible exact Kept.refl _ | with_reducible apply Kept.drew | with_reducible apply Kept.alloc | ((with_reducible apply Kept.set); focus (simp <;> omega)) | ((with_reducible apply Kept.via); focus with_reducible assumption))))))
          | (go_at_call 75; refine (WHO.out _).mono ?_; rintro e v1 ⟨rfl, i2⟩; obtain ⟨⟨q0, q1, q2⟩, z0, z1, z2⟩ := QQ.kept (show Kept wr v1 from (by (repeat (first | with_reducible exact Kept.refl _ | with_reducible apply Kept.drew | with_reducible apply Kept.alloc | ((with_reducible apply Kept.set); focus (simp <;> omega)) | ((with_reducible apply Kept.via); focus with_reducible assumption)))))))
        all_goals
          go_wp2_with fail
          go_meet
          refine ⟨rfl, ⟨⟨by simp [go_sem, *], by simp [go_sem, *], by simp [go_sem, *]⟩, by simp [go_sem, *], by simp [go_sem, *], by simp [go_sem, *]⟩, ?_⟩
          repeat (refine Kept.set hg ?_)
          exact kr.trans (by (repeat (first | with_reducible exact Kept.refl _ | with_reducible apply Kept.drew | with_reducible apply Kept.alloc | ((with_reducible apply Kept.set); focus (simp <;> omega)) | ((with_reducible apply Kept.via); focus with_reducible assumption))))
      obtain ⟨rfl, hq2, kc2⟩ := hcut
      clear q0 q1 q2 z0 z1 z2 QQ kr
      generalize wc = W3 at *
      obtain ⟨c_x0, c_x1, c_x2⟩ := Kept.all3 kc2 H_x
      obtain ⟨⟨q0, q1, q2⟩, z0, z1, z2⟩ := hq2
      obtain ⟨x, y, z, u1, u2, u3, t1, t2, t3⟩ := room.kept kc2
      go_wp2
      simp [bodyPost, results, Try.results59, go_sem, *]
      exact (by (repeat (first | with_reducible exact Kept.refl _ | with_reducible apply Kept.drew | with_reducible apply Kept.alloc | ((with_reducible apply Kept.set); focus (simp <;> omega)) | ((with_reducible apply Kept.via); focus with_reducible assumption))))
set_option maxRecDepth 100000 in
set_option maxHeartbeats 3200000 in
theorem refDiv_even (xh xl d qh ql rest : Int) (w : World) (h1 : Word xh) (h2 : Word xl) (h3 : Word d) (hd0 : 0 < d) (eq1 : (xh % d * 18446744073709551616 + xl) / d = ql) (eq2 : (xh % d * 18446744073709551616 + xl) % d = rest) (eq3 : xh / d = qh) (wqh : Word qh) (wql : Word ql) (hr : rest = 0)  :
    Calls Try.prog 59 #[.agg #[.bool true, .int .u64 xh, .int .u64 xl], .int .u64 d] w fun e w' => e = .returned (.tuple #[.agg #[.bool (true && nz qh ql), .int .u64 qh, .int .u64 ql], .int .u64 0, .int .i64 0]) ∧ Kept w w' := by
  have HR := Lib.hid hr
  clear hr
  have S0 := Lib.hid (step_first (h := xh) hd0 h2)
  have SL := Lib.hid (fun rv lv qv (s : Step (xh % d * 18446744073709551616 + xl) d 64 rv lv qv) => step_last hd0 s)
  have DIG := Lib.hid (fun w => digits_any true qh ql w wqh wql)
  have WHO := Lib.hid (fun w => whole_any (ql % 4294967296) (ql / 4294967296) (qh % 4294967296) (qh / 4294967296) qh ql true w (dig_b wql).1 (dig_b wql).2.2.1 (dig_b wqh).1 (dig_b wqh).2.2.1 (dig_b wql).2.1 (dig_b wql).2.2.2 (dig_b wqh).2.1 (dig_b wqh).2.2.2 (by omega) (by omega))
  obtain ⟨a1, a2⟩ := h1; obtain ⟨b1, b2⟩ := h2; obtain ⟨c1, c2⟩ := h3
  have ET := Lib.hid (show IntKind.u64.wrap (xh.tdiv d) = qh from by rw [Int.tdiv_eq_ediv_of_nonneg a1, eq3, IntKind.wrap_u64]; unfold Word at wqh; omega)
  clear wqh wql
  have d0 : ¬ d = 0 := by omega
  have d1 : (d == 0) = false := by simp [d0]
  have EQ1 := Lib.hid eq1; have EQ2 := Lib.hid eq2; have EQ3 := Lib.hid eq3
  clear eq1 eq2 eq3
  go_enter Try.func59, Try.ntmps59
  go_upto_region 5 with fail
  generalize xh % d * 18446744073709551616 + xl = NN at *
  generalize xh % d = rr at *
  generalize hW : (World.alloc (World.alloc w (.cells #[.bool true, .int .u64 xh, .int .u64 xl] 64)) (.cells #[.bool false, .int .u64 0, .int .u64 0] 64)) = W0
  have base := Lib.hid (show W0.cell? ⟨w.heap.size, 0, none⟩ = some (.bool true) ∧ W0.cell? ⟨w.heap.size, 1, none⟩ = some (.int .u64 xh) ∧ W0.cell? ⟨w.heap.size, 2, none⟩ = some (.int .u64 xl) from by subst hW; simp [go_sem])
  have room : Room3 W0 (w.heap.size + 1) := by subst hW; exact ⟨_, _, _, by first | (simp [go_sem]; done) | (simp [go_sem]; rfl), by first | (simp [go_sem]; done) | (simp [go_sem]; rfl), by first | (simp [go_sem]; done) | (simp [go_sem]; rfl), by simp [go_sem], by simp [go_sem], by simp [go_sem]⟩
  have kw : Kept w W0 := by subst hW; exact (by (repeat (first | with_reducible exact Kept.refl _ | with_reducible apply Kept.drew | with_reducible apply Kept.alloc | ((with_reducible apply Kept.set); focus (simp <;> omega)) | ((with_reducible apply Kept.via); focus with_reducible assumption))))
  have zw : w.heap.size + 2 ≤ W0.heap.size := by subst hW; simp
  clear hW
  have H_x := Lib.hid (Kept.all3 (Kept.refl _) base)
  go_cut [9] (fun s9 wx => ∃ g : Nat, s9 = .pointer (some ⟨g, 0, none⟩) ∧ W0.heap.size ≤ g ∧ QC wx g true qh 0 ∧ Kept W0 wx)
  case first =>
    go_region_held3 (fun w' => w'.cell? ⟨w.heap.size, 0, none⟩ = some (.bool true) ∧ w'.cell? ⟨w.heap.size, 1, none⟩ = some (.int .u64 xh) ∧ w'.cell? ⟨w.heap.size, 2, none⟩ = some (.int .u64 xl))
      ((first | (refine Kept.all3 ?_ base; focus ((repeat (first | with_reducible exact Kept.refl _ | with_reducible apply Kept.drew | with_reducible apply Kept.alloc | ((with_reducible apply Kept.set); focus (simp <;> omega)) | ((with_reducible apply Kept.via); focus with_reducible assumption))); done)) | (refine far3 (Kept.all3 (by (repeat (first | with_reducible exact Kept.refl _ | with_reducible apply Kept.drew | with_reducible apply Kept.alloc | ((with_reducible apply Kept.set); focus (simp <;> omega)) | ((with_reducible apply Kept.via); focus with_reducible assumption)))) base) ?_; focus ((repeat' apply And.intro) <;> (simp <;> omega)))))
      (first
        | fail)
    all_goals
      go_wp2_with fail
      go_meet
      rw [ET.out]
      exact ⟨_, rfl, by simp, ⟨⟨by simp [go_sem], by simp [go_sem], by simp [go_sem]⟩, by simp [go_sem], by simp [go_sem], by simp [go_sem]⟩, (by (repeat (first | with_reducible exact Kept.refl _ | with_reducible apply Kept.drew | with_reducible apply Kept.alloc | ((with_reducible apply Kept.set); focus (simp <;> omega)) | ((with_reducible apply Kept.via); focus with_reducible assumption))))⟩
  obtain ⟨g, rfl, hg, hq, kc⟩ := hcut
  clear base
  generalize wc = W1 at *
  go_wp2_with fail
  go_loopw [7, 8, 10] (fun r l i wx => ∃ (k : Nat) (rv lv qv : Int), r = .int .u64 rv ∧ l = .int .u64 lv ∧ i = .int .i64 (k : Int) ∧ Step NN d k rv lv qv ∧ QC wx g true qh qv ∧ Kept W0 wx) (fun _ _ i _ => (64 - intOf i).toNat)
  case atStart => exact ⟨0, _, _, 0, rfl, rfl, rfl, S0.out, hq, kc⟩
  case round =>
    clear hq kc
    obtain ⟨k, rv, lv, qv, rfl, rfl, rfl, st, hq, kr⟩ := hrel
    obtain ⟨lv0, lv1⟩ := step_low st
    have rv0 := st.2.1
    have rv1 := st.2.2.1
    have qv0 := st.2.2.2.1
    have k64 := st.1
    obtain ⟨⟨q0, q1, q2⟩, z0, z1, z2⟩ := hq
    by_cases hk : k < 64
    · have qv1 := step_q st hk
      have ST := Lib.hid st
      have EL := Lib.hid (show IntKind.u64.wrap (2 * lv) = lv * 2 % 18446744073709551616 from by rw [IntKind.wrap_u64, Int.mul_comm])
      have EQ := Lib.hid (show (qv * 2 + 1) * d = qv * d * 2 + d from by rw [Int.add_mul, Int.one_mul, Int.mul_right_comm])
      have EP := Lib.hid (show (qv * 2 + 0) * d = qv * d * 2 from by rw [Int.add_zero, Int.mul_right_comm])
      clear st
      by_cases ho : 9223372036854775808 ≤ rv
      · have EA := Lib.hid (show IntKind.u64.wrap (IntKind.u64.wrap (IntKind.u64.wrap (2 * rv) + lv / 9223372036854775808) - d) = 2 * rv + lv / 9223372036854775808 - d from by simp only [IntKind.wrap_u64]; omega)
        have NX := Lib.hid (step_next ST.out hk (2 * rv + lv / 9223372036854775808 - d) 1 (by omega) (by omega) (by rw [EQ.out]; omega) (by omega))
        go_wp2_with fail
        go_roundw
        case rel =>
          refine ⟨k + 1, _, _, 2 * qv + 1, rfl, rfl, rfl, ?_, ?_, ?_⟩
          · rw [EA.out, EL.out, Int.mul_comm 2 qv]; exact NX.out
          · exact ⟨⟨by simp [go_sem, *], by simp [go_sem, *], by simp [go_sem, *]⟩, by simp [go_sem, *], by simp [go_sem, *], by simp [go_sem, *]⟩
          · exact Kept.set hg (Kept.set hg kr)
        case measure => simp [intOf]; omega
      · by_cases hm : d ≤ 2 * rv + lv / 9223372036854775808
        · have NX := Lib.hid (step_next ST.out hk (2 * rv + lv / 9223372036854775808 - d) 1 (by omega) (by omega) (by rw [EQ.out]; omega) (by omega))
          go_wp2_with fail
          go_roundw
          case rel =>
            refine ⟨k + 1, _, _, 2 * qv + 1, rfl, rfl, rfl, ?_, ?_, ?_⟩
            · rw [EL.out, Int.mul_comm 2 qv]; exact NX.out
            · exact ⟨⟨by simp [go_sem, *], by simp [go_sem, *], by simp [go_sem, *]⟩, by simp [go_sem, *], by simp [go_sem, *], by simp [go_sem, *]⟩
            · exact Kept.set hg (Kept.set hg kr)
          case measure => simp [intOf]; omega
        · have NX := Lib.hid (step_next ST.out hk (2 * rv + lv / 9223372036854775808) 0 (by omega) (by omega) (by rw [EP.out]; omega) (by omega))
          go_wp2_with fail
          go_roundw
          case rel =>
            refine ⟨k + 1, _, _, 2 * qv, rfl, rfl, rfl, ?_, ?_, ?_⟩
            · rw [EL.out, Int.mul_comm 2 qv]; have := NX.out; rwa [Int.add_zero] at this
            · exact ⟨⟨by simp [go_sem, *], by simp [go_sem, *], by simp [go_sem, *]⟩, by simp [go_sem, *], by simp [go_sem, *], by simp [go_sem, *]⟩
            · exact Kept.set hg kr
          case measure => simp [intOf]; omega
    · obtain rfl : k = 64 := by omega
      obtain ⟨e1, e2⟩ := SL.out rv lv qv st
      rw [EQ1.out] at e1
      rw [EQ2.out] at e2
      subst e1 e2
      clear st SL S0 lv0 lv1 qv0 k64 hk EQ1 EQ2 EQ3 ET
      go_upto_region 16 with fail
      have QQ : QC wr g true qh qv := ⟨⟨q0, q1, q2⟩, z0, z1, z2⟩
      go_cut [7] (fun s7 wx => s7 = .int .u64 rv ∧ QC wx g (true && nz qh qv) qh qv ∧ Kept W0 wx)
      case first =>
        go_region_with (first
          | (go_at_call 73; refine (DIG.out _).mono ?_; rintro e v1 ⟨rfl, i1⟩; obtain ⟨⟨q0, q1, q2⟩, z0, z1, z2⟩ := QQ.kept (show Kept wr v1 from (by (repeat (first | with_reducible exact Kept.refl _ | with_reducible apply Kept.drew | with_reducible apply Kept.alloc | ((with_reducible apply Kept.set); focus (simp <;> omega)) | ((with_reducible apply Kept.via); focus with_reducible assumption))))))
          | (go_at_call 75; refine (WHO.out _).mono ?_; rintro e v1 ⟨rfl, i2⟩; obtain ⟨⟨q0, q1, q2⟩, z0, z1, z2⟩ := QQ.kept (show Kept wr v1 from (by (repeat (first | with_reducible exact Kept.refl _ | with_reducible apply Kept.drew | with_reducible apply Kept.alloc | ((with_reducible apply Kept.set); focus (simp <;> omega)) | ((with_reducible apply Kept.via); focus with_reducible assumption)))))))
        all_goals
          go_wp2_with fail
          go_meet
          refine ⟨rfl, ⟨⟨by simp [go_sem, *], by simp [go_sem, *], by simp [go_sem, *]⟩, by simp [go_sem, *], by simp [go_sem, *], by simp [go_sem, *]⟩, ?_⟩
          repeat (refine Kept.set hg ?_)
          exact kr.trans (by (repeat (first | with_reducible exact Kept.refl _ | with_reducible apply Kept.drew | with_reducible apply Kept.alloc | ((with_reducible apply Kept.set); focus (simp <;> omega)) | ((with_reducible apply Kept.via); focus with_reducible assumption))))
      obtain ⟨rfl, hq2, kc2⟩ := hcut
      clear q0 q1 q2 z0 z1 z2 QQ kr
      generalize wc = W3 at *
      obtain ⟨c_x0, c_x1, c_x2⟩ := Kept.all3 kc2 H_x
      have hr := HR.out
      subst hr
      obtain ⟨⟨q0, q1, q2⟩, z0, z1, z2⟩ := hq2
      obtain ⟨x, y, z, u1, u2, u3, t1, t2, t3⟩ := room.kept kc2
      go_wp2
      simp [bodyPost, results, Try.results59, go_sem, *]
      exact (by (repeat (first | with_reducible exact Kept.refl _ | with_reducible apply Kept.drew | with_reducible apply Kept.alloc | ((with_reducible apply Kept.set); focus (simp <;> omega)) | ((with_reducible apply Kept.via); focus with_reducible assumption))))
end Go.Proofs.Ytlgpeafphanobaa
namespace Go.Proofs.Ytlgpeafphanobaa
open Go.RowKit Go.BigFrame

set_option maxRecDepth 100000 in
set_option maxHeartbeats 3200000 in
theorem refDiv_rest (nb : Bool) (xh xl d qh ql rest nh nl : Int) (w : World) (h1 : Word xh) (h2 : Word xl) (h3 : Word d) (hd0 : 0 < d) (eq1 : (xh % d * 18446744073709551616 + xl) / d = ql) (eq2 : (xh % d * 18446744073709551616 + xl) % d = rest) (eq3 : xh / d = qh) (wqh : Word qh) (wql : Word ql) (hr : (rest == 0) = false) (A1 : ∀ w, Calls Try.prog 56 #[.agg #[.bool true, .int .u64 qh, .int .u64 ql], .agg #[.bool true, .int .u64 0, .int .u64 1]] w fun e w' => e = .returned (.tuple #[.agg #[.bool nb, .int .u64 nh, .int .u64 nl], .int .i64 0]) ∧ Kept w w') (O1 : ∀ w, Calls Try.prog 58 #[.int .i64 (-1)] w fun e w' => e = .returned (.agg #[.bool true, .int .u64 0, .int .u64 1]) ∧ Kept w w') :
    Calls Try.prog 59 #[.agg #[.bool true, .int .u64 xh, .int .u64 xl], .int .u64 d] w fun e w' => e = .returned (.tuple #[.agg #[.bool nb, .int .u64 nh, .int .u64 nl], .int .u64 (d - rest), .int .i64 0]) ∧ Kept w w' := by
  have A1' := Lib.hid A1
  have O1' := Lib.hid O1
  clear A1 O1
  have HR := Lib.hid hr
  clear hr
  have S0 := Lib.hid (step_first (h := xh) hd0 h2)
  have SL := Lib.hid (fun rv lv qv (s : Step (xh % d * 18446744073709551616 + xl) d 64 rv lv qv) => step_last hd0 s)
  have DIG := Lib.hid (fun w => digits_any true qh ql w wqh wql)
  have WHO := Lib.hid (fun w => whole_any (ql % 4294967296) (ql / 4294967296) (qh % 4294967296) (qh / 4294967296) qh ql true w (dig_b wql).1 (dig_b wql).2.2.1 (dig_b wqh).1 (dig_b wqh).2.2.1 (dig_b wql).2.1 (dig_b wql).2.2.2 (dig_b wqh).2.1 (dig_b wqh).2.2.2 (by omega) (by omega))
  obtain ⟨a1, a2⟩ := h1; obtain ⟨b1, b2⟩ := h2; obtain ⟨c1, c2⟩ := h3
  have ET := Lib.hid (show IntKind.u64.wrap (xh.tdiv d) = qh from by rw [Int.tdiv_eq_ediv_of_nonneg a1, eq3, IntKind.wrap_u64]; unfold Word at wqh; omega)
  clear wqh wql
  have d0 : ¬ d = 0 := by omega
  have d1 : (d == 0) = false := by simp [d0]
  have EQ1 := Lib.hid eq1; have EQ2 := Lib.hid eq2; have EQ3 := Lib.hid eq3
  clear eq1 eq2 eq3
  go_enter Try.func59, Try.ntmps59
  go_upto_region 5 with fail
  generalize xh % d * 18446744073709551616 + xl = NN at *
  generalize xh % d = rr at *
  generalize hW : (World.alloc (World.alloc w (.cells #[.bool true, .int .u64 xh, .int .u64 xl] 64)) (.cells #[.bool false, .int .u64 0, .int .u64 0] 64)) = W0
  have base := Lib.hid (show W0.cell? ⟨w.heap.size, 0, none⟩ = some (.bool true) ∧ W0.cell? ⟨w.heap.size, 1, none⟩ = some (.int .u64 xh) ∧ W0.cell? ⟨w.heap.size, 2, none⟩ = some (.int .u64 xl) from by subst hW; simp [go_sem])
  have room : Room3 W0 (w.heap.size + 1) := by subst hW; exact ⟨_, _, _, by first | (simp [go_sem]; done) | (simp [go_sem]; rfl), by first | (simp [go_sem]; done) | (simp [go_sem]; rfl), by first | (simp [go_sem]; done) | (simp [go_sem]; rfl), by simp [go_sem], by simp [go_sem], by simp [go_sem]⟩
  have kw : Kept w W0 := by subst hW; exact (by (repeat (first | with_reducible exact Kept.refl _ | with_reducible apply Kept.drew | with_reducible apply Kept.alloc | ((with_reducible apply Kept.set); focus (simp <;> omega)) | ((with_reducible apply Kept.via); focus with_reducible assumption))))
  have zw : w.heap.size + 2 ≤ W0.heap.size := by subst hW; simp
  clear hW
  have H_x := Lib.hid (Kept.all3 (Kept.refl _) base)
  go_cut [9] (fun s9 wx => ∃ g : Nat, s9 = .pointer (some ⟨g, 0, none⟩) ∧ W0.heap.size ≤ g ∧ QC wx g true qh 0 ∧ Kept W0 wx)
  case first =>
    go_region_held3 (fun w' => w'.cell? ⟨w.heap.size, 0, none⟩ = some (.bool true) ∧ w'.cell? ⟨w.heap.size, 1, none⟩ = some (.int .u64 xh) ∧ w'.cell? ⟨w.heap.size, 2, none⟩ = some (.int .u64 xl))
      ((first | (refine Kept.all3 ?_ base; focus ((repeat (first | with_reducible exact Kept.refl _ | with_reducible apply Kept.drew | with_reducible apply Kept.alloc | ((with_reducible apply Kept.set); focus (simp <;> omega)) | ((with_reducible apply Kept.via); focus with_reducible assumption))); done)) | (refine far3 (Kept.all3 (by (repeat (first | with_reducible exact Kept.refl _ | with_reducible apply Kept.drew | with_reducible apply Kept.alloc | ((with_reducible apply Kept.set); focus (simp <;> omega)) | ((with_reducible apply Kept.via); focus with_reducible assumption)))) base) ?_; focus ((repeat' apply And.intro) <;> (simp <;> omega)))))
      (first
        | fail)
    all_goals
      go_wp2_with fail
      go_meet
      rw [ET.out]
      exact ⟨_, rfl, by simp, ⟨⟨by simp [go_sem], by simp [go_sem], by simp [go_sem]⟩, by simp [go_sem], by simp [go_sem], by simp [go_sem]⟩, (by (repeat (first | with_reducible exact Kept.refl _ | with_reducible apply Kept.drew | with_reducible apply Kept.alloc | ((with_reducible apply Kept.set); focus (simp <;> omega)) | ((with_reducible apply Kept.via); focus with_reducible assumption))))⟩
  obtain ⟨g, rfl, hg, hq, kc⟩ := hcut
  clear base
  generalize wc = W1 at *
  go_wp2_with fail
  go_loopw [7, 8, 10] (fun r l i wx => ∃ (k : Nat) (rv lv qv : Int), r = .int .u64 rv ∧ l = .int .u64 lv ∧ i = .int .i64 (k : Int) ∧ Step NN d k rv lv qv ∧ QC wx g true qh qv ∧ Kept W0 wx) (fun _ _ i _ => (64 - intOf i).toNat)
  case atStart => exact ⟨0, _, _, 0, rfl, rfl, rfl, S0.out, hq, kc⟩
  case round =>
    clear hq kc
    obtain ⟨k, rv, lv, qv, rfl, rfl, rfl, st, hq, kr⟩ := hrel
    obtain ⟨lv0, lv1⟩ := step_low st
    have rv0 := st.2.1
    have rv1 := st.2.2.1
    have qv0 := st.2.2.2.1
    have k64 := st.1
    obtain ⟨⟨q0, q1, q2⟩, z0, z1, z2⟩ := hq
    by_cases hk : k < 64
    · have qv1 := step_q st hk
      have ST := Lib.hid st
      have EL := Lib.hid (show IntKind.u64.wrap (2 * lv) = lv * 2 % 18446744073709551616 from by rw [IntKind.wrap_u64, Int.mul_comm])
      have EQ := Lib.hid (show (qv * 2 + 1) * d = qv * d * 2 + d from by rw [Int.add_mul, Int.one_mul, Int.mul_right_comm])
      have EP := Lib.hid (show (qv * 2 + 0) * d = qv * d * 2 from by rw [Int.add_zero, Int.mul_right_comm])
      clear st
      by_cases ho : 9223372036854775808 ≤ rv
      · have EA := Lib.hid (show IntKind.u64.wrap (IntKind.u64.wrap (IntKind.u64.wrap (2 * rv) + lv / 9223372036854775808) - d) = 2 * rv + lv / 9223372036854775808 - d from by simp only [IntKind.wrap_u64]; omega)
        have NX := Lib.hid (step_next ST.out hk (2 * rv + lv / 9223372036854775808 - d) 1 (by omega) (by omega) (by rw [EQ.out]; omega) (by omega))
        go_wp2_with fail
        go_roundw
        case rel =>
          refine ⟨k + 1, _, _, 2 * qv + 1, rfl, rfl, rfl, ?_, ?_, ?_⟩
          · rw [EA.out, EL.out, Int.mul_comm 2 qv]; exact NX.out
          · exact ⟨⟨by simp [go_sem, *], by simp [go_sem, *], by simp [go_sem, *]⟩, by simp [go_sem, *], by simp [go_sem, *], by simp [go_sem, *]⟩
          · exact Kept.set hg (Kept.set hg kr)
        case measure => simp [intOf]; omega
      · by_cases hm : d ≤ 2 * rv + lv / 9223372036854775808
        · have NX := Lib.hid (step_next ST.out hk (2 * rv + lv / 9223372036854775808 - d) 1 (by omega) (by omega) (by rw [EQ.out]; omega) (by omega))
          go_wp2_with fail
          go_roundw
          case rel =>
            refine ⟨k + 1, _, _, 2 * qv + 1, rfl, rfl, rfl, ?_, ?_, ?_⟩
            · rw [EL.out, Int.mul_comm 2 qv]; exact NX.out
            · exact ⟨⟨by simp [go_sem, *], by simp [go_sem, *], by simp [go_sem, *]⟩, by simp [go_sem, *], by simp [go_sem, *], by simp [go_sem, *]⟩
            · exact Kept.set hg (Kept.set hg kr)
          case measure => simp [intOf]; omega
        · have NX := Lib.hid (step_next ST.out hk (2 * rv + lv / 9223372036854775808) 0 (by omega) (by omega) (by rw [EP.out]; omega) (by omega))
          go_wp2_with fail
          go_roundw
          case rel =>
            refine ⟨k + 1, _, _, 2 * qv, rfl, rfl, rfl, ?_, ?_, ?_⟩
            · rw [EL.out, Int.mul_comm 2 qv]; have := NX.out; rwa [Int.add_zero] at this
            · exact ⟨⟨by simp [go_sem, *], by simp [go_sem, *], by simp [go_sem, *]⟩, by simp [go_sem, *], by simp [go_sem, *], by simp [go_sem, *]⟩
            · exact Kept.set hg kr
          case measure => simp [intOf]; omega
    · obtain rfl : k = 64 := by omega
      obtain ⟨e1, e2⟩ := SL.out rv lv qv st
      rw [EQ1.out] at e1
      rw [EQ2.out] at e2
      subst e1 e2
      clear st SL S0 lv0 lv1 qv0 k64 hk EQ1 EQ2 EQ3 ET
      go_upto_region 16 with fail
      have QQ : QC wr g true qh qv := ⟨⟨q0, q1, q2⟩, z0, z1, z2⟩
      go_cut [7] (fun s7 wx => s7 = .int .u64 rv ∧ QC wx g (true && nz qh qv) qh qv ∧ Kept W0 wx)
      case first =>
        go_region_with (first
          | (go_at_call 73; refine (DIG.out _).mono ?_; rintro e v1 ⟨rfl, i1⟩; obtain ⟨⟨q0, q1, q2⟩, z0, z1, z2⟩ := QQ.kept (show Kept wr v1 from (by (repeat (first | with_reducible exact Kept.refl _ | with_reducible apply Kept.drew | with_reducible apply Kept.alloc | ((with_reducible apply Kept.set); focus (simp <;> omega)) | ((with_reducible apply Kept.via); focus with_reducible assumption))))))
          | (go_at_call 75; refine (WHO.out _).mono ?_; rintro e v1 ⟨rfl, i2⟩; obtain ⟨⟨q0, q1, q2⟩, z0, z1, z2⟩ := QQ.kept (show Kept wr v1 from (by (repeat (first | with_reducible exact Kept.refl _ | with_reducible apply Kept.drew | with_reducible apply Kept.alloc | ((with_reducible apply Kept.set); focus (simp <;> omega)) | ((with_reducible apply Kept.via); focus with_reducible assumption)))))))
        all_goals
          go_wp2_with fail
          go_meet
          refine ⟨rfl, ⟨⟨by simp [go_sem, *], by simp [go_sem, *], by simp [go_sem, *]⟩, by simp [go_sem, *], by simp [go_sem, *], by simp [go_sem, *]⟩, ?_⟩
          repeat (refine Kept.set hg ?_)
          exact kr.trans (by (repeat (first | with_reducible exact Kept.refl _ | with_reducible apply Kept.drew | with_reducible apply Kept.alloc | ((with_reducible apply Kept.set); focus (simp <;> omega)) | ((with_reducible apply Kept.via); focus with_reducible assumption))))
      obtain ⟨rfl, hq2, kc2⟩ := hcut
      clear q0 q1 q2 z0 z1 z2 QQ kr
      generalize wc = W3 at *
      obtain ⟨c_x0, c_x1, c_x2⟩ := Kept.all3 kc2 H_x
      obtain ⟨⟨q0, q1, q2⟩, z0, z1, z2⟩ := hq2
      obtain ⟨x, y, z, u1, u2, u3, t1, t2, t3⟩ := room.kept kc2
      have hr := HR.out
      go_upto_region 20 with fail
      generalize hW : World.setCell W3 ⟨g, 0, none⟩ (.bool true) = W4
      have base4 := Lib.hid (show W4.cell? ⟨g, 0, none⟩ = some (.bool true) ∧ W4.cell? ⟨g, 1, none⟩ = some (.int .u64 qh) ∧ W4.cell? ⟨g, 2, none⟩ = some (.int .u64 qv) from by subst hW; simp [go_sem, *])
      have k4 : Kept W0 W4 := by subst hW; exact Kept.set hg kc2
      clear hW q0 q1 q2 z0 z1 z2 u1 u2 u3 t1 t2 t3 c_x0 c_x1 c_x2
      go_cut [12, 13] (fun s12 s13 wx => ∃ g2 : Nat, s12 = .pointer (some ⟨g2, 0, none⟩) ∧ s13 = .int .i64 0 ∧ wx.cell? ⟨g2, 0, none⟩ = some (.bool nb) ∧ wx.cell? ⟨g2, 1, none⟩ = some (.int .u64 nh) ∧ wx.cell? ⟨g2, 2, none⟩ = some (.int .u64 nl) ∧ Kept W4 wx)
      case first =>
        go_region_held3 (fun w' => w'.cell? ⟨g, 0, none⟩ = some (.bool true) ∧ w'.cell? ⟨g, 1, none⟩ = some (.int .u64 qh) ∧ w'.cell? ⟨g, 2, none⟩ = some (.int .u64 qv))
          ((first | (refine Kept.all3 ?_ base4; focus ((repeat (first | with_reducible exact Kept.refl _ | with_reducible apply Kept.drew | with_reducible apply Kept.alloc | ((with_reducible apply Kept.set); focus (simp <;> omega)) | ((with_reducible apply Kept.via); focus with_reducible assumption))); done)) | (refine far3 (Kept.all3 (by (repeat (first | with_reducible exact Kept.refl _ | with_reducible apply Kept.drew | with_reducible apply Kept.alloc | ((with_reducible apply Kept.set); focus (simp <;> omega)) | ((with_reducible apply Kept.via); focus with_reducible assumption)))) base4) ?_; focus ((repeat' apply And.intro) <;> (simp <;> omega)))))
          (first
            | (go_at_call 58; refine (O1'.out _).mono ?_; rintro e v1 ⟨rfl, i1⟩; (try (first | (with_reducible have nr := Room3.newD i1) | (with_reducible have nr := Room3.new i1) | (with_reducible have nr := Room3.kept nr i1))); have y1 := Kept.below i1; (try simp at y1))
            | (go_at_call 56; refine (A1'.out _).mono ?_; rintro e v2 ⟨rfl, i2⟩; (try (first | (with_reducible have nr := Room3.newD i2) | (with_reducible have nr := Room3.new i2) | (with_reducible have nr := Room3.kept nr i2))); have y2 := Kept.below i2; (try simp at y2); (try (obtain ⟨nx, ny, nz, na1, na2, na3, nb1, nb2, nb3⟩ := nr))))
        all_goals
          go_wp2_with fail
          go_meet
          exact ⟨_, rfl, rfl, by simp [*, go_sem], by simp [*, go_sem], by simp [*, go_sem], (by (repeat (first | with_reducible exact Kept.refl _ | with_reducible apply Kept.drew | with_reducible apply Kept.alloc | ((with_reducible apply Kept.set); focus (simp <;> omega)) | ((with_reducible apply Kept.via); focus with_reducible assumption))))⟩
      obtain ⟨g2, rfl, rfl, m0, m1, m2, K5⟩ := hcut
      generalize wc = W5 at *
      obtain ⟨x, y, z, u1, u2, u3, t1, t2, t3⟩ := room.kept (k4.trans K5)
      go_wp2
      simp [bodyPost, results, Try.results59, go_sem, *]
      exact (by (repeat (first | with_reducible exact Kept.refl _ | with_reducible apply Kept.drew | with_reducible apply Kept.alloc | ((with_reducible apply Kept.set); focus (simp <;> omega)) | ((with_reducible apply Kept.via); focus with_reducible assumption))))

theorem refDiv_ok {b1 b : Bool} {xh xl h l d : Int} (h1 : Word xh) (h2 : Word xl) (h3 : Word d) (hd : 0 < d) (r : Rep b h l (numOf b1 xh xl / d)) (w : World) : Calls Try.prog 59 #[.agg #[.bool b1, .int .u64 xh, .int .u64 xl], .int .u64 d] w fun e w' => e = .returned (.tuple #[.agg #[.bool b, .int .u64 h, .int .u64 l], .int .u64 (numOf b1 xh xl % d), .int .i64 0]) ∧ Kept w w' := by
  obtain ⟨v1, v2⟩ := quo_halves (xh := xh) (xl := xl) hd
  have n0 := sz_nonneg h1 h2
  have n1 := sz_lt h1 h2
  have q0 := Int.ediv_nonneg n0 (show 0 ≤ d by omega)
  have w1 : Word (xh / d) := by
    have := Int.ediv_nonneg h1.1 (show 0 ≤ d by omega); have := Int.ediv_le_self d h1.1; have := h1.2; unfold Word; omega
  have w2 : Word ((xh % d * 18446744073709551616 + xl) / d) := by
    have m0 := Int.emod_nonneg xh (show d ≠ 0 by omega)
    have m1 := Int.emod_lt_of_pos xh hd
    have := h2.1; have := h2.2
    refine ⟨Int.ediv_nonneg (by omega) (by omega), ?_⟩
    rw [Int.ediv_lt_iff_lt_mul hd]; omega
  obtain ⟨p1, p2, p3, _⟩ := id r
  have s := rep_size r
  cases b1
  · rw [numOf_false] at r s p3 ⊢
    have e : sz h l = sz (xh / d) ((xh % d * 18446744073709551616 + xl) / d) := by rw [s, if_neg (by omega), v1]
    obtain ⟨eh, el⟩ := sz_inj p1 p2 w1 w2 e
    have := refDiv_pos xh xl d h l _ w h1 h2 h3 hd el.symm rfl eh.symm (eh ▸ w1) (el ▸ w2)
    rw [v2]
    have hb : b = false := by rw [r.2.2.2]; simp; omega
    rw [hb]; exact this
  · rw [numOf_true] at r s p3 ⊢
    obtain ⟨g1, g2⟩ := neg_quo (S := sz xh xl) hd
    by_cases z : sz xh xl % d = 0
    · obtain ⟨g3, g4⟩ := g1 z
      rw [g3] at r s
      rw [g4]
      have e : sz h l = sz (xh / d) ((xh % d * 18446744073709551616 + xl) / d) := by rw [s, ← v1]; split <;> omega
      obtain ⟨eh, el⟩ := sz_inj p1 p2 w1 w2 e
      have := refDiv_even xh xl d h l _ w h1 h2 h3 hd el.symm rfl eh.symm (eh ▸ w1) (el ▸ w2) (by rw [← v2]; exact z)
      rwa [rep_sign (s := true) r (by simp [e, v1])] at this
    · obtain ⟨g3, g4⟩ := g2 z
      rw [g3] at r p3
      rw [g4, v2]
      have O1 := fun w => refOf_ok (-1) (by unfold In64; omega) w
      rw [show decide ((-1 : Int) < 0) = true by decide, show mag (-1) = 1 by decide] at O1
      have k1 : Word 1 := by unfold Word; omega
      have A1 := fun w => refAdd_ok (b1 := true) (b2 := true) (b := b) (h := h) (l := l) w1 w2 word_zero k1 (by rw [numOf_true, numOf_true, ← v1, show sz 0 1 = 1 by decide, show -(sz xh xl / d) + -1 = -(sz xh xl / d + 1) by omega]; exact r) w
      exact refDiv_rest b xh xl d _ _ _ h l w h1 h2 h3 hd rfl rfl rfl w1 w2 (by rw [← v2]; simp [z]) A1 O1
theorem refMul_rep {a c : Int} (h : In64 a) (k : In64 c) {b : Bool} {xh xl : Int} (r : Rep b xh xl (a * c)) (w : World) : Calls Try.prog 57 #[.int .i64 a, .int .i64 c] w fun e w' => e = .returned (.agg #[.bool b, .int .u64 xh, .int .u64 xl]) ∧ Kept w w' := by
  have ra := (Of_ok a h).1
  obtain ⟨a1, a2, a3, _⟩ := id ra
  have O1 := fun w => refOf_ok a h w
  have Z1 := size_ok c k
  have wm := mag_word k
  by_cases cn : c < 0
  · have em : mag c = -c := by unfold mag; rw [if_pos cn]
    obtain ⟨pb, rp⟩ := Neg_rep (b1 := b) r.1 r.2.1
    have e : numOf (decide (a < 0)) 0 (mag a) * mag c = -(numOf b xh xl) := by rw [a3, em, r.2.2.1, Int.mul_neg]
    have S1 := fun w => refScale_yes (b1 := decide (a < 0)) (b := pb) a1 a2 wm (by rw [e]; exact rp) w
    have N1 := fun w => refNeg_ok (b1 := pb) (b := b) r.1 r.2.1 (by rw [rp.2.2.1, Int.neg_neg, r.2.2.1]; exact r) w
    exact refMul_neg a c _ _ _ _ _ _ _ _ w cn O1 Z1 S1 N1
  · have em : mag c = c := by unfold mag; rw [if_neg cn]
    have S1 := fun w => refScale_yes (b1 := decide (a < 0)) (b := b) a1 a2 wm (by rw [a3, em]; exact r) w
    exact refMul_pos a c _ _ _ _ _ _ _ w cn O1 Z1 S1
end Go.Proofs.Ytlgpeafphanobaa
