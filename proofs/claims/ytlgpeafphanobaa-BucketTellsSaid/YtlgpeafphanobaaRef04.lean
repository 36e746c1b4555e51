/-
  Contracts of the document's answer for layer 4.
-/
import Derived.Test.YtlgpeafphanobaaRefN02
import Derived.Deep.DeepCutAuto
import Derived.Test.YtlgpeafphanobaaPartA04
namespace Go.Proofs.Ytlgpeafphanobaa
open Go.RowKit Go.BigFrame

set_option maxHeartbeats 400000 in
theorem refPart_zero (a b c d : Int) (w : World) (hc : c < 1) : Calls Try.prog 47 #[.int .i64 a, .int .i64 b, .int .i64 c, .int .i64 d] w fun e w' => e = .returned (.tuple #[.int .i64 0, .int .i64 20]) ∧ Kept w w' := by
  go_enter Try.func47, Try.ntmps47
  go_wp2
  go_ret2
  exact ⟨rfl, (by (repeat (first | with_reducible exact Kept.refl _ | with_reducible apply Kept.drew | with_reducible apply Kept.alloc | ((with_reducible apply Kept.set); focus (simp <;> omega)) | ((with_reducible apply Kept.via); focus with_reducible assumption))))⟩
set_option maxRecDepth 100000 in
set_option maxHeartbeats 1600000 in
theorem refPart_any (a b c d left m k v er mh ml dh dl sh sl qh ql oh ol : Int) (mb db sb qb ob : Bool) (w : World) (c0 : 1 ≤ c) (c1 : c ≤ 9223372036854775807) (hk : (k = 0 ∧ v = m ∧ er = 0) ∨ ((k != 0) = true ∧ v = 0 ∧ er = 10)) (M1 : ∀ w, Calls Try.prog 57 #[.int .i64 a, .int .i64 b] w fun e w' => e = .returned (.agg #[.bool mb, .int .u64 mh, .int .u64 ml]) ∧ Kept w w') (O1 : ∀ w, Calls Try.prog 58 #[.int .i64 d] w fun e w' => e = .returned (.agg #[.bool db, .int .u64 dh, .int .u64 dl]) ∧ Kept w w') (A1 : ∀ w, Calls Try.prog 56 #[.agg #[.bool mb, .int .u64 mh, .int .u64 ml], .agg #[.bool db, .int .u64 dh, .int .u64 dl]] w fun e w' => e = .returned (.tuple #[.agg #[.bool sb, .int .u64 sh, .int .u64 sl], .int .i64 0]) ∧ Kept w w') (D1 : ∀ w, Calls Try.prog 59 #[.agg #[.bool sb, .int .u64 sh, .int .u64 sl], .int .u64 c] w fun e w' => e = .returned (.tuple #[.agg #[.bool qb, .int .u64 qh, .int .u64 ql], .int .u64 left, .int .i64 0]) ∧ Kept w w') (I1 : ∀ w, Calls Try.prog 60 #[.agg #[.bool qb, .int .u64 qh, .int .u64 ql]] w fun e w' => e = .returned (.int .i64 m) ∧ Kept w w') (O2 : ∀ w, Calls Try.prog 58 #[.int .i64 m] w fun e w' => e = .returned (.agg #[.bool ob, .int .u64 oh, .int .u64 ol]) ∧ Kept w w') (K1 : ∀ w, Calls Try.prog 61 #[.agg #[.bool qb, .int .u64 qh, .int .u64 ql], .agg #[.bool ob, .int .u64 oh, .int .u64 ol]] w fun e w' => e = .returned (.int .i64 k) ∧ Kept w w') :
    Calls Try.prog 47 #[.int .i64 a, .int .i64 b, .int .i64 c, .int .i64 d] w fun e w' => e = .returned (.tuple #[.int .i64 v, .int .i64 er]) ∧ Kept w w' := by
  have M1' := Lib.hid M1
  have O1' := Lib.hid O1
  have A1' := Lib.hid A1
  have D1' := Lib.hid D1
  have I1' := Lib.hid I1
  have O2' := Lib.hid O2
  have K1' := Lib.hid K1
  clear M1 O1 A1 D1 I1 O2 K1
  have HK := Lib.hid hk
  clear hk
  have hc : decide (c < 1) = false := by simp; omega
  have hw : IntKind.u64.wrap c = c := by rw [IntKind.wrap_u64]; omega
  go_enter Try.func47, Try.ntmps47
  go_wp2_with fail
  refine (M1'.out _).mono ?_
  rintro e w1 ⟨rfl, k1⟩
  go_wp2_with fail
  refine (O1'.out _).mono ?_
  rintro e w2 ⟨rfl, k2⟩
  go_wp2_with fail
  refine (A1'.out _).mono ?_
  rintro e w3 ⟨rfl, k3⟩
  go_upto_region 4 with fail
  generalize hW : World.alloc w3 (.cells #[.bool sb, .int .u64 sh, .int .u64 sl] 64) = W_s
  have K_s : Kept w3 W_s := by subst hW; exact (Kept.refl _).alloc _ _
  have H_s := Lib.hid (show W_s.cell? ⟨w3.heap.size, 0, none⟩ = some (.bool sb) ∧ W_s.cell? ⟨w3.heap.size, 1, none⟩ = some (.int .u64 sh) ∧ W_s.cell? ⟨w3.heap.size, 2, none⟩ = some (.int .u64 sl) from by subst hW; simp [go_sem])
  clear hW
  generalize w3.heap.size = g_s at *
  obtain ⟨c_s0, c_s1, c_s2⟩ := Kept.all3 (show Kept W_s W_s from (by (repeat (first | with_reducible exact Kept.refl _ | with_reducible apply Kept.drew | with_reducible apply Kept.alloc | ((with_reducible apply Kept.set); focus (simp <;> omega)) | ((with_reducible apply Kept.via); focus with_reducible assumption))))) H_s
  go_wp2_with fail
  refine (D1'.out _).mono ?_
  rintro e w4 ⟨rfl, k4⟩
  clear c_s0 c_s1 c_s2
  go_upto_region 5 with fail
  generalize hW : World.alloc w4 (.cells #[.bool qb, .int .u64 qh, .int .u64 ql] 64) = W_q
  have K_q : Kept w4 W_q := by subst hW; exact (Kept.refl _).alloc _ _
  have H_q := Lib.hid (show W_q.cell? ⟨w4.heap.size, 0, none⟩ = some (.bool qb) ∧ W_q.cell? ⟨w4.heap.size, 1, none⟩ = some (.int .u64 qh) ∧ W_q.cell? ⟨w4.heap.size, 2, none⟩ = some (.int .u64 ql) from by subst hW; simp [go_sem])
  clear hW
  generalize w4.heap.size = g_q at *
  obtain ⟨c_q0, c_q1, c_q2⟩ := Kept.all3 (show Kept W_q W_q from (by (repeat (first | with_reducible exact Kept.refl _ | with_reducible apply Kept.drew | with_reducible apply Kept.alloc | ((with_reducible apply Kept.set); focus (simp <;> omega)) | ((with_reducible apply Kept.via); focus with_reducible assumption))))) H_q
  go_wp2_with fail
  refine (I1'.out _).mono ?_
  rintro e w5 ⟨rfl, k5⟩
  clear c_q0 c_q1 c_q2
  go_upto_region 6 with fail
  rcases HK.out with ⟨rfl, rfl, rfl⟩ | ⟨hk, rfl, rfl⟩
  · clear HK
    have B_q := Lib.hid (Kept.all3 (show Kept W_q w5 from (by (repeat (first | with_reducible exact Kept.refl _ | with_reducible apply Kept.drew | with_reducible apply Kept.alloc | ((with_reducible apply Kept.set); focus (simp <;> omega)) | ((with_reducible apply Kept.via); focus with_reducible assumption))))) H_q)
    have kall : Kept w w5 := (by (repeat (first | with_reducible exact Kept.refl _ | with_reducible apply Kept.drew | with_reducible apply Kept.alloc | ((with_reducible apply Kept.set); focus (simp <;> omega)) | ((with_reducible apply Kept.via); focus with_reducible assumption))))
    obtain ⟨q_q0, q_q1, q_q2⟩ := kw3 B_q
    clear B_q
    refine wp_region_kept (by kernel_rfl) (by as_aux_lemma => kernel_rfl) ?_
    repeat (go_big_quiet_step (first | (with_reducible exact kept_of (O2'.out _)) | (with_reducible exact kept_of (K1'.out _))))
    refine wpQuiet_nil ?_
    intro wq hw'
    have kq : Kept w5 wq := by obtain ⟨p, rfl⟩ := hw'; exact p.k
    clear hw'
    go_wp2
    go_ret2
    exact ⟨rfl, kall.trans kq⟩
  · clear HK
    have B_q := Lib.hid (Kept.all3 (show Kept W_q w5 from (by (repeat (first | with_reducible exact Kept.refl _ | with_reducible apply Kept.drew | with_reducible apply Kept.alloc | ((with_reducible apply Kept.set); focus (simp <;> omega)) | ((with_reducible apply Kept.via); focus with_reducible assumption))))) H_q)
    have kall : Kept w w5 := (by (repeat (first | with_reducible exact Kept.refl _ | with_reducible apply Kept.drew | with_reducible apply Kept.alloc | ((with_reducible apply Kept.set); focus (simp <;> omega)) | ((with_reducible apply Kept.via); focus with_reducible assumption))))
    obtain ⟨q_q0, q_q1, q_q2⟩ := kw3 B_q
    clear B_q
    refine wp_region_kept (by kernel_rfl) (by as_aux_lemma => kernel_rfl) ?_
    repeat (go_big_quiet_step (first | (with_reducible exact kept_of (O2'.out _)) | (with_reducible exact kept_of (K1'.out _))))
    refine wpQuiet_nil ?_
    intro wq hw'
    have kq : Kept w5 wq := by obtain ⟨p, rfl⟩ := hw'; exact p.k
    clear hw'
    go_wp2
    go_ret2
    exact ⟨rfl, kall.trans kq⟩
theorem sum_126 {m d : Int} (h : In126 m) (k : In64 d) : InBig (m + d) := by unfold In126 at h; unfold In64 at k; unfold InBig; omega
theorem div_in {n c : Int} (h : InBig n) (hc : 1 ≤ c) : InBig (n / c) := by
  have a := Int.mul_ediv_add_emod n c
  have a2 := Int.emod_nonneg n (show c ≠ 0 by omega)
  have a3 := Int.emod_lt_of_pos n (show 0 < c by omega)
  unfold InBig at *
  constructor
  · rw [← Int.add_one_le_iff, Int.le_ediv_iff_mul_le (by omega)]
    have := Int.mul_le_mul_of_nonpos_left (a := -340282366920938463463374607431768211455) (by omega) hc
    omega
  · rw [Int.ediv_lt_iff_lt_mul (by omega)]
    have := Int.mul_le_mul_of_nonneg_left (c := 340282366920938463463374607431768211456) hc (by omega)
    omega
theorem refPart_ok {a b c d v er : Int} (ha : In64 a) (hb : In64 b) (hc : In64 c) (hd : In64 d) (T : Part c ((a * b + d) / c) v er) (w : World) :
    Calls Try.prog 47 #[.int .i64 a, .int .i64 b, .int .i64 c, .int .i64 d] w fun e w' => e = .returned (.tuple #[.int .i64 v, .int .i64 er]) ∧ Kept w w' := by
  rcases T with ⟨c0, rfl, rfl⟩ | ⟨c0, T⟩
  · exact refPart_zero a b c d w c0
  have is_ := sum_126 (mul_126 ha hb) hd
  obtain ⟨mb, mh, ml, rm⟩ := rep_ex _ (mul_in ha hb)
  obtain ⟨sb, sh, sl, rs⟩ := rep_ex _ is_
  obtain ⟨qb, qh, ql, rq⟩ := rep_ex _ (div_in is_ c0)
  have rd : Rep (decide (d < 0)) 0 (mag d) d := (Of_ok d hd).1
  have hm := heldAt_in ((a * b + d) / c)
  have ro : Rep (decide (heldAt ((a * b + d) / c) < 0)) 0 (mag (heldAt ((a * b + d) / c))) (heldAt ((a * b + d) / c)) := (Of_ok _ hm).1
  have A := fun w => refAdd_ok (b := sb) (b1 := mb) (b2 := decide (d < 0)) rm.1 rm.2.1 rd.1 rd.2.1 (by rw [rm.2.2.1, rd.2.2.1]; exact rs) w
  have D := fun w => refDiv_ok (b1 := sb) (b := qb) (d := c) rs.1 rs.2.1 ⟨by omega, by unfold In64 at hc; omega⟩ (by omega) (by rw [rs.2.2.1]; exact rq) w
  have I := fun w => refInt_ok (b := qb) rq.1 rq.2.1 w
  have K := fun w => refCmp_ok (b1 := qb) (b2 := decide (heldAt ((a * b + d) / c) < 0)) rq.1 rq.2.1 ro.1 ro.2.1 w
  rw [rq.2.2.1] at I K
  rw [ro.2.2.1] at K
  refine refPart_any a b c d _ (heldAt ((a * b + d) / c)) _ v er mh ml _ _ sh sl qh ql _ _ mb _ sb qb _ w c0 hc.2 ?_ (refMul_rep ha hb rm) (refOf_ok d hd) A D I (refOf_ok _ hm) K
  rcases T with ⟨t, rfl, rfl⟩ | ⟨t, rfl, rfl⟩
  · exact Or.inl ⟨by rw [heldAt_of t]; simp [cmpI], (heldAt_of t).symm, rfl⟩
  · refine Or.inr ⟨?_, rfl, rfl⟩
    have : (a * b + d) / c ≠ heldAt ((a * b + d) / c) := fun q => t (q.symm ▸ hm)
    unfold cmpI; rw [if_neg this]; split <;> rfl
set_option maxHeartbeats 400000 in
theorem refCeil_any {a b c v er : Int} (c0 : -9223372036854775808 ≤ c) (c1 : c ≤ 9223372036854775807) (w : World) (C : ∀ w, Calls Try.prog 47 #[.int .i64 a, .int .i64 b, .int .i64 c, .int .i64 (max c 1 - 1)] w fun e w' => e = .returned (.tuple #[.int .i64 v, .int .i64 er]) ∧ Kept w w') : Calls Try.prog 32 #[.int .i64 a, .int .i64 b, .int .i64 c] w fun e w' => e = .returned (.tuple #[.int .i64 v, .int .i64 er]) ∧ Kept w w' := by
  have C' := Lib.hid C
  clear C
  go_enter Try.func32, Try.ntmps32
  go_wp2_with fail
  refine (C'.out _).mono ?_
  rintro e w1 ⟨rfl, k1⟩
  go_wp2
  go_ret2
  exact ⟨rfl, (by (repeat (first | with_reducible exact Kept.refl _ | with_reducible apply Kept.drew | with_reducible apply Kept.alloc | ((with_reducible apply Kept.set); focus (simp <;> omega)) | ((with_reducible apply Kept.via); focus with_reducible assumption))))⟩
theorem part_same {c m n v er : Int} (T : Part c m v er) (h : 1 ≤ c → n = m) : Part c n v er := by
  rcases T with T | ⟨h1, T⟩
  · exact Or.inl T
  · rw [← h h1] at T; exact Or.inr ⟨h1, T⟩
theorem tdiv_in {c : Int} (h : In64 c) : In64 (c.tdiv 2) := by
  have l : (c.tdiv 2).natAbs ≤ c.natAbs / 2 := by rw [Int.natAbs_tdiv]; exact Nat.le_refl _
  unfold In64 at *; omega
theorem refCeil_ok {a b c v er : Int} (ha : In64 a) (hb : In64 b) (hc : In64 c) (T : Part c (ceilOf (a * b) c) v er) (w : World) : Calls Try.prog 32 #[.int .i64 a, .int .i64 b, .int .i64 c] w fun e w' => e = .returned (.tuple #[.int .i64 v, .int .i64 er]) ∧ Kept w w' :=
  refCeil_any hc.1 hc.2 w (refPart_ok ha hb hc (by unfold In64 at *; omega) (part_same T fun h => by rw [show max c 1 = c by omega]; rfl))
end Go.Proofs.Ytlgpeafphanobaa
