/-
  The walk of BigProducts: it answers true, whatever it is given.
-/
import Derived.Test.YtahbijfmhdiafaaAwake02
namespace Go.Proofs.Ytahbijfmhdiafaa
open Go.RowKit Go.BigFrame

set_option maxRecDepth 100000 in
set_option maxHeartbeats 1600000 in
theorem prod_pos (a b c d : Int) (pb qb xb mb ab nb : Bool) (ph pl qh ql xh xl mh ml ah al nh nl : Int) (w : World) (c1 : -2147483648 ≤ c) (c2 : c ≤ 2147483647) (d1 : -2147483648 ≤ d) (d2 : d ≤ 2147483647) (b1 : 0 < b) (b2 : b ≤ 9223372036854775807) (M1 : ∀ w, Calls Try.prog 18 #[.int .i64 a, .int .i64 c] w fun e w' => e = .returned (.agg #[.bool pb, .int .u64 ph, .int .u64 pl]) ∧ Kept w w') (M2 : ∀ w, Calls Try.prog 18 #[.int .i64 a, .int .i64 d] w fun e w' => e = .returned (.agg #[.bool qb, .int .u64 qh, .int .u64 ql]) ∧ Kept w w') (A1 : ∀ w, Calls Try.prog 10 #[.agg #[.bool pb, .int .u64 ph, .int .u64 pl], .agg #[.bool qb, .int .u64 qh, .int .u64 ql]] w fun e w' => e = .returned (.tuple #[.agg #[.bool xb, .int .u64 xh, .int .u64 xl], .int .i64 0]) ∧ Kept w w') (M3 : ∀ w, Calls Try.prog 18 #[.int .i64 a, .int .i64 (c + d)] w fun e w' => e = .returned (.agg #[.bool xb, .int .u64 xh, .int .u64 xl]) ∧ Kept w w') (M4 : ∀ w, Calls Try.prog 18 #[.int .i64 a, .int .i64 b] w fun e w' => e = .returned (.agg #[.bool mb, .int .u64 mh, .int .u64 ml]) ∧ Kept w w') (M5 : ∀ w, Calls Try.prog 18 #[.int .i64 b, .int .i64 a] w fun e w' => e = .returned (.agg #[.bool mb, .int .u64 mh, .int .u64 ml]) ∧ Kept w w') (M6 : ∀ w, Calls Try.prog 18 #[.int .i64 a, .int .i64 1] w fun e w' => e = .returned (.agg #[.bool ab, .int .u64 ah, .int .u64 al]) ∧ Kept w w') (M7 : ∀ w, Calls Try.prog 18 #[.int .i64 a, .int .i64 (-1)] w fun e w' => e = .returned (.agg #[.bool nb, .int .u64 nh, .int .u64 nl]) ∧ Kept w w') (O1 : ∀ w, Calls Try.prog 16 #[.int .i64 a] w fun e w' => e = .returned (.agg #[.bool ab, .int .u64 ah, .int .u64 al]) ∧ Kept w w') (N1 : ∀ w, Calls Try.prog 20 #[.agg #[.bool ab, .int .u64 ah, .int .u64 al]] w fun e w' => e = .returned (.agg #[.bool nb, .int .u64 nh, .int .u64 nl]) ∧ Kept w w') (D1 : ∀ w, Calls Try.prog 14 #[.agg #[.bool mb, .int .u64 mh, .int .u64 ml], .int .u64 b] w fun e w' => e = .returned (.tuple #[.agg #[.bool ab, .int .u64 ah, .int .u64 al], .int .u64 0, .int .i64 0]) ∧ Kept w w') :
    Calls Try.prog 6 #[.int .i64 a, .int .i64 b, .int .i32 c, .int .i32 d] w fun e w' => e = .returned (.bool true) ∧ Kept w w' := by
  have M1' := Lib.hid M1
  have M2' := Lib.hid M2
  have A1' := Lib.hid A1
  have M3' := Lib.hid M3
  have M4' := Lib.hid M4
  have M5' := Lib.hid M5
  have M6' := Lib.hid M6
  have M7' := Lib.hid M7
  have O1' := Lib.hid O1
  have N1' := Lib.hid N1
  have D1' := Lib.hid D1
  clear M1 M2 A1 M3 M4 M5 M6 M7 O1 N1 D1
  go_enter Try.func6, Try.ntmps6
  go_upto_region 1 with fail
  go_wp2_with fail
  refine (awake02 _).mono ?_
  rintro e w1 ⟨rfl, k1⟩
  go_wp2_with fail
  refine (M1'.out _).mono ?_
  rintro e w2 ⟨rfl, k2⟩
  go_wp2_with fail
  refine (M2'.out _).mono ?_
  rintro e w3 ⟨rfl, k3⟩
  go_wp2_with fail
  refine (A1'.out _).mono ?_
  rintro e w4 ⟨rfl, k4⟩
  go_upto_region 3 with fail
  generalize hW : World.alloc w4 (.cells #[.bool xb, .int .u64 xh, .int .u64 xl] 24) = W_x
  have K_x : Kept w4 W_x := by subst hW; exact (Kept.refl _).alloc _ _
  have H_x := Lib.hid (show W_x.cell? ⟨w4.heap.size, 0, none⟩ = some (.bool xb) ∧ W_x.cell? ⟨w4.heap.size, 1, none⟩ = some (.int .u64 xh) ∧ W_x.cell? ⟨w4.heap.size, 2, none⟩ = some (.int .u64 xl) from by subst hW; simp [go_sem])
  clear hW
  generalize w4.heap.size = g_x at *
  have B_x := Lib.hid (Kept.all3 (show Kept W_x W_x from (by (repeat (first | with_reducible exact Kept.refl _ | with_reducible apply Kept.drew | with_reducible apply Kept.alloc | ((with_reducible apply Kept.set); focus (simp <;> omega)) | ((with_reducible apply Kept.via); focus with_reducible assumption))))) H_x)
  have kall1 : Kept w W_x := (by (repeat (first | with_reducible exact Kept.refl _ | with_reducible apply Kept.drew | with_reducible apply Kept.alloc | ((with_reducible apply Kept.set); focus (simp <;> omega)) | ((with_reducible apply Kept.via); focus with_reducible assumption))))
  obtain ⟨q_x0, q_x1, q_x2⟩ := kw3 B_x
  clear B_x
  refine wp_region_kept (by kernel_rfl) (by as_aux_lemma => kernel_rfl) ?_
  repeat (go_big_quiet_step (first | (with_reducible exact kept_of (M3'.out _))))
  refine wpQuiet_nil ?_
  intro _ hw'
  obtain ⟨⟨wq1, kq1⟩, hw''⟩ := hw'
  subst hw''
  go_wp2_with fail
  refine (M4'.out _).mono ?_
  rintro e w5 ⟨rfl, k5⟩
  go_wp2_with fail
  rw [show max b 0 = b from by omega]
  refine (D1'.out _).mono ?_
  rintro e w6 ⟨rfl, k6⟩
  go_upto_region 5 with fail
  generalize hW : World.alloc w6 (.cells #[.bool ab, .int .u64 ah, .int .u64 al] 24) = W_q
  have K_q : Kept w6 W_q := by subst hW; exact (Kept.refl _).alloc _ _
  have H_q := Lib.hid (show W_q.cell? ⟨w6.heap.size, 0, none⟩ = some (.bool ab) ∧ W_q.cell? ⟨w6.heap.size, 1, none⟩ = some (.int .u64 ah) ∧ W_q.cell? ⟨w6.heap.size, 2, none⟩ = some (.int .u64 al) from by subst hW; simp [go_sem])
  clear hW
  generalize w6.heap.size = g_q at *
  go_upto_region 5 with fail
  have B_q := Lib.hid (Kept.all3 (show Kept W_q W_q from (by (repeat (first | with_reducible exact Kept.refl _ | with_reducible apply Kept.drew | with_reducible apply Kept.alloc | ((with_reducible apply Kept.set); focus (simp <;> omega)) | ((with_reducible apply Kept.via); focus with_reducible assumption))))) H_q)
  have kall2 : Kept w W_q := (by (repeat (first | with_reducible exact Kept.refl _ | with_reducible apply Kept.drew | with_reducible apply Kept.alloc | ((with_reducible apply Kept.set); focus (simp <;> omega)) | ((with_reducible apply Kept.via); focus with_reducible assumption))))
  obtain ⟨q_q0, q_q1, q_q2⟩ := kw3 B_q
  clear B_q
  refine wp_region_kept (by kernel_rfl) (by as_aux_lemma => kernel_rfl) ?_
  repeat (go_big_quiet_step (first | (with_reducible exact kept_of (M4'.out _)) | (with_reducible exact kept_of (M5'.out _)) | (with_reducible exact kept_of (M6'.out _)) | (with_reducible exact kept_of (M7'.out _)) | (with_reducible exact kept_of (O1'.out _)) | (with_reducible exact kept_of (N1'.out _))))
  refine wpQuiet_nil ?_
  intro _ hw'
  obtain ⟨⟨wq2, kq2⟩, hw''⟩ := hw'
  subst hw''
  go_wp2
  go_ret
  exact ⟨rfl, kall2.trans kq2⟩
set_option maxRecDepth 100000 in
set_option maxHeartbeats 1600000 in
theorem prod_not (a b c d : Int) (pb qb xb mb ab nb : Bool) (ph pl qh ql xh xl mh ml ah al nh nl : Int) (w : World) (c1 : -2147483648 ≤ c) (c2 : c ≤ 2147483647) (d1 : -2147483648 ≤ d) (d2 : d ≤ 2147483647) (b1 : b ≤ 0) (b2 : -9223372036854775808 ≤ b) (M1 : ∀ w, Calls Try.prog 18 #[.int .i64 a, .int .i64 c] w fun e w' => e = .returned (.agg #[.bool pb, .int .u64 ph, .int .u64 pl]) ∧ Kept w w') (M2 : ∀ w, Calls Try.prog 18 #[.int .i64 a, .int .i64 d] w fun e w' => e = .returned (.agg #[.bool qb, .int .u64 qh, .int .u64 ql]) ∧ Kept w w') (A1 : ∀ w, Calls Try.prog 10 #[.agg #[.bool pb, .int .u64 ph, .int .u64 pl], .agg #[.bool qb, .int .u64 qh, .int .u64 ql]] w fun e w' => e = .returned (.tuple #[.agg #[.bool xb, .int .u64 xh, .int .u64 xl], .int .i64 0]) ∧ Kept w w') (M3 : ∀ w, Calls Try.prog 18 #[.int .i64 a, .int .i64 (c + d)] w fun e w' => e = .returned (.agg #[.bool xb, .int .u64 xh, .int .u64 xl]) ∧ Kept w w') (M4 : ∀ w, Calls Try.prog 18 #[.int .i64 a, .int .i64 b] w fun e w' => e = .returned (.agg #[.bool mb, .int .u64 mh, .int .u64 ml]) ∧ Kept w w') (M5 : ∀ w, Calls Try.prog 18 #[.int .i64 b, .int .i64 a] w fun e w' => e = .returned (.agg #[.bool mb, .int .u64 mh, .int .u64 ml]) ∧ Kept w w') (M6 : ∀ w, Calls Try.prog 18 #[.int .i64 a, .int .i64 1] w fun e w' => e = .returned (.agg #[.bool ab, .int .u64 ah, .int .u64 al]) ∧ Kept w w') (M7 : ∀ w, Calls Try.prog 18 #[.int .i64 a, .int .i64 (-1)] w fun e w' => e = .returned (.agg #[.bool nb, .int .u64 nh, .int .u64 nl]) ∧ Kept w w') (O1 : ∀ w, Calls Try.prog 16 #[.int .i64 a] w fun e w' => e = .returned (.agg #[.bool ab, .int .u64 ah, .int .u64 al]) ∧ Kept w w') (N1 : ∀ w, Calls Try.prog 20 #[.agg #[.bool ab, .int .u64 ah, .int .u64 al]] w fun e w' => e = .returned (.agg #[.bool nb, .int .u64 nh, .int .u64 nl]) ∧ Kept w w') :
    Calls Try.prog 6 #[.int .i64 a, .int .i64 b, .int .i32 c, .int .i32 d] w fun e w' => e = .returned (.bool true) ∧ Kept w w' := by
  have M1' := Lib.hid M1
  have M2' := Lib.hid M2
  have A1' := Lib.hid A1
  have M3' := Lib.hid M3
  have M4' := Lib.hid M4
  have M5' := Lib.hid M5
  have M6' := Lib.hid M6
  have M7' := Lib.hid M7
  have O1' := Lib.hid O1
  have N1' := Lib.hid N1
  clear M1 M2 A1 M3 M4 M5 M6 M7 O1 N1
  go_enter Try.func6, Try.ntmps6
  go_upto_region 1 with fail
  go_wp2_with fail
  refine (awake02 _).mono ?_
  rintro e w1 ⟨rfl, k1⟩
  go_wp2_with fail
  refine (M1'.out _).mono ?_
  rintro e w2 ⟨rfl, k2⟩
  go_wp2_with fail
  refine (M2'.out _).mono ?_
  rintro e w3 ⟨rfl, k3⟩
  go_wp2_with fail
  refine (A1'.out _).mono ?_
  rintro e w4 ⟨rfl, k4⟩
  go_upto_region 3 with fail
  generalize hW : World.alloc w4 (.cells #[.bool xb, .int .u64 xh, .int .u64 xl] 24) = W_x
  have K_x : Kept w4 W_x := by subst hW; exact (Kept.refl _).alloc _ _
  have H_x := Lib.hid (show W_x.cell? ⟨w4.heap.size, 0, none⟩ = some (.bool xb) ∧ W_x.cell? ⟨w4.heap.size, 1, none⟩ = some (.int .u64 xh) ∧ W_x.cell? ⟨w4.heap.size, 2, none⟩ = some (.int .u64 xl) from by subst hW; simp [go_sem])
  clear hW
  generalize w4.heap.size = g_x at *
  have B_x := Lib.hid (Kept.all3 (show Kept W_x W_x from (by (repeat (first | with_reducible exact Kept.refl _ | with_reducible apply Kept.drew | with_reducible apply Kept.alloc | ((with_reducible apply Kept.set); focus (simp <;> omega)) | ((with_reducible apply Kept.via); focus with_reducible assumption))))) H_x)
  have kall1 : Kept w W_x := (by (repeat (first | with_reducible exact Kept.refl _ | with_reducible apply Kept.drew | with_reducible apply Kept.alloc | ((with_reducible apply Kept.set); focus (simp <;> omega)) | ((with_reducible apply Kept.via); focus with_reducible assumption))))
  obtain ⟨q_x0, q_x1, q_x2⟩ := kw3 B_x
  clear B_x
  refine wp_region_kept (by kernel_rfl) (by as_aux_lemma => kernel_rfl) ?_
  repeat (go_big_quiet_step (first | (with_reducible exact kept_of (M3'.out _))))
  refine wpQuiet_nil ?_
  intro _ hw'
  obtain ⟨⟨wq1, kq1⟩, hw''⟩ := hw'
  subst hw''
  go_wp2_with fail
  refine (M4'.out _).mono ?_
  rintro e w5 ⟨rfl, k5⟩
  go_wp2_with fail
  rw [show max b 0 = 0 from by omega]
  refine (Div_zero _ _ _ _).mono ?_
  rintro e w6 ⟨rfl, k6⟩
  go_upto_region 5 with fail
  generalize hW : World.alloc w6 (.cells #[.bool false, .int .u64 0, .int .u64 0] 24) = W_q
  have K_q : Kept w6 W_q := by subst hW; exact (Kept.refl _).alloc _ _
  have H_q := Lib.hid (show W_q.cell? ⟨w6.heap.size, 0, none⟩ = some (.bool false) ∧ W_q.cell? ⟨w6.heap.size, 1, none⟩ = some (.int .u64 0) ∧ W_q.cell? ⟨w6.heap.size, 2, none⟩ = some (.int .u64 0) from by subst hW; simp [go_sem])
  clear hW
  generalize w6.heap.size = g_q at *
  have hb0 : ¬ 0 < b := by omega
  have hb1 : decide (0 < b) = false := by simp [hb0]
  have hb2 : decide (b ≤ 0) = true := by simp [b1]
  go_upto_region 5 with fail
  have B_q := Lib.hid (Kept.all3 (show Kept W_q W_q from (by (repeat (first | with_reducible exact Kept.refl _ | with_reducible apply Kept.drew | with_reducible apply Kept.alloc | ((with_reducible apply Kept.set); focus (simp <;> omega)) | ((with_reducible apply Kept.via); focus with_reducible assumption))))) H_q)
  have kall2 : Kept w W_q := (by (repeat (first | with_reducible exact Kept.refl _ | with_reducible apply Kept.drew | with_reducible apply Kept.alloc | ((with_reducible apply Kept.set); focus (simp <;> omega)) | ((with_reducible apply Kept.via); focus with_reducible assumption))))
  obtain ⟨q_q0, q_q1, q_q2⟩ := kw3 B_q
  clear B_q
  refine wp_region_kept (by kernel_rfl) (by as_aux_lemma => kernel_rfl) ?_
  repeat (go_big_quiet_step (first | (with_reducible exact kept_of (M4'.out _)) | (with_reducible exact kept_of (M5'.out _)) | (with_reducible exact kept_of (M6'.out _)) | (with_reducible exact kept_of (M7'.out _)) | (with_reducible exact kept_of (O1'.out _)) | (with_reducible exact kept_of (N1'.out _))))
  refine wpQuiet_nil ?_
  intro _ hw'
  obtain ⟨⟨wq2, kq2⟩, hw''⟩ := hw'
  subst hw''
  go_wp2
  go_ret
  exact ⟨rfl, kall2.trans kq2⟩

theorem bigProducts_walk (a b c d : Int) (w : World) (ha : In64 a) (hb : In64 b) (hc : -2147483648 ≤ c ∧ c ≤ 2147483647) (hd : -2147483648 ≤ d ∧ d ≤ 2147483647) :
    Calls Try.prog 6 #[.int .i64 a, .int .i64 b, .int .i32 c, .int .i32 d] w fun e w' => e = .returned (.bool true) ∧ Kept w w' := by
  have ic : In64 c := by unfold In64; omega
  have id' : In64 d := by unfold In64; omega
  have icd : In64 (c + d) := by unfold In64; omega
  have i1 : In64 1 := by unfold In64; omega
  have im : In64 (-1) := by unfold In64; omega
  obtain ⟨pb, ph, pl, rp⟩ := rep_ex (a * c) (mul_in ha ic)
  obtain ⟨qb, qh, ql, rq⟩ := rep_ex (a * d) (mul_in ha id')
  obtain ⟨xb, xh, xl, rx⟩ := rep_ex (a * (c + d)) (mul_in ha icd)
  obtain ⟨mb, mh, ml, rm⟩ := rep_ex (a * b) (mul_in ha hb)
  obtain ⟨nb, nh, nl, rn⟩ := rep_ex (a * (-1)) (mul_in ha im)
  obtain ⟨ra, O1⟩ := Of_ok a ha
  obtain ⟨a1, a2, a3, _⟩ := id ra
  obtain ⟨p1, p2, p3, _⟩ := id rp
  obtain ⟨q1, q2, q3, _⟩ := id rq
  obtain ⟨m1, m2, m3, _⟩ := id rm
  have M6 := fun w => Mul_rep ha i1 (show Rep (decide (a < 0)) 0 (mag a) (a * 1) by rw [Int.mul_one]; exact ra) w
  have rn' : Rep nb nh nl (-(numOf (decide (a < 0)) 0 (mag a))) := by rw [a3, ← Int.mul_neg_one]; exact rn
  have N1 : ∀ w, Calls Try.prog 20 #[.agg #[.bool (decide (a < 0)), .int .u64 0, .int .u64 (mag a)]] w fun e w' => e = .returned (.agg #[.bool nb, .int .u64 nh, .int .u64 nl]) ∧ Kept w w' := by
    obtain ⟨nb', rb⟩ := Neg_rep (b1 := decide (a < 0)) a1 a2
    obtain ⟨rfl, rfl, rfl⟩ := rep_uniq rn' rb
    exact fun w => Neg_ok rn' w
  have A1 := fun w => Add_ok p1 p2 q1 q2 (show Rep xb xh xl (numOf pb ph pl + numOf qb qh ql) by rw [p3, q3, ← Int.mul_add]; exact rx) w
  have M5 := fun w => Mul_rep hb ha (show Rep mb mh ml (b * a) by rw [Int.mul_comm]; exact rm) w
  unfold In64 at hb
  by_cases pos : 0 < b
  · have wb : Word b := by unfold Word; omega
    have D1 := fun w => Div_ok m1 m2 wb pos (show Rep (decide (a < 0)) 0 (mag a) (numOf mb mh ml / b) by rw [m3, Int.mul_ediv_cancel _ (by omega)]; exact ra) w
    rw [m3, Int.mul_emod_left] at D1
    exact prod_pos a b c d _ _ _ _ _ _ _ _ _ _ _ _ _ _ _ _ _ _ w hc.1 hc.2 hd.1 hd.2 pos hb.2 (Mul_rep ha ic rp) (Mul_rep ha id' rq) A1 (Mul_rep ha icd rx) (Mul_rep ha (by unfold In64; omega) rm) (M5) M6 (Mul_rep ha im rn) O1 N1 D1
  · exact prod_not a b c d _ _ _ _ _ _ _ _ _ _ _ _ _ _ _ _ _ _ w hc.1 hc.2 hd.1 hd.2 (by omega) hb.1 (Mul_rep ha ic rp) (Mul_rep ha id' rq) A1 (Mul_rep ha icd rx) (Mul_rep ha (by unfold In64; omega) rm) (M5) M6 (Mul_rep ha im rn) O1 N1
end Go.Proofs.Ytahbijfmhdiafaa
