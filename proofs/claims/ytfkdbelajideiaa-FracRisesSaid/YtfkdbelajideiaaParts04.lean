/-
  Contracts of package frac: Floor, Ceil, Near, Whole, Segs and Bytes, said of whole numbers.
-/
import Derived.Test.YtfkdbelajideiaaRound04
namespace Go.Proofs.Ytfkdbelajideiaa
open Go.RowKit Go.BigFrame

theorem part_floor {a b c v er : Int} (ha : In64 a) (hb : In64 b) (hc : In64 c) (T : Part c (a * b / c) v er) (w : World) :
    Calls Try.prog 25 #[.agg #[.int .i64 a, .int .i64 b, .int .i64 c, .func (Fn.func 24) #[] #[]]] w fun e w' => e = .returned (.tuple #[.int .i64 v, .int .i64 er]) ∧ Kept w w' := by
  rcases T with ⟨c0, rfl, rfl⟩ | ⟨c0, T⟩
  · exact rounded_zero a b c _ w c0
  have hc1 : c ≤ 9223372036854775807 := hc.2
  have i1 := mul_126 ha hb
  have i2 := div_126 i1 c0
  obtain ⟨mb, mh, ml, rm⟩ := rep_ex _ (big_126 i1)
  obtain ⟨qb, qh, ql, rq⟩ := rep_ex _ (big_126 i2)
  obtain ⟨sb, sh, sl, rs⟩ := rep_ex _ (big_127 i2)
  have r0 := Int.emod_nonneg (a * b) (show c ≠ 0 by omega)
  have r1 := Int.emod_lt_of_pos (a * b) (show 0 < c by omega)
  have D := fun w => Div_ok (b1 := mb) (b := qb) (d := c) rm.1 rm.2.1 ⟨by omega, by omega⟩ (by omega) (by rw [rm.2.2.1]; exact rq) w
  rw [rm.2.2.1] at D
  have O := fun w => Of_rep (n := 1) (b := false) (xh := 0) (xl := 1) (by unfold In64; omega) ⟨by unfold Word; omega, by unfold Word; omega, by decide, by decide⟩ w
  have w1 : Word 1 := by unfold Word; omega
  have A := fun w => Add_ok (b1 := qb) (b2 := false) (b := sb) rq.1 rq.2.1 word_zero w1 (by rw [rq.2.2.1, show numOf false 0 1 = 1 by decide]; exact rs) w
  refine rounded_floor a b c (a * b % c) v er mh ml qh ql sh sl mb qb sb false w c0 hc1 (Mul_rep ha hb rm) D (fun v _ => floor1_ok _ v) ?_
  exact Or.inl ⟨rfl, fracUnless_ok rq T⟩
theorem part_ceil {a b c v er : Int} (ha : In64 a) (hb : In64 b) (hc : In64 c) (T : Part c (ceilOf (a * b) c) v er) (w : World) :
    Calls Try.prog 25 #[.agg #[.int .i64 a, .int .i64 b, .int .i64 c, .func (Fn.func 27) #[] #[]]] w fun e w' => e = .returned (.tuple #[.int .i64 v, .int .i64 er]) ∧ Kept w w' := by
  rcases T with ⟨c0, rfl, rfl⟩ | ⟨c0, T⟩
  · exact rounded_zero a b c _ w c0
  have hc1 : c ≤ 9223372036854775807 := hc.2
  have i1 := mul_126 ha hb
  have i2 := div_126 i1 c0
  obtain ⟨mb, mh, ml, rm⟩ := rep_ex _ (big_126 i1)
  obtain ⟨qb, qh, ql, rq⟩ := rep_ex _ (big_126 i2)
  obtain ⟨sb, sh, sl, rs⟩ := rep_ex _ (big_127 i2)
  have r0 := Int.emod_nonneg (a * b) (show c ≠ 0 by omega)
  have r1 := Int.emod_lt_of_pos (a * b) (show 0 < c by omega)
  have D := fun w => Div_ok (b1 := mb) (b := qb) (d := c) rm.1 rm.2.1 ⟨by omega, by omega⟩ (by omega) (by rw [rm.2.2.1]; exact rq) w
  rw [rm.2.2.1] at D
  have O := fun w => Of_rep (n := 1) (b := false) (xh := 0) (xl := 1) (by unfold In64; omega) ⟨by unfold Word; omega, by unfold Word; omega, by decide, by decide⟩ w
  have w1 : Word 1 := by unfold Word; omega
  have A := fun w => Add_ok (b1 := qb) (b2 := false) (b := sb) rq.1 rq.2.1 word_zero w1 (by rw [rq.2.2.1, show numOf false 0 1 = 1 by decide]; exact rs) w
  refine rounded_ceil a b c (a * b % c) v er mh ml qh ql sh sl mb qb sb (a * b % c != 0) w c0 hc1 (Mul_rep ha hb rm) D (fun v _ => ceil1_ok _ v) ?_
  rw [ceil_part c0] at T
  by_cases z : a * b % c = 0
  · rw [if_pos z] at T
    exact Or.inl ⟨by simp [z], fracUnless_ok rq T⟩
  · rw [if_neg z] at T
    exact Or.inr ⟨by simp [z], O, A, fracUnless_ok rs T⟩
theorem part_near {a b c v er : Int} {g : Nat} (ha : In64 a) (hb : In64 b) (hc : In64 c) (T : Part c (nearOf (a * b) c) v er) (w : World) (hp : w.cell? ⟨g, 0, none⟩ = some (.int .i64 c)) :
    Calls Try.prog 25 #[.agg #[.int .i64 a, .int .i64 b, .int .i64 c, .func (Fn.func 28) #[] #[.pointer (some ⟨g, 0, none⟩)]]] w fun e w' => e = .returned (.tuple #[.int .i64 v, .int .i64 er]) ∧ Kept w w' := by
  rcases T with ⟨c0, rfl, rfl⟩ | ⟨c0, T⟩
  · exact rounded_zero a b c _ w c0
  have hc1 : c ≤ 9223372036854775807 := hc.2
  have i1 := mul_126 ha hb
  have i2 := div_126 i1 c0
  obtain ⟨mb, mh, ml, rm⟩ := rep_ex _ (big_126 i1)
  obtain ⟨qb, qh, ql, rq⟩ := rep_ex _ (big_126 i2)
  obtain ⟨sb, sh, sl, rs⟩ := rep_ex _ (big_127 i2)
  have r0 := Int.emod_nonneg (a * b) (show c ≠ 0 by omega)
  have r1 := Int.emod_lt_of_pos (a * b) (show 0 < c by omega)
  have D := fun w => Div_ok (b1 := mb) (b := qb) (d := c) rm.1 rm.2.1 ⟨by omega, by omega⟩ (by omega) (by rw [rm.2.2.1]; exact rq) w
  rw [rm.2.2.1] at D
  have O := fun w => Of_rep (n := 1) (b := false) (xh := 0) (xl := 1) (by unfold In64; omega) ⟨by unfold Word; omega, by unfold Word; omega, by decide, by decide⟩ w
  have w1 : Word 1 := by unfold Word; omega
  have A := fun w => Add_ok (b1 := qb) (b2 := false) (b := sb) rq.1 rq.2.1 word_zero w1 (by rw [rq.2.2.1, show numOf false 0 1 = 1 by decide]; exact rs) w
  refine rounded_near a b c (a * b % c) v er mh ml qh ql sh sl mb qb sb (decide (c - a * b % c ≤ a * b % c)) ⟨g, 0, none⟩ w c0 hc1 (Mul_rep ha hb rm) D (fun v k => near1_ok _ _ c v (k.read hp) r0 r1 hc1) ?_
  rw [near_part c0] at T
  by_cases z : ¬ c - a * b % c ≤ a * b % c
  · rw [if_neg z] at T
    exact Or.inl ⟨by simp; omega, fracUnless_ok rq T⟩
  · rw [if_pos (by omega)] at T
    exact Or.inr ⟨by simp; omega, O, A, fracUnless_ok rs T⟩
set_option maxHeartbeats 400000 in
theorem Floor_any {a b c v er : Int} (w : World) (C : ∀ w, Calls Try.prog 25 #[.agg #[.int .i64 a, .int .i64 b, .int .i64 c, .func (Fn.func 24) #[] #[]]] w fun e w' => e = .returned (.tuple #[.int .i64 v, .int .i64 er]) ∧ Kept w w') :
    Calls Try.prog 10 #[.int .i64 a, .int .i64 b, .int .i64 c] w fun e w' => e = .returned (.tuple #[.int .i64 v, .int .i64 er]) ∧ Kept w w' := by
  have C' := Lib.hid C
  clear C
  go_enter Try.func10, Try.ntmps10
  go_wp2_with fail
  refine (C'.out _).mono ?_
  rintro e w1 ⟨rfl, k1⟩
  go_wp2
  go_ret2
  exact ⟨rfl, (by (repeat (first | with_reducible exact Kept.refl _ | with_reducible apply Kept.drew | with_reducible apply Kept.alloc | ((with_reducible apply Kept.set); focus (simp <;> omega)) | ((with_reducible apply Kept.via); focus with_reducible assumption))))⟩
theorem Floor_ok {a b c v er : Int} (ha : In64 a) (hb : In64 b) (hc : In64 c) (T : Part c (a * b / c) v er) (w : World) :
    Calls Try.prog 10 #[.int .i64 a, .int .i64 b, .int .i64 c] w fun e w' => e = .returned (.tuple #[.int .i64 v, .int .i64 er]) ∧ Kept w w' :=
  Floor_any w (fun w => part_floor ha hb hc T w)
set_option maxHeartbeats 400000 in
theorem Ceil_any {a b c v er : Int} (w : World) (C : ∀ w, Calls Try.prog 25 #[.agg #[.int .i64 a, .int .i64 b, .int .i64 c, .func (Fn.func 27) #[] #[]]] w fun e w' => e = .returned (.tuple #[.int .i64 v, .int .i64 er]) ∧ Kept w w') :
    Calls Try.prog 12 #[.int .i64 a, .int .i64 b, .int .i64 c] w fun e w' => e = .returned (.tuple #[.int .i64 v, .int .i64 er]) ∧ Kept w w' := by
  have C' := Lib.hid C
  clear C
  go_enter Try.func12, Try.ntmps12
  go_wp2_with fail
  refine (C'.out _).mono ?_
  rintro e w1 ⟨rfl, k1⟩
  go_wp2
  go_ret2
  exact ⟨rfl, (by (repeat (first | with_reducible exact Kept.refl _ | with_reducible apply Kept.drew | with_reducible apply Kept.alloc | ((with_reducible apply Kept.set); focus (simp <;> omega)) | ((with_reducible apply Kept.via); focus with_reducible assumption))))⟩
theorem Ceil_ok {a b c v er : Int} (ha : In64 a) (hb : In64 b) (hc : In64 c) (T : Part c (ceilOf (a * b) c) v er) (w : World) :
    Calls Try.prog 12 #[.int .i64 a, .int .i64 b, .int .i64 c] w fun e w' => e = .returned (.tuple #[.int .i64 v, .int .i64 er]) ∧ Kept w w' :=
  Ceil_any w (fun w => part_ceil ha hb hc T w)
set_option maxHeartbeats 400000 in
theorem Near_any {a b c v er : Int} (w : World) (C : ∀ w g, w.cell? ⟨g, 0, none⟩ = some (.int .i64 c) → Calls Try.prog 25 #[.agg #[.int .i64 a, .int .i64 b, .int .i64 c, .func (Fn.func 28) #[] #[.pointer (some ⟨g, 0, none⟩)]]] w fun e w' => e = .returned (.tuple #[.int .i64 v, .int .i64 er]) ∧ Kept w w') :
    Calls Try.prog 14 #[.int .i64 a, .int .i64 b, .int .i64 c] w fun e w' => e = .returned (.tuple #[.int .i64 v, .int .i64 er]) ∧ Kept w w' := by
  have C' := Lib.hid C
  clear C
  go_enter Try.func14, Try.ntmps14
  go_wp2_with fail
  refine (C'.out _ w.heap.size (by simp [go_sem])).mono ?_
  rintro e w1 ⟨rfl, k1⟩
  go_wp2
  go_ret2
  exact ⟨rfl, (by (repeat (first | with_reducible exact Kept.refl _ | with_reducible apply Kept.drew | with_reducible apply Kept.alloc | ((with_reducible apply Kept.set); focus (simp <;> omega)) | ((with_reducible apply Kept.via); focus with_reducible assumption))))⟩
theorem Near_ok {a b c v er : Int} (ha : In64 a) (hb : In64 b) (hc : In64 c) (T : Part c (nearOf (a * b) c) v er) (w : World) :
    Calls Try.prog 14 #[.int .i64 a, .int .i64 b, .int .i64 c] w fun e w' => e = .returned (.tuple #[.int .i64 v, .int .i64 er]) ∧ Kept w w' :=
  Near_any w (fun w _ h => part_near ha hb hc T w h)
theorem one_in : In64 65536 := by unfold In64; omega
theorem whole_in {n : Int} (h : In64 n) : In64 (n * 1 / 65536) := by unfold In64 at *; omega
set_option maxHeartbeats 400000 in
theorem Whole_any {n v er : Int} (w : World) (C : ∀ w, Calls Try.prog 10 #[.int .i64 n, .int .i64 1, .int .i64 65536] w fun e w' => e = .returned (.tuple #[.int .i64 v, .int .i64 er]) ∧ Kept w w') : Calls Try.prog 20 #[.int .i64 n] w fun e w' => e = .returned (.int .i64 v) ∧ Kept w w' := by
  have C' := Lib.hid C
  clear C
  go_enter Try.func20, Try.ntmps20
  go_wp2_with fail
  refine (C'.out _).mono ?_
  rintro e w1 ⟨rfl, k1⟩
  go_wp2
  go_ret
  exact ⟨rfl, (by (repeat (first | with_reducible exact Kept.refl _ | with_reducible apply Kept.drew | with_reducible apply Kept.alloc | ((with_reducible apply Kept.set); focus (simp <;> omega)) | ((with_reducible apply Kept.via); focus with_reducible assumption))))⟩
theorem Whole_ok {n : Int} (h : In64 n) (w : World) : Calls Try.prog 20 #[.int .i64 n] w fun e w' => e = .returned (.int .i64 (n / 65536)) ∧ Kept w w' := by
  have := Whole_any (er := 0) w (Floor_ok h (by unfold In64; omega) one_in (part_yes (by omega) (whole_in h)))
  rwa [show n * 1 / 65536 = n / 65536 by rw [Int.mul_one]] at this
set_option maxHeartbeats 400000 in
theorem Segs_any {n s v er : Int} (w : World) (C : ∀ w, Calls Try.prog 10 #[.int .i64 n, .int .i64 65536, .int .i64 s] w fun e w' => e = .returned (.tuple #[.int .i64 v, .int .i64 er]) ∧ Kept w w') : Calls Try.prog 16 #[.int .i64 n, .int .i64 s] w fun e w' => e = .returned (.tuple #[.int .i64 v, .int .i64 er]) ∧ Kept w w' := by
  have C' := Lib.hid C
  clear C
  go_enter Try.func16, Try.ntmps16
  go_wp2_with fail
  refine (C'.out _).mono ?_
  rintro e w1 ⟨rfl, k1⟩
  go_wp2
  go_ret2
  exact ⟨rfl, (by (repeat (first | with_reducible exact Kept.refl _ | with_reducible apply Kept.drew | with_reducible apply Kept.alloc | ((with_reducible apply Kept.set); focus (simp <;> omega)) | ((with_reducible apply Kept.via); focus with_reducible assumption))))⟩
theorem Segs_ok {n s v er : Int} (hn : In64 n) (hs : In64 s) (T : Part s (n * 65536 / s) v er) (w : World) : Calls Try.prog 16 #[.int .i64 n, .int .i64 s] w fun e w' => e = .returned (.tuple #[.int .i64 v, .int .i64 er]) ∧ Kept w w' :=
  Segs_any w (Floor_ok hn one_in hs T)
set_option maxHeartbeats 400000 in
theorem Bytes_any {n s v er : Int} (w : World) (C : ∀ w, Calls Try.prog 10 #[.int .i64 n, .int .i64 s, .int .i64 65536] w fun e w' => e = .returned (.tuple #[.int .i64 v, .int .i64 er]) ∧ Kept w w') : Calls Try.prog 18 #[.int .i64 n, .int .i64 s] w fun e w' => e = .returned (.tuple #[.int .i64 v, .int .i64 er]) ∧ Kept w w' := by
  have C' := Lib.hid C
  clear C
  go_enter Try.func18, Try.ntmps18
  go_wp2_with fail
  refine (C'.out _).mono ?_
  rintro e w1 ⟨rfl, k1⟩
  go_wp2
  go_ret2
  exact ⟨rfl, (by (repeat (first | with_reducible exact Kept.refl _ | with_reducible apply Kept.drew | with_reducible apply Kept.alloc | ((with_reducible apply Kept.set); focus (simp <;> omega)) | ((with_reducible apply Kept.via); focus with_reducible assumption))))⟩
theorem Bytes_ok {n s v er : Int} (hn : In64 n) (hs : In64 s) (T : Part 65536 (n * s / 65536) v er) (w : World) : Calls Try.prog 18 #[.int .i64 n, .int .i64 s] w fun e w' => e = .returned (.tuple #[.int .i64 v, .int .i64 er]) ∧ Kept w w' :=
  Bytes_any w (Floor_ok hn hs one_in T)
end Go.Proofs.Ytfkdbelajideiaa
