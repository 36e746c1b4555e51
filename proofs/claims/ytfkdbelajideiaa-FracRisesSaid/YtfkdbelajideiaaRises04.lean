/-
  The walk of FracRises: it answers true, whatever it is given.
-/
import Derived.Test.YtfkdbelajideiaaAwake04
namespace Go.Proofs.Ytfkdbelajideiaa
open Go.RowKit Go.BigFrame

set_option maxRecDepth 100000 in
set_option maxHeartbeats 1600000 in
theorem rises_lt_k (a b c d s l q x y er fr : Int) (s0 : -2147483648 ≤ s) (s1 : s ≤ 2147483647) (l0 : -1099511627776 < l) (l1 : l < 1099511627776) (q0 : -16777217 < q) (q1 : q < 16777217) (hl : a.tmod 1099511627776 = l) (hab : a < b)  (hx : (er != 0) = true ∨ (fr != 0) = true ∨ x ≤ y) (w : World) (F1 : ∀ w, Calls Try.prog 10 #[.int .i64 a, .int .i64 (max c 0), .int .i64 d] w fun e w' => e = .returned (.tuple #[.int .i64 x, .int .i64 er]) ∧ Kept w w') (F2 : ∀ w, Calls Try.prog 10 #[.int .i64 b, .int .i64 (max c 0), .int .i64 d] w fun e w' => e = .returned (.tuple #[.int .i64 y, .int .i64 fr]) ∧ Kept w w') (W1 : ∀ w, Calls Try.prog 20 #[.int .i64 (l + 65536 * s)] w fun e w' => e = .returned (.int .i64 (q + s)) ∧ Kept w w') (W2 : ∀ w, Calls Try.prog 20 #[.int .i64 l] w fun e w' => e = .returned (.int .i64 q) ∧ Kept w w') :
    Calls Try.prog 7 #[.int .i64 a, .int .i64 b, .int .i64 c, .int .i64 d, .int .i32 s] w fun e w' => e = .returned (.bool true) ∧ Kept w w' := by
  have F1' := Lib.hid F1
  have F2' := Lib.hid F2
  have W1' := Lib.hid W1
  have W2' := Lib.hid W2
  clear F1 F2 W1 W2
  have HL := Lib.hid hl
  have HX := Lib.hid hx
  clear hl hx
  have f1 : min a b = a := by omega
  have f2 : max a b = b := by omega
  go_enter Try.func7, Try.ntmps7
  go_wp2_with fail
  refine (awake04 _).mono ?_
  rintro e w1 ⟨rfl, k1⟩
  go_wp2_with fail
  refine (F1'.out _).mono ?_
  rintro e w2 ⟨rfl, k2⟩
  go_wp2_with fail
  refine (F2'.out _).mono ?_
  rintro e w3 ⟨rfl, k3⟩
  go_upto_region 6 with fail
  have hl := HL.out
  rcases HX.out with hx | hx | hx
  · clear HX
    go_wp2_with fail
    refine (W1'.out _).mono ?_
    rintro e w4 ⟨rfl, k4⟩
    go_wp2_with fail
    refine (W2'.out _).mono ?_
    rintro e w5 ⟨rfl, k5⟩
    go_wp2
    go_ret
    exact ⟨rfl, (by (repeat (first | with_reducible exact Kept.refl _ | with_reducible apply Kept.drew | with_reducible apply Kept.alloc | ((with_reducible apply Kept.set); focus (simp <;> omega)) | ((with_reducible apply Kept.via); focus with_reducible assumption))))⟩
  · clear HX
    by_cases he : er = 0
    · subst he
      go_wp2_with fail
      refine (W1'.out _).mono ?_
      rintro e w4 ⟨rfl, k4⟩
      go_wp2_with fail
      refine (W2'.out _).mono ?_
      rintro e w5 ⟨rfl, k5⟩
      go_wp2
      go_ret
      exact ⟨rfl, (by (repeat (first | with_reducible exact Kept.refl _ | with_reducible apply Kept.drew | with_reducible apply Kept.alloc | ((with_reducible apply Kept.set); focus (simp <;> omega)) | ((with_reducible apply Kept.via); focus with_reducible assumption))))⟩
    · have he' : (er != 0) = true := by simp [he]
      go_wp2_with fail
      refine (W1'.out _).mono ?_
      rintro e w4 ⟨rfl, k4⟩
      go_wp2_with fail
      refine (W2'.out _).mono ?_
      rintro e w5 ⟨rfl, k5⟩
      go_wp2
      go_ret
      exact ⟨rfl, (by (repeat (first | with_reducible exact Kept.refl _ | with_reducible apply Kept.drew | with_reducible apply Kept.alloc | ((with_reducible apply Kept.set); focus (simp <;> omega)) | ((with_reducible apply Kept.via); focus with_reducible assumption))))⟩
  · clear HX
    by_cases he : er = 0
    · subst he
      by_cases hf : fr = 0
      · subst hf
        go_wp2_with fail
        refine (W1'.out _).mono ?_
        rintro e w4 ⟨rfl, k4⟩
        go_wp2_with fail
        refine (W2'.out _).mono ?_
        rintro e w5 ⟨rfl, k5⟩
        go_wp2
        go_ret
        exact ⟨rfl, (by (repeat (first | with_reducible exact Kept.refl _ | with_reducible apply Kept.drew | with_reducible apply Kept.alloc | ((with_reducible apply Kept.set); focus (simp <;> omega)) | ((with_reducible apply Kept.via); focus with_reducible assumption))))⟩
      · have hf' : (fr != 0) = true := by simp [hf]
        go_wp2_with fail
        refine (W1'.out _).mono ?_
        rintro e w4 ⟨rfl, k4⟩
        go_wp2_with fail
        refine (W2'.out _).mono ?_
        rintro e w5 ⟨rfl, k5⟩
        go_wp2
        go_ret
        exact ⟨rfl, (by (repeat (first | with_reducible exact Kept.refl _ | with_reducible apply Kept.drew | with_reducible apply Kept.alloc | ((with_reducible apply Kept.set); focus (simp <;> omega)) | ((with_reducible apply Kept.via); focus with_reducible assumption))))⟩
    · have he' : (er != 0) = true := by simp [he]
      go_wp2_with fail
      refine (W1'.out _).mono ?_
      rintro e w4 ⟨rfl, k4⟩
      go_wp2_with fail
      refine (W2'.out _).mono ?_
      rintro e w5 ⟨rfl, k5⟩
      go_wp2
      go_ret
      exact ⟨rfl, (by (repeat (first | with_reducible exact Kept.refl _ | with_reducible apply Kept.drew | with_reducible apply Kept.alloc | ((with_reducible apply Kept.set); focus (simp <;> omega)) | ((with_reducible apply Kept.via); focus with_reducible assumption))))⟩
set_option maxRecDepth 100000 in
set_option maxHeartbeats 1600000 in
theorem rises_eq_k (a c d s l q x er : Int) (s0 : -2147483648 ≤ s) (s1 : s ≤ 2147483647) (l0 : -1099511627776 < l) (l1 : l < 1099511627776) (q0 : -16777217 < q) (q1 : q < 16777217) (hl : a.tmod 1099511627776 = l)   (hx : (er != 0) = true ∨ er = 0) (w : World) (F1 : ∀ w, Calls Try.prog 10 #[.int .i64 a, .int .i64 (max c 0), .int .i64 d] w fun e w' => e = .returned (.tuple #[.int .i64 x, .int .i64 er]) ∧ Kept w w') (W1 : ∀ w, Calls Try.prog 20 #[.int .i64 (l + 65536 * s)] w fun e w' => e = .returned (.int .i64 (q + s)) ∧ Kept w w') (W2 : ∀ w, Calls Try.prog 20 #[.int .i64 l] w fun e w' => e = .returned (.int .i64 q) ∧ Kept w w') :
    Calls Try.prog 7 #[.int .i64 a, .int .i64 a, .int .i64 c, .int .i64 d, .int .i32 s] w fun e w' => e = .returned (.bool true) ∧ Kept w w' := by
  have F1' := Lib.hid F1
  have W1' := Lib.hid W1
  have W2' := Lib.hid W2
  clear F1 W1 W2
  have HL := Lib.hid hl
  have HX := Lib.hid hx
  clear hl hx
  go_enter Try.func7, Try.ntmps7
  go_wp2_with fail
  refine (awake04 _).mono ?_
  rintro e w1 ⟨rfl, k1⟩
  go_wp2_with fail
  refine (F1'.out _).mono ?_
  rintro e w2 ⟨rfl, k2⟩
  go_wp2_with fail
  refine (F1'.out _).mono ?_
  rintro e w3 ⟨rfl, k3⟩
  go_upto_region 6 with fail
  have hl := HL.out
  rcases HX.out with hx | hx
  · clear HX
    go_wp2_with fail
    refine (W1'.out _).mono ?_
    rintro e w4 ⟨rfl, k4⟩
    go_wp2_with fail
    refine (W2'.out _).mono ?_
    rintro e w5 ⟨rfl, k5⟩
    go_wp2
    go_ret
    exact ⟨rfl, (by (repeat (first | with_reducible exact Kept.refl _ | with_reducible apply Kept.drew | with_reducible apply Kept.alloc | ((with_reducible apply Kept.set); focus (simp <;> omega)) | ((with_reducible apply Kept.via); focus with_reducible assumption))))⟩
  · clear HX
    subst hx
    go_wp2_with fail
    refine (W1'.out _).mono ?_
    rintro e w4 ⟨rfl, k4⟩
    go_wp2_with fail
    refine (W2'.out _).mono ?_
    rintro e w5 ⟨rfl, k5⟩
    go_wp2
    go_ret
    exact ⟨rfl, (by (repeat (first | with_reducible exact Kept.refl _ | with_reducible apply Kept.drew | with_reducible apply Kept.alloc | ((with_reducible apply Kept.set); focus (simp <;> omega)) | ((with_reducible apply Kept.via); focus with_reducible assumption))))⟩
set_option maxRecDepth 100000 in
set_option maxHeartbeats 1600000 in
theorem rises_gt_k (a b c d s l q x y er fr : Int) (s0 : -2147483648 ≤ s) (s1 : s ≤ 2147483647) (l0 : -1099511627776 < l) (l1 : l < 1099511627776) (q0 : -16777217 < q) (q1 : q < 16777217) (hl : a.tmod 1099511627776 = l) (hab : b < a)  (hx : (er != 0) = true ∨ (fr != 0) = true ∨ x ≤ y) (w : World) (F1 : ∀ w, Calls Try.prog 10 #[.int .i64 b, .int .i64 (max c 0), .int .i64 d] w fun e w' => e = .returned (.tuple #[.int .i64 x, .int .i64 er]) ∧ Kept w w') (F2 : ∀ w, Calls Try.prog 10 #[.int .i64 a, .int .i64 (max c 0), .int .i64 d] w fun e w' => e = .returned (.tuple #[.int .i64 y, .int .i64 fr]) ∧ Kept w w') (W1 : ∀ w, Calls Try.prog 20 #[.int .i64 (l + 65536 * s)] w fun e w' => e = .returned (.int .i64 (q + s)) ∧ Kept w w') (W2 : ∀ w, Calls Try.prog 20 #[.int .i64 l] w fun e w' => e = .returned (.int .i64 q) ∧ Kept w w') :
    Calls Try.prog 7 #[.int .i64 a, .int .i64 b, .int .i64 c, .int .i64 d, .int .i32 s] w fun e w' => e = .returned (.bool true) ∧ Kept w w' := by
  have F1' := Lib.hid F1
  have F2' := Lib.hid F2
  have W1' := Lib.hid W1
  have W2' := Lib.hid W2
  clear F1 F2 W1 W2
  have HL := Lib.hid hl
  have HX := Lib.hid hx
  clear hl hx
  have f1 : min a b = b := by omega
  have f2 : max a b = a := by omega
  go_enter Try.func7, Try.ntmps7
  go_wp2_with fail
  refine (awake04 _).mono ?_
  rintro e w1 ⟨rfl, k1⟩
  go_wp2_with fail
  refine (F1'.out _).mono ?_
  rintro e w2 ⟨rfl, k2⟩
  go_wp2_with fail
  refine (F2'.out _).mono ?_
  rintro e w3 ⟨rfl, k3⟩
  go_upto_region 6 with fail
  have hl := HL.out
  rcases HX.out with hx | hx | hx
  · clear HX
    go_wp2_with fail
    refine (W1'.out _).mono ?_
    rintro e w4 ⟨rfl, k4⟩
    go_wp2_with fail
    refine (W2'.out _).mono ?_
    rintro e w5 ⟨rfl, k5⟩
    go_wp2
    go_ret
    exact ⟨rfl, (by (repeat (first | with_reducible exact Kept.refl _ | with_reducible apply Kept.drew | with_reducible apply Kept.alloc | ((with_reducible apply Kept.set); focus (simp <;> omega)) | ((with_reducible apply Kept.via); focus with_reducible assumption))))⟩
  · clear HX
    by_cases he : er = 0
    · subst he
      go_wp2_with fail
      refine (W1'.out _).mono ?_
      rintro e w4 ⟨rfl, k4⟩
      go_wp2_with fail
      refine (W2'.out _).mono ?_
      rintro e w5 ⟨rfl, k5⟩
      go_wp2
      go_ret
      exact ⟨rfl, (by (repeat (first | with_reducible exact Kept.refl _ | with_reducible apply Kept.drew | with_reducible apply Kept.alloc | ((with_reducible apply Kept.set); focus (simp <;> omega)) | ((with_reducible apply Kept.via); focus with_reducible assumption))))⟩
    · have he' : (er != 0) = true := by simp [he]
      go_wp2_with fail
      refine (W1'.out _).mono ?_
      rintro e w4 ⟨rfl, k4⟩
      go_wp2_with fail
      refine (W2'.out _).mono ?_
      rintro e w5 ⟨rfl, k5⟩
      go_wp2
      go_ret
      exact ⟨rfl, (by (repeat (first | with_reducible exact Kept.refl _ | with_reducible apply Kept.drew | with_reducible apply Kept.alloc | ((with_reducible apply Kept.set); focus (simp <;> omega)) | ((with_reducible apply Kept.via); focus with_reducible assumption))))⟩
  · clear HX
    by_cases he : er = 0
    · subst he
      by_cases hf : fr = 0
      · subst hf
        go_wp2_with fail
        refine (W1'.out _).mono ?_
        rintro e w4 ⟨rfl, k4⟩
        go_wp2_with fail
        refine (W2'.out _).mono ?_
        rintro e w5 ⟨rfl, k5⟩
        go_wp2
        go_ret
        exact ⟨rfl, (by (repeat (first | with_reducible exact Kept.refl _ | with_reducible apply Kept.drew | with_reducible apply Kept.alloc | ((with_reducible apply Kept.set); focus (simp <;> omega)) | ((with_reducible apply Kept.via); focus with_reducible assumption))))⟩
      · have hf' : (fr != 0) = true := by simp [hf]
        go_wp2_with fail
        refine (W1'.out _).mono ?_
        rintro e w4 ⟨rfl, k4⟩
        go_wp2_with fail
        refine (W2'.out _).mono ?_
        rintro e w5 ⟨rfl, k5⟩
        go_wp2
        go_ret
        exact ⟨rfl, (by (repeat (first | with_reducible exact Kept.refl _ | with_reducible apply Kept.drew | with_reducible apply Kept.alloc | ((with_reducible apply Kept.set); focus (simp <;> omega)) | ((with_reducible apply Kept.via); focus with_reducible assumption))))⟩
    · have he' : (er != 0) = true := by simp [he]
      go_wp2_with fail
      refine (W1'.out _).mono ?_
      rintro e w4 ⟨rfl, k4⟩
      go_wp2_with fail
      refine (W2'.out _).mono ?_
      rintro e w5 ⟨rfl, k5⟩
      go_wp2
      go_ret
      exact ⟨rfl, (by (repeat (first | with_reducible exact Kept.refl _ | with_reducible apply Kept.drew | with_reducible apply Kept.alloc | ((with_reducible apply Kept.set); focus (simp <;> omega)) | ((with_reducible apply Kept.via); focus with_reducible assumption))))⟩
theorem tmod_fit (a : Int) : -1099511627776 < a.tmod 1099511627776 ∧ a.tmod 1099511627776 < 1099511627776 := by
  have l : (a.tmod 1099511627776).natAbs < 1099511627776 := by
    rw [Int.natAbs_tmod]; exact Nat.mod_lt _ (by omega)
  omega
theorem part_rises {m n c d x y e f : Int} (hc : 0 ≤ c) (h : m ≤ n) (T : Part d (m * c / d) x e) (U : Part d (n * c / d) y f) : (e != 0) = true ∨ (f != 0) = true ∨ x ≤ y := by
  by_cases he : e = 0
  · by_cases hf : f = 0
    · subst he hf
      obtain ⟨d1, rfl, _⟩ := part_ok T
      obtain ⟨_, rfl, _⟩ := part_ok U
      exact Or.inr (Or.inr (Int.ediv_le_ediv (by omega) (Int.mul_le_mul_of_nonneg_right h hc)))
    · exact Or.inr (Or.inl (by simp [hf]))
  · exact Or.inl (by simp [he])
theorem fracRises_walk (a b c d s : Int) (w : World) (ha : In64 a) (hb : In64 b) (hc : In64 c) (hd : In64 d) (hs : -2147483648 ≤ s ∧ s ≤ 2147483647) :
    Calls Try.prog 7 #[.int .i64 a, .int .i64 b, .int .i64 c, .int .i64 d, .int .i32 s] w fun e w' => e = .returned (.bool true) ∧ Kept w w' := by
  obtain ⟨s0, s1⟩ := hs
  obtain ⟨l0, l1⟩ := tmod_fit a
  generalize el : a.tmod 1099511627776 = l at *
  have W2 := fun w => Whole_ok (n := l) (by unfold In64; omega) w
  have W1 := fun w => Whole_ok (n := l + 65536 * s) (by unfold In64; omega) w
  rw [show (l + 65536 * s) / 65536 = l / 65536 + s by omega] at W1
  have q0 : -16777217 < l / 65536 := by omega
  have q1 : l / 65536 < 16777217 := by omega
  generalize l / 65536 = q at *
  have k0 : 0 ≤ max c 0 := by omega
  generalize ek : max c 0 = k at *
  have ik : In64 k := by unfold In64 at *; omega
  obtain ⟨x, e, T⟩ := part_ex d (a * k / d)
  obtain ⟨y, f, U⟩ := part_ex d (b * k / d)
  have F1 := Floor_ok ha ik hd T
  have F2 := Floor_ok hb ik hd U
  subst ek
  rcases Int.lt_trichotomy a b with h | h | h
  · have r := part_rises k0 (by omega) T U
    exact rises_lt_k a b c d s l q x y e f s0 s1 l0 l1 q0 q1 el h r w F1 F2 W1 W2
  · subst h
    have r : (e != 0) = true ∨ e = 0 := by by_cases he : e = 0 <;> simp [he]
    exact rises_eq_k a c d s l q x e s0 s1 l0 l1 q0 q1 el r w F1 W1 W2
  · have r := part_rises k0 (by omega) U T
    exact rises_gt_k a b c d s l q y x f e s0 s1 l0 l1 q0 q1 el h r w F2 F1 W1 W2
end Go.Proofs.Ytfkdbelajideiaa
