/-
  In one text: Told04, Frac04, Round04, Parts04.
-/
import Derived.Test.YtlgpeafphanobaaSemA02
import Derived.Test.YtlgpeafphanobaaRoom
import Derived.Deep.RegionHeld3
import Derived.Deep.RegionWith
import Derived.Deep.DeepCutAuto
namespace Go.Proofs.Ytlgpeafphanobaa
open Go.RowKit

/-- What is told of a whole number: it, or that it is none of 64 bits. -/
def Told (n v e : Int) : Prop := (In64 n ∧ v = n ∧ e = 0) ∨ (¬ In64 n ∧ v = 0 ∧ e = 10)
/-- What is told of a part by c: that c is below 1, or the number. -/
def Part (c n v e : Int) : Prop := (c < 1 ∧ v = 0 ∧ e = 20) ∨ (1 ≤ c ∧ Told n v e)
theorem told_ex (n : Int) : ∃ v e, Told n v e := by
  by_cases h : In64 n
  · exact ⟨n, 0, Or.inl ⟨h, rfl, rfl⟩⟩
  · exact ⟨0, 10, Or.inr ⟨h, rfl, rfl⟩⟩
theorem part_ex (c n : Int) : ∃ v e, Part c n v e := by
  by_cases h : c < 1
  · exact ⟨0, 20, Or.inl ⟨h, rfl, rfl⟩⟩
  · obtain ⟨v, e, t⟩ := told_ex n
    exact ⟨v, e, Or.inr ⟨by omega, t⟩⟩
theorem part_yes {c n : Int} (hc : 1 ≤ c) (h : In64 n) : Part c n n 0 := Or.inr ⟨hc, Or.inl ⟨h, rfl, rfl⟩⟩
theorem part_over {c n : Int} (hc : 1 ≤ c) (h : ¬ In64 n) : Part c n 0 10 := Or.inr ⟨hc, Or.inr ⟨h, rfl, rfl⟩⟩
theorem part_zero {c n : Int} (hc : c < 1) : Part c n 0 20 := Or.inl ⟨hc, rfl, rfl⟩
theorem told_uniq {n v e v' e' : Int} (t : Told n v e) (t' : Told n v' e') : v = v' ∧ e = e' := by
  rcases t with ⟨h, rfl, rfl⟩ | ⟨h, rfl, rfl⟩ <;> rcases t' with ⟨h', rfl, rfl⟩ | ⟨h', rfl, rfl⟩ <;> first | exact ⟨rfl, rfl⟩ | exact absurd h h' | exact absurd h' h
theorem part_uniq {c n v e v' e' : Int} (t : Part c n v e) (t' : Part c n v' e') : v = v' ∧ e = e' := by
  rcases t with ⟨h, rfl, rfl⟩ | ⟨h, t⟩ <;> rcases t' with ⟨h', rfl, rfl⟩ | ⟨h', t'⟩
  · exact ⟨rfl, rfl⟩
  · exfalso; omega
  · exfalso; omega
  · exact told_uniq t t'
theorem told_in {n v e : Int} (t : Told n v e) : In64 v := by
  rcases t with ⟨h, rfl, rfl⟩ | ⟨h, rfl, rfl⟩
  · exact h
  · unfold In64; omega
theorem part_in {c n v e : Int} (t : Part c n v e) : In64 v := by
  rcases t with ⟨h, rfl, rfl⟩ | ⟨h, t⟩
  · unfold In64; omega
  · exact told_in t
theorem part_ok {c n v : Int} (t : Part c n v 0) : 1 ≤ c ∧ v = n ∧ In64 n := by
  rcases t with ⟨h, rfl, h2⟩ | ⟨h, ⟨h1, rfl, h2⟩ | ⟨h1, rfl, h2⟩⟩
  · exact absurd h2 (by omega)
  · exact ⟨h, rfl, h1⟩
  · exact absurd h2 (by omega)
theorem part_err {c n v e : Int} (t : Part c n v e) : (e = 0 ∧ 1 ≤ c) ∨ (e = 10 ∧ v = 0 ∧ 1 ≤ c) ∨ (e = 20 ∧ v = 0 ∧ c < 1) := by
  rcases t with ⟨h, rfl, rfl⟩ | ⟨h, ⟨h1, rfl, rfl⟩ | ⟨h1, rfl, rfl⟩⟩
  · exact Or.inr (Or.inr ⟨rfl, rfl, h⟩)
  · exact Or.inl ⟨rfl, h⟩
  · exact Or.inr (Or.inl ⟨rfl, rfl, h⟩)

/-- From above, and the nearest one. -/
def ceilOf (m c : Int) : Int := (m + (c - 1)) / c
def nearOf (m c : Int) : Int := (m + c / 2) / c

theorem up_part {m c k : Int} (hc : 1 ≤ c) (h0 : 0 ≤ k) (h1 : k < c) : (m + k) / c = if c - k ≤ m % c then m / c + 1 else m / c := by
  have a := Int.mul_ediv_add_emod m c
  have a2 := Int.emod_nonneg m (show c ≠ 0 by omega)
  have a3 := Int.emod_lt_of_pos m (show 0 < c by omega)
  split
  · refine ((Int.ediv_emod_unique (a := m + k) (q := m / c + 1) (r := m % c + k - c) (show 0 < c by omega)).2 ⟨?_, by omega, by omega⟩).1
    rw [Int.mul_add, Int.mul_one]; omega
  · refine ((Int.ediv_emod_unique (a := m + k) (q := m / c) (r := m % c + k) (show 0 < c by omega)).2 ⟨?_, by omega, by omega⟩).1
    omega
theorem ceil_part {m c : Int} (hc : 1 ≤ c) : ceilOf m c = if m % c = 0 then m / c else m / c + 1 := by
  have a2 := Int.emod_nonneg m (show c ≠ 0 by omega)
  unfold ceilOf
  rw [up_part hc (by omega) (by omega)]
  split <;> split <;> omega
theorem near_part {m c : Int} (hc : 1 ≤ c) : nearOf m c = if c - m % c ≤ m % c then m / c + 1 else m / c := by
  unfold nearOf
  rw [up_part hc (by omega) (by omega)]
  split <;> split <;> omega

/-- A size that a product of two numbers of 64 bits has. -/
def In126 (n : Int) : Prop := -85070591730234615865843651857942052864 ≤ n ∧ n ≤ 85070591730234615865843651857942052864
theorem mul_126 {a c : Int} (h : In64 a) (k : In64 c) : In126 (a * c) := by
  have e := mag_mul a c
  have m1 : 0 ≤ mag a ∧ mag a ≤ 9223372036854775808 := by unfold In64 at h; unfold mag; split <;> omega
  have m2 : 0 ≤ mag c ∧ mag c ≤ 9223372036854775808 := by unfold In64 at k; unfold mag; split <;> omega
  have := Int.mul_le_mul m1.2 m2.2 m2.1 (by omega)
  rw [← e] at this
  unfold In126; unfold mag at this; split at this <;> omega
theorem div_126 {m c : Int} (h : In126 m) (hc : 1 ≤ c) : In126 (m / c) := by
  have a := Int.mul_ediv_add_emod m c
  have a2 := Int.emod_nonneg m (show c ≠ 0 by omega)
  have a3 := Int.emod_lt_of_pos m (show 0 < c by omega)
  unfold In126 at *
  constructor
  · rw [Int.le_ediv_iff_mul_le (by omega)]
    have := Int.mul_le_mul_of_nonpos_left (a := -85070591730234615865843651857942052864) (by omega) hc
    omega
  · rw [← Int.lt_add_one_iff, Int.ediv_lt_iff_lt_mul (by omega)]
    have := Int.mul_le_mul_of_nonneg_left (c := 85070591730234615865843651857942052865) hc (by omega)
    omega
theorem big_126 {n : Int} (h : In126 n) : InBig n := by unfold In126 at h; unfold InBig; omega
theorem big_127 {n : Int} (h : In126 n) : InBig (n + 1) := by unfold In126 at h; unfold InBig; omega

/-- A part's four cells. -/
theorem Kept.four {w1 w2 : World} {p0 p1 p2 p3 : Addr} {v0 v1 v2 v3 : Value} (k : Kept w1 w2) (h : Hid (w1.cell? p0 = some v0 ∧ w1.cell? p1 = some v1 ∧ w1.cell? p2 = some v2 ∧ w1.cell? p3 = some v3)) : w2.cell? p0 = some v0 ∧ w2.cell? p1 = some v1 ∧ w2.cell? p2 = some v2 ∧ w2.cell? p3 = some v3 := by
  obtain ⟨h0, h1, h2, h3⟩ := h.out
  exact ⟨k.read h0, k.read h1, k.read h2, k.read h3⟩
theorem far_four {w1 : World} {p0 p1 p2 p3 : Addr} {v0 v1 v2 v3 : Value} {b : Nat} {x y z : Value} (h : w1.cell? p0 = some v0 ∧ w1.cell? p1 = some v1 ∧ w1.cell? p2 = some v2 ∧ w1.cell? p3 = some v3) (f : p0.block ≠ b ∧ p1.block ≠ b ∧ p2.block ≠ b ∧ p3.block ≠ b) : (((w1.setCell ⟨b, 0, none⟩ x).setCell ⟨b, 1, none⟩ y).setCell ⟨b, 2, none⟩ z).cell? p0 = some v0 ∧ (((w1.setCell ⟨b, 0, none⟩ x).setCell ⟨b, 1, none⟩ y).setCell ⟨b, 2, none⟩ z).cell? p1 = some v1 ∧ (((w1.setCell ⟨b, 0, none⟩ x).setCell ⟨b, 1, none⟩ y).setCell ⟨b, 2, none⟩ z).cell? p2 = some v2 ∧ (((w1.setCell ⟨b, 0, none⟩ x).setCell ⟨b, 1, none⟩ y).setCell ⟨b, 2, none⟩ z).cell? p3 = some v3 := by
  obtain ⟨h0, h1, h2, h3⟩ := h
  obtain ⟨f0, f1, f2, f3⟩ := f
  exact ⟨read_far (read_far (read_far h0 f0) f0) f0, read_far (read_far (read_far h1 f1) f1) f1, read_far (read_far (read_far h2 f2) f2) f2, read_far (read_far (read_far h3 f3) f3) f3⟩
theorem Kept.new1 {w w2 : World} {x : Value} {t : TypeId} (k : Kept (w.alloc (.cells #[x] t)) w2) : w2.cell? ⟨w.heap.size, 0, none⟩ = some x := k.read (by simp [go_sem])

end Go.Proofs.Ytlgpeafphanobaa
namespace Go.Proofs.Ytlgpeafphanobaa
open Go.RowKit Go.BigFrame

set_option maxHeartbeats 800000 in
theorem fracUnless_any (b rb : Bool) (h l m rh rl c v er : Int) (w : World) (hc : (c = 0 ∧ v = m ∧ er = 0) ∨ ((c != 0) = true ∧ v = 0 ∧ er = 10)) (I1 : ∀ w, Calls Try.prog 71 #[.agg #[.bool b, .int .u64 h, .int .u64 l]] w fun e w' => e = .returned (.int .i64 m) ∧ Kept w w') (O1 : ∀ w, Calls Try.prog 54 #[.int .i64 m] w fun e w' => e = .returned (.agg #[.bool rb, .int .u64 rh, .int .u64 rl]) ∧ Kept w w') (K1 : ∀ w, Calls Try.prog 72 #[.agg #[.bool rb, .int .u64 rh, .int .u64 rl], .agg #[.bool b, .int .u64 h, .int .u64 l]] w fun e w' => e = .returned (.int .i64 c) ∧ Kept w w') :
    Calls Try.prog 55 #[.agg #[.bool b, .int .u64 h, .int .u64 l]] w fun e w' => e = .returned (.tuple #[.int .i64 v, .int .i64 er]) ∧ Kept w w' := by
  have HC := Lib.hid hc
  clear hc
  have I1' := Lib.hid I1
  have O1' := Lib.hid O1
  have K1' := Lib.hid K1
  clear I1 O1 K1
  go_enter Try.func55, Try.ntmps55
  go_upto_region 1 with fail
  generalize hW : (World.alloc w (.cells #[.bool b, .int .u64 h, .int .u64 l] 64)) = W0
  have base := Lib.hid (show W0.cell? ⟨w.heap.size, 0, none⟩ = some (.bool b) ∧ W0.cell? ⟨w.heap.size, 1, none⟩ = some (.int .u64 h) ∧ W0.cell? ⟨w.heap.size, 2, none⟩ = some (.int .u64 l) from by subst hW; simp [go_sem])
  have kw : Kept w W0 := by subst hW; exact (by (repeat (first | with_reducible exact Kept.refl _ | with_reducible apply Kept.drew | with_reducible apply Kept.alloc | ((with_reducible apply Kept.set); focus (simp <;> omega)) | ((with_reducible apply Kept.via); focus with_reducible assumption))))
  have zw : w.heap.size + 1 ≤ W0.heap.size := by subst hW; simp
  clear hW
  have H_x := base
  clear base
  generalize w.heap.size = g_x at *
  obtain ⟨c_x0, c_x1, c_x2⟩ := Kept.all3 (show Kept W0 W0 from (by (repeat (first | with_reducible exact Kept.refl _ | with_reducible apply Kept.drew | with_reducible apply Kept.alloc | ((with_reducible apply Kept.set); focus (simp <;> omega)) | ((with_reducible apply Kept.via); focus with_reducible assumption))))) H_x
  go_wp2_with fail
  refine (I1'.out _).mono ?_
  rintro e w1 ⟨rfl, k1⟩
  clear c_x0 c_x1 c_x2
  go_upto_region 2 with fail
  rcases HC.out with ⟨rfl, rfl, rfl⟩ | ⟨hc, rfl, rfl⟩
  · clear HC
    have B_x := Lib.hid (Kept.all3 (show Kept W0 w1 from (by (repeat (first | with_reducible exact Kept.refl _ | with_reducible apply Kept.drew | with_reducible apply Kept.alloc | ((with_reducible apply Kept.set); focus (simp <;> omega)) | ((with_reducible apply Kept.via); focus with_reducible assumption))))) H_x)
    have kall : Kept w w1 := (by (repeat (first | with_reducible exact Kept.refl _ | with_reducible apply Kept.drew | with_reducible apply Kept.alloc | ((with_reducible apply Kept.set); focus (simp <;> omega)) | ((with_reducible apply Kept.via); focus with_reducible assumption))))
    obtain ⟨q_x0, q_x1, q_x2⟩ := kw3 B_x
    clear B_x
    refine wp_region_kept (by kernel_rfl) (by as_aux_lemma => kernel_rfl) ?_
    repeat (go_big_quiet_step (first | (with_reducible exact kept_of (O1'.out _)) | (with_reducible exact kept_of (K1'.out _))))
    refine wpQuiet_nil ?_
    intro wq hw'
    have kq : Kept w1 wq := by obtain ⟨p, rfl⟩ := hw'; exact p.k
    clear hw'
    go_wp2
    go_ret2
    exact ⟨rfl, kall.trans kq⟩
  · clear HC
    have B_x := Lib.hid (Kept.all3 (show Kept W0 w1 from (by (repeat (first | with_reducible exact Kept.refl _ | with_reducible apply Kept.drew | with_reducible apply Kept.alloc | ((with_reducible apply Kept.set); focus (simp <;> omega)) | ((with_reducible apply Kept.via); focus with_reducible assumption))))) H_x)
    have kall : Kept w w1 := (by (repeat (first | with_reducible exact Kept.refl _ | with_reducible apply Kept.drew | with_reducible apply Kept.alloc | ((with_reducible apply Kept.set); focus (simp <;> omega)) | ((with_reducible apply Kept.via); focus with_reducible assumption))))
    obtain ⟨q_x0, q_x1, q_x2⟩ := kw3 B_x
    clear B_x
    refine wp_region_kept (by kernel_rfl) (by as_aux_lemma => kernel_rfl) ?_
    repeat (go_big_quiet_step (first | (with_reducible exact kept_of (O1'.out _)) | (with_reducible exact kept_of (K1'.out _))))
    refine wpQuiet_nil ?_
    intro wq hw'
    have kq : Kept w1 wq := by obtain ⟨p, rfl⟩ := hw'; exact p.k
    clear hw'
    go_wp2
    go_ret2
    exact ⟨rfl, kall.trans kq⟩
theorem fracUnless_ok {b : Bool} {h l n v er : Int} (r : Rep b h l n) (T : Told n v er) (w : World) : Calls Try.prog 55 #[.agg #[.bool b, .int .u64 h, .int .u64 l]] w fun e w' => e = .returned (.tuple #[.int .i64 v, .int .i64 er]) ∧ Kept w w' := by
  obtain ⟨h1, h2, h3, _⟩ := id r
  have hm := heldAt_in n
  obtain ⟨r', O⟩ := Of_ok (heldAt n) hm
  have I := fun w => Int_ok (b := b) h1 h2 w
  have K := fun w => Cmp_ok (b1 := decide (heldAt n < 0)) (b2 := b) r'.1 r'.2.1 h1 h2 w
  rw [h3] at I K
  rw [r'.2.2.1] at K
  refine fracUnless_any b _ h l (heldAt n) _ _ _ v er w ?_ I O K
  rcases T with ⟨t, rfl, rfl⟩ | ⟨t, rfl, rfl⟩
  · exact Or.inl ⟨by rw [heldAt_of t]; simp [cmpI], (heldAt_of t).symm, rfl⟩
  · refine Or.inr ⟨?_, rfl, rfl⟩
    have : heldAt n ≠ n := fun q => t (q ▸ hm)
    unfold cmpI; rw [if_neg this]; split <;> rfl
theorem floor1_ok (l : Int) (w : World) : Calls Try.prog 48 #[.int .u64 l] w fun e w' => e = .returned (.bool false) ∧ Kept w w' := by
  go_enter Try.func48, Try.ntmps48
  go_wp2
  go_ret
  exact ⟨rfl, Kept.refl _⟩
theorem ceil1_ok (l : Int) (w : World) : Calls Try.prog 45 #[.int .u64 l] w fun e w' => e = .returned (.bool (l != 0)) ∧ Kept w w' := by
  go_enter Try.func45, Try.ntmps45
  go_wp2
  go_ret
  exact ⟨rfl, Kept.refl _⟩
set_option maxHeartbeats 400000 in
theorem rounded_zero (a b c : Int) (fv : Value) (w : World) (hc : c < 1) : Calls Try.prog 46 #[.agg #[.int .i64 a, .int .i64 b, .int .i64 c, fv]] w fun e w' => e = .returned (.tuple #[.int .i64 0, .int .i64 20]) ∧ Kept w w' := by
  go_enter Try.func46, Try.ntmps46
  go_wp2
  go_ret2
  exact ⟨rfl, (by (repeat (first | with_reducible exact Kept.refl _ | with_reducible apply Kept.drew | with_reducible apply Kept.alloc | ((with_reducible apply Kept.set); focus (simp <;> omega)) | ((with_reducible apply Kept.via); focus with_reducible assumption))))⟩
end Go.Proofs.Ytlgpeafphanobaa
namespace Go.Proofs.Ytlgpeafphanobaa
open Go.RowKit Go.BigFrame

set_option maxRecDepth 100000 in
set_option maxHeartbeats 1600000 in
theorem rounded_floor (a b c left v er mh ml qh ql sh sl : Int) (mb qb sb up : Bool) (w : World) (c0 : 1 ≤ c) (c1 : c ≤ 9223372036854775807) (M1 : ∀ w, Calls Try.prog 52 #[.int .i64 a, .int .i64 b] w fun e w' => e = .returned (.agg #[.bool mb, .int .u64 mh, .int .u64 ml]) ∧ Kept w w') (D1 : ∀ w, Calls Try.prog 51 #[.agg #[.bool mb, .int .u64 mh, .int .u64 ml], .int .u64 c] w fun e w' => e = .returned (.tuple #[.agg #[.bool qb, .int .u64 qh, .int .u64 ql], .int .u64 left, .int .i64 0]) ∧ Kept w w') (U1 : ∀ v, Kept w v → Calls Try.prog 48 #[.int .u64 left] v fun e w' => e = .returned (.bool up) ∧ Kept v w') (E1 : (up = false ∧ ∀ w, Calls Try.prog 55 #[.agg #[.bool qb, .int .u64 qh, .int .u64 ql]] w fun e w' => e = .returned (.tuple #[.int .i64 v, .int .i64 er]) ∧ Kept w w') ∨ (up = true ∧ (∀ w, Calls Try.prog 54 #[.int .i64 1] w fun e w' => e = .returned (.agg #[.bool false, .int .u64 0, .int .u64 1]) ∧ Kept w w') ∧ (∀ w, Calls Try.prog 53 #[.agg #[.bool qb, .int .u64 qh, .int .u64 ql], .agg #[.bool false, .int .u64 0, .int .u64 1]] w fun e w' => e = .returned (.tuple #[.agg #[.bool sb, .int .u64 sh, .int .u64 sl], .int .i64 0]) ∧ Kept w w') ∧ ∀ w, Calls Try.prog 55 #[.agg #[.bool sb, .int .u64 sh, .int .u64 sl]] w fun e w' => e = .returned (.tuple #[.int .i64 v, .int .i64 er]) ∧ Kept w w')) :
    Calls Try.prog 46 #[.agg #[.int .i64 a, .int .i64 b, .int .i64 c, .func (Fn.func 48) #[] #[]]] w fun e w' => e = .returned (.tuple #[.int .i64 v, .int .i64 er]) ∧ Kept w w' := by
  have M1' := Lib.hid M1
  have D1' := Lib.hid D1
  have U1' := Lib.hid U1
  have E1' := Lib.hid E1
  clear M1 D1 U1 E1
  have hc : decide (c < 1) = false := by simp; omega
  have hw : IntKind.u64.wrap c = c := by rw [IntKind.wrap_u64]; omega
  go_enter Try.func46, Try.ntmps46
  go_upto_region 1 with fail
  generalize hW : (World.alloc w (.cells #[.int .i64 a, .int .i64 b, .int .i64 c, .func (Fn.func 48) #[] #[]] 60)) = W0
  have base := Lib.hid (show W0.cell? ⟨w.heap.size, 0, none⟩ = some (.int .i64 a) ∧ W0.cell? ⟨w.heap.size, 1, none⟩ = some (.int .i64 b) ∧ W0.cell? ⟨w.heap.size, 2, none⟩ = some (.int .i64 c) ∧ W0.cell? ⟨w.heap.size, 3, none⟩ = some (.func (Fn.func 48) #[] #[]) from by subst hW; simp [go_sem])
  have kw : Kept w W0 := by subst hW; exact (by (repeat (first | with_reducible exact Kept.refl _ | with_reducible apply Kept.drew | with_reducible apply Kept.alloc | ((with_reducible apply Kept.set); focus (simp <;> omega)) | ((with_reducible apply Kept.via); focus with_reducible assumption))))
  have zw : w.heap.size + 1 ≤ W0.heap.size := by subst hW; simp
  clear hW
  have H_p := base
  clear base
  generalize ep : w.heap.size = g_p at *
  obtain ⟨p0, p1, p2, p3⟩ := Kept.four (show Kept W0 W0 from (by (repeat (first | with_reducible exact Kept.refl _ | with_reducible apply Kept.drew | with_reducible apply Kept.alloc | ((with_reducible apply Kept.set); focus (simp <;> omega)) | ((with_reducible apply Kept.via); focus with_reducible assumption))))) H_p
  go_upto_region 3 with fail
  clear p0 p1 p2 p3
  go_cut [4, 5, 6] (fun s4 s5 s6 wx => ∃ g : Nat, s4 = .pointer (some ⟨g, 0, none⟩) ∧ s5 = .int .u64 left ∧ s6 = .int .i64 0 ∧ wx.cell? ⟨g, 0, none⟩ = some (.bool qb) ∧ wx.cell? ⟨g, 1, none⟩ = some (.int .u64 qh) ∧ wx.cell? ⟨g, 2, none⟩ = some (.int .u64 ql) ∧ Thaw3 wx g ∧ g_p < g ∧ Kept W0 wx)
  case first =>
    go_region_held3 (fun w' => w'.cell? ⟨g_p, 0, none⟩ = some (.int .i64 a) ∧ w'.cell? ⟨g_p, 1, none⟩ = some (.int .i64 b) ∧ w'.cell? ⟨g_p, 2, none⟩ = some (.int .i64 c) ∧ w'.cell? ⟨g_p, 3, none⟩ = some (.func (Fn.func 48) #[] #[]))
      ((first | (refine Kept.four ?_ H_p; focus ((repeat (first | with_reducible exact Kept.refl _ | with_reducible apply Kept.drew | with_reducible apply Kept.alloc | ((with_reducible apply Kept.set); focus (simp <;> omega)) | ((with_reducible apply Kept.via); focus with_reducible assumption))); done)) | (refine far_four (Kept.four (by (repeat (first | with_reducible exact Kept.refl _ | with_reducible apply Kept.drew | with_reducible apply Kept.alloc | ((with_reducible apply Kept.set); focus (simp <;> omega)) | ((with_reducible apply Kept.via); focus with_reducible assumption)))) H_p) ?_; focus ((repeat' apply And.intro) <;> (simp <;> omega)))))
      (first
        | (go_at_call 52; refine (M1'.out _).mono ?_; rintro e v1 ⟨rfl, i1⟩; (try (first | (with_reducible have nr := Room3.newD i1) | (with_reducible have nr := Room3.new i1) | (with_reducible have nr := Room3.kept nr i1))); have y1 := Kept.below i1; (try simp at y1))
        | (go_at_call 51; refine (D1'.out _).mono ?_; rintro e v2 ⟨rfl, i2⟩; (try (first | (with_reducible have nr := Room3.newD i2) | (with_reducible have nr := Room3.new i2) | (with_reducible have nr := Room3.kept nr i2))); have y2 := Kept.below i2; (try simp at y2); (try (obtain ⟨nx, ny, nz, na1, na2, na3, nb1, nb2, nb3⟩ := nr))))
    all_goals
      go_wp2_with fail
      go_meet
      exact ⟨_, rfl, rfl, rfl, by simp [*, go_sem], by simp [*, go_sem], by simp [*, go_sem], ⟨by simp [*, go_sem], by simp [*, go_sem], by simp [*, go_sem]⟩, by first | omega | (simp; omega), (by (repeat (first | with_reducible exact Kept.refl _ | with_reducible apply Kept.drew | with_reducible apply Kept.alloc | ((with_reducible apply Kept.set); focus (simp <;> omega)) | ((with_reducible apply Kept.via); focus with_reducible assumption))))⟩
  obtain ⟨g_q, rfl, rfl, rfl, e0, e1, e2, th, lq, K_q⟩ := hcut
  generalize wc = W_q at *
  have H_q := Lib.hid (And.intro e0 (And.intro e1 e2))
  clear e0 e1 e2
  obtain ⟨p0, p1, p2, p3⟩ := Kept.four (show Kept W0 W_q from (by (repeat (first | with_reducible exact Kept.refl _ | with_reducible apply Kept.drew | with_reducible apply Kept.alloc | ((with_reducible apply Kept.set); focus (simp <;> omega)) | ((with_reducible apply Kept.via); focus with_reducible assumption))))) H_p
  go_wp2_with fail
  refine (U1'.out _ (by (repeat (first | with_reducible exact Kept.refl _ | with_reducible apply Kept.drew | with_reducible apply Kept.alloc | ((with_reducible apply Kept.set); focus (simp <;> omega)) | ((with_reducible apply Kept.via); focus with_reducible assumption))))).mono ?_
  rintro e w1 ⟨rfl, k1⟩
  clear p0 p1 p2 p3
  rcases E1'.out with ⟨rfl, X1⟩ | ⟨rfl, O1, A1, X1⟩
  · have X1' := Lib.hid X1
    clear X1 E1' U1' M1' D1'
    obtain ⟨c_q0, c_q1, c_q2⟩ := Kept.all3 (show Kept W_q w1 from (by (repeat (first | with_reducible exact Kept.refl _ | with_reducible apply Kept.drew | with_reducible apply Kept.alloc | ((with_reducible apply Kept.set); focus (simp <;> omega)) | ((with_reducible apply Kept.via); focus with_reducible assumption))))) H_q
    go_wp2_with fail
    refine (X1'.out _).mono ?_
    rintro e w2 ⟨rfl, k2⟩
    clear c_q0 c_q1 c_q2
    go_wp2
    go_ret2
    exact ⟨rfl, (by (repeat (first | with_reducible exact Kept.refl _ | with_reducible apply Kept.drew | with_reducible apply Kept.alloc | ((with_reducible apply Kept.set); focus (simp <;> omega)) | ((with_reducible apply Kept.via); focus with_reducible assumption))))⟩
  · have X1' := Lib.hid X1
    have O1' := Lib.hid O1
    have A1' := Lib.hid A1
    clear X1 O1 A1 E1' U1' M1' D1'
    go_upto_region 5 with fail
    obtain ⟨q0, q1, q2⟩ := Kept.all3 k1 H_q
    obtain ⟨t0, t1, t2⟩ := Thaw3.kept th k1
    have lw : w.heap.size ≤ g_q := by omega
    go_cut [1] (fun s1 wx => s1 = .pointer (some ⟨g_p, 0, none⟩) ∧ wx.cell? ⟨g_q, 0, none⟩ = some (.bool sb) ∧ wx.cell? ⟨g_q, 1, none⟩ = some (.int .u64 sh) ∧ wx.cell? ⟨g_q, 2, none⟩ = some (.int .u64 sl) ∧ Kept w wx)
    case first =>
      go_region_with (first
        | (go_at_call 54; refine (O1'.out _).mono ?_; rintro e v1 ⟨rfl, i1⟩; obtain ⟨q0, q1, q2⟩ := Kept.all3 (show Kept W_q v1 from (by (repeat (first | with_reducible exact Kept.refl _ | with_reducible apply Kept.drew | with_reducible apply Kept.alloc | ((with_reducible apply Kept.set); focus (simp <;> omega)) | ((with_reducible apply Kept.via); focus with_reducible assumption))))) H_q; obtain ⟨t0, t1, t2⟩ := Thaw3.kept th (show Kept W_q v1 from (by (repeat (first | with_reducible exact Kept.refl _ | with_reducible apply Kept.drew | with_reducible apply Kept.alloc | ((with_reducible apply Kept.set); focus (simp <;> omega)) | ((with_reducible apply Kept.via); focus with_reducible assumption))))))
        | (go_at_call 53; refine (A1'.out _).mono ?_; rintro e v2 ⟨rfl, i2⟩; obtain ⟨q0, q1, q2⟩ := Kept.all3 (show Kept W_q v2 from (by (repeat (first | with_reducible exact Kept.refl _ | with_reducible apply Kept.drew | with_reducible apply Kept.alloc | ((with_reducible apply Kept.set); focus (simp <;> omega)) | ((with_reducible apply Kept.via); focus with_reducible assumption))))) H_q; obtain ⟨t0, t1, t2⟩ := Thaw3.kept th (show Kept W_q v2 from (by (repeat (first | with_reducible exact Kept.refl _ | with_reducible apply Kept.drew | with_reducible apply Kept.alloc | ((with_reducible apply Kept.set); focus (simp <;> omega)) | ((with_reducible apply Kept.via); focus with_reducible assumption)))))))
      all_goals
        go_wp2_with fail
        go_meet
        exact ⟨rfl, by simp [*, go_sem], by simp [*, go_sem], by simp [*, go_sem], (by (repeat (first | with_reducible exact Kept.refl _ | with_reducible apply Kept.drew | with_reducible apply Kept.alloc | ((with_reducible apply Kept.set); focus (simp <;> omega)) | ((with_reducible apply Kept.via); focus with_reducible assumption))))⟩
    obtain ⟨rfl, e0, e1, e2, K_s⟩ := hcut
    generalize wc = W_s at *
    have H_s := Lib.hid (And.intro e0 (And.intro e1 e2))
    clear e0 e1 e2 q0 q1 q2 t0 t1 t2
    obtain ⟨c_s0, c_s1, c_s2⟩ := Kept.all3 (show Kept W_s W_s from (by (repeat (first | with_reducible exact Kept.refl _ | with_reducible apply Kept.drew | with_reducible apply Kept.alloc | ((with_reducible apply Kept.set); focus (simp <;> omega)) | ((with_reducible apply Kept.via); focus with_reducible assumption))))) H_s
    go_wp2_with fail
    refine (X1'.out _).mono ?_
    rintro e w2 ⟨rfl, k2⟩
    clear c_s0 c_s1 c_s2
    go_wp2
    go_ret2
    exact ⟨rfl, (by (repeat (first | with_reducible exact Kept.refl _ | with_reducible apply Kept.drew | with_reducible apply Kept.alloc | ((with_reducible apply Kept.set); focus (simp <;> omega)) | ((with_reducible apply Kept.via); focus with_reducible assumption))))⟩
set_option maxRecDepth 100000 in
set_option maxHeartbeats 1600000 in
theorem rounded_ceil (a b c left v er mh ml qh ql sh sl : Int) (mb qb sb up : Bool) (w : World) (c0 : 1 ≤ c) (c1 : c ≤ 9223372036854775807) (M1 : ∀ w, Calls Try.prog 52 #[.int .i64 a, .int .i64 b] w fun e w' => e = .returned (.agg #[.bool mb, .int .u64 mh, .int .u64 ml]) ∧ Kept w w') (D1 : ∀ w, Calls Try.prog 51 #[.agg #[.bool mb, .int .u64 mh, .int .u64 ml], .int .u64 c] w fun e w' => e = .returned (.tuple #[.agg #[.bool qb, .int .u64 qh, .int .u64 ql], .int .u64 left, .int .i64 0]) ∧ Kept w w') (U1 : ∀ v, Kept w v → Calls Try.prog 45 #[.int .u64 left] v fun e w' => e = .returned (.bool up) ∧ Kept v w') (E1 : (up = false ∧ ∀ w, Calls Try.prog 55 #[.agg #[.bool qb, .int .u64 qh, .int .u64 ql]] w fun e w' => e = .returned (.tuple #[.int .i64 v, .int .i64 er]) ∧ Kept w w') ∨ (up = true ∧ (∀ w, Calls Try.prog 54 #[.int .i64 1] w fun e w' => e = .returned (.agg #[.bool false, .int .u64 0, .int .u64 1]) ∧ Kept w w') ∧ (∀ w, Calls Try.prog 53 #[.agg #[.bool qb, .int .u64 qh, .int .u64 ql], .agg #[.bool false, .int .u64 0, .int .u64 1]] w fun e w' => e = .returned (.tuple #[.agg #[.bool sb, .int .u64 sh, .int .u64 sl], .int .i64 0]) ∧ Kept w w') ∧ ∀ w, Calls Try.prog 55 #[.agg #[.bool sb, .int .u64 sh, .int .u64 sl]] w fun e w' => e = .returned (.tuple #[.int .i64 v, .int .i64 er]) ∧ Kept w w')) :
    Calls Try.prog 46 #[.agg #[.int .i64 a, .int .i64 b, .int .i64 c, .func (Fn.func 45) #[] #[]]] w fun e w' => e = .returned (.tuple #[.int .i64 v, .int .i64 er]) ∧ Kept w w' := by
  have M1' := Lib.hid M1
  have D1' := Lib.hid D1
  have U1' := Lib.hid U1
  have E1' := Lib.hid E1
  clear M1 D1 U1 E1
  have hc : decide (c < 1) = false := by simp; omega
  have hw : IntKind.u64.wrap c = c := by rw [IntKind.wrap_u64]; omega
  go_enter Try.func46, Try.ntmps46
  go_upto_region 1 with fail
  generalize hW : (World.alloc w (.cells #[.int .i64 a, .int .i64 b, .int .i64 c, .func (Fn.func 45) #[] #[]] 60)) = W0
  have base := Lib.hid (show W0.cell? ⟨w.heap.size, 0, none⟩ = some (.int .i64 a) ∧ W0.cell? ⟨w.heap.size, 1, none⟩ = some (.int .i64 b) ∧ W0.cell? ⟨w.heap.size, 2, none⟩ = some (.int .i64 c) ∧ W0.cell? ⟨w.heap.size, 3, none⟩ = some (.func (Fn.func 45) #[] #[]) from by subst hW; simp [go_sem])
  have kw : Kept w W0 := by subst hW; exact (by (repeat (first | with_reducible exact Kept.refl _ | with_reducible apply Kept.drew | with_reducible apply Kept.alloc | ((with_reducible apply Kept.set); focus (simp <;> omega)) | ((with_reducible apply Kept.via); focus with_reducible assumption))))
  have zw : w.heap.size + 1 ≤ W0.heap.size := by subst hW; simp
  clear hW
  have H_p := base
  clear base
  generalize ep : w.heap.size = g_p at *
  obtain ⟨p0, p1, p2, p3⟩ := Kept.four (show Kept W0 W0 from (by (repeat (first | with_reducible exact Kept.refl _ | with_reducible apply Kept.drew | with_reducible apply Kept.alloc | ((with_reducible apply Kept.set); focus (simp <;> omega)) | ((with_reducible apply Kept.via); focus with_reducible assumption))))) H_p
  go_upto_region 3 with fail
  clear p0 p1 p2 p3
  go_cut [4, 5, 6] (fun s4 s5 s6 wx => ∃ g : Nat, s4 = .pointer (some ⟨g, 0, none⟩) ∧ s5 = .int .u64 left ∧ s6 = .int .i64 0 ∧ wx.cell? ⟨g, 0, none⟩ = some (.bool qb) ∧ wx.cell? ⟨g, 1, none⟩ = some (.int .u64 qh) ∧ wx.cell? ⟨g, 2, none⟩ = some (.int .u64 ql) ∧ Thaw3 wx g ∧ g_p < g ∧ Kept W0 wx)
  case first =>
    go_region_held3 (fun w' => w'.cell? ⟨g_p, 0, none⟩ = some (.int .i64 a) ∧ w'.cell? ⟨g_p, 1, none⟩ = some (.int .i64 b) ∧ w'.cell? ⟨g_p, 2, none⟩ = some (.int .i64 c) ∧ w'.cell? ⟨g_p, 3, none⟩ = some (.func (Fn.func 45) #[] #[]))
      ((first | (refine Kept.four ?_ H_p; focus ((repeat (first | with_reducible exact Kept.refl _ | with_reducible apply Kept.drew | with_reducible apply Kept.alloc | ((with_reducible apply Kept.set); focus (simp <;> omega)) | ((with_reducible apply Kept.via); focus with_reducible assumption))); done)) | (refine far_four (Kept.four (by (repeat (first | with_reducible exact Kept.refl _ | with_reducible apply Kept.drew | with_reducible apply Kept.alloc | ((with_reducible apply Kept.set); focus (simp <;> omega)) | ((with_reducible apply Kept.via); focus with_reducible assumption)))) H_p) ?_; focus ((repeat' apply And.intro) <;> (simp <;> omega)))))
      (first
        | (go_at_call 52; refine (M1'.out _).mono ?_; rintro e v1 ⟨rfl, i1⟩; (try (first | (with_reducible have nr := Room3.newD i1) | (with_reducible have nr := Room3.new i1) | (with_reducible have nr := Room3.kept nr i1))); have y1 := Kept.below i1; (try simp at y1))
        | (go_at_call 51; refine (D1'.out _).mono ?_; rintro e v2 ⟨rfl, i2⟩; (try (first | (with_reducible have nr := Room3.newD i2) | (with_reducible have nr := Room3.new i2) | (with_reducible have nr := Room3.kept nr i2))); have y2 := Kept.below i2; (try simp at y2); (try (obtain ⟨nx, ny, nz, na1, na2, na3, nb1, nb2, nb3⟩ := nr))))
    all_goals
      go_wp2_with fail
      go_meet
      exact ⟨_, rfl, rfl, rfl, by simp [*, go_sem], by simp [*, go_sem], by simp [*, go_sem], ⟨by simp [*, go_sem], by simp [*, go_sem], by simp [*, go_sem]⟩, by first | omega | (simp; omega), (by (repeat (first | with_reducible exact Kept.refl _ | with_reducible apply Kept.drew | with_reducible apply Kept.alloc | ((with_reducible apply Kept.set); focus (simp <;> omega)) | ((with_reducible apply Kept.via); focus with_reducible assumption))))⟩
  obtain ⟨g_q, rfl, rfl, rfl, e0, e1, e2, th, lq, K_q⟩ := hcut
  generalize wc = W_q at *
  have H_q := Lib.hid (And.intro e0 (And.intro e1 e2))
  clear e0 e1 e2
  obtain ⟨p0, p1, p2, p3⟩ := Kept.four (show Kept W0 W_q from (by (repeat (first | with_reducible exact Kept.refl _ | with_reducible apply Kept.drew | with_reducible apply Kept.alloc | ((with_reducible apply Kept.set); focus (simp <;> omega)) | ((with_reducible apply Kept.via); focus with_reducible assumption))))) H_p
  go_wp2_with fail
  refine (U1'.out _ (by (repeat (first | with_reducible exact Kept.refl _ | with_reducible apply Kept.drew | with_reducible apply Kept.alloc | ((with_reducible apply Kept.set); focus (simp <;> omega)) | ((with_reducible apply Kept.via); focus with_reducible assumption))))).mono ?_
  rintro e w1 ⟨rfl, k1⟩
  clear p0 p1 p2 p3
  rcases E1'.out with ⟨rfl, X1⟩ | ⟨rfl, O1, A1, X1⟩
  · have X1' := Lib.hid X1
    clear X1 E1' U1' M1' D1'
    obtain ⟨c_q0, c_q1, c_q2⟩ := Kept.all3 (show Kept W_q w1 from (by (repeat (first | with_reducible exact Kept.refl _ | with_reducible apply Kept.drew | with_reducible apply Kept.alloc | ((with_reducible apply Kept.set); focus (simp <;> omega)) | ((with_reducible apply Kept.via); focus with_reducible assumption))))) H_q
    go_wp2_with fail
    refine (X1'.out _).mono ?_
    rintro e w2 ⟨rfl, k2⟩
    clear c_q0 c_q1 c_q2
    go_wp2
    go_ret2
    exact ⟨rfl, (by (repeat (first | with_reducible exact Kept.refl _ | with_reducible apply Kept.drew | with_reducible apply Kept.alloc | ((with_reducible apply Kept.set); focus (simp <;> omega)) | ((with_reducible apply Kept.via); focus with_reducible assumption))))⟩
  · have X1' := Lib.hid X1
    have O1' := Lib.hid O1
    have A1' := Lib.hid A1
    clear X1 O1 A1 E1' U1' M1' D1'
    go_upto_region 5 with fail
    obtain ⟨q0, q1, q2⟩ := Kept.all3 k1 H_q
    obtain ⟨t0, t1, t2⟩ := Thaw3.kept th k1
    have lw : w.heap.size ≤ g_q := by omega
    go_cut [1] (fun s1 wx => s1 = .pointer (some ⟨g_p, 0, none⟩) ∧ wx.cell? ⟨g_q, 0, none⟩ = some (.bool sb) ∧ wx.cell? ⟨g_q, 1, none⟩ = some (.int .u64 sh) ∧ wx.cell? ⟨g_q, 2, none⟩ = some (.int .u64 sl) ∧ Kept w wx)
    case first =>
      go_region_with (first
        | (go_at_call 54; refine (O1'.out _).mono ?_; rintro e v1 ⟨rfl, i1⟩; obtain ⟨q0, q1, q2⟩ := Kept.all3 (show Kept W_q v1 from (by (repeat (first | with_reducible exact Kept.refl _ | with_reducible apply Kept.drew | with_reducible apply Kept.alloc | ((with_reducible apply Kept.set); focus (simp <;> omega)) | ((with_reducible apply Kept.via); focus with_reducible assumption))))) H_q; obtain ⟨t0, t1, t2⟩ := Thaw3.kept th (show Kept W_q v1 from (by (repeat (first | with_reducible exact Kept.refl _ | with_reducible apply Kept.drew | with_reducible apply Kept.alloc | ((with_reducible apply Kept.set); focus (simp <;> omega)) | ((with_reducible apply Kept.via); focus with_reducible assumption))))))
        | (go_at_call 53; refine (A1'.out _).mono ?_; rintro e v2 ⟨rfl, i2⟩; obtain ⟨q0, q1, q2⟩ := Kept.all3 (show Kept W_q v2 from (by (repeat (first | with_reducible exact Kept.refl _ | with_reducible apply Kept.drew | with_reducible apply Kept.alloc | ((with_reducible apply Kept.set); focus (simp <;> omega)) | ((with_reducible apply Kept.via); focus with_reducible assumption))))) H_q; obtain ⟨t0, t1, t2⟩ := Thaw3.kept th (show Kept W_q v2 from (by (repeat (first | with_reducible exact Kept.refl _ | with_reducible apply Kept.drew | with_reducible apply Kept.alloc | ((with_reducible apply Kept.set); focus (simp <;> omega)) | ((with_reducible apply Kept.via); focus with_reducible assumption)))))))
      all_goals
        go_wp2_with fail
        go_meet
        exact ⟨rfl, by simp [*, go_sem], by simp [*, go_sem], by simp [*, go_sem], (by (repeat (first | with_reducible exact Kept.refl _ | with_reducible apply Kept.drew | with_reducible apply Kept.alloc | ((with_reducible apply Kept.set); focus (simp <;> omega)) | ((with_reducible apply Kept.via); focus with_reducible assumption))))⟩
    obtain ⟨rfl, e0, e1, e2, K_s⟩ := hcut
    generalize wc = W_s at *
    have H_s := Lib.hid (And.intro e0 (And.intro e1 e2))
    clear e0 e1 e2 q0 q1 q2 t0 t1 t2
    obtain ⟨c_s0, c_s1, c_s2⟩ := Kept.all3 (show Kept W_s W_s from (by (repeat (first | with_reducible exact Kept.refl _ | with_reducible apply Kept.drew | with_reducible apply Kept.alloc | ((with_reducible apply Kept.set); focus (simp <;> omega)) | ((with_reducible apply Kept.via); focus with_reducible assumption))))) H_s
    go_wp2_with fail
    refine (X1'.out _).mono ?_
    rintro e w2 ⟨rfl, k2⟩
    clear c_s0 c_s1 c_s2
    go_wp2
    go_ret2
    exact ⟨rfl, (by (repeat (first | with_reducible exact Kept.refl _ | with_reducible apply Kept.drew | with_reducible apply Kept.alloc | ((with_reducible apply Kept.set); focus (simp <;> omega)) | ((with_reducible apply Kept.via); focus with_reducible assumption))))⟩
end Go.Proofs.Ytlgpeafphanobaa
namespace Go.Proofs.Ytlgpeafphanobaa
open Go.RowKit Go.BigFrame

theorem part_floor {a b c v er : Int} (ha : In64 a) (hb : In64 b) (hc : In64 c) (T : Part c (a * b / c) v er) (w : World) :
    Calls Try.prog 46 #[.agg #[.int .i64 a, .int .i64 b, .int .i64 c, .func (Fn.func 48) #[] #[]]] w fun e w' => e = .returned (.tuple #[.int .i64 v, .int .i64 er]) ∧ Kept w w' := by
  rcases T with ⟨c0, rfl, rfl⟩ | ⟨c0, T⟩
  · exact rounded_zero a b c _ w c0
  have hc1 : c ≤ 9223372036854775807 := hc.2
  have i1 := mul_126 ha hb
  have i2 := div_126 i1 c0
  obtain ⟨mb, mh, ml, rm⟩ := rep_ex _ (big_126 i1)
  obtain ⟨qb, qh, ql, rq⟩ := rep_ex _ (big_126 i2)
  obtain ⟨sb, sh, sl, rs⟩ := rep_ex _ (big_127 i2)
  have r0 := Int.emod_nonneg (a * b) (show c ≠ 0 by omega)
  have r1 := Int.emod_lt_of_pos (a * b) (show 0 < c by omega)
  have D := fun w => Div_ok (b1 := mb) (b := qb) (d := c) rm.1 rm.2.1 ⟨by omega, by omega⟩ (by omega) (by rw [rm.2.2.1]; exact rq) w
  rw [rm.2.2.1] at D
  have O := fun w => Of_rep (n := 1) (b := false) (xh := 0) (xl := 1) (by unfold In64; omega) ⟨by unfold Word; omega, by unfold Word; omega, by decide, by decide⟩ w
  have w1 : Word 1 := by unfold Word; omega
  have A := fun w => Add_ok (b1 := qb) (b2 := false) (b := sb) rq.1 rq.2.1 word_zero w1 (by rw [rq.2.2.1, show numOf false 0 1 = 1 by decide]; exact rs) w
  refine rounded_floor a b c (a * b % c) v er mh ml qh ql sh sl mb qb sb false w c0 hc1 (Mul_rep ha hb rm) D (fun v _ => floor1_ok _ v) ?_
  exact Or.inl ⟨rfl, fracUnless_ok rq T⟩
theorem part_ceil {a b c v er : Int} (ha : In64 a) (hb : In64 b) (hc : In64 c) (T : Part c (ceilOf (a * b) c) v er) (w : World) :
    Calls Try.prog 46 #[.agg #[.int .i64 a, .int .i64 b, .int .i64 c, .func (Fn.func 45) #[] #[]]] w fun e w' => e = .returned (.tuple #[.int .i64 v, .int .i64 er]) ∧ Kept w w' := by
  rcases T with ⟨c0, rfl, rfl⟩ | ⟨c0, T⟩
  · exact rounded_zero a b c _ w c0
  have hc1 : c ≤ 9223372036854775807 := hc.2
  have i1 := mul_126 ha hb
  have i2 := div_126 i1 c0
  obtain ⟨mb, mh, ml, rm⟩ := rep_ex _ (big_126 i1)
  obtain ⟨qb, qh, ql, rq⟩ := rep_ex _ (big_126 i2)
  obtain ⟨sb, sh, sl, rs⟩ := rep_ex _ (big_127 i2)
  have r0 := Int.emod_nonneg (a * b) (show c ≠ 0 by omega)
  have r1 := Int.emod_lt_of_pos (a * b) (show 0 < c by omega)
  have D := fun w => Div_ok (b1 := mb) (b := qb) (d := c) rm.1 rm.2.1 ⟨by omega, by omega⟩ (by omega) (by rw [rm.2.2.1]; exact rq) w
  rw [rm.2.2.1] at D
  have O := fun w => Of_rep (n := 1) (b := false) (xh := 0) (xl := 1) (by unfold In64; omega) ⟨by unfold Word; omega, by unfold Word; omega, by decide, by decide⟩ w
  have w1 : Word 1 := by unfold Word; omega
  have A := fun w => Add_ok (b1 := qb) (b2 := false) (b := sb) rq.1 rq.2.1 word_zero w1 (by rw [rq.2.2.1, show numOf false 0 1 = 1 by decide]; exact rs) w
  refine rounded_ceil a b c (a * b % c) v er mh ml qh ql sh sl mb qb sb (a * b % c != 0) w c0 hc1 (Mul_rep ha hb rm) D (fun v _ => ceil1_ok _ v) ?_
  rw [ceil_part c0] at T
  by_cases z : a * b % c = 0
  · rw [if_pos z] at T
    exact Or.inl ⟨by simp [z], fracUnless_ok rq T⟩
  · rw [if_neg z] at T
    exact Or.inr ⟨by simp [z], O, A, fracUnless_ok rs T⟩
set_option maxHeartbeats 400000 in
theorem Floor_any {a b c v er : Int} (w : World) (C : ∀ w, Calls Try.prog 46 #[.agg #[.int .i64 a, .int .i64 b, .int .i64 c, .func (Fn.func 48) #[] #[]]] w fun e w' => e = .returned (.tuple #[.int .i64 v, .int .i64 er]) ∧ Kept w w') :
    Calls Try.prog 33 #[.int .i64 a, .int .i64 b, .int .i64 c] w fun e w' => e = .returned (.tuple #[.int .i64 v, .int .i64 er]) ∧ Kept w w' := by
  have C' := Lib.hid C
  clear C
  go_enter Try.func33, Try.ntmps33
  go_wp2_with fail
  refine (C'.out _).mono ?_
  rintro e w1 ⟨rfl, k1⟩
  go_wp2
  go_ret2
  exact ⟨rfl, (by (repeat (first | with_reducible exact Kept.refl _ | with_reducible apply Kept.drew | with_reducible apply Kept.alloc | ((with_reducible apply Kept.set); focus (simp <;> omega)) | ((with_reducible apply Kept.via); focus with_reducible assumption))))⟩
theorem Floor_ok {a b c v er : Int} (ha : In64 a) (hb : In64 b) (hc : In64 c) (T : Part c (a * b / c) v er) (w : World) :
    Calls Try.prog 33 #[.int .i64 a, .int .i64 b, .int .i64 c] w fun e w' => e = .returned (.tuple #[.int .i64 v, .int .i64 er]) ∧ Kept w w' :=
  Floor_any w (fun w => part_floor ha hb hc T w)
set_option maxHeartbeats 400000 in
theorem Ceil_any {a b c v er : Int} (w : World) (C : ∀ w, Calls Try.prog 46 #[.agg #[.int .i64 a, .int .i64 b, .int .i64 c, .func (Fn.func 45) #[] #[]]] w fun e w' => e = .returned (.tuple #[.int .i64 v, .int .i64 er]) ∧ Kept w w') :
    Calls Try.prog 31 #[.int .i64 a, .int .i64 b, .int .i64 c] w fun e w' => e = .returned (.tuple #[.int .i64 v, .int .i64 er]) ∧ Kept w w' := by
  have C' := Lib.hid C
  clear C
  go_enter Try.func31, Try.ntmps31
  go_wp2_with fail
  refine (C'.out _).mono ?_
  rintro e w1 ⟨rfl, k1⟩
  go_wp2
  go_ret2
  exact ⟨rfl, (by (repeat (first | with_reducible exact Kept.refl _ | with_reducible apply Kept.drew | with_reducible apply Kept.alloc | ((with_reducible apply Kept.set); focus (simp <;> omega)) | ((with_reducible apply Kept.via); focus with_reducible assumption))))⟩
theorem Ceil_ok {a b c v er : Int} (ha : In64 a) (hb : In64 b) (hc : In64 c) (T : Part c (ceilOf (a * b) c) v er) (w : World) :
    Calls Try.prog 31 #[.int .i64 a, .int .i64 b, .int .i64 c] w fun e w' => e = .returned (.tuple #[.int .i64 v, .int .i64 er]) ∧ Kept w w' :=
  Ceil_any w (fun w => part_ceil ha hb hc T w)
theorem one_in : In64 65536 := by unfold In64; omega
theorem whole_in {n : Int} (h : In64 n) : In64 (n * 1 / 65536) := by unfold In64 at *; omega
end Go.Proofs.Ytlgpeafphanobaa
