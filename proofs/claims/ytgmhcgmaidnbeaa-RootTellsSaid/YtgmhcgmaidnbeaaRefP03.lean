/-
  Contracts of the document's answer for layer 3.
-/
import Derived.Test.YtgmhcgmaidnbeaaAwake03
import Derived.Test.YtgmhcgmaidnbeaaRefH02
import Derived.LoopTactic
import Derived.Deep.DeepCutAuto
namespace Go.Proofs.Ytgmhcgmaidnbeaa
open Go.RowKit Go.BigFrame

set_option maxHeartbeats 400000 in
theorem refSquare_ok {n h l : Int} (hn : Word n) (r : Rep false h l (n * n)) (w : World) : Calls Try.prog 13 #[.int .u64 n] w fun e w' => e = .returned (.agg #[.bool false, .int .u64 h, .int .u64 l]) ∧ Kept w w' := by
  have C := Lib.hid (fun w => refScale_yes (b := false) (h := h) (l := l) (b1 := false) (xh := 0) (xl := n) word_zero hn hn (by rw [numOf_false, sz_lo]; exact r) w)
  clear r hn
  go_enter Try.func13, Try.ntmps13
  go_wp2_with fail
  refine (C.out _).mono ?_
  rintro e w1 ⟨rfl, k1⟩
  have z1 : w.heap.size < w1.heap.size := by have := Kept.below k1; simp at this; omega
  obtain ⟨x, y, z, a1, a2, a3, b1, b2, b3⟩ : Room3 w1 w.heap.size := Room3.kept (by exact ⟨_, _, _, by first | (simp [go_sem]; done) | (simp [go_sem]; rfl), by first | (simp [go_sem]; done) | (simp [go_sem]; rfl), by first | (simp [go_sem]; done) | (simp [go_sem]; rfl), by simp [go_sem], by simp [go_sem], by simp [go_sem]⟩) k1
  go_wp2
  simp [bodyPost, results, Try.results13, go_sem, *]
  exact (by (repeat (first | with_reducible exact Kept.refl _ | with_reducible apply Kept.drew | with_reducible apply Kept.alloc | ((with_reducible apply Kept.set); focus (simp <;> omega)) | ((with_reducible apply Kept.via); focus with_reducible assumption))))
set_option maxHeartbeats 400000 in
theorem refCube_ok {n h l : Int} (hn : Word n) (r : Rep false h l (n * n * n)) (w : World) : Calls Try.prog 11 #[.int .u64 n] w fun e w' => e = .returned (.tuple #[.agg #[.bool false, .int .u64 h, .int .u64 l], .int .i64 0]) ∧ Kept w w' := by
  obtain ⟨sh, sl, rs⟩ := square_rep hn
  have C1 := Lib.hid (fun w => refSquare_ok hn rs w)
  have C2 := Lib.hid (fun w => refScale_yes (b := false) (h := h) (l := l) (b1 := false) (xh := sh) (xl := sl) rs.1 rs.2.1 hn (by rw [rs.2.2.1]; exact r) w)
  clear r hn rs
  go_enter Try.func11, Try.ntmps11
  go_wp2_with fail
  refine (C1.out _).mono ?_
  rintro e w1 ⟨rfl, k1⟩
  go_wp2_with fail
  refine (C2.out _).mono ?_
  rintro e w2 ⟨rfl, k2⟩
  obtain ⟨x, y, z, a1, a2, a3, b1, b2, b3⟩ : Room3 w2 w.heap.size := (Room3.kept (by exact ⟨_, _, _, by first | (simp [go_sem]; done) | (simp [go_sem]; rfl), by first | (simp [go_sem]; done) | (simp [go_sem]; rfl), by first | (simp [go_sem]; done) | (simp [go_sem]; rfl), by simp [go_sem], by simp [go_sem], by simp [go_sem]⟩) k1).kept k2
  go_wp2
  simp [bodyPost, results, Try.results11, go_sem, *]
  exact (by (repeat (first | with_reducible exact Kept.refl _ | with_reducible apply Kept.drew | with_reducible apply Kept.alloc | ((with_reducible apply Kept.set); focus (simp <;> omega)) | ((with_reducible apply Kept.via); focus with_reducible assumption))))
set_option maxHeartbeats 400000 in
theorem refCube_no {n : Int} (hn : Word n) (r : ¬ InBig (n * n * n)) (w : World) : Calls Try.prog 11 #[.int .u64 n] w fun e w' => e = .returned (.tuple #[.agg #[.bool false, .int .u64 0, .int .u64 0], .int .i64 10]) ∧ Kept w w' := by
  obtain ⟨sh, sl, rs⟩ := square_rep hn
  have C1 := Lib.hid (fun w => refSquare_ok hn rs w)
  have C2 := Lib.hid (fun w => refScale_no (b1 := false) (xh := sh) (xl := sl) rs.1 rs.2.1 hn (by rw [rs.2.2.1]; exact r) w)
  clear r hn rs
  go_enter Try.func11, Try.ntmps11
  go_wp2_with fail
  refine (C1.out _).mono ?_
  rintro e w1 ⟨rfl, k1⟩
  go_wp2_with fail
  refine (C2.out _).mono ?_
  rintro e w2 ⟨rfl, k2⟩
  obtain ⟨x, y, z, a1, a2, a3, b1, b2, b3⟩ : Room3 w2 w.heap.size := (Room3.kept (by exact ⟨_, _, _, by first | (simp [go_sem]; done) | (simp [go_sem]; rfl), by first | (simp [go_sem]; done) | (simp [go_sem]; rfl), by first | (simp [go_sem]; done) | (simp [go_sem]; rfl), by simp [go_sem], by simp [go_sem], by simp [go_sem]⟩) k1).kept k2
  go_wp2
  simp [bodyPost, results, Try.results11, go_sem, *]
  exact (by (repeat (first | with_reducible exact Kept.refl _ | with_reducible apply Kept.drew | with_reducible apply Kept.alloc | ((with_reducible apply Kept.set); focus (simp <;> omega)) | ((with_reducible apply Kept.via); focus with_reducible assumption))))

/-- 2 to a number. -/
def IsPow (p : Int) (k : Nat) : Prop := p = ((2 ^ k : Nat) : Int)
theorem pow_small {p : Int} {k : Nat} (h : IsPow p k) (l : k ≤ 62) : 1 ≤ p ∧ p ≤ 4611686018427387904 := by
  unfold IsPow at h
  have a : 2 ^ k ≤ 2 ^ 62 := Nat.pow_le_pow_right (by omega) l
  have b : 0 < 2 ^ k := Nat.pow_pos (by omega)
  rw [h]; rw [show (2 : Nat) ^ 62 = 4611686018427387904 by decide] at a; omega
theorem pow_next {p : Int} {k : Nat} (h : IsPow p k) : IsPow (2 * p) (k + 1) := by
  unfold IsPow at *; rw [Nat.pow_succ, h]; omega
theorem pow_half {q p : Int} {k : Nat} (h : IsPow q (k + 1)) (hp : IsPow p k) : q = 2 * p := by
  unfold IsPow at *; rw [Nat.pow_succ] at h; omega
def PowRel (k : Nat) (s3 s4 : Value) : Prop := ∃ (j : Nat) (p : Int), s4 = .int .i64 j ∧ s3 = .int .u64 p ∧ j ≤ k ∧ IsPow p j
set_option maxHeartbeats 400000 in
theorem power_ok (k : Nat) (hk : k ≤ 63) {p : Int} (hp : IsPow p k) (w : World) : Calls Try.prog 26 #[.int .i64 k] w fun e w' => e = .returned (.int .u64 p) ∧ w = w' := by
  go_enter Try.func26, Try.ntmps26
  go_wp2
  go_loop [3, 4] (fun s3 s4 => PowRel k s3 s4) (fun _ s4 => k - (intOf s4).toNat)
  case atStart => exact ⟨0, 1, rfl, rfl, by omega, rfl⟩
  case round =>
    obtain ⟨j, q, rfl, rfl, h1, h2⟩ := hrel
    by_cases hj : j < k
    · obtain ⟨b1, b2⟩ := pow_small h2 (by omega)
      have n := pow_next h2
      go_wp2
      go_round
      case rel => exact ⟨j + 1, 2 * q, by go_num, rfl, by omega, n⟩
      case measure => simp [intOf]; omega
    · have e : q = p := by have : j = k := by omega
                           subst this; unfold IsPow at *; omega
      have E := Lib.hid e
      clear e
      go_wp2
      go_ret
      exact ⟨by rw [E.out]; rfl, rfl⟩
theorem power_int {i p : Int} (h0 : 0 ≤ i) (h1 : i ≤ 63) (hp : IsPow p i.toNat) (w : World) : Calls Try.prog 26 #[.int .i64 i] w fun e w' => e = .returned (.int .u64 p) ∧ Kept w w' := by
  obtain ⟨k, rfl⟩ := Int.eq_ofNat_of_zero_le h0
  exact (power_ok k (by omega) (by simpa using hp) w).mono fun _ _ ⟨a, b⟩ => ⟨a, b ▸ Kept.refl _⟩
/-- Bit by bit: what is found lies within q below the root. -/
def BitRel (n B : Int) (W : World) (s4 s5 : Value) (wr : World) : Prop :=
  ∃ o i q : Int, s4 = .int .u64 o ∧ s5 = .int .i64 i ∧ -1 ≤ i ∧ i ≤ 63 ∧ 0 ≤ o ∧ o ≤ n ∧ n < o + q ∧ o + q ≤ B ∧ IsPow q (i + 1).toNat ∧ Kept W wr
theorem bit_step {q i : Int} (h : IsPow q (i + 1).toNat) (h0 : 0 ≤ i) : ∃ p, IsPow p i.toNat ∧ q = 2 * p ∧ 1 ≤ p := by
  refine ⟨_, rfl, ?_, ?_⟩
  · rw [show (i + 1).toNat = i.toNat + 1 by omega] at h; exact pow_half h rfl
  · have : 0 < 2 ^ i.toNat := Nat.pow_pos (by omega)
    omega
theorem bit_last {q i : Int} (h : IsPow q (i + 1).toNat) (h0 : i < 0) (h1 : -1 ≤ i) : q = 1 := by
  rw [show (i + 1).toNat = 0 by omega] at h; exact h

set_option maxRecDepth 100000 in
set_option maxHeartbeats 1600000 in
theorem refThird_ok {xb : Bool} {xh xl n : Int} (h1 : Word xh) (h2 : Word xl) (hn : IsThird (sz xh xl) n) (w : World) :
    Calls Try.prog 15 #[.agg #[.bool xb, .int .u64 xh, .int .u64 xl]] w fun e w' => e = .returned (.int .u64 n) ∧ Kept w w' := by
  have n1 : n < 8796093022208 := by have := third_most hn (sz_lt h1 h2); omega
  have n0 := hn.1
  have HN := Lib.hid hn
  clear hn
  go_enter Try.func15, Try.ntmps15
  go_upto_region 1 with fail
  generalize hW : (World.alloc w (.cells #[.bool xb, .int .u64 xh, .int .u64 xl] 24)) = W0
  have base := Lib.hid (show W0.cell? ⟨w.heap.size, 0, none⟩ = some (.bool xb) ∧ W0.cell? ⟨w.heap.size, 1, none⟩ = some (.int .u64 xh) ∧ W0.cell? ⟨w.heap.size, 2, none⟩ = some (.int .u64 xl) from by subst hW; simp [go_sem])
  have kw : Kept w W0 := by subst hW; exact (by (repeat (first | with_reducible exact Kept.refl _ | with_reducible apply Kept.drew | with_reducible apply Kept.alloc | ((with_reducible apply Kept.set); focus (simp <;> omega)) | ((with_reducible apply Kept.via); focus with_reducible assumption))))
  have zw : w.heap.size + 1 ≤ W0.heap.size := by subst hW; simp
  clear hW
  have H_x := base
  clear base
  generalize w.heap.size = g_x at *
  obtain ⟨c_x0, c_x1, c_x2⟩ := Kept.all3 (show Kept W0 W0 from (by (repeat (first | with_reducible exact Kept.refl _ | with_reducible apply Kept.drew | with_reducible apply Kept.alloc | ((with_reducible apply Kept.set); focus (simp <;> omega)) | ((with_reducible apply Kept.via); focus with_reducible assumption))))) H_x
  go_upto_region 2 with fail
  generalize hW : World.alloc W0 (.cells #[.bool false, .int .u64 xh, .int .u64 xl] 24) = W_s
  have K_s : Kept W0 W_s := by subst hW; exact (Kept.refl _).alloc _ _
  have H_s := Lib.hid (show W_s.cell? ⟨W0.heap.size, 0, none⟩ = some (.bool false) ∧ W_s.cell? ⟨W0.heap.size, 1, none⟩ = some (.int .u64 xh) ∧ W_s.cell? ⟨W0.heap.size, 2, none⟩ = some (.int .u64 xl) from by subst hW; simp [go_sem])
  clear hW
  generalize W0.heap.size = g_s at *
  clear c_x0 c_x1 c_x2
  go_wp2_with fail
  go_loopw [4, 5] (fun s4 s5 wr => BitRel n 8796093022208 W_s s4 s5 wr) (fun _ s5 _ => (intOf s5 + 1).toNat)
  case atStart => exact ⟨0, 42, 8796093022208, rfl, rfl, by omega, by omega, by omega, by omega, by omega, by omega, rfl, Kept.refl _⟩
  case round =>
    obtain ⟨o, i, q, rfl, rfl, i0, i1, o0, o1, o2, o3, hq, kr⟩ := hrel
    by_cases hi : 0 ≤ i
    · obtain ⟨p, hp, eq, p1⟩ := bit_step hq hi
      subst eq
      have hp2 : IsPow p (i - 1 + 1).toNat := by rw [show i - 1 + 1 = i by omega]; exact hp
      have hop : Word (o + p) := ⟨by omega, by omega⟩
      have PW := Lib.hid (fun w => power_int hi i1 hp w)
      have B_s := Lib.hid (Kept.all3 kr H_s)
      clear hq
      by_cases hf : o + p ≤ n
      · obtain ⟨ch, cl, r⟩ := cube_rep (n := o + p) (by omega) (by have := third_most HN.out (sz_lt h1 h2); omega)
        have hc : cmpI (numOf false ch cl) (numOf false xh xl) ≤ 0 := by rw [r.2.2.1, numOf_false]; have := (third_iff HN.out (m := o + p) (by omega)).2 hf; unfold cmpI; split; omega; rw [if_pos (by omega)]; omega
        have CU := Lib.hid (fun w => refCube_ok hop r w)
        have CM := Lib.hid (fun w => refCmp_ok (b1 := false) (b2 := false) r.1 r.2.1 h1 h2 w)
        generalize cmpI (numOf false ch cl) (numOf false xh xl) = c at *
        clear hop r h1 h2 HN
        go_wp2_with fail
        refine (PW.out _).mono ?_
        rintro e v1 ⟨rfl, j1⟩
        go_wp2_with fail
        refine (CU.out _).mono ?_
        rintro e v2 ⟨rfl, j2⟩
        obtain ⟨c0, c1, c2⟩ := Kept.all3 (j1.trans j2) B_s
        have z1 : g_s < v2.heap.size := cell_lt c0
        go_wp2_with fail
        refine (CM.out _).mono ?_
        rintro e v3 ⟨rfl, j3⟩
        go_wp2_with fail
        refine (PW.out _).mono ?_
        rintro e v4 ⟨rfl, j4⟩
        go_wp2_with fail
        go_roundw
        case rel => exact ⟨o + p, i - 1, p, rfl, rfl, by omega, by omega, by omega, by omega, by omega, by omega, hp2, kr.trans (by (repeat (first | with_reducible exact Kept.refl _ | with_reducible apply Kept.drew | with_reducible apply Kept.alloc | ((with_reducible apply Kept.set); focus (simp <;> omega)) | ((with_reducible apply Kept.via); focus with_reducible assumption))))⟩
        case measure => simp [intOf]; omega
      · by_cases hg : o + p ≤ 6981463658331
        · obtain ⟨ch, cl, r⟩ := cube_rep (n := o + p) (by omega) hg
          have hc : ¬ cmpI (numOf false ch cl) (numOf false xh xl) ≤ 0 := by rw [r.2.2.1, numOf_false]; have : ¬ (o + p) * (o + p) * (o + p) ≤ sz xh xl := fun h => hf ((third_iff HN.out (m := o + p) (by omega)).1 h); unfold cmpI; rw [if_neg (by omega), if_neg (by omega)]; omega
          have CU := Lib.hid (fun w => refCube_ok hop r w)
          have CM := Lib.hid (fun w => refCmp_ok (b1 := false) (b2 := false) r.1 r.2.1 h1 h2 w)
          generalize cmpI (numOf false ch cl) (numOf false xh xl) = c at *
          have hd : decide (c ≤ 0) = false := by simp [hc]
          clear hop r h1 h2 HN
          go_wp2_with fail
          refine (PW.out _).mono ?_
          rintro e v1 ⟨rfl, j1⟩
          go_wp2_with fail
          refine (CU.out _).mono ?_
          rintro e v2 ⟨rfl, j2⟩
          obtain ⟨c0, c1, c2⟩ := Kept.all3 (j1.trans j2) B_s
          have z1 : g_s < v2.heap.size := cell_lt c0
          go_wp2_with fail
          refine (CM.out _).mono ?_
          rintro e v3 ⟨rfl, j3⟩
          go_wp2_with fail
          go_roundw
          case rel => exact ⟨o, i - 1, p, rfl, rfl, by omega, by omega, by omega, by omega, by omega, by omega, hp2, kr.trans (by (repeat (first | with_reducible exact Kept.refl _ | with_reducible apply Kept.drew | with_reducible apply Kept.alloc | ((with_reducible apply Kept.set); focus (simp <;> omega)) | ((with_reducible apply Kept.via); focus with_reducible assumption))))⟩
          case measure => simp [intOf]; omega
        · have CU := Lib.hid (fun w => refCube_no hop (cube_over (by omega) (by omega)) w)
          clear hop h1 h2 HN
          go_wp2_with fail
          refine (PW.out _).mono ?_
          rintro e v1 ⟨rfl, j1⟩
          go_wp2_with fail
          refine (CU.out _).mono ?_
          rintro e v2 ⟨rfl, j2⟩
          go_wp2_with fail
          go_roundw
          case rel => exact ⟨o, i - 1, p, rfl, rfl, by omega, by omega, by omega, by omega, by omega, by omega, hp2, kr.trans (by (repeat (first | with_reducible exact Kept.refl _ | with_reducible apply Kept.drew | with_reducible apply Kept.alloc | ((with_reducible apply Kept.set); focus (simp <;> omega)) | ((with_reducible apply Kept.via); focus with_reducible assumption))))⟩
          case measure => simp [intOf]; omega
    · have e := bit_last hq (by omega) i0
      have E := Lib.hid (show o = n by omega)
      clear e hq HN
      go_wp2_with fail
      go_ret
      exact ⟨by rw [E.out]; rfl, (by (repeat (first | with_reducible exact Kept.refl _ | with_reducible apply Kept.drew | with_reducible apply Kept.alloc | ((with_reducible apply Kept.set); focus (simp <;> omega)) | ((with_reducible apply Kept.via); focus with_reducible assumption))))⟩

set_option maxRecDepth 100000 in
set_option maxHeartbeats 1600000 in
theorem refHalf_ok {xb : Bool} {xh xl n : Int} (h1 : Word xh) (h2 : Word xl) (hn : IsHalf (sz xh xl) n) (w : World) :
    Calls Try.prog 17 #[.agg #[.bool xb, .int .u64 xh, .int .u64 xl]] w fun e w' => e = .returned (.int .u64 n) ∧ Kept w w' := by
  have n1 : n < 18446744073709551616 := by have := half_most hn (sz_lt h1 h2); omega
  have n0 := hn.1
  have HN := Lib.hid hn
  clear hn
  go_enter Try.func17, Try.ntmps17
  go_upto_region 1 with fail
  generalize hW : (World.alloc w (.cells #[.bool xb, .int .u64 xh, .int .u64 xl] 24)) = W0
  have base := Lib.hid (show W0.cell? ⟨w.heap.size, 0, none⟩ = some (.bool xb) ∧ W0.cell? ⟨w.heap.size, 1, none⟩ = some (.int .u64 xh) ∧ W0.cell? ⟨w.heap.size, 2, none⟩ = some (.int .u64 xl) from by subst hW; simp [go_sem])
  have kw : Kept w W0 := by subst hW; exact (by (repeat (first | with_reducible exact Kept.refl _ | with_reducible apply Kept.drew | with_reducible apply Kept.alloc | ((with_reducible apply Kept.set); focus (simp <;> omega)) | ((with_reducible apply Kept.via); focus with_reducible assumption))))
  have zw : w.heap.size + 1 ≤ W0.heap.size := by subst hW; simp
  clear hW
  have H_x := base
  clear base
  generalize w.heap.size = g_x at *
  obtain ⟨c_x0, c_x1, c_x2⟩ := Kept.all3 (show Kept W0 W0 from (by (repeat (first | with_reducible exact Kept.refl _ | with_reducible apply Kept.drew | with_reducible apply Kept.alloc | ((with_reducible apply Kept.set); focus (simp <;> omega)) | ((with_reducible apply Kept.via); focus with_reducible assumption))))) H_x
  go_upto_region 2 with fail
  generalize hW : World.alloc W0 (.cells #[.bool false, .int .u64 xh, .int .u64 xl] 24) = W_s
  have K_s : Kept W0 W_s := by subst hW; exact (Kept.refl _).alloc _ _
  have H_s := Lib.hid (show W_s.cell? ⟨W0.heap.size, 0, none⟩ = some (.bool false) ∧ W_s.cell? ⟨W0.heap.size, 1, none⟩ = some (.int .u64 xh) ∧ W_s.cell? ⟨W0.heap.size, 2, none⟩ = some (.int .u64 xl) from by subst hW; simp [go_sem])
  clear hW
  generalize W0.heap.size = g_s at *
  clear c_x0 c_x1 c_x2
  go_wp2_with fail
  go_loopw [4, 5] (fun s4 s5 wr => BitRel n 18446744073709551616 W_s s4 s5 wr) (fun _ s5 _ => (intOf s5 + 1).toNat)
  case atStart => exact ⟨0, 63, 18446744073709551616, rfl, rfl, by omega, by omega, by omega, by omega, by omega, by omega, rfl, Kept.refl _⟩
  case round =>
    obtain ⟨o, i, q, rfl, rfl, i0, i1, o0, o1, o2, o3, hq, kr⟩ := hrel
    by_cases hi : 0 ≤ i
    · obtain ⟨p, hp, eq, p1⟩ := bit_step hq hi
      subst eq
      have hp2 : IsPow p (i - 1 + 1).toNat := by rw [show i - 1 + 1 = i by omega]; exact hp
      have hop : Word (o + p) := ⟨by omega, by omega⟩
      have PW := Lib.hid (fun w => power_int hi i1 hp w)
      have B_s := Lib.hid (Kept.all3 kr H_s)
      clear hq
      obtain ⟨ch, cl, r⟩ := square_rep hop
      have SQ := Lib.hid (fun w => refSquare_ok hop r w)
      have CM := Lib.hid (fun w => refCmp_ok (b1 := false) (b2 := false) r.1 r.2.1 h1 h2 w)
      have hc : cmpI (numOf false ch cl) (numOf false xh xl) ≤ 0 ↔ o + p ≤ n := by rw [r.2.2.1, numOf_false, ← half_iff HN.out (m := o + p) (by omega)]; unfold cmpI; split; omega; split <;> omega
      generalize cmpI (numOf false ch cl) (numOf false xh xl) = c at *
      have HC := Lib.hid hc
      have hw : IntKind.u64.wrap (o + p) = o + p := by rw [IntKind.wrap_u64]; unfold Word at hop; omega
      clear hop r h1 h2 HN hc
      by_cases hf : o + p ≤ n
      · have hd : decide (c ≤ 0) = true := by simp [HC.out, hf]
        clear HC
        go_upto_region 6 with fail
        obtain ⟨q_s0, q_s1, q_s2⟩ := kw3 B_s
        clear B_s
        refine wp_region_kept (by kernel_rfl) (by as_aux_lemma => kernel_rfl) ?_
        repeat (go_big_quiet_step (first | (with_reducible exact kept_of (PW.out _)) | (with_reducible exact kept_of (SQ.out _)) | (with_reducible exact kept_of (CM.out _))))
        refine wpQuiet_nil ?_
        intro wq hw'
        have kq : Kept wr wq := by obtain ⟨p, rfl⟩ := hw'; exact p.k
        clear hw'
        clear q_s0 q_s1 q_s2 hw
        go_wp2_with fail
        refine (PW.out _).mono ?_
        rintro e v4 ⟨rfl, j4⟩
        go_wp2_with fail
        go_roundw
        case rel => exact ⟨o + p, i - 1, p, rfl, rfl, by omega, by omega, by omega, by omega, by omega, by omega, hp2, kr.trans (by (repeat (first | with_reducible exact Kept.refl _ | with_reducible apply Kept.drew | with_reducible apply Kept.alloc | ((with_reducible apply Kept.set); focus (simp <;> omega)) | ((with_reducible apply Kept.via); focus with_reducible assumption))))⟩
        case measure => simp [intOf]; omega
      · have hd : decide (c ≤ 0) = false := by simp [HC.out]; omega
        clear HC
        go_upto_region 6 with fail
        obtain ⟨q_s0, q_s1, q_s2⟩ := kw3 B_s
        clear B_s
        refine wp_region_kept (by kernel_rfl) (by as_aux_lemma => kernel_rfl) ?_
        repeat (go_big_quiet_step (first | (with_reducible exact kept_of (PW.out _)) | (with_reducible exact kept_of (SQ.out _)) | (with_reducible exact kept_of (CM.out _))))
        refine wpQuiet_nil ?_
        intro wq hw'
        have kq : Kept wr wq := by obtain ⟨p, rfl⟩ := hw'; exact p.k
        clear hw'
        clear q_s0 q_s1 q_s2 hw
        go_wp2_with fail
        go_roundw
        case rel => exact ⟨o, i - 1, p, rfl, rfl, by omega, by omega, by omega, by omega, by omega, by omega, hp2, kr.trans (by (repeat (first | with_reducible exact Kept.refl _ | with_reducible apply Kept.drew | with_reducible apply Kept.alloc | ((with_reducible apply Kept.set); focus (simp <;> omega)) | ((with_reducible apply Kept.via); focus with_reducible assumption))))⟩
        case measure => simp [intOf]; omega
    · have e := bit_last hq (by omega) i0
      have E := Lib.hid (show o = n by omega)
      clear e hq HN
      go_wp2_with fail
      go_ret
      exact ⟨by rw [E.out]; rfl, (by (repeat (first | with_reducible exact Kept.refl _ | with_reducible apply Kept.drew | with_reducible apply Kept.alloc | ((with_reducible apply Kept.set); focus (simp <;> omega)) | ((with_reducible apply Kept.via); focus with_reducible assumption))))⟩
end Go.Proofs.Ytgmhcgmaidnbeaa
