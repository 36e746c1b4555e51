/-
  Contracts of the document's answers of layer 11.
-/
import Derived.Test.YtlonfobeblnbbaaDoorCon11
import Derived.Test.YtlonfobeblnbbaaDoorRefP03
import Derived.Test.YtlonfobeblnbbaaDoorRef04
import Derived.Test.YtlonfobeblnbbaaDoorOne01
import Derived.Test.YtlonfobeblnbbaaDoorRoom
import Derived.Deep.DeepCutAuto
namespace Go.Proofs.YtlonfobeblnbbaaDoor
open Go.RowKit Go.BigFrame
set_option linter.unusedVariables false

theorem Of_repr (n : Int) (h : In64 n) : numOf (decide (n < 0)) 0 (mag n) = n := by
  unfold numOf mag sz
  by_cases l : n < 0
  · simp [l]
  · simp [l]
/-- Bit by bit, j bits to go. -/
def halfB : Nat → Int
  | 0 => 0
  | j + 1 => ((2 ^ j : Nat) : Int)
theorem halfB_next (j : Nat) : halfB (j + 1) / 2 = halfB j := by
  cases j with
  | zero => decide
  | succ i => show ((2 ^ (i + 1) : Nat) : Int) / 2 = ((2 ^ i : Nat) : Int); rw [Nat.pow_succ]; omega
theorem halfB_small (j : Nat) (h : j ≤ 31) : 0 ≤ halfB j ∧ halfB j ≤ 1073741824 := by
  cases j with
  | zero => decide
  | succ i =>
    have a : 2 ^ i ≤ 2 ^ 30 := Nat.pow_le_pow_right (by omega) (by omega)
    rw [show (2 : Nat) ^ 30 = 1073741824 by decide] at a
    show 0 ≤ ((2 ^ i : Nat) : Int) ∧ ((2 ^ i : Nat) : Int) ≤ 1073741824
    generalize 2 ^ i = x at *
    omega
theorem halfB_pos (j : Nat) : 0 < halfB (j + 1) := by
  have : 0 < 2 ^ j := Nat.pow_pos (by omega)
  show 0 < ((2 ^ j : Nat) : Int)
  omega
theorem halfB_top (j : Nat) : ((2 ^ (j + 1) : Nat) : Int) = 2 * halfB (j + 1) := by
  show ((2 ^ (j + 1) : Nat) : Int) = 2 * ((2 ^ j : Nat) : Int)
  rw [Nat.pow_succ]; omega
def KRel (n : Int) (W : World) (s4 s5 : Value) (wr : World) : Prop := ∃ (o b : Int) (j : Nat), s4 = .int .u64 o ∧ s5 = .int .u64 b ∧ b = halfB j ∧ j ≤ 31 ∧ 0 ≤ o ∧ o ≤ n ∧ n < o + ((2 ^ j : Nat) : Int) ∧ Kept W wr
set_option maxRecDepth 100000 in
set_option maxHeartbeats 1600000 in
theorem refLittle_any (n g c ch cl xh xl oh ol yh yl : Int) (xb ob yb v : Bool) (hc : decide (c ≤ 0) = v) (w : World) (CU : ∀ w, Calls Tryd.prog 88 #[.int .u64 n] w fun e w' => e = .returned (.tuple #[.agg #[.bool false, .int .u64 ch, .int .u64 cl], .int .i64 0]) ∧ Kept w w') (SX : ∀ w, Calls Tryd.prog 20 #[.agg #[.bool false, .int .u64 ch, .int .u64 cl], .int .u64 262144] w fun e w' => e = .returned (.tuple #[.agg #[.bool xb, .int .u64 xh, .int .u64 xl], .int .i64 0]) ∧ Kept w w') (OF : ∀ w, Calls Tryd.prog 21 #[.int .i64 g] w fun e w' => e = .returned (.agg #[.bool ob, .int .u64 oh, .int .u64 ol]) ∧ Kept w w') (SY : ∀ w, Calls Tryd.prog 20 #[.agg #[.bool ob, .int .u64 oh, .int .u64 ol], .int .u64 10000000000000000000] w fun e w' => e = .returned (.tuple #[.agg #[.bool yb, .int .u64 yh, .int .u64 yl], .int .i64 0]) ∧ Kept w w') (CM : ∀ w, Calls Tryd.prog 22 #[.agg #[.bool xb, .int .u64 xh, .int .u64 xl], .agg #[.bool yb, .int .u64 yh, .int .u64 yl]] w fun e w' => e = .returned (.int .i64 c) ∧ Kept w w') : Calls Tryd.prog 76 #[.int .u64 n, .int .i64 g] w fun e w' => e = .returned (.bool v) ∧ Kept w w' := by
  have CU' := Lib.hid CU
  have SX' := Lib.hid SX
  have OF' := Lib.hid OF
  have SY' := Lib.hid SY
  have CM' := Lib.hid CM
  clear CU SX OF SY CM
  go_enter Tryd.func76, Tryd.ntmps76
  go_wp2_with fail
  refine (CU'.out _).mono ?_
  rintro e w1 ⟨rfl, k1⟩
  go_upto_region 2 with fail
  generalize hW : World.alloc w1 (.cells #[.bool false, .int .u64 ch, .int .u64 cl] 33) = W_c
  have K_c : Kept w1 W_c := by subst hW; exact (Kept.refl _).alloc _ _
  have H_c := Lib.hid (show W_c.cell? ⟨w1.heap.size, 0, none⟩ = some (.bool false) ∧ W_c.cell? ⟨w1.heap.size, 1, none⟩ = some (.int .u64 ch) ∧ W_c.cell? ⟨w1.heap.size, 2, none⟩ = some (.int .u64 cl) from by subst hW; simp [go_sem])
  clear hW
  generalize w1.heap.size = g_c at *
  obtain ⟨c_c0, c_c1, c_c2⟩ := Kept.all3 (show Kept W_c W_c from (by (repeat (first | with_reducible exact Kept.refl _ | with_reducible apply Kept.drew | with_reducible apply Kept.alloc | ((with_reducible apply Kept.set); focus (simp <;> omega)) | ((with_reducible apply Kept.via); focus with_reducible assumption))))) H_c
  go_wp2_with fail
  refine (SX'.out _).mono ?_
  rintro e w2 ⟨rfl, k2⟩
  clear c_c0 c_c1 c_c2
  go_upto_region 5 with fail
  generalize hW : World.alloc w2 (.cells #[.bool xb, .int .u64 xh, .int .u64 xl] 33) = W_x
  have K_x : Kept w2 W_x := by subst hW; exact (Kept.refl _).alloc _ _
  have H_x := Lib.hid (show W_x.cell? ⟨w2.heap.size, 0, none⟩ = some (.bool xb) ∧ W_x.cell? ⟨w2.heap.size, 1, none⟩ = some (.int .u64 xh) ∧ W_x.cell? ⟨w2.heap.size, 2, none⟩ = some (.int .u64 xl) from by subst hW; simp [go_sem])
  clear hW
  generalize w2.heap.size = g_x at *
  go_wp2_with fail
  refine (OF'.out _).mono ?_
  rintro e w3 ⟨rfl, k3⟩
  go_wp2_with fail
  refine (SY'.out _).mono ?_
  rintro e w4 ⟨rfl, k4⟩
  go_upto_region 6 with fail
  generalize hW : World.alloc w4 (.cells #[.bool yb, .int .u64 yh, .int .u64 yl] 33) = W_y
  have K_y : Kept w4 W_y := by subst hW; exact (Kept.refl _).alloc _ _
  have H_y := Lib.hid (show W_y.cell? ⟨w4.heap.size, 0, none⟩ = some (.bool yb) ∧ W_y.cell? ⟨w4.heap.size, 1, none⟩ = some (.int .u64 yh) ∧ W_y.cell? ⟨w4.heap.size, 2, none⟩ = some (.int .u64 yl) from by subst hW; simp [go_sem])
  clear hW
  generalize w4.heap.size = g_y at *
  obtain ⟨c_x0, c_x1, c_x2⟩ := Kept.all3 (show Kept W_x W_y from (by (repeat (first | with_reducible exact Kept.refl _ | with_reducible apply Kept.drew | with_reducible apply Kept.alloc | ((with_reducible apply Kept.set); focus (simp <;> omega)) | ((with_reducible apply Kept.via); focus with_reducible assumption))))) H_x
  obtain ⟨c_y0, c_y1, c_y2⟩ := Kept.all3 (show Kept W_y W_y from (by (repeat (first | with_reducible exact Kept.refl _ | with_reducible apply Kept.drew | with_reducible apply Kept.alloc | ((with_reducible apply Kept.set); focus (simp <;> omega)) | ((with_reducible apply Kept.via); focus with_reducible assumption))))) H_y
  go_wp2_with fail
  refine (CM'.out _).mono ?_
  rintro e w5 ⟨rfl, k5⟩
  clear c_x0 c_x1 c_x2 c_y0 c_y1 c_y2
  go_wp2
  go_ret
  exact ⟨rfl, (by (repeat (first | with_reducible exact Kept.refl _ | with_reducible apply Kept.drew | with_reducible apply Kept.alloc | ((with_reducible apply Kept.set); focus (simp <;> omega)) | ((with_reducible apply Kept.via); focus with_reducible assumption))))⟩
theorem refLittle_ok {n g : Int} (v : Bool) (n0 : 0 ≤ n) (n1 : n ≤ 2147483647) (g0 : 0 ≤ g) (g1 : g ≤ 68719476736) (hv : decide (n * n * n * 262144 ≤ g * 10000000000000000000) = v) (w : World) : Calls Tryd.prog 76 #[.int .u64 n, .int .i64 g] w fun e w' => e = .returned (.bool v) ∧ Kept w w' := by
  have hn : Word n := ⟨n0, by omega⟩
  have hg : In64 g := by unfold In64; omega
  obtain ⟨ch, cl, rc⟩ := cube_rep n0 (by omega)
  have cb : n * n * n ≤ 9903520310121386148535042048 ∧ 0 ≤ n * n * n := ⟨by have := cu_le n0 n1; simpa using Int.le_trans this (by decide), cu_nonneg n0⟩
  obtain ⟨xb, xh, xl, rx⟩ := rep_ex (n * n * n * 262144) (by unfold InBig; omega)
  obtain ⟨yb, yh, yl, ry⟩ := rep_ex (g * 10000000000000000000) (by unfold InBig; omega)
  have ro := (Of_repr g hg)
  refine refLittle_any n g (cmpI (numOf xb xh xl) (numOf yb yh yl)) ch cl xh xl 0 (mag g) yh yl xb (decide (g < 0)) yb v ?_ w (fun w => refCube_ok hn rc w) (fun w => refScale_yes rc.1 rc.2.1 ⟨by omega, by omega⟩ (by rw [rc.2.2.1]; exact rx) w) (fun w => refOf_ok g hg w) (fun w => refScale_yes word_zero (mag_word hg) ⟨by omega, by omega⟩ (by rw [ro]; exact ry) w) (fun w => refCmp_ok rx.1 rx.2.1 ry.1 ry.2.1 w)
  rw [rx.2.2.1, ry.2.2.1, ← hv]
  generalize n * n * n * 262144 = a
  generalize g * 10000000000000000000 = b
  unfold cmpI
  by_cases e : a = b
  · simp [e]
  · rw [if_neg e]
    by_cases l : a < b
    · rw [if_pos l]; simp; omega
    · rw [if_neg l]; simp; omega
theorem clampLift (a b c n : Int) (hn : clampAt a b c = n) (w : World) : Calls Tryd.prog 38 #[.int .i64 a, .int .i64 b, .int .i64 c] w fun e w' => e = .returned (.int .i64 n) ∧ Kept w w' :=
  (refClamp_lit_s a b c n w hn).mono (fun _ _ ⟨h, k⟩ => ⟨h, k ▸ Kept.refl _⟩)
set_option maxRecDepth 100000 in
set_option maxHeartbeats 1600000 in
theorem refK_ok {g n : Int} (hg : In64 g) (h : KIs g n) (w : World) : Calls Tryd.prog 56 #[.int .i64 g] w fun e w' => e = .returned (.int .i64 n) ∧ Kept w w' := by
  have HK := Lib.hid h
  have nr := k_range h
  have gr := gapK_range g
  have CL := Lib.hid (fun w => clampLift g 0 68719476736 (gapK g) (by unfold clampAt gapK; rfl) w)
  obtain ⟨G, eG⟩ : ∃ G, gapK g = G := ⟨_, rfl⟩
  have LT := Lib.hid (fun (m : Int) (m0 : 0 ≤ m) (m1 : m ≤ 2147483647) w => refLittle_ok (n := m) (g := G) (decide (m ≤ n)) m0 m1 (by omega) (by omega) (by rw [← eG]; exact decide_eq_decide.2 (k_little HK.out m0)) w)
  rw [eG] at CL gr
  clear h hg
  go_enter Tryd.func56, Tryd.ntmps56
  go_wp2_with fail
  refine (CL.out _).mono ?_
  rintro e w1 ⟨rfl, k1⟩
  go_wp2_with fail
  go_loopw [4, 5] (fun s4 s5 wr => KRel n w s4 s5 wr) (fun _ s5 _ => (intOf s5).toNat)
  case atStart => exact ⟨0, 1073741824, 31, rfl, rfl, by decide, by decide, by decide, by omega, by rw [show ((2 ^ 31 : Nat) : Int) = 2147483648 by decide]; omega, k1⟩
  case round =>
    obtain ⟨o, b, j, rfl, rfl, hb, hj, o0, o1, o2, kr⟩ := hrel
    cases j with
    | zero =>
      have e : o = n := by have : ((2 ^ 0 : Nat) : Int) = 1 := by decide
                           omega
      have eb : b = 0 := hb
      have E := Lib.hid e
      clear hb e o2
      subst eb
      have n64 : o ≤ 9223372036854775807 := by omega
      go_wp2
      go_ret
      exact ⟨by rw [E.out]; rfl, kr⟩
    | succ i =>
      have hn2 := halfB_next i
      have hs := halfB_small i (by omega)
      have hs1 := halfB_small (i + 1) (by omega)
      have hp := halfB_pos i
      rw [halfB_top] at o2
      have ht : n < o + halfB (i + 1) → n < o + ((2 ^ i : Nat) : Int) := fun x => x
      have ht2 : n < o + 2 * halfB (i + 1) → n < o + halfB (i + 1) + ((2 ^ i : Nat) : Int) := fun x => by
        have : halfB (i + 1) = ((2 ^ i : Nat) : Int) := rfl
        omega
      rw [← hb] at hn2 hs1 hp o2 ht ht2
      have HT := Lib.hid ht
      have HT2 := Lib.hid ht2
      have HB2 := Lib.hid hn2
      clear ht ht2 hn2 hb
      have LTo := Lib.hid (LT.out (o + b) (by omega) (by omega))
      have b0 : 0 < b := hp
      by_cases hf : o + b ≤ n
      · have hd : decide (o + b ≤ n) = true := by simp [hf]
        go_wp2_with fail
        refine (LTo.out _).mono ?_
        rintro e w2 ⟨rfl, k2⟩
        go_wp2_with fail
        go_roundw
        case rel => exact ⟨o + b, b / 2, i, rfl, rfl, by rw [HB2.out], by omega, by omega, hf, HT2.out o2, Kept.trans kr k2⟩
        case measure => simp [intOf]; omega
      · have hd : decide (o + b ≤ n) = false := by simp; omega
        go_wp2_with fail
        refine (LTo.out _).mono ?_
        rintro e w2 ⟨rfl, k2⟩
        go_wp2_with fail
        go_roundw
        case rel => exact ⟨o, b / 2, i, rfl, rfl, by rw [HB2.out], by omega, o0, o1, HT.out (by omega), Kept.trans kr k2⟩
        case measure => simp [intOf]; omega
set_option maxRecDepth 100000 in
set_option maxHeartbeats 1600000 in
theorem refWin_yes {n : Int} (h : IsWin n) (w : World) : Calls Tryd.prog 55 #[.int .i64 n] w fun e w' => e = .returned (.bool true) ∧ Kept w w' := by
  obtain ⟨h0, h1⟩ := h
  have d0 : decide (0 ≤ n) = true := by simp [h0]
  have d1 : decide (n ≤ 68719476736) = true := by simp [h1]
  go_enter Tryd.func55, Tryd.ntmps55
  go_wp2
  go_ret
  exact ⟨rfl, Kept.refl _⟩
set_option maxRecDepth 100000 in
set_option maxHeartbeats 1600000 in
theorem refWin_no {n : Int} (h : ¬ IsWin n) (w : World) : Calls Tryd.prog 55 #[.int .i64 n] w fun e w' => e = .returned (.bool false) ∧ Kept w w' := by
  by_cases h0 : n < 0
  · have d0 : decide (0 ≤ n) = false := by simp; omega
    go_enter Tryd.func55, Tryd.ntmps55
    go_wp2
    go_ret
    exact ⟨rfl, Kept.refl _⟩
  · have d0 : decide (0 ≤ n) = true := by simp; omega
    have d1 : decide (n ≤ 68719476736) = false := by unfold IsWin at h; simp; omega
    go_enter Tryd.func55, Tryd.ntmps55
    go_wp2
    go_ret
    exact ⟨rfl, Kept.refl _⟩
theorem addLift {a b n : Int} (ha : In64 a) (hb : In64 b) (hn : heldAt (a + b) = n) (w : World) : Calls Tryd.prog 43 #[.int .i64 a, .int .i64 b] w fun e w' => e = .returned (.int .i64 n) ∧ Kept w w' :=
  (refAdd_lit_s a b n w ha hb hn).mono (fun _ _ ⟨h, k⟩ => ⟨h, k ▸ Kept.refl _⟩)
set_option maxRecDepth 100000 in
set_option maxHeartbeats 1600000 in
theorem refChk_off0 {s f m k es : Int} (h : ¬ s = 0) (w : World) : Calls Tryd.prog 30 #[.agg #[.bool false, .int .i64 s, .int .i64 f, .int .i64 m, .int .i64 k, .int .i64 es]] w fun e w' => e = .returned (.bool false) ∧ Kept w w' := by
  have h2 : (s == 0) = false := by simpa using h
  go_enter Tryd.func30, Tryd.ntmps30
  go_upto_region 1 with fail
  generalize hW : World.alloc w (.cells #[.bool false, .int .i64 s, .int .i64 f, .int .i64 m, .int .i64 k, .int .i64 es] 23) = Wh
  have KWh : Kept w Wh := by subst hW; exact (Kept.refl _).alloc _ _
  have RWh := Lib.hid (show RE Wh w.heap.size (⟨false, s, f, m, k, es⟩ : Ep) from by subst hW; exact re_new w (⟨false, s, f, m, k, es⟩ : Ep) _)
  have LWh : w.heap.size < Wh.heap.size := by subst hW; simp
  clear hW
  generalize hgWh : w.heap.size = gWh at *
  obtain ⟨c0, c1, c2, c3, c4, c5⟩ := (RWh.out).1
  go_wp2
  go_ret
  exact ⟨rfl, KWh⟩
set_option maxRecDepth 100000 in
set_option maxHeartbeats 1600000 in
theorem refChk_off1 {f m k es : Int} (h : ¬ f = 0) (w : World) : Calls Tryd.prog 30 #[.agg #[.bool false, .int .i64 0, .int .i64 f, .int .i64 m, .int .i64 k, .int .i64 es]] w fun e w' => e = .returned (.bool false) ∧ Kept w w' := by
  have h2 : (f == 0) = false := by simpa using h
  go_enter Tryd.func30, Tryd.ntmps30
  go_upto_region 1 with fail
  generalize hW : World.alloc w (.cells #[.bool false, .int .i64 0, .int .i64 f, .int .i64 m, .int .i64 k, .int .i64 es] 23) = Wh
  have KWh : Kept w Wh := by subst hW; exact (Kept.refl _).alloc _ _
  have RWh := Lib.hid (show RE Wh w.heap.size (⟨false, 0, f, m, k, es⟩ : Ep) from by subst hW; exact re_new w (⟨false, 0, f, m, k, es⟩ : Ep) _)
  have LWh : w.heap.size < Wh.heap.size := by subst hW; simp
  clear hW
  generalize hgWh : w.heap.size = gWh at *
  obtain ⟨c0, c1, c2, c3, c4, c5⟩ := (RWh.out).1
  go_wp2
  go_ret
  exact ⟨rfl, KWh⟩
set_option maxRecDepth 100000 in
set_option maxHeartbeats 1600000 in
theorem refChk_off2 {m k es : Int} (h : ¬ m = 0) (w : World) : Calls Tryd.prog 30 #[.agg #[.bool false, .int .i64 0, .int .i64 0, .int .i64 m, .int .i64 k, .int .i64 es]] w fun e w' => e = .returned (.bool false) ∧ Kept w w' := by
  have h2 : (m == 0) = false := by simpa using h
  go_enter Tryd.func30, Tryd.ntmps30
  go_upto_region 1 with fail
  generalize hW : World.alloc w (.cells #[.bool false, .int .i64 0, .int .i64 0, .int .i64 m, .int .i64 k, .int .i64 es] 23) = Wh
  have KWh : Kept w Wh := by subst hW; exact (Kept.refl _).alloc _ _
  have RWh := Lib.hid (show RE Wh w.heap.size (⟨false, 0, 0, m, k, es⟩ : Ep) from by subst hW; exact re_new w (⟨false, 0, 0, m, k, es⟩ : Ep) _)
  have LWh : w.heap.size < Wh.heap.size := by subst hW; simp
  clear hW
  generalize hgWh : w.heap.size = gWh at *
  obtain ⟨c0, c1, c2, c3, c4, c5⟩ := (RWh.out).1
  go_wp2
  go_ret
  exact ⟨rfl, KWh⟩
set_option maxRecDepth 100000 in
set_option maxHeartbeats 1600000 in
theorem refChk_off3 {k es : Int} (h : ¬ k = 0) (w : World) : Calls Tryd.prog 30 #[.agg #[.bool false, .int .i64 0, .int .i64 0, .int .i64 0, .int .i64 k, .int .i64 es]] w fun e w' => e = .returned (.bool false) ∧ Kept w w' := by
  have h2 : (k == 0) = false := by simpa using h
  go_enter Tryd.func30, Tryd.ntmps30
  go_upto_region 1 with fail
  generalize hW : World.alloc w (.cells #[.bool false, .int .i64 0, .int .i64 0, .int .i64 0, .int .i64 k, .int .i64 es] 23) = Wh
  have KWh : Kept w Wh := by subst hW; exact (Kept.refl _).alloc _ _
  have RWh := Lib.hid (show RE Wh w.heap.size (⟨false, 0, 0, 0, k, es⟩ : Ep) from by subst hW; exact re_new w (⟨false, 0, 0, 0, k, es⟩ : Ep) _)
  have LWh : w.heap.size < Wh.heap.size := by subst hW; simp
  clear hW
  generalize hgWh : w.heap.size = gWh at *
  obtain ⟨c0, c1, c2, c3, c4, c5⟩ := (RWh.out).1
  go_wp2
  go_ret
  exact ⟨rfl, KWh⟩
set_option maxRecDepth 100000 in
set_option maxHeartbeats 1600000 in
theorem refChk_off4 {es : Int} (h : ¬ es = 0) (w : World) : Calls Tryd.prog 30 #[.agg #[.bool false, .int .i64 0, .int .i64 0, .int .i64 0, .int .i64 0, .int .i64 es]] w fun e w' => e = .returned (.bool false) ∧ Kept w w' := by
  have h2 : (es == 0) = false := by simpa using h
  go_enter Tryd.func30, Tryd.ntmps30
  go_upto_region 1 with fail
  generalize hW : World.alloc w (.cells #[.bool false, .int .i64 0, .int .i64 0, .int .i64 0, .int .i64 0, .int .i64 es] 23) = Wh
  have KWh : Kept w Wh := by subst hW; exact (Kept.refl _).alloc _ _
  have RWh := Lib.hid (show RE Wh w.heap.size (⟨false, 0, 0, 0, 0, es⟩ : Ep) from by subst hW; exact re_new w (⟨false, 0, 0, 0, 0, es⟩ : Ep) _)
  have LWh : w.heap.size < Wh.heap.size := by subst hW; simp
  clear hW
  generalize hgWh : w.heap.size = gWh at *
  obtain ⟨c0, c1, c2, c3, c4, c5⟩ := (RWh.out).1
  go_wp2
  go_ret
  exact ⟨rfl, KWh⟩
set_option maxRecDepth 100000 in
set_option maxHeartbeats 1600000 in
theorem refChk_off5  (w : World) : Calls Tryd.prog 30 #[.agg #[.bool false, .int .i64 0, .int .i64 0, .int .i64 0, .int .i64 0, .int .i64 0]] w fun e w' => e = .returned (.bool true) ∧ Kept w w' := by
  go_enter Tryd.func30, Tryd.ntmps30
  go_upto_region 1 with fail
  generalize hW : World.alloc w (.cells #[.bool false, .int .i64 0, .int .i64 0, .int .i64 0, .int .i64 0, .int .i64 0] 23) = Wh
  have KWh : Kept w Wh := by subst hW; exact (Kept.refl _).alloc _ _
  have RWh := Lib.hid (show RE Wh w.heap.size (⟨false, 0, 0, 0, 0, 0⟩ : Ep) from by subst hW; exact re_new w (⟨false, 0, 0, 0, 0, 0⟩ : Ep) _)
  have LWh : w.heap.size < Wh.heap.size := by subst hW; simp
  clear hW
  generalize hgWh : w.heap.size = gWh at *
  obtain ⟨c0, c1, c2, c3, c4, c5⟩ := (RWh.out).1
  go_wp2
  go_ret
  exact ⟨rfl, KWh⟩
set_option maxRecDepth 100000 in
set_option maxHeartbeats 1600000 in
theorem refChk_s0 {s f m k es : Int} (h : s < 0) (w : World) : Calls Tryd.prog 30 #[.agg #[.bool true, .int .i64 s, .int .i64 f, .int .i64 m, .int .i64 k, .int .i64 es]] w fun e w' => e = .returned (.bool false) ∧ Kept w w' := by
  have d0 : decide (0 ≤ s) = false := by simp; omega
  go_enter Tryd.func30, Tryd.ntmps30
  go_upto_region 1 with fail
  generalize hW : World.alloc w (.cells #[.bool true, .int .i64 s, .int .i64 f, .int .i64 m, .int .i64 k, .int .i64 es] 23) = Wh
  have KWh : Kept w Wh := by subst hW; exact (Kept.refl _).alloc _ _
  have RWh := Lib.hid (show RE Wh w.heap.size (⟨true, s, f, m, k, es⟩ : Ep) from by subst hW; exact re_new w (⟨true, s, f, m, k, es⟩ : Ep) _)
  have LWh : w.heap.size < Wh.heap.size := by subst hW; simp
  clear hW
  generalize hgWh : w.heap.size = gWh at *
  obtain ⟨c0, c1, c2, c3, c4, c5⟩ := (RWh.out).1
  go_upto_region 3 with fail
  have H_h := Lib.hid (show Wh.cell? ⟨gWh, 0, none⟩ = some (.bool true) ∧ Wh.cell? ⟨gWh, 1, none⟩ = some (.int .i64 s) ∧ Wh.cell? ⟨gWh, 2, none⟩ = some (.int .i64 f) ∧ Wh.cell? ⟨gWh, 3, none⟩ = some (.int .i64 m) ∧ Wh.cell? ⟨gWh, 4, none⟩ = some (.int .i64 k) ∧ Wh.cell? ⟨gWh, 5, none⟩ = some (.int .i64 es) from RWh.out.1)
  clear c0 c1 c2 c3 c4 c5 RWh
  have B_h := Lib.hid (Kept.alln6 (show Kept Wh Wh from (by (repeat (first | with_reducible exact Kept.refl _ | with_reducible apply Kept.drew | with_reducible apply Kept.alloc | ((with_reducible apply Kept.set); focus (simp <;> omega)) | ((with_reducible apply Kept.via); focus with_reducible assumption))))) H_h)
  have kall : Kept w Wh := (by (repeat (first | with_reducible exact Kept.refl _ | with_reducible apply Kept.drew | with_reducible apply Kept.alloc | ((with_reducible apply Kept.set); focus (simp <;> omega)) | ((with_reducible apply Kept.via); focus with_reducible assumption))))
  obtain ⟨q_h0, q_h1, q_h2, q_h3, q_h4, q_h5⟩ := kwn6 B_h
  clear B_h
  refine wp_region_kept (by kernel_rfl) (by as_aux_lemma => kernel_rfl) ?_
  repeat (go_big_quiet_step (first | fail))
  refine wpQuiet_nil ?_
  intro wq hw'
  have kq : Kept Wh wq := by obtain ⟨p, rfl⟩ := hw'; exact p.k
  clear hw'
  clear kall
  have kq2 := Kept.trans KWh kq
  go_wp2
  go_ret
  exact ⟨rfl, kq2⟩
set_option maxRecDepth 100000 in
set_option maxHeartbeats 1600000 in
theorem refChk_s1 {s f m k es : Int} (h0 : 0 ≤ s) (h : 1099511627776 < s) (w : World) : Calls Tryd.prog 30 #[.agg #[.bool true, .int .i64 s, .int .i64 f, .int .i64 m, .int .i64 k, .int .i64 es]] w fun e w' => e = .returned (.bool false) ∧ Kept w w' := by
  have d0 : decide (0 ≤ s) = true := by simp; omega
  have d1 : decide (s ≤ 1099511627776) = false := by simp; omega
  go_enter Tryd.func30, Tryd.ntmps30
  go_upto_region 1 with fail
  generalize hW : World.alloc w (.cells #[.bool true, .int .i64 s, .int .i64 f, .int .i64 m, .int .i64 k, .int .i64 es] 23) = Wh
  have KWh : Kept w Wh := by subst hW; exact (Kept.refl _).alloc _ _
  have RWh := Lib.hid (show RE Wh w.heap.size (⟨true, s, f, m, k, es⟩ : Ep) from by subst hW; exact re_new w (⟨true, s, f, m, k, es⟩ : Ep) _)
  have LWh : w.heap.size < Wh.heap.size := by subst hW; simp
  clear hW
  generalize hgWh : w.heap.size = gWh at *
  obtain ⟨c0, c1, c2, c3, c4, c5⟩ := (RWh.out).1
  go_upto_region 3 with fail
  have H_h := Lib.hid (show Wh.cell? ⟨gWh, 0, none⟩ = some (.bool true) ∧ Wh.cell? ⟨gWh, 1, none⟩ = some (.int .i64 s) ∧ Wh.cell? ⟨gWh, 2, none⟩ = some (.int .i64 f) ∧ Wh.cell? ⟨gWh, 3, none⟩ = some (.int .i64 m) ∧ Wh.cell? ⟨gWh, 4, none⟩ = some (.int .i64 k) ∧ Wh.cell? ⟨gWh, 5, none⟩ = some (.int .i64 es) from RWh.out.1)
  clear c0 c1 c2 c3 c4 c5 RWh
  have B_h := Lib.hid (Kept.alln6 (show Kept Wh Wh from (by (repeat (first | with_reducible exact Kept.refl _ | with_reducible apply Kept.drew | with_reducible apply Kept.alloc | ((with_reducible apply Kept.set); focus (simp <;> omega)) | ((with_reducible apply Kept.via); focus with_reducible assumption))))) H_h)
  have kall : Kept w Wh := (by (repeat (first | with_reducible exact Kept.refl _ | with_reducible apply Kept.drew | with_reducible apply Kept.alloc | ((with_reducible apply Kept.set); focus (simp <;> omega)) | ((with_reducible apply Kept.via); focus with_reducible assumption))))
  obtain ⟨q_h0, q_h1, q_h2, q_h3, q_h4, q_h5⟩ := kwn6 B_h
  clear B_h
  refine wp_region_kept (by kernel_rfl) (by as_aux_lemma => kernel_rfl) ?_
  repeat (go_big_quiet_step (first | fail))
  refine wpQuiet_nil ?_
  intro wq hw'
  have kq : Kept Wh wq := by obtain ⟨p, rfl⟩ := hw'; exact p.k
  clear hw'
  clear kall
  have kq2 := Kept.trans KWh kq
  go_wp2
  go_ret
  exact ⟨rfl, kq2⟩
set_option maxRecDepth 100000 in
set_option maxHeartbeats 1600000 in
theorem refChk_f {s f m k es : Int} (h0 : 0 ≤ s) (h1 : s ≤ 1099511627776) (hf : ¬ IsWin f) (w : World) : Calls Tryd.prog 30 #[.agg #[.bool true, .int .i64 s, .int .i64 f, .int .i64 m, .int .i64 k, .int .i64 es]] w fun e w' => e = .returned (.bool false) ∧ Kept w w' := by
  have d0 : decide (0 ≤ s) = true := by simp; omega
  have d1 : decide (s ≤ 1099511627776) = true := by simp; omega
  have WF := Lib.hid (fun w => refWin_no hf w)
  clear hf
  go_enter Tryd.func30, Tryd.ntmps30
  go_upto_region 1 with fail
  generalize hW : World.alloc w (.cells #[.bool true, .int .i64 s, .int .i64 f, .int .i64 m, .int .i64 k, .int .i64 es] 23) = Wh
  have KWh : Kept w Wh := by subst hW; exact (Kept.refl _).alloc _ _
  have RWh := Lib.hid (show RE Wh w.heap.size (⟨true, s, f, m, k, es⟩ : Ep) from by subst hW; exact re_new w (⟨true, s, f, m, k, es⟩ : Ep) _)
  have LWh : w.heap.size < Wh.heap.size := by subst hW; simp
  clear hW
  generalize hgWh : w.heap.size = gWh at *
  obtain ⟨c0, c1, c2, c3, c4, c5⟩ := (RWh.out).1
  go_upto_region 3 with fail
  have H_h := Lib.hid (show Wh.cell? ⟨gWh, 0, none⟩ = some (.bool true) ∧ Wh.cell? ⟨gWh, 1, none⟩ = some (.int .i64 s) ∧ Wh.cell? ⟨gWh, 2, none⟩ = some (.int .i64 f) ∧ Wh.cell? ⟨gWh, 3, none⟩ = some (.int .i64 m) ∧ Wh.cell? ⟨gWh, 4, none⟩ = some (.int .i64 k) ∧ Wh.cell? ⟨gWh, 5, none⟩ = some (.int .i64 es) from RWh.out.1)
  clear c0 c1 c2 c3 c4 c5 RWh
  have B_h := Lib.hid (Kept.alln6 (show Kept Wh Wh from (by (repeat (first | with_reducible exact Kept.refl _ | with_reducible apply Kept.drew | with_reducible apply Kept.alloc | ((with_reducible apply Kept.set); focus (simp <;> omega)) | ((with_reducible apply Kept.via); focus with_reducible assumption))))) H_h)
  have kall : Kept w Wh := (by (repeat (first | with_reducible exact Kept.refl _ | with_reducible apply Kept.drew | with_reducible apply Kept.alloc | ((with_reducible apply Kept.set); focus (simp <;> omega)) | ((with_reducible apply Kept.via); focus with_reducible assumption))))
  obtain ⟨q_h0, q_h1, q_h2, q_h3, q_h4, q_h5⟩ := kwn6 B_h
  clear B_h
  refine wp_region_kept (by kernel_rfl) (by as_aux_lemma => kernel_rfl) ?_
  repeat (go_big_quiet_step (first | (with_reducible exact kept_of (WF.out _))))
  refine wpQuiet_nil ?_
  intro wq hw'
  have kq : Kept Wh wq := by obtain ⟨p, rfl⟩ := hw'; exact p.k
  clear hw'
  clear kall
  have kq2 := Kept.trans KWh kq
  go_wp2
  go_ret
  exact ⟨rfl, kq2⟩
set_option maxRecDepth 100000 in
set_option maxHeartbeats 1600000 in
theorem refChk_m {s f m k es : Int} (h0 : 0 ≤ s) (h1 : s ≤ 1099511627776) (hf : IsWin f) (hm : ¬ IsWin m) (w : World) : Calls Tryd.prog 30 #[.agg #[.bool true, .int .i64 s, .int .i64 f, .int .i64 m, .int .i64 k, .int .i64 es]] w fun e w' => e = .returned (.bool false) ∧ Kept w w' := by
  have d0 : decide (0 ≤ s) = true := by simp; omega
  have d1 : decide (s ≤ 1099511627776) = true := by simp; omega
  have WF := Lib.hid (fun w => refWin_yes hf w)
  have WM := Lib.hid (fun w => refWin_no hm w)
  clear hf hm
  go_enter Tryd.func30, Tryd.ntmps30
  go_upto_region 1 with fail
  generalize hW : World.alloc w (.cells #[.bool true, .int .i64 s, .int .i64 f, .int .i64 m, .int .i64 k, .int .i64 es] 23) = Wh
  have KWh : Kept w Wh := by subst hW; exact (Kept.refl _).alloc _ _
  have RWh := Lib.hid (show RE Wh w.heap.size (⟨true, s, f, m, k, es⟩ : Ep) from by subst hW; exact re_new w (⟨true, s, f, m, k, es⟩ : Ep) _)
  have LWh : w.heap.size < Wh.heap.size := by subst hW; simp
  clear hW
  generalize hgWh : w.heap.size = gWh at *
  obtain ⟨c0, c1, c2, c3, c4, c5⟩ := (RWh.out).1
  go_upto_region 3 with fail
  have H_h := Lib.hid (show Wh.cell? ⟨gWh, 0, none⟩ = some (.bool true) ∧ Wh.cell? ⟨gWh, 1, none⟩ = some (.int .i64 s) ∧ Wh.cell? ⟨gWh, 2, none⟩ = some (.int .i64 f) ∧ Wh.cell? ⟨gWh, 3, none⟩ = some (.int .i64 m) ∧ Wh.cell? ⟨gWh, 4, none⟩ = some (.int .i64 k) ∧ Wh.cell? ⟨gWh, 5, none⟩ = some (.int .i64 es) from RWh.out.1)
  clear c0 c1 c2 c3 c4 c5 RWh
  have B_h := Lib.hid (Kept.alln6 (show Kept Wh Wh from (by (repeat (first | with_reducible exact Kept.refl _ | with_reducible apply Kept.drew | with_reducible apply Kept.alloc | ((with_reducible apply Kept.set); focus (simp <;> omega)) | ((with_reducible apply Kept.via); focus with_reducible assumption))))) H_h)
  have kall : Kept w Wh := (by (repeat (first | with_reducible exact Kept.refl _ | with_reducible apply Kept.drew | with_reducible apply Kept.alloc | ((with_reducible apply Kept.set); focus (simp <;> omega)) | ((with_reducible apply Kept.via); focus with_reducible assumption))))
  obtain ⟨q_h0, q_h1, q_h2, q_h3, q_h4, q_h5⟩ := kwn6 B_h
  clear B_h
  refine wp_region_kept (by kernel_rfl) (by as_aux_lemma => kernel_rfl) ?_
  repeat (go_big_quiet_step (first | (with_reducible exact kept_of (WF.out _)) | (with_reducible exact kept_of (WM.out _))))
  refine wpQuiet_nil ?_
  intro wq hw'
  have kq : Kept Wh wq := by obtain ⟨p, rfl⟩ := hw'; exact p.k
  clear hw'
  clear kall
  have kq2 := Kept.trans KWh kq
  go_wp2
  go_ret
  exact ⟨rfl, kq2⟩
set_option maxRecDepth 100000 in
set_option maxHeartbeats 1600000 in
theorem refChk_e {s f m k es : Int} (h0 : 0 ≤ s) (h1 : s ≤ 1099511627776) (hf : IsWin f) (hm : IsWin m) (he : ¬ IsWin es) (w : World) : Calls Tryd.prog 30 #[.agg #[.bool true, .int .i64 s, .int .i64 f, .int .i64 m, .int .i64 k, .int .i64 es]] w fun e w' => e = .returned (.bool false) ∧ Kept w w' := by
  have d0 : decide (0 ≤ s) = true := by simp; omega
  have d1 : decide (s ≤ 1099511627776) = true := by simp; omega
  have WF := Lib.hid (fun w => refWin_yes hf w)
  have WM := Lib.hid (fun w => refWin_yes hm w)
  have WE := Lib.hid (fun w => refWin_no he w)
  clear hf hm he
  go_enter Tryd.func30, Tryd.ntmps30
  go_upto_region 1 with fail
  generalize hW : World.alloc w (.cells #[.bool true, .int .i64 s, .int .i64 f, .int .i64 m, .int .i64 k, .int .i64 es] 23) = Wh
  have KWh : Kept w Wh := by subst hW; exact (Kept.refl _).alloc _ _
  have RWh := Lib.hid (show RE Wh w.heap.size (⟨true, s, f, m, k, es⟩ : Ep) from by subst hW; exact re_new w (⟨true, s, f, m, k, es⟩ : Ep) _)
  have LWh : w.heap.size < Wh.heap.size := by subst hW; simp
  clear hW
  generalize hgWh : w.heap.size = gWh at *
  obtain ⟨c0, c1, c2, c3, c4, c5⟩ := (RWh.out).1
  go_upto_region 3 with fail
  have H_h := Lib.hid (show Wh.cell? ⟨gWh, 0, none⟩ = some (.bool true) ∧ Wh.cell? ⟨gWh, 1, none⟩ = some (.int .i64 s) ∧ Wh.cell? ⟨gWh, 2, none⟩ = some (.int .i64 f) ∧ Wh.cell? ⟨gWh, 3, none⟩ = some (.int .i64 m) ∧ Wh.cell? ⟨gWh, 4, none⟩ = some (.int .i64 k) ∧ Wh.cell? ⟨gWh, 5, none⟩ = some (.int .i64 es) from RWh.out.1)
  clear c0 c1 c2 c3 c4 c5 RWh
  have B_h := Lib.hid (Kept.alln6 (show Kept Wh Wh from (by (repeat (first | with_reducible exact Kept.refl _ | with_reducible apply Kept.drew | with_reducible apply Kept.alloc | ((with_reducible apply Kept.set); focus (simp <;> omega)) | ((with_reducible apply Kept.via); focus with_reducible assumption))))) H_h)
  have kall : Kept w Wh := (by (repeat (first | with_reducible exact Kept.refl _ | with_reducible apply Kept.drew | with_reducible apply Kept.alloc | ((with_reducible apply Kept.set); focus (simp <;> omega)) | ((with_reducible apply Kept.via); focus with_reducible assumption))))
  obtain ⟨q_h0, q_h1, q_h2, q_h3, q_h4, q_h5⟩ := kwn6 B_h
  clear B_h
  refine wp_region_kept (by kernel_rfl) (by as_aux_lemma => kernel_rfl) ?_
  repeat (go_big_quiet_step (first | (with_reducible exact kept_of (WF.out _)) | (with_reducible exact kept_of (WM.out _)) | (with_reducible exact kept_of (WE.out _))))
  refine wpQuiet_nil ?_
  intro wq hw'
  have kq : Kept Wh wq := by obtain ⟨p, rfl⟩ := hw'; exact p.k
  clear hw'
  clear kall
  have kq2 := Kept.trans KWh kq
  go_wp2
  go_ret
  exact ⟨rfl, kq2⟩
set_option maxRecDepth 100000 in
set_option maxHeartbeats 1600000 in
theorem refChk_l {s f m k es : Int} (h0 : 0 ≤ s) (h1 : s ≤ 1099511627776) (hf : IsWin f) (hm : IsWin m) (he : IsWin es) (hl : m < f) (w : World) : Calls Tryd.prog 30 #[.agg #[.bool true, .int .i64 s, .int .i64 f, .int .i64 m, .int .i64 k, .int .i64 es]] w fun e w' => e = .returned (.bool false) ∧ Kept w w' := by
  have d0 : decide (0 ≤ s) = true := by simp; omega
  have d1 : decide (s ≤ 1099511627776) = true := by simp; omega
  have d2 : decide (f ≤ m) = false := by simp; omega
  have WF := Lib.hid (fun w => refWin_yes hf w)
  have WM := Lib.hid (fun w => refWin_yes hm w)
  have WE := Lib.hid (fun w => refWin_yes he w)
  clear hf hm he
  go_enter Tryd.func30, Tryd.ntmps30
  go_upto_region 1 with fail
  generalize hW : World.alloc w (.cells #[.bool true, .int .i64 s, .int .i64 f, .int .i64 m, .int .i64 k, .int .i64 es] 23) = Wh
  have KWh : Kept w Wh := by subst hW; exact (Kept.refl _).alloc _ _
  have RWh := Lib.hid (show RE Wh w.heap.size (⟨true, s, f, m, k, es⟩ : Ep) from by subst hW; exact re_new w (⟨true, s, f, m, k, es⟩ : Ep) _)
  have LWh : w.heap.size < Wh.heap.size := by subst hW; simp
  clear hW
  generalize hgWh : w.heap.size = gWh at *
  obtain ⟨c0, c1, c2, c3, c4, c5⟩ := (RWh.out).1
  go_upto_region 3 with fail
  have H_h := Lib.hid (show Wh.cell? ⟨gWh, 0, none⟩ = some (.bool true) ∧ Wh.cell? ⟨gWh, 1, none⟩ = some (.int .i64 s) ∧ Wh.cell? ⟨gWh, 2, none⟩ = some (.int .i64 f) ∧ Wh.cell? ⟨gWh, 3, none⟩ = some (.int .i64 m) ∧ Wh.cell? ⟨gWh, 4, none⟩ = some (.int .i64 k) ∧ Wh.cell? ⟨gWh, 5, none⟩ = some (.int .i64 es) from RWh.out.1)
  clear c0 c1 c2 c3 c4 c5 RWh
  have B_h := Lib.hid (Kept.alln6 (show Kept Wh Wh from (by (repeat (first | with_reducible exact Kept.refl _ | with_reducible apply Kept.drew | with_reducible apply Kept.alloc | ((with_reducible apply Kept.set); focus (simp <;> omega)) | ((with_reducible apply Kept.via); focus with_reducible assumption))))) H_h)
  have kall : Kept w Wh := (by (repeat (first | with_reducible exact Kept.refl _ | with_reducible apply Kept.drew | with_reducible apply Kept.alloc | ((with_reducible apply Kept.set); focus (simp <;> omega)) | ((with_reducible apply Kept.via); focus with_reducible assumption))))
  obtain ⟨q_h0, q_h1, q_h2, q_h3, q_h4, q_h5⟩ := kwn6 B_h
  clear B_h
  refine wp_region_kept (by kernel_rfl) (by as_aux_lemma => kernel_rfl) ?_
  repeat (go_big_quiet_step (first | (with_reducible exact kept_of (WF.out _)) | (with_reducible exact kept_of (WM.out _)) | (with_reducible exact kept_of (WE.out _))))
  refine wpQuiet_nil ?_
  intro wq hw'
  have kq : Kept Wh wq := by obtain ⟨p, rfl⟩ := hw'; exact p.k
  clear hw'
  clear kall
  have kq2 := Kept.trans KWh kq
  go_wp2
  go_ret
  exact ⟨rfl, kq2⟩
set_option maxRecDepth 100000 in
set_option maxHeartbeats 1600000 in
theorem refChk_k {s f m k es kk : Int} (h0 : 0 ≤ s) (h1 : s ≤ 1099511627776) (hf : IsWin f) (hm : IsWin m) (he : IsWin es) (hl : f ≤ m) (hk : KIs (m - f) kk) (v : Bool) (hv : (k == kk) = v) (w : World) : Calls Tryd.prog 30 #[.agg #[.bool true, .int .i64 s, .int .i64 f, .int .i64 m, .int .i64 k, .int .i64 es]] w fun e w' => e = .returned (.bool v) ∧ Kept w w' := by
  have d0 : decide (0 ≤ s) = true := by simp; omega
  have d1 : decide (s ≤ 1099511627776) = true := by simp; omega
  have d2 : decide (f ≤ m) = true := by simp; omega
  have WF := Lib.hid (fun w => refWin_yes hf w)
  have WM := Lib.hid (fun w => refWin_yes hm w)
  have WE := Lib.hid (fun w => refWin_yes he w)
  unfold IsWin at hf hm
  have KX := Lib.hid (fun w => refK_ok (g := m - f) (n := kk) (by unfold In64; omega) hk w)
  have ew : IntKind.i64.wrap (m - f) = m - f := by rw [IntKind.wrap_i64]; omega
  clear hf hm he hk
  go_enter Tryd.func30, Tryd.ntmps30
  go_upto_region 1 with fail
  generalize hW : World.alloc w (.cells #[.bool true, .int .i64 s, .int .i64 f, .int .i64 m, .int .i64 k, .int .i64 es] 23) = Wh
  have KWh : Kept w Wh := by subst hW; exact (Kept.refl _).alloc _ _
  have RWh := Lib.hid (show RE Wh w.heap.size (⟨true, s, f, m, k, es⟩ : Ep) from by subst hW; exact re_new w (⟨true, s, f, m, k, es⟩ : Ep) _)
  have LWh : w.heap.size < Wh.heap.size := by subst hW; simp
  clear hW
  generalize hgWh : w.heap.size = gWh at *
  obtain ⟨c0, c1, c2, c3, c4, c5⟩ := (RWh.out).1
  go_upto_region 3 with fail
  have H_h := Lib.hid (show Wh.cell? ⟨gWh, 0, none⟩ = some (.bool true) ∧ Wh.cell? ⟨gWh, 1, none⟩ = some (.int .i64 s) ∧ Wh.cell? ⟨gWh, 2, none⟩ = some (.int .i64 f) ∧ Wh.cell? ⟨gWh, 3, none⟩ = some (.int .i64 m) ∧ Wh.cell? ⟨gWh, 4, none⟩ = some (.int .i64 k) ∧ Wh.cell? ⟨gWh, 5, none⟩ = some (.int .i64 es) from RWh.out.1)
  clear c0 c1 c2 c3 c4 c5 RWh
  have B_h := Lib.hid (Kept.alln6 (show Kept Wh Wh from (by (repeat (first | with_reducible exact Kept.refl _ | with_reducible apply Kept.drew | with_reducible apply Kept.alloc | ((with_reducible apply Kept.set); focus (simp <;> omega)) | ((with_reducible apply Kept.via); focus with_reducible assumption))))) H_h)
  have kall : Kept w Wh := (by (repeat (first | with_reducible exact Kept.refl _ | with_reducible apply Kept.drew | with_reducible apply Kept.alloc | ((with_reducible apply Kept.set); focus (simp <;> omega)) | ((with_reducible apply Kept.via); focus with_reducible assumption))))
  obtain ⟨q_h0, q_h1, q_h2, q_h3, q_h4, q_h5⟩ := kwn6 B_h
  clear B_h
  refine wp_region_kept (by kernel_rfl) (by as_aux_lemma => kernel_rfl) ?_
  repeat (go_big_quiet_step (first | (with_reducible exact kept_of (WF.out _)) | (with_reducible exact kept_of (WM.out _)) | (with_reducible exact kept_of (WE.out _)) | (with_reducible exact kept_of (KX.out _))))
  refine wpQuiet_nil ?_
  intro wq hw'
  have kq : Kept Wh wq := by obtain ⟨p, rfl⟩ := hw'; exact p.k
  clear hw'
  clear kall
  have kq2 := Kept.trans KWh kq
  go_wp2
  go_ret
  exact ⟨rfl, kq2⟩
theorem refCheck11_ok {h : Ep} {v : Bool} (hv : v = true ↔ MayE h) (w : World) : Calls Tryd.prog 30 #[.agg #[.bool h.on, .int .i64 h.start, .int .i64 h.first, .int .i64 h.most, .int .i64 h.k, .int .i64 h.est]] w fun e w' => e = .returned (.bool v) ∧ Kept w w' := by
  obtain ⟨on, s, f, m, k, es⟩ := h
  cases on with
  | false =>
    have go : ∀ {b : Bool}, (b = true ↔ MayE ⟨false, s, f, m, k, es⟩) → b = v := fun {b} hb => by
      cases b <;> cases v <;> simp_all
    have mk : MayE ⟨false, s, f, m, k, es⟩ ↔ s = 0 ∧ f = 0 ∧ m = 0 ∧ k = 0 ∧ es = 0 := by
      constructor
      · rintro (⟨_, a⟩ | ⟨a, _⟩)
        · exact a
        · cases a
      · exact fun x => Or.inl ⟨rfl, x⟩
    by_cases h0 : s = 0
    · subst h0
      by_cases h1 : f = 0
      · subst h1
        by_cases h2 : m = 0
        · subst h2
          by_cases h3 : k = 0
          · subst h3
            by_cases h4 : es = 0
            · subst h4; rw [← go (b := true) (by rw [mk]; simp)]; exact refChk_off5 w
            · rw [← go (b := false) (by rw [mk]; simp [h4])]; exact refChk_off4 h4 w
          · rw [← go (b := false) (by rw [mk]; simp [h3])]; exact refChk_off3 h3 w
        · rw [← go (b := false) (by rw [mk]; simp [h2])]; exact refChk_off2 h2 w
      · rw [← go (b := false) (by rw [mk]; simp [h1])]; exact refChk_off1 h1 w
    · rw [← go (b := false) (by rw [mk]; simp [h0])]; exact refChk_off0 h0 w
  | true =>
    have mk : MayE ⟨true, s, f, m, k, es⟩ ↔ (IsTime s ∧ IsWin f ∧ IsWin m ∧ IsWin es ∧ f ≤ m ∧ KIs (m - f) k) := by
      constructor
      · rintro (⟨a, _⟩ | ⟨_, a⟩)
        · cases a
        · exact a
      · exact fun x => Or.inr ⟨rfl, x⟩
    have fl : ¬ (IsTime s ∧ IsWin f ∧ IsWin m ∧ IsWin es ∧ f ≤ m ∧ KIs (m - f) k) → v = false := fun n => by
      cases v with
      | false => rfl
      | true => exact absurd (mk.1 (hv.1 rfl)) n
    by_cases h0 : 0 ≤ s
    · by_cases h1 : s ≤ 1099511627776
      · by_cases hf : IsWin f
        · by_cases hm : IsWin m
          · by_cases he : IsWin es
            · by_cases hl : f ≤ m
              · obtain ⟨kk, hk⟩ := k_ex (m - f)
                refine refChk_k h0 h1 hf hm he hl hk v ?_ w
                by_cases e : k = kk
                · subst e
                  have : v = true := hv.2 (mk.2 ⟨⟨h0, h1⟩, hf, hm, he, hl, hk⟩)
                  rw [this]; simp
                · rw [fl (fun x => e (k_uniq x.2.2.2.2.2 hk))]; simp [e]
              · rw [fl (fun x => hl x.2.2.2.2.1)]; exact refChk_l h0 h1 hf hm he (Int.not_le.1 hl) w
            · rw [fl (fun x => he x.2.2.2.1)]; exact refChk_e h0 h1 hf hm he w
          · rw [fl (fun x => hm x.2.2.1)]; exact refChk_m h0 h1 hf hm w
        · rw [fl (fun x => hf x.2.1)]; exact refChk_f h0 h1 hf w
      · rw [fl (fun x => h1 x.1.2)]; exact refChk_s1 h0 (Int.not_le.1 h1) w
    · rw [fl (fun x => h0 x.1.1)]; exact refChk_s0 (Int.not_le.1 h0) w
end Go.Proofs.YtlonfobeblnbbaaDoor
