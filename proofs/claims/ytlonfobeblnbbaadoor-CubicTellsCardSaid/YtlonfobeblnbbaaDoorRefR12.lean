/-
  The document's Reach, bit by bit.
-/
import Derived.Test.YtlonfobeblnbbaaDoorRef12
import Derived.Deep.DeepCutAuto
namespace Go.Proofs.YtlonfobeblnbbaaDoor
open Go.RowKit Go.BigFrame
set_option linter.unusedVariables false

set_option maxRecDepth 100000 in
set_option maxHeartbeats 1600000 in
theorem refRe_no {on : Bool} {s f m k es x : Int}  (w : World) (CK0 : ∀ w, Calls Tryd.prog 30 #[.agg #[.bool on, .int .i64 s, .int .i64 f, .int .i64 m, .int .i64 k, .int .i64 es]] w fun e w' => e = .returned (.bool false) ∧ Kept w w') : Calls Tryd.prog 12 #[.agg #[.bool on, .int .i64 s, .int .i64 f, .int .i64 m, .int .i64 k, .int .i64 es], .int .i64 x] w fun e w' => e = .returned (.tuple #[.int .i64 0, .bool false]) ∧ Kept w w' := by
  have CK := Lib.hid CK0
  clear CK0
  go_enter Tryd.func12, Tryd.ntmps12
  go_upto_region 1 with fail
  generalize hW : World.alloc w (.cells #[.bool on, .int .i64 s, .int .i64 f, .int .i64 m, .int .i64 k, .int .i64 es] 23) = We
  have KWe : Kept w We := by subst hW; exact (Kept.refl _).alloc _ _
  have RWe := Lib.hid (show RE We w.heap.size (⟨on, s, f, m, k, es⟩ : Ep) from by subst hW; exact re_new w (⟨on, s, f, m, k, es⟩ : Ep) _)
  have LWe : w.heap.size < We.heap.size := by subst hW; simp
  clear hW
  generalize hgWe : w.heap.size = gWe at *
  clear LWe
  have kz1 := KWe
  obtain ⟨ce0, ce1, ce2, ce3, ce4, ce5⟩ := (RWe.out).1
  go_wp2_with fail
  refine (CK.out _).mono ?_
  rintro e w2 ⟨rfl, k2⟩
  clear ce0 ce1 ce2 ce3 ce4 ce5
  have Re2 := Lib.hid (RWe.out.kept k2)
  clear RWe
  have kz2 := Kept.trans kz1 k2
  clear kz1 k2
  obtain ⟨ce0, ce1, ce2, ce3, ce4, ce5⟩ := (Re2.out).1
  go_wp2
  go_ret2
  exact ⟨rfl, kz2⟩
set_option maxRecDepth 100000 in
set_option maxHeartbeats 1600000 in
theorem refRe_off {s f m k es x : Int}  (w : World) (CK0 : ∀ w, Calls Tryd.prog 30 #[.agg #[.bool false, .int .i64 s, .int .i64 f, .int .i64 m, .int .i64 k, .int .i64 es]] w fun e w' => e = .returned (.bool true) ∧ Kept w w') : Calls Tryd.prog 12 #[.agg #[.bool false, .int .i64 s, .int .i64 f, .int .i64 m, .int .i64 k, .int .i64 es], .int .i64 x] w fun e w' => e = .returned (.tuple #[.int .i64 0, .bool false]) ∧ Kept w w' := by
  have CK := Lib.hid CK0
  clear CK0
  go_enter Tryd.func12, Tryd.ntmps12
  go_upto_region 1 with fail
  generalize hW : World.alloc w (.cells #[.bool false, .int .i64 s, .int .i64 f, .int .i64 m, .int .i64 k, .int .i64 es] 23) = We
  have KWe : Kept w We := by subst hW; exact (Kept.refl _).alloc _ _
  have RWe := Lib.hid (show RE We w.heap.size (⟨false, s, f, m, k, es⟩ : Ep) from by subst hW; exact re_new w (⟨false, s, f, m, k, es⟩ : Ep) _)
  have LWe : w.heap.size < We.heap.size := by subst hW; simp
  clear hW
  generalize hgWe : w.heap.size = gWe at *
  clear LWe
  have kz1 := KWe
  obtain ⟨ce0, ce1, ce2, ce3, ce4, ce5⟩ := (RWe.out).1
  go_wp2_with fail
  refine (CK.out _).mono ?_
  rintro e w2 ⟨rfl, k2⟩
  clear ce0 ce1 ce2 ce3 ce4 ce5
  have Re2 := Lib.hid (RWe.out.kept k2)
  clear RWe
  have kz2 := Kept.trans kz1 k2
  clear kz1 k2
  obtain ⟨ce0, ce1, ce2, ce3, ce4, ce5⟩ := (Re2.out).1
  go_wp2
  go_ret2
  exact ⟨rfl, kz2⟩
set_option maxRecDepth 100000 in
set_option maxHeartbeats 1600000 in
theorem refRe_far {s f m k es x : Int} (hi : In64E (⟨true, s, f, m, k, es⟩ : Ep)) (s0 : 0 ≤ s) (s1 : s ≤ 1099511627776) (k0 : 0 ≤ k) (k1 : k ≤ 137883820) {v1 : Int} (e1 : atN (⟨true, s, f, m, k, es⟩ : Ep) (s + 2147483648 + k) = v1) (h : v1 < x) (w : World) (CK0 : ∀ w, Calls Tryd.prog 30 #[.agg #[.bool true, .int .i64 s, .int .i64 f, .int .i64 m, .int .i64 k, .int .i64 es]] w fun e w' => e = .returned (.bool true) ∧ Kept w w') : Calls Tryd.prog 12 #[.agg #[.bool true, .int .i64 s, .int .i64 f, .int .i64 m, .int .i64 k, .int .i64 es], .int .i64 x] w fun e w' => e = .returned (.tuple #[.int .i64 0, .bool false]) ∧ Kept w w' := by
  have CK := Lib.hid CK0
  clear CK0
  have Q1 := Lib.hid (fun w => refAt_ok hi (by unfold In64; omega) e1 w)
  have d1 : decide (v1 < x) = true := by simp; omega
  clear e1 hi
  go_enter Tryd.func12, Tryd.ntmps12
  go_upto_region 1 with fail
  generalize hW : World.alloc w (.cells #[.bool true, .int .i64 s, .int .i64 f, .int .i64 m, .int .i64 k, .int .i64 es] 23) = We
  have KWe : Kept w We := by subst hW; exact (Kept.refl _).alloc _ _
  have RWe := Lib.hid (show RE We w.heap.size (⟨true, s, f, m, k, es⟩ : Ep) from by subst hW; exact re_new w (⟨true, s, f, m, k, es⟩ : Ep) _)
  have LWe : w.heap.size < We.heap.size := by subst hW; simp
  clear hW
  generalize hgWe : w.heap.size = gWe at *
  clear LWe
  have kz1 := KWe
  obtain ⟨ce0, ce1, ce2, ce3, ce4, ce5⟩ := (RWe.out).1
  go_wp2_with fail
  refine (CK.out _).mono ?_
  rintro e w2 ⟨rfl, k2⟩
  clear ce0 ce1 ce2 ce3 ce4 ce5
  have Re2 := Lib.hid (RWe.out.kept k2)
  clear RWe
  have kz2 := Kept.trans kz1 k2
  clear kz1 k2
  obtain ⟨ce0, ce1, ce2, ce3, ce4, ce5⟩ := (Re2.out).1
  go_wp2_with fail
  refine (Q1.out _).mono ?_
  rintro e w3 ⟨rfl, k3⟩
  clear ce0 ce1 ce2 ce3 ce4 ce5
  have Re3 := Lib.hid (Re2.out.kept k3)
  clear Re2
  have kz3 := Kept.trans kz2 k3
  clear kz2 k3
  obtain ⟨ce0, ce1, ce2, ce3, ce4, ce5⟩ := (Re3.out).1
  go_wp2
  go_ret2
  exact ⟨rfl, kz3⟩
set_option maxRecDepth 100000 in
set_option maxHeartbeats 1600000 in
theorem refRe_at {s f m k es x : Int} (hi : In64E (⟨true, s, f, m, k, es⟩ : Ep)) (s0 : 0 ≤ s) (s1 : s ≤ 1099511627776) (k0 : 0 ≤ k) (k1 : k ≤ 137883820) {v1 : Int} (e1 : atN (⟨true, s, f, m, k, es⟩ : Ep) (s + 2147483648 + k) = v1) (h : x ≤ v1) {v2 : Int} (e2 : atN (⟨true, s, f, m, k, es⟩ : Ep) s = v2) (h2 : x ≤ v2) (w : World) (CK0 : ∀ w, Calls Tryd.prog 30 #[.agg #[.bool true, .int .i64 s, .int .i64 f, .int .i64 m, .int .i64 k, .int .i64 es]] w fun e w' => e = .returned (.bool true) ∧ Kept w w') : Calls Tryd.prog 12 #[.agg #[.bool true, .int .i64 s, .int .i64 f, .int .i64 m, .int .i64 k, .int .i64 es], .int .i64 x] w fun e w' => e = .returned (.tuple #[.int .i64 0, .bool true]) ∧ Kept w w' := by
  have CK := Lib.hid CK0
  clear CK0
  have Q1 := Lib.hid (fun w => refAt_ok hi (by unfold In64; omega) e1 w)
  have Q2 := Lib.hid (fun w => refAt_ok hi (by unfold In64; omega) e2 w)
  have d1 : decide (v1 < x) = false := by simp; omega
  have d2 : decide (x ≤ v2) = true := by simp; omega
  clear e1 e2 hi
  go_enter Tryd.func12, Tryd.ntmps12
  go_upto_region 1 with fail
  generalize hW : World.alloc w (.cells #[.bool true, .int .i64 s, .int .i64 f, .int .i64 m, .int .i64 k, .int .i64 es] 23) = We
  have KWe : Kept w We := by subst hW; exact (Kept.refl _).alloc _ _
  have RWe := Lib.hid (show RE We w.heap.size (⟨true, s, f, m, k, es⟩ : Ep) from by subst hW; exact re_new w (⟨true, s, f, m, k, es⟩ : Ep) _)
  have LWe : w.heap.size < We.heap.size := by subst hW; simp
  clear hW
  generalize hgWe : w.heap.size = gWe at *
  clear LWe
  have kz1 := KWe
  obtain ⟨ce0, ce1, ce2, ce3, ce4, ce5⟩ := (RWe.out).1
  go_wp2_with fail
  refine (CK.out _).mono ?_
  rintro e w2 ⟨rfl, k2⟩
  clear ce0 ce1 ce2 ce3 ce4 ce5
  have Re2 := Lib.hid (RWe.out.kept k2)
  clear RWe
  have kz2 := Kept.trans kz1 k2
  clear kz1 k2
  obtain ⟨ce0, ce1, ce2, ce3, ce4, ce5⟩ := (Re2.out).1
  go_wp2_with fail
  refine (Q1.out _).mono ?_
  rintro e w3 ⟨rfl, k3⟩
  clear ce0 ce1 ce2 ce3 ce4 ce5
  have Re3 := Lib.hid (Re2.out.kept k3)
  clear Re2
  have kz3 := Kept.trans kz2 k3
  clear kz2 k3
  obtain ⟨ce0, ce1, ce2, ce3, ce4, ce5⟩ := (Re3.out).1
  go_wp2_with fail
  refine (Q2.out _).mono ?_
  rintro e w4 ⟨rfl, k4⟩
  clear ce0 ce1 ce2 ce3 ce4 ce5
  have Re4 := Lib.hid (Re3.out.kept k4)
  clear Re3
  have kz4 := Kept.trans kz3 k4
  clear kz3 k4
  obtain ⟨ce0, ce1, ce2, ce3, ce4, ce5⟩ := (Re4.out).1
  go_wp2
  go_ret2
  exact ⟨rfl, kz4⟩
def XRel (n : Int) (W : World) (s7 s8 : Value) (wr : World) : Prop := ∃ (o b : Int) (j : Nat), s7 = .int .i64 o ∧ s8 = .int .i64 b ∧ b = halfB j ∧ j ≤ 33 ∧ 0 ≤ o ∧ o ≤ n - 1 ∧ n - 1 < o + ((2 ^ j : Nat) : Int) ∧ Kept W wr
theorem halfB_most (j : Nat) (h : j ≤ 33) : 0 ≤ halfB j ∧ halfB j ≤ 4294967296 := by
  cases j with
  | zero => decide
  | succ i =>
    have a : 2 ^ i ≤ 2 ^ 32 := Nat.pow_le_pow_right (by omega) (by omega)
    rw [show (2 : Nat) ^ 32 = 4294967296 by decide] at a
    show 0 ≤ ((2 ^ i : Nat) : Int) ∧ ((2 ^ i : Nat) : Int) ≤ 4294967296
    generalize 2 ^ i = x at *
    omega
set_option maxRecDepth 100000 in
set_option maxHeartbeats 1600000 in
theorem refRe_loop {s f m k es x n : Int} (hi : In64E (⟨true, s, f, m, k, es⟩ : Ep)) (s0 : 0 ≤ s) (s1 : s ≤ 1099511627776) (k0 : 0 ≤ k) (k1 : k ≤ 137883820) {v1 : Int} (e1 : atN (⟨true, s, f, m, k, es⟩ : Ep) (s + 2147483648 + k) = v1) (h : x ≤ v1) {v2 : Int} (e2 : atN (⟨true, s, f, m, k, es⟩ : Ep) s = v2) (h2 : v2 < x) (n0 : 1 ≤ n) (n1 : n ≤ 2147483648 + k) (c1 : ∀ p, p < n → atN (⟨true, s, f, m, k, es⟩ : Ep) (s + p) < x) (c2 : ∀ p, n ≤ p → x ≤ atN (⟨true, s, f, m, k, es⟩ : Ep) (s + p)) (w : World) (CK0 : ∀ w, Calls Tryd.prog 30 #[.agg #[.bool true, .int .i64 s, .int .i64 f, .int .i64 m, .int .i64 k, .int .i64 es]] w fun e w' => e = .returned (.bool true) ∧ Kept w w') : Calls Tryd.prog 12 #[.agg #[.bool true, .int .i64 s, .int .i64 f, .int .i64 m, .int .i64 k, .int .i64 es], .int .i64 x] w fun e w' => e = .returned (.tuple #[.int .i64 n, .bool true]) ∧ Kept w w' := by
  have CK := Lib.hid CK0
  clear CK0
  have Q1 := Lib.hid (fun w => refAt_ok hi (by unfold In64; omega) e1 w)
  have Q2 := Lib.hid (fun w => refAt_ok hi (by unfold In64; omega) e2 w)
  have d1 : decide (v1 < x) = false := by simp; omega
  have d2 : decide (x ≤ v2) = false := by simp; omega
  have C1 := Lib.hid c1
  have C2 := Lib.hid c2
  have HI := Lib.hid hi
  clear e1 e2 hi c1 c2
  go_enter Tryd.func12, Tryd.ntmps12
  go_upto_region 1 with fail
  generalize hW : World.alloc w (.cells #[.bool true, .int .i64 s, .int .i64 f, .int .i64 m, .int .i64 k, .int .i64 es] 23) = We
  have KWe : Kept w We := by subst hW; exact (Kept.refl _).alloc _ _
  have RWe := Lib.hid (show RE We w.heap.size (⟨true, s, f, m, k, es⟩ : Ep) from by subst hW; exact re_new w (⟨true, s, f, m, k, es⟩ : Ep) _)
  have LWe : w.heap.size < We.heap.size := by subst hW; simp
  clear hW
  generalize hgWe : w.heap.size = gWe at *
  clear LWe
  have kz1 := KWe
  obtain ⟨ce0, ce1, ce2, ce3, ce4, ce5⟩ := (RWe.out).1
  go_wp2_with fail
  refine (CK.out _).mono ?_
  rintro e w2 ⟨rfl, k2⟩
  clear ce0 ce1 ce2 ce3 ce4 ce5
  have Re2 := Lib.hid (RWe.out.kept k2)
  clear RWe
  have kz2 := Kept.trans kz1 k2
  clear kz1 k2
  obtain ⟨ce0, ce1, ce2, ce3, ce4, ce5⟩ := (Re2.out).1
  go_wp2_with fail
  refine (Q1.out _).mono ?_
  rintro e w3 ⟨rfl, k3⟩
  clear ce0 ce1 ce2 ce3 ce4 ce5
  have Re3 := Lib.hid (Re2.out.kept k3)
  clear Re2
  have kz3 := Kept.trans kz2 k3
  clear kz2 k3
  obtain ⟨ce0, ce1, ce2, ce3, ce4, ce5⟩ := (Re3.out).1
  go_wp2_with fail
  refine (Q2.out _).mono ?_
  rintro e w4 ⟨rfl, k4⟩
  clear ce0 ce1 ce2 ce3 ce4 ce5
  have Re4 := Lib.hid (Re3.out.kept k4)
  clear Re3
  have kz4 := Kept.trans kz3 k4
  clear kz3 k4
  have RW := Re4
  have kW := Lib.hid kz4
  clear Re4 kz4
  obtain ⟨c0, c1, c2, c3, c4, c5⟩ := (RW.out).1
  go_upto_region 8 with fail
  clear c0 c1 c2 c3 c4 c5
  go_loopw [7, 8] (fun s7 s8 wr => XRel n w4 s7 s8 wr) (fun _ s8 _ => (intOf s8).toNat)
  case atStart => exact ⟨0, 4294967296, 33, rfl, rfl, by decide, by decide, by decide, by omega, by rw [show ((2 ^ 33 : Nat) : Int) = 8589934592 by decide]; omega, Kept.refl _⟩
  case round =>
    obtain ⟨o, b, j, rfl, rfl, hb, hj, o0, o1, o2, kr⟩ := hrel
    have RR := Lib.hid (RW.out.kept kr)
    cases j with
    | zero =>
      have e : o + 1 = n := by have : ((2 ^ 0 : Nat) : Int) = 1 := by decide
                               omega
      have eb : b = 0 := hb
      have E := Lib.hid e
      clear hb e o2
      subst eb
      have n64 : o + 1 ≤ 9223372036854775807 := by omega
      go_wp2
      go_ret2
      exact ⟨by rw [← E.out]; rfl, Kept.trans kW.out kr⟩
    | succ i =>
      have hn2 := halfB_next i
      have hs := halfB_most i (by omega)
      have hs1 := halfB_most (i + 1) (by omega)
      have hp := halfB_pos i
      rw [halfB_top] at o2
      have ht : n - 1 < o + halfB (i + 1) → n - 1 < o + ((2 ^ i : Nat) : Int) := fun x => x
      have ht2 : n - 1 < o + 2 * halfB (i + 1) → n - 1 < o + halfB (i + 1) + ((2 ^ i : Nat) : Int) := fun x => by
        have : halfB (i + 1) = ((2 ^ i : Nat) : Int) := rfl
        omega
      rw [← hb] at hn2 hs1 hp o2 ht ht2
      have HT := Lib.hid ht
      have HT2 := Lib.hid ht2
      obtain ⟨c, hc⟩ : ∃ c, b / 2 = c := ⟨_, rfl⟩
      rw [hc] at hn2
      have hcb : 0 ≤ c ∧ c < b := by omega
      have hq : b.tdiv 2 = c := by rw [Int.tdiv_eq_ediv_of_nonneg (by omega)]; exact hc
      have hw64 : wrap64 c = c := by unfold wrap64; omega
      have HB2 := Lib.hid hn2
      clear ht ht2 hn2 hb hc
      have b0 : 0 < b := hp
      by_cases htop : 2147483648 + k < o + b
      · have d3 : decide (o + b ≤ 2147483648 + k) = false := by simp; omega
        obtain ⟨c0, c1, c2, c3, c4, c5⟩ := (RR.out).1
        go_wp2_with fail
        go_roundw
        case rel => exact ⟨o, c, i, rfl, rfl, HB2.out, by omega, o0, o1, HT.out (by omega), kr⟩
        case measure => simp [intOf]; omega
      · have d3 : decide (o + b ≤ 2147483648 + k) = true := by simp; omega
        obtain ⟨v, ev⟩ : ∃ v, atN (⟨true, s, f, m, k, es⟩ : Ep) (s + o + b) = v := ⟨_, rfl⟩
        have QA := Lib.hid (fun w => refAt_ok HI.out (by unfold In64; omega) ev w)
        have ev2 : atN (⟨true, s, f, m, k, es⟩ : Ep) (s + (o + b)) = v := by rw [← Int.add_assoc]; exact ev
        by_cases hv : v < x
        · have d4 : decide (v < x) = true := by simp [hv]
          have lt : o + b ≤ n - 1 := by
            by_cases z : n ≤ o + b
            · have := C2.out _ z; omega
            · omega
          clear ev ev2
          obtain ⟨c0, c1, c2, c3, c4, c5⟩ := (RR.out).1
          go_wp2_with fail
          refine (QA.out _).mono ?_
          rintro e u1 ⟨rfl, j1⟩
          clear c0 c1 c2 c3 c4 c5
          go_wp2_with fail
          go_roundw
          case rel => exact ⟨o + b, c, i, rfl, rfl, HB2.out, by omega, by omega, lt, HT2.out o2, Kept.trans kr j1⟩
          case measure => simp [intOf]; omega
        · have d4 : decide (v < x) = false := by simp; omega
          have lt : n - 1 < o + b := by
            by_cases z : o + b < n
            · have := C1.out _ z; omega
            · omega
          clear ev ev2
          obtain ⟨c0, c1, c2, c3, c4, c5⟩ := (RR.out).1
          go_wp2_with fail
          refine (QA.out _).mono ?_
          rintro e u1 ⟨rfl, j1⟩
          clear c0 c1 c2 c3 c4 c5
          go_wp2_with fail
          go_roundw
          case rel => exact ⟨o, c, i, rfl, rfl, HB2.out, by omega, o0, o1, HT.out lt, Kept.trans kr j1⟩
          case measure => simp [intOf]; omega
theorem refReach_ok {h : Ep} {x n : Int} {b : Bool} (hi : In64E h) (e : ReachIs h x n b) (w : World) : Calls Tryd.prog 12 #[.agg #[.bool h.on, .int .i64 h.start, .int .i64 h.first, .int .i64 h.most, .int .i64 h.k, .int .i64 h.est], .int .i64 x] w fun e w' => e = .returned (.tuple #[.int .i64 n, .bool b]) ∧ Kept w w' := by
  obtain ⟨on, s, f, m, k, es⟩ := h
  by_cases hm : MayE ⟨on, s, f, m, k, es⟩
  · have CK := fun w => refCheck11_ok (h := ⟨on, s, f, m, k, es⟩) (v := true) ⟨fun _ => hm, fun _ => rfl⟩ w
    cases on with
    | false =>
      obtain ⟨rfl, rfl⟩ := reach_one e (Or.inl ⟨fun z => (by have := z.1.2; cases this), rfl, rfl⟩)
      exact refRe_off w CK
    | true =>
      have O : OnE ⟨true, s, f, m, k, es⟩ := ⟨hm, rfl⟩
      have q := onE_in O
      obtain ⟨q1, q2, q3, q4, q5, q6⟩ := q
      have tp : atN ⟨true, s, f, m, k, es⟩ (s + 2147483648 + k) = 68719476736 := (atN_on O _).trans (atV_top O)
      rcases e with ⟨h0, rfl, rfl⟩ | ⟨_, h1, rfl, h2, h3, h4, h5⟩
      · exact refRe_far hi q1.1 q1.2 q5 q6 tp (by by_cases z : x ≤ 68719476736; exact absurd ⟨O, z⟩ h0; omega) w CK
      · by_cases z : n = 0
        · subst z
          have h4' : x ≤ atV ⟨true, s, f, m, k, es⟩ s := by
            have : x ≤ atV ⟨true, s, f, m, k, es⟩ (s + 0) := h4
            rw [Int.add_zero] at this; exact this
          exact refRe_at hi q1.1 q1.2 q5 q6 tp h1 (atN_on O s) h4' w CK
        · have h5' : atV ⟨true, s, f, m, k, es⟩ (s + n - 1) < x := by
            rcases h5 with y | y
            · exact absurd y z
            · exact y
          have h4' : x ≤ atV ⟨true, s, f, m, k, es⟩ (s + n) := h4
          refine refRe_loop hi q1.1 q1.2 q5 q6 tp h1 (atN_on O s) ?_ (by omega) h3 (fun p hp => ?_) (fun p hp => ?_) w CK
          · have := atV_mono ⟨true, s, f, m, k, es⟩ (a := s) (b := s + n - 1) (by omega); omega
          · rw [atN_on O]; have := atV_mono ⟨true, s, f, m, k, es⟩ (a := s + p) (b := s + n - 1) (by omega); omega
          · rw [atN_on O]; have := atV_mono ⟨true, s, f, m, k, es⟩ (a := s + n) (b := s + p) (by omega); omega
  · have CK := fun w => refCheck11_ok (h := ⟨on, s, f, m, k, es⟩) (v := false) ⟨fun z => (by cases z), fun z => absurd z hm⟩ w
    obtain ⟨rfl, rfl⟩ := reach_one e (Or.inl ⟨fun z => hm z.1.1, rfl, rfl⟩)
    exact refRe_no w CK
end Go.Proofs.YtlonfobeblnbbaaDoor
