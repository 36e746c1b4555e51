/-
  The document's Same, Few and All of layer 20.
-/
import Derived.Test.YtbpdimogigcacaaRef20
import Derived.Test.YtbpdimogigcacaaApart
import Derived.Test.YtbpdimogigcacaaRoom
import Derived.OwnWalk
import Derived.Deep.RegionHeld3
import Derived.Deep.DeepCutAuto
namespace Go.Proofs.Ytbpdimogigcacaa
open Go.RowKit Go.BigFrame
set_option linter.unusedVariables false

theorem infoEv : (Try.prog.info? 23).map (fun i => (i.zero, i.size, i.bytes)) = some (some (.agg #[.int .i64 0, .int .i64 0, .int .i64 0, .int .i64 0]), 4, 32) := by kernel_rfl
theorem infoEr : (Try.prog.info? 28).map (fun i => (i.zero, i.size, i.bytes)) = some (some (.int .i64 0), 1, 8) := by kernel_rfl
/-- An event's cells. -/
def evs (e : Ev) : List Value := [.int .i64 e.1, .int .i64 e.2.1, .int .i64 e.2.2.1, .int .i64 e.2.2.2]
theorem evs_len (e : Ev) : (evs e).length = 4 := rfl
theorem evs_get (e : Ev) (j : Nat) (h : j < 4) : (evs e)[j]? = some (.int .i64 (evc e j)) := by
  match j, h with
  | 0, _ => rfl
  | 1, _ => rfl
  | 2, _ => rfl
  | 3, _ => rfl
  | j + 4, h => omega
theorem own_rowV {w : World} {base : Nat} {e : TypeId} {v : Value} {l : List Ev} {m : Nat} (hl : l.length = m) (h : w.ownsRow base e 4 v m (l.flatMap evs)) : ∃ (B : Option Addr) (c : Nat), v = .slice B m c ∧ SliceOk B m c ∧ RowV w B l ∧ ∀ a, B = some a → base ≤ a.block ∧ a.block < w.heap.size := by
  obtain ⟨B, c, h1, h2, h3, h4⟩ := own_rowI (κ := .i64) (c := evc) evs_len (fun x j hj => evs_get x j hj) (0, 0, 0, 0) hl h
  subst hl
  exact ⟨B, c, h1, h2, h3, h4⟩
theorem RowV.cells {w : World} {b off : Nat} {l : List Ev} (h : ∀ i, i < l.length → ∀ j, j < 4 → w.cell? ⟨b, off + i * 4 + j, none⟩ = some (.int .i64 (evc (ev0 l i) j))) {k : Nat} (hk : k < l.length) : w.cell? ⟨b, off + k * 4, none⟩ = some (.int .i64 (ev0 l k).1) ∧ w.cell? ⟨b, off + k * 4 + 1, none⟩ = some (.int .i64 (ev0 l k).2.1) ∧ w.cell? ⟨b, off + k * 4 + 2, none⟩ = some (.int .i64 (ev0 l k).2.2.1) ∧ w.cell? ⟨b, off + k * 4 + 3, none⟩ = some (.int .i64 (ev0 l k).2.2.2) :=
  ⟨h k hk 0 (by omega), h k hk 1 (by omega), h k hk 2 (by omega), h k hk 3 (by omega)⟩
/-- Numbers that came in, as a list. -/
def intsOf (E : Nat → Nat → Int) (len : Nat) : List Int := (List.range len).map fun i => E i 0
theorem intsOf_len (E : Nat → Nat → Int) (len : Nat) : (intsOf E len).length = len := by simp [intsOf]
theorem intsOf_in {len : Nat} {E : Nat → Nat → Int} (h : ∀ i, i < len → ∀ j, j < 1 → In64 (E i j)) : ∀ x ∈ intsOf E len, In64 x := fun x hx => by
  unfold intsOf at hx
  obtain ⟨i, hi, rfl⟩ := List.mem_map.1 hx
  exact h i (List.mem_range.1 hi) 0 (by omega)
theorem rowK_of {w : World} {A : Option Addr} {len : Nat} {E : Nat → Nat → Int} (h : RowI .i64 w A 1 len E) : RowK .i64 w A (intsOf E len) := fun h0 => by
  rw [intsOf_len] at h0
  obtain ⟨b, off, e, hc⟩ := h h0
  refine ⟨b, off, e, fun i hi => ?_⟩
  rw [intsOf_len] at hi
  have c := hc i hi 0 (by omega)
  rw [Nat.mul_one, Nat.add_zero] at c
  rw [c]
  simp [intsOf, List.getD, hi]
theorem rowV_nil (w : World) (A : Option Addr) : RowV w A [] := fun h => absurd h (by simp)
set_option maxRecDepth 100000 in
set_option maxHeartbeats 1600000 in
theorem refSame20_ok {A B : Option Addr} {len cap cap2 : Nat} {l : List Ev} (hn : l.length = len) (hl : len ≤ 1099511627776) (w : World) (hr : RowV w A l) (hr2 : RowV w B l) : Calls Try.prog 18 #[.slice A len cap, .slice B len cap2] w fun e w' => e = .returned (.bool true) ∧ Kept w w' := by
  have HR := Lib.hid hr
  have HR2 := Lib.hid hr2
  have HN := Lib.hid hn
  clear hr hr2 hn
  go_enter Try.func18, Try.ntmps18
  go_wp2
  go_loopw [5] (fun i wr => ∃ k : Nat, k ≤ len ∧ i = .int .i64 k ∧ Kept w wr) (fun i _ => len - (intOf i).toNat)
  case atStart => exact ⟨0, Nat.zero_le _, rfl, Kept.refl _⟩
  case round =>
    obtain ⟨k, hk, rfl, kw⟩ := hrel
    by_cases hlt : k < len
    · have hltI : (k : Int) < (len : Int) := by omega
      have hlt' : k < l.length := by have := HN.out; omega
      obtain ⟨b2, off2, rfl, hc2⟩ := (HR2.out.kept kw) (by omega)
      obtain ⟨d0, d1, d2, d3⟩ := RowV.cells hc2 hlt'
      clear hc2
      obtain ⟨b, off, rfl, hc⟩ := (HR.out.kept kw) (by omega)
      obtain ⟨c0, c1, c2, c3⟩ := RowV.cells hc hlt'
      clear hc
      obtain ⟨xk, xa, xb, xr, ek⟩ : ∃ xk xa xb xr : Int, ev0 l k = (xk, xa, xb, xr) := ⟨_, _, _, _, rfl⟩
      rw [ek] at c0 c1 c2 c3
      dsimp only at c0 c1 c2 c3
      rw [ek] at d0 d1 d2 d3
      dsimp only at d0 d1 d2 d3
      clear ek
      have H_r := Lib.hid (And.intro c0 (And.intro c1 (And.intro c2 c3)))
      have H_q := Lib.hid (And.intro d0 (And.intro d1 (And.intro d2 d3)))
      clear c0 c1 c2 c3 d0 d1 d2 d3
      go_upto_region 6 with fail
      have B_r := Lib.hid (Kept.alln4 (show Kept wr wr from (by (repeat (first | with_reducible exact Kept.refl _ | with_reducible apply Kept.drew | with_reducible apply Kept.alloc | ((with_reducible apply Kept.set); focus (simp <;> omega)) | ((with_reducible apply Kept.via); focus with_reducible assumption))))) H_r)
      have B_q := Lib.hid (Kept.alln4 (show Kept wr wr from (by (repeat (first | with_reducible exact Kept.refl _ | with_reducible apply Kept.drew | with_reducible apply Kept.alloc | ((with_reducible apply Kept.set); focus (simp <;> omega)) | ((with_reducible apply Kept.via); focus with_reducible assumption))))) H_q)
      have kall : Kept w wr := (by (repeat (first | with_reducible exact Kept.refl _ | with_reducible apply Kept.drew | with_reducible apply Kept.alloc | ((with_reducible apply Kept.set); focus (simp <;> omega)) | ((with_reducible apply Kept.via); focus with_reducible assumption))))
      obtain ⟨q_r0, q_r1, q_r2, q_r3⟩ := kwn4 B_r
      obtain ⟨q_q0, q_q1, q_q2, q_q3⟩ := kwn4 B_q
      clear B_r B_q
      refine wp_region_kept (by kernel_rfl) (by as_aux_lemma => kernel_rfl) ?_
      repeat (go_big_quiet_step (first | fail))
      refine wpQuiet_nil ?_
      intro wq hw'
      have kq : Kept wr wq := by obtain ⟨p, rfl⟩ := hw'; exact p.k
      clear hw'
      clear kall
      go_wp2
      go_roundw
      case rel => exact ⟨k + 1, by omega, by go_num, Kept.trans kw kq⟩
      case measure => simp [intOf]; omega
    · obtain rfl : k = len := by omega
      go_wp2
      go_ret
      exact ⟨rfl, kw⟩
set_option maxRecDepth 100000 in
set_option maxHeartbeats 1600000 in
theorem refFew20_ok {A : Option Addr} {len cap : Nat} {B : Nat → Option Addr} {C : Nat → Nat} {R : Nat → List Int} {m : Int} {v : Bool} (hl : len ≤ 9223372036854775807) (hz : ∀ i, i < len → (R i).length ≤ 9223372036854775807) (hv : v = true ↔ (∀ i, i < len → (R i).length ≤ 10) ∧ (len : Int) ≤ m) (w : World) (hr : RowS .i64 w A len B C R) : Calls Try.prog 10 #[.slice A len cap, .int .i64 m] w fun e w' => e = .returned (.bool v) ∧ Kept w w' := by
  have HR := Lib.hid hr.1
  have HV := Lib.hid hv
  clear hr hv
  go_enter Try.func10, Try.ntmps10
  go_wp2
  go_loopw [5] (fun i wr => ∃ k : Nat, k ≤ len ∧ i = .int .i64 k ∧ (∀ j, j < k → (R j).length ≤ 10) ∧ Kept w wr) (fun i _ => len - (intOf i).toNat)
  case atStart => exact ⟨0, Nat.zero_le _, rfl, fun j h => absurd h (by omega), Kept.refl _⟩
  case round =>
    obtain ⟨k, hk, rfl, hs, kw⟩ := hrel
    have HSM := Lib.hid hs
    clear hs
    by_cases hlt : k < len
    · have hltI : (k : Int) < (len : Int) := by omega
      have hzk := hz k hlt
      obtain ⟨b, off, rfl, hc⟩ := (HR.out.kept kw) (by omega)
      have c0 : wr.cell? ⟨b, off + k, none⟩ = some (.slice (B k) (R k).length (C k)) := hc k hlt
      clear hc
      have HQ := Lib.hid (show ∃ q, (R k).length = q from ⟨_, rfl⟩)
      generalize hq : (R k).length = q at *
      by_cases h10 : 10 < q
      · have d0 : decide ((10 : Int) < (q : Int)) = true := decide_eq_true (by omega)
        have E := Lib.hid (show v = false from by
          cases v with
          | false => rfl
          | true => have := (HV.out.1 rfl).1 k hlt; omega)
        go_wp2
        go_ret
        exact ⟨by rw [E.out]; rfl, kw⟩
      · have d0 : decide ((10 : Int) < (q : Int)) = false := by simp; omega
        have d1 : ¬ (10 : Int) < (q : Int) := by omega
        have NX := Lib.hid (show ∀ j, j < k + 1 → (R j).length ≤ 10 from fun j hj => by
          rcases (show j < k ∨ j = k by omega) with g | rfl
          · exact HSM.out j g
          · omega)
        go_wp2
        go_roundw
        case rel => exact ⟨k + 1, by omega, by go_num, NX.out, kw⟩
        case measure => simp [intOf]; omega
    · obtain rfl : k = len := by omega
      have E := Lib.hid (show v = decide ((k : Int) ≤ m) from by
        by_cases z : (k : Int) ≤ m
        · rw [HV.out.2 ⟨HSM.out, z⟩]; simp [z]
        · cases v with
          | false => simp [z]
          | true => exact absurd (HV.out.1 rfl).2 z)
      go_wp2
      go_ret
      exact ⟨by rw [E.out]; rfl, kw⟩
end Go.Proofs.Ytbpdimogigcacaa
