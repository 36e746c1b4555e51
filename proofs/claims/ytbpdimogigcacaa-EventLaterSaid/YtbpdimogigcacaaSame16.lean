/-
  Two lists of errors, compared.
-/
import Derived.Test.YtbpdimogigcacaaCon16
import Derived.Test.YtbpdimogigcacaaRoom
import Derived.Deep.RegionHeld3
import Derived.Deep.DeepCutAuto
namespace Go.Proofs.Ytbpdimogigcacaa
open Go.RowKit Go.BigFrame
set_option linter.unusedVariables false

set_option maxRecDepth 100000 in
set_option maxHeartbeats 1600000 in
theorem same16_len {A A2 : Option Addr} {n n2 c c2 : Nat} (h : ¬ n = n2) (w : World) : Calls Try.prog 19 #[.slice A n c, .slice A2 n2 c2] w fun e w' => e = .returned (.bool false) ∧ Kept w w' := by
  have hd : ((n : Int) == (n2 : Int)) = false := by simp; omega
  have hd2 : ¬ (n : Int) = (n2 : Int) := by omega
  go_enter Try.func19, Try.ntmps19
  go_wp2
  go_ret
  exact ⟨rfl, Kept.refl _⟩
set_option maxRecDepth 100000 in
set_option maxHeartbeats 1600000 in
theorem same16_loop {A A2 : Option Addr} {n c c2 : Nat} {l m : List Int} (hl : l.length = n) (hm : m.length = n) (hn : n ≤ 9223372036854775807) (w : World) (h1 : RowAt w A n (fun j => .int .i64 (l.getD j 0))) (h2 : RowAt w A2 n (fun j => .int .i64 (m.getD j 0))) : Calls Try.prog 19 #[.slice A n c, .slice A2 n c2] w fun e w' => e = .returned (.bool (decide (l = m))) ∧ Kept w w' := by
  have H1 := Lib.hid h1
  have H2 := Lib.hid h2
  have HL := Lib.hid (And.intro hl hm)
  clear h1 h2 hl hm
  go_enter Try.func19, Try.ntmps19
  go_wp2
  go_loopw [5] (fun i wr => ∃ k : Nat, k ≤ n ∧ i = .int .i64 k ∧ (∀ j, j < k → l.getD j 0 = m.getD j 0) ∧ Kept w wr) (fun i _ => n - (intOf i).toNat)
  case atStart => exact ⟨0, Nat.zero_le _, rfl, fun j h => absurd h (by omega), Kept.refl _⟩
  case round =>
    obtain ⟨k, hk, rfl, hs, kw⟩ := hrel
    have HS := Lib.hid hs
    clear hs
    by_cases hlt : k < n
    · have hltI : (k : Int) < (n : Int) := by omega
      obtain ⟨b, off, e1, hc1⟩ := (H1.out.kept kw) (by omega)
      obtain ⟨b2, off2, e2, hc2⟩ := (H2.out.kept kw) (by omega)
      subst e1 e2
      have x1 : wr.cell? ⟨b, off + k, none⟩ = some (.int .i64 (l.getD k 0)) := hc1 k hlt
      have x2 : wr.cell? ⟨b2, off2 + k, none⟩ = some (.int .i64 (m.getD k 0)) := hc2 k hlt
      have EX := Lib.hid (show ∀ y z, l.getD k 0 = y → m.getD k 0 = z → l.getD k 0 = y ∧ m.getD k 0 = z from fun _ _ a b => ⟨a, b⟩)
      obtain ⟨y, hy⟩ : ∃ y, l.getD k 0 = y := ⟨_, rfl⟩
      obtain ⟨z, hz⟩ : ∃ z, m.getD k 0 = z := ⟨_, rfl⟩
      rw [hy] at x1
      rw [hz] at x2
      have HY := Lib.hid (And.intro hy hz)
      clear hc1 hc2 hy hz EX
      go_upto_region 6 with fail
      have B_f := Lib.hid (And.intro x1 x2)
      clear x1 x2
      obtain ⟨q_f0, q_f1⟩ := kwn2 B_f
      clear B_f
      refine wp_region_kept (by kernel_rfl) (by as_aux_lemma => kernel_rfl) ?_
      repeat (go_big_quiet_step (first | fail))
      refine wpQuiet_nil ?_
      intro wq hw'
      have kq : Kept wr wq := by obtain ⟨p, rfl⟩ := hw'; exact p.k
      clear hw'
      have kq1 := kq
      clear kq q_f0 q_f1
      generalize wq = W_q at *
      by_cases hyz : y = z
      · have dd : (y == z) = true := by simp [hyz]
        have d3 : ¬ ¬ y = z := by simp [hyz]
        go_wp2
        go_roundw
        case rel => exact ⟨k + 1, by omega, by go_num, fun j hj => by
          rcases (show j < k ∨ j = k by omega) with x | rfl
          · exact HS.out j x
          · rw [HY.out.1, HY.out.2, hyz], Kept.trans kw kq1⟩
        case measure => simp [intOf]; omega
      · have dd : (y == z) = false := by simp [hyz]
        go_wp2
        go_ret
        have hne : ¬ l = m := fun h => hyz (by rw [← HY.out.1, ← HY.out.2, h])
        exact ⟨by rw [decide_eq_false hne]; rfl, Kept.trans kw kq1⟩
    · obtain rfl : k = n := by omega
      have hlm : l = m := by
        apply List.ext_getElem (by rw [HL.out.1, HL.out.2])
        intro i h1 h2
        have := HS.out i (by rw [← HL.out.1]; exact h1)
        simpa [List.getD, h1, h2] using this
      have g2 : decide ((k : Int) < (k : Int)) = false := by simp
      go_wp2
      go_ret
      exact ⟨by rw [decide_eq_true hlm]; rfl, kw⟩
theorem same16_ok {A A2 : Option Addr} {c c2 : Nat} {l m : List Int} {b : Bool} (s1 : SliceOk A l.length c) (s2 : SliceOk A2 m.length c2) (n1 : l.length ≤ 1099511627776) (n2 : m.length ≤ 1099511627776) (hb : b = true ↔ l = m) (w : World) (h1 : RowE w A l) (h2 : RowE w A2 m) : Calls Try.prog 19 #[.slice A l.length c, .slice A2 m.length c2] w fun e w' => e = .returned (.bool b) ∧ Kept w w' := by
  by_cases h : l.length = m.length
  · have hb2 : b = decide (l = m) := by
      by_cases x : l = m
      · rw [decide_eq_true x]; exact hb.2 x
      · rw [decide_eq_false x]
        cases b with
        | false => rfl
        | true => exact absurd (hb.1 rfl) x
    rw [hb2, ← h]
    exact same16_loop rfl h.symm (by omega) w h1 (by unfold RowE at h2; rw [← h] at h2; exact h2)
  · have hb2 : b = false := by
      cases b with
      | false => rfl
      | true => exact absurd (congrArg List.length (hb.1 rfl)) h
    rw [hb2]
    exact same16_len h w
end Go.Proofs.Ytbpdimogigcacaa
