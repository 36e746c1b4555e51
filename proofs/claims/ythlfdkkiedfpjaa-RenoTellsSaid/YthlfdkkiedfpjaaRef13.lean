/-
  Contracts of the document's answers of layer 13.
-/
import Derived.Test.YthlfdkkiedfpjaaCon13
import Derived.Test.YthlfdkkiedfpjaaRef04
import Derived.Test.YthlfdkkiedfpjaaOne01
import Derived.Deep.DeepCutAuto
namespace Go.Proofs.Ythlfdkkiedfpjaa
open Go.RowKit Go.BigFrame
set_option linter.unusedVariables false

theorem clampLift13 (a b c n : Int) (hn : clampAt a b c = n) (w : World) : Calls Try.prog 16 #[.int .i64 a, .int .i64 b, .int .i64 c] w fun e w' => e = .returned (.int .i64 n) ∧ Kept w w' :=
  (refClamp_lit_s a b c n w hn).mono (fun _ _ ⟨h, k⟩ => ⟨h, k ▸ Kept.refl _⟩)
set_option maxRecDepth 100000 in
set_option maxHeartbeats 1600000 in
theorem refStep13_less {est prior v told u tt a g r : Int} (h : est < prior) (hu : winR v = u) (ht : gapK told = tt) (hg : gapK est = g) (ha : addR 9 17 u tt = a) (hr : gapK (g + a) = r) (w : World) : Calls Try.prog 11 #[.int .i64 est, .int .i64 prior, .int .i64 v, .int .i64 told] w fun e w' => e = .returned (.int .i64 r) ∧ Kept w w' := by
  have ur := winR_range v
  rw [hu] at ur
  have tr := gapK_range told
  rw [ht] at tr
  have gr := gapK_range est
  rw [hg] at gr
  have pa : PartR 9 17 := by first | exact Or.inl ⟨rfl, rfl⟩ | exact Or.inr ⟨rfl, rfl⟩
  have a0 := add_pos pa (w := u) (by omega) tr.1
  have a1 := add_bound pa (w := u) ur.1 tr.1
  rw [ha] at a0 a1
  have C1 := Lib.hid (fun w => clampLift13 v 65536 68719476736 u (by rw [← hu]; rfl) w)
  have C2 := Lib.hid (fun w => clampLift13 told 0 68719476736 tt (by rw [← ht]; rfl) w)
  have FL := Lib.hid (fun w => refFloor_ok (a := 9 * tt) (b := 65536) (c := 17 * u) (v := a) (er := 0) (by unfold In64; omega) (by unfold In64; omega) (by unfold In64; omega) (by have e : 9 * tt * 65536 / (17 * u) = a := ha; rw [e]; exact part_yes (by omega) (by unfold In64; omega)) w)
  have C3 := Lib.hid (fun w => clampLift13 est 0 68719476736 g (by rw [← hg]; rfl) w)
  have C4 := Lib.hid (fun w => clampLift13 (g + a) 0 68719476736 r (by rw [← hr]; rfl) w)
  have d0 : decide (est < prior) = true := by simp [h]
  clear hu ht hg ha hr pa h
  go_enter Try.func11, Try.ntmps11
  go_wp2_with fail
  refine (C1.out _).mono ?_
  rintro e w1 ⟨rfl, k1⟩
  go_wp2_with fail
  refine (C2.out _).mono ?_
  rintro e w2 ⟨rfl, k2⟩
  go_wp2_with fail
  refine (FL.out _).mono ?_
  rintro e w3 ⟨rfl, k3⟩
  go_wp2_with fail
  refine (C3.out _).mono ?_
  rintro e w4 ⟨rfl, k4⟩
  go_wp2_with fail
  refine (C4.out _).mono ?_
  rintro e w5 ⟨rfl, k5⟩
  go_wp2
  go_ret
  exact ⟨rfl, (by (repeat (first | with_reducible exact Kept.refl _ | with_reducible apply Kept.drew | with_reducible apply Kept.alloc | ((with_reducible apply Kept.set); focus (simp <;> omega)) | ((with_reducible apply Kept.via); focus with_reducible assumption))))⟩
set_option maxRecDepth 100000 in
set_option maxHeartbeats 1600000 in
theorem refStep13_more {est prior v told u tt a g r : Int} (h : ¬ est < prior) (hu : winR v = u) (ht : gapK told = tt) (hg : gapK est = g) (ha : addR 1 1 u tt = a) (hr : gapK (g + a) = r) (w : World) : Calls Try.prog 11 #[.int .i64 est, .int .i64 prior, .int .i64 v, .int .i64 told] w fun e w' => e = .returned (.int .i64 r) ∧ Kept w w' := by
  have ur := winR_range v
  rw [hu] at ur
  have tr := gapK_range told
  rw [ht] at tr
  have gr := gapK_range est
  rw [hg] at gr
  have pa : PartR 1 1 := by first | exact Or.inl ⟨rfl, rfl⟩ | exact Or.inr ⟨rfl, rfl⟩
  have a0 := add_pos pa (w := u) (by omega) tr.1
  have a1 := add_bound pa (w := u) ur.1 tr.1
  rw [ha] at a0 a1
  have C1 := Lib.hid (fun w => clampLift13 v 65536 68719476736 u (by rw [← hu]; rfl) w)
  have C2 := Lib.hid (fun w => clampLift13 told 0 68719476736 tt (by rw [← ht]; rfl) w)
  have FL := Lib.hid (fun w => refFloor_ok (a := tt) (b := 65536) (c := u) (v := a) (er := 0) (by unfold In64; omega) (by unfold In64; omega) (by unfold In64; omega) (by have e : tt * 65536 / (u) = a := (by rw [← ha]; simp [addR]); rw [e]; exact part_yes (by omega) (by unfold In64; omega)) w)
  have C3 := Lib.hid (fun w => clampLift13 est 0 68719476736 g (by rw [← hg]; rfl) w)
  have C4 := Lib.hid (fun w => clampLift13 (g + a) 0 68719476736 r (by rw [← hr]; rfl) w)
  have d0 : decide (est < prior) = false := by simp [h]
  clear hu ht hg ha hr pa h
  go_enter Try.func11, Try.ntmps11
  go_wp2_with fail
  refine (C1.out _).mono ?_
  rintro e w1 ⟨rfl, k1⟩
  go_wp2_with fail
  refine (C2.out _).mono ?_
  rintro e w2 ⟨rfl, k2⟩
  go_wp2_with fail
  refine (FL.out _).mono ?_
  rintro e w3 ⟨rfl, k3⟩
  go_wp2_with fail
  refine (C3.out _).mono ?_
  rintro e w4 ⟨rfl, k4⟩
  go_wp2_with fail
  refine (C4.out _).mono ?_
  rintro e w5 ⟨rfl, k5⟩
  go_wp2
  go_ret
  exact ⟨rfl, (by (repeat (first | with_reducible exact Kept.refl _ | with_reducible apply Kept.drew | with_reducible apply Kept.alloc | ((with_reducible apply Kept.set); focus (simp <;> omega)) | ((with_reducible apply Kept.via); focus with_reducible assumption))))⟩
theorem refStep13_ok {est prior v told n : Int} (h : stepR est prior v told = n) (w : World) : Calls Try.prog 11 #[.int .i64 est, .int .i64 prior, .int .i64 v, .int .i64 told] w fun e w' => e = .returned (.int .i64 n) ∧ Kept w w' := by
  subst h
  unfold stepR numR denR
  by_cases l : est < prior
  · rw [if_pos l, if_pos l]; exact refStep13_less l rfl rfl rfl rfl rfl w
  · rw [if_neg l, if_neg l]; exact refStep13_more l rfl rfl rfl rfl rfl w
theorem stepsR_take (prior v : Int) (l : List Int) (est : Int) {k : Nat} (h : k < l.length) : stepsR est prior v (l.take (k + 1)) = stepR (stepsR est prior v (l.take k)) prior v (l.getD k 0) := by
  have e : l.take (k + 1) = l.take k ++ [l.getD k 0] := by
    rw [List.take_add_one]; simp [List.getD, h]
  rw [e, stepsR_app]; rfl
set_option maxRecDepth 100000 in
set_option maxHeartbeats 1600000 in
theorem refSteps13_ok {A : Option Addr} {len cap : Nat} {l : List Int} {est prior v n : Int} (hn : l.length = len) (hl : len ≤ 1099511627776) (h : stepsR est prior v l = n) (w : World) (hr : RowAt w A len (fun k => .int .i64 (l.getD k 0))) : Calls Try.prog 13 #[.int .i64 est, .int .i64 prior, .int .i64 v, .slice A len cap] w fun e w' => e = .returned (.int .i64 n) ∧ Kept w w' := by
  have HR := Lib.hid hr
  have HN := Lib.hid hn
  have HE := Lib.hid h
  clear hr hn h
  go_enter Try.func13, Try.ntmps13
  go_wp2
  go_loopw [0, 9] (fun s0 i wr => ∃ (k : Nat) (m : Int), k ≤ len ∧ s0 = .int .i64 m ∧ i = .int .i64 k ∧ m = stepsR est prior v (l.take k) ∧ Kept w wr) (fun _ i _ => len - (intOf i).toNat)
  case atStart => exact ⟨0, est, Nat.zero_le _, rfl, rfl, rfl, Kept.refl _⟩
  case round =>
    obtain ⟨k, m, hk, rfl, rfl, hm, kw⟩ := hrel
    have HM := Lib.hid hm
    clear hm
    by_cases hlt : k < len
    · have hltI : (k : Int) < (len : Int) := by omega
      have hlt' : k < l.length := by have := HN.out; omega
      obtain ⟨b, off, rfl, hc⟩ := (HR.out.kept kw) (by omega)
      have c1 : wr.cell? ⟨b, off + k, none⟩ = some (.int .i64 (l.getD k 0)) := hc k hlt
      have NX := Lib.hid (stepsR_take prior v l est hlt')
      generalize l.getD k 0 = z at *
      have ST := Lib.hid (fun w => refStep13_ok (est := m) (prior := prior) (v := v) (told := z) rfl w)
      clear hc
      go_wp2_with fail
      refine (ST.out _).mono ?_
      rintro e w1 ⟨rfl, k1⟩
      go_wp2_with fail
      go_roundw
      case rel => exact ⟨k + 1, _, by omega, rfl, by go_num, by rw [NX.out, ← HM.out], Kept.trans kw k1⟩
      case measure => simp [intOf]; omega
    · obtain rfl : k = len := by omega
      have E := Lib.hid (show m = n from by rw [HM.out, List.take_of_length_le (by have := HN.out; omega)]; exact HE.out)
      go_wp2
      go_ret
      exact ⟨by rw [E.out]; rfl, kw⟩
end Go.Proofs.Ythlfdkkiedfpjaa
