/-
  What the calls of package reno do.
-/
import Derived.Test.YthlfdkkiedfpjaaCon13
import Derived.Test.YthlfdkkiedfpjaaPartA04
import Derived.Deep.DeepCutAuto
namespace Go.Proofs.Ythlfdkkiedfpjaa
open Go.RowKit Go.BigFrame
set_option linter.unusedVariables false

set_option maxRecDepth 100000 in
set_option maxHeartbeats 1600000 in
theorem nbet_low {n lo hi : Int} (hl : lo ≤ hi) (h : n < lo) (w : World) : Calls Try.prog 14 #[.int .i64 n, .int .i64 lo, .int .i64 hi] w fun e w' => e = .returned (.int .i64 lo) ∧ Kept w w' := by
  go_enter Try.func14, Try.ntmps14
  have e1 : (if hi < n then hi else n) = n := by split <;> omega
  have e3 : min n hi = n := by omega
  have e2 : (if lo < n then n else lo) = lo := by split <;> omega
  have e4 : max lo n = lo := by omega
  go_wp2
  go_ret
  exact ⟨rfl, Kept.refl _⟩
set_option maxRecDepth 100000 in
set_option maxHeartbeats 1600000 in
theorem nbet_high {n lo hi : Int} (hl : lo ≤ hi) (h : hi < n) (w : World) : Calls Try.prog 14 #[.int .i64 n, .int .i64 lo, .int .i64 hi] w fun e w' => e = .returned (.int .i64 hi) ∧ Kept w w' := by
  go_enter Try.func14, Try.ntmps14
  have e1 : (if hi < n then hi else n) = hi := by split <;> omega
  have e3 : min n hi = hi := by omega
  have e2 : (if lo < hi then hi else lo) = hi := by split <;> omega
  have e4 : max lo hi = hi := by omega
  go_wp2
  go_ret
  exact ⟨rfl, Kept.refl _⟩
set_option maxRecDepth 100000 in
set_option maxHeartbeats 1600000 in
theorem nbet_in {n lo hi : Int} (hl : lo ≤ hi) (h : lo ≤ n) (h2 : n ≤ hi) (w : World) : Calls Try.prog 14 #[.int .i64 n, .int .i64 lo, .int .i64 hi] w fun e w' => e = .returned (.int .i64 n) ∧ Kept w w' := by
  go_enter Try.func14, Try.ntmps14
  have e1 : (if hi < n then hi else n) = n := by split <;> omega
  have e3 : min n hi = n := by omega
  have e2 : (if lo < n then n else lo) = n := by split <;> omega
  have e4 : max lo n = n := by omega
  go_wp2
  go_ret
  exact ⟨rfl, Kept.refl _⟩
theorem nbet_c {n lo hi v : Int} (hl : lo ≤ hi) (hv : (if n < lo then lo else if hi < n then hi else n) = v) (w : World) : Calls Try.prog 14 #[.int .i64 n, .int .i64 lo, .int .i64 hi] w fun e w' => e = .returned (.int .i64 v) ∧ Kept w w' := by
  subst hv
  by_cases h : n < lo
  · rw [if_pos h]; exact nbet_low hl h w
  · by_cases h2 : hi < n
    · rw [if_neg h, if_pos h2]; exact nbet_high hl h2 w
    · rw [if_neg h, if_neg h2]; exact nbet_in hl (by omega) (by omega) w
set_option maxRecDepth 100000 in
set_option maxHeartbeats 1600000 in
theorem npart_less {est prior : Int} (h : est < prior) (w : World) : Calls Try.prog 9 #[.int .i64 est, .int .i64 prior] w fun e w' => e = .returned (.tuple #[.int .i64 9, .int .i64 17]) ∧ Kept w w' := by
  have d0 : decide (est < prior) = true := by simp [h]
  go_enter Try.func9, Try.ntmps9
  go_wp2
  go_ret2
  exact ⟨rfl, Kept.refl _⟩
set_option maxRecDepth 100000 in
set_option maxHeartbeats 1600000 in
theorem npart_more {est prior : Int} (h : ¬ est < prior) (w : World) : Calls Try.prog 9 #[.int .i64 est, .int .i64 prior] w fun e w' => e = .returned (.tuple #[.int .i64 1, .int .i64 1]) ∧ Kept w w' := by
  have d0 : decide (est < prior) = false := by simp; omega
  go_enter Try.func9, Try.ntmps9
  go_wp2
  go_ret2
  exact ⟨rfl, Kept.refl _⟩
theorem npart_c : NPartC := fun est prior a b _ _ ha hb w => by
  subst ha hb
  unfold numR denR
  by_cases l : est < prior
  · rw [if_pos l, if_pos l]; exact npart_less l w
  · rw [if_neg l, if_neg l]; exact npart_more l w
set_option maxRecDepth 100000 in
set_option maxHeartbeats 1600000 in
theorem nstep_less {est prior v told u tt a g r : Int} (P : ∀ w, Calls Try.prog 9 #[.int .i64 est, .int .i64 prior] w fun e w' => e = .returned (.tuple #[.int .i64 9, .int .i64 17]) ∧ Kept w w') (hu : winR v = u) (ht : gapK told = tt) (hg : gapK est = g) (ha : addR 9 17 u tt = a) (hr : gapK (g + a) = r) (w : World) : Calls Try.prog 10 #[.int .i64 est, .int .i64 prior, .int .i64 v, .int .i64 told] w fun e w' => e = .returned (.int .i64 r) ∧ Kept w w' := by
  have ur := winR_range v
  rw [hu] at ur
  have tr := gapK_range told
  rw [ht] at tr
  have gr := gapK_range est
  rw [hg] at gr
  have pa : PartR 9 17 := by first | exact Or.inl ⟨rfl, rfl⟩ | exact Or.inr ⟨rfl, rfl⟩
  have a0 := add_pos pa (w := u) (by omega) tr.1
  have a1 := add_bound pa (w := u) ur.1 tr.1
  rw [ha] at a0 a1
  have P' := Lib.hid P
  have C1 := Lib.hid (fun w => nbet_c (n := v) (lo := 65536) (hi := 68719476736) (v := u) (by omega) (by rw [← hu]; rfl) w)
  have C2 := Lib.hid (fun w => nbet_c (n := told) (lo := 0) (hi := 68719476736) (v := tt) (by omega) (by rw [← ht]; rfl) w)
  have FL := Lib.hid (fun w => Floor_ok (a := tt * 9) (b := 65536) (c := u * 17) (v := a) (er := 0) (by unfold In64; omega) (by unfold In64; omega) (by unfold In64; omega) (by have e : tt * 9 * 65536 / (u * 17) = a := (by rw [← ha]; unfold addR; rw [Int.mul_comm tt, Int.mul_comm u]); rw [e]; exact part_yes (by omega) (by unfold In64; omega)) w)
  have C3 := Lib.hid (fun w => nbet_c (n := est) (lo := 0) (hi := 68719476736) (v := g) (by omega) (by rw [← hg]; rfl) w)
  have C4 := Lib.hid (fun w => nbet_c (n := g + a) (lo := 0) (hi := 68719476736) (v := r) (by omega) (by rw [← hr]; rfl) w)
  clear P hu ht hg ha hr pa
  go_enter Try.func10, Try.ntmps10
  go_wp2_with fail
  refine (P'.out _).mono ?_
  rintro e w1 ⟨rfl, k1⟩
  go_wp2_with fail
  refine (C3.out _).mono ?_
  rintro e w2 ⟨rfl, k2⟩
  go_wp2_with fail
  refine (C1.out _).mono ?_
  rintro e w3 ⟨rfl, k3⟩
  go_wp2_with fail
  refine (C2.out _).mono ?_
  rintro e w4 ⟨rfl, k4⟩
  go_wp2_with fail
  refine (FL.out _).mono ?_
  rintro e w5 ⟨rfl, k5⟩
  go_wp2_with fail
  refine (C4.out _).mono ?_
  rintro e w6 ⟨rfl, k6⟩
  go_wp2
  go_ret
  exact ⟨rfl, (by (repeat (first | with_reducible exact Kept.refl _ | with_reducible apply Kept.drew | with_reducible apply Kept.alloc | ((with_reducible apply Kept.set); focus (simp <;> omega)) | ((with_reducible apply Kept.via); focus with_reducible assumption))))⟩
set_option maxRecDepth 100000 in
set_option maxHeartbeats 1600000 in
theorem nstep_more {est prior v told u tt a g r : Int} (P : ∀ w, Calls Try.prog 9 #[.int .i64 est, .int .i64 prior] w fun e w' => e = .returned (.tuple #[.int .i64 1, .int .i64 1]) ∧ Kept w w') (hu : winR v = u) (ht : gapK told = tt) (hg : gapK est = g) (ha : addR 1 1 u tt = a) (hr : gapK (g + a) = r) (w : World) : Calls Try.prog 10 #[.int .i64 est, .int .i64 prior, .int .i64 v, .int .i64 told] w fun e w' => e = .returned (.int .i64 r) ∧ Kept w w' := by
  have ur := winR_range v
  rw [hu] at ur
  have tr := gapK_range told
  rw [ht] at tr
  have gr := gapK_range est
  rw [hg] at gr
  have pa : PartR 1 1 := by first | exact Or.inl ⟨rfl, rfl⟩ | exact Or.inr ⟨rfl, rfl⟩
  have a0 := add_pos pa (w := u) (by omega) tr.1
  have a1 := add_bound pa (w := u) ur.1 tr.1
  rw [ha] at a0 a1
  have P' := Lib.hid P
  have C1 := Lib.hid (fun w => nbet_c (n := v) (lo := 65536) (hi := 68719476736) (v := u) (by omega) (by rw [← hu]; rfl) w)
  have C2 := Lib.hid (fun w => nbet_c (n := told) (lo := 0) (hi := 68719476736) (v := tt) (by omega) (by rw [← ht]; rfl) w)
  have FL := Lib.hid (fun w => Floor_ok (a := tt) (b := 65536) (c := u) (v := a) (er := 0) (by unfold In64; omega) (by unfold In64; omega) (by unfold In64; omega) (by have e : tt * 65536 / (u) = a := (by rw [← ha]; simp [addR]); rw [e]; exact part_yes (by omega) (by unfold In64; omega)) w)
  have C3 := Lib.hid (fun w => nbet_c (n := est) (lo := 0) (hi := 68719476736) (v := g) (by omega) (by rw [← hg]; rfl) w)
  have C4 := Lib.hid (fun w => nbet_c (n := g + a) (lo := 0) (hi := 68719476736) (v := r) (by omega) (by rw [← hr]; rfl) w)
  clear P hu ht hg ha hr pa
  go_enter Try.func10, Try.ntmps10
  go_wp2_with fail
  refine (P'.out _).mono ?_
  rintro e w1 ⟨rfl, k1⟩
  go_wp2_with fail
  refine (C3.out _).mono ?_
  rintro e w2 ⟨rfl, k2⟩
  go_wp2_with fail
  refine (C1.out _).mono ?_
  rintro e w3 ⟨rfl, k3⟩
  go_wp2_with fail
  refine (C2.out _).mono ?_
  rintro e w4 ⟨rfl, k4⟩
  go_wp2_with fail
  refine (FL.out _).mono ?_
  rintro e w5 ⟨rfl, k5⟩
  go_wp2_with fail
  refine (C4.out _).mono ?_
  rintro e w6 ⟨rfl, k6⟩
  go_wp2
  go_ret
  exact ⟨rfl, (by (repeat (first | with_reducible exact Kept.refl _ | with_reducible apply Kept.drew | with_reducible apply Kept.alloc | ((with_reducible apply Kept.set); focus (simp <;> omega)) | ((with_reducible apply Kept.via); focus with_reducible assumption))))⟩
theorem nstep_c : NStepC := fun est prior v told n ie ip _ _ h w => by
  subst h
  have P := fun w => npart_c est prior _ _ ie ip rfl rfl w
  unfold stepR
  unfold numR denR at *
  by_cases l : est < prior
  · rw [if_pos l, if_pos l] at *; exact nstep_less P rfl rfl rfl rfl rfl w
  · rw [if_neg l, if_neg l] at *; exact nstep_more P rfl rfl rfl rfl rfl w
theorem stepR_in (est prior v told : Int) : In64 (stepR est prior v told) := by
  unfold stepR In64
  have := gapK_range (gapK est + addR (numR est prior) (denR est prior) (winR v) (gapK told))
  omega
theorem stepsR_in {est prior v : Int} (h : In64 est) (l : List Int) : In64 (stepsR est prior v l) := by
  induction l generalizing est with
  | nil => exact h
  | cons t l ih => exact ih (stepR_in _ _ _ _)
theorem stepsR_one (prior v : Int) (l : List Int) (est : Int) {k : Nat} (h : k < l.length) : stepsR est prior v (l.take (k + 1)) = stepR (stepsR est prior v (l.take k)) prior v (l.getD k 0) := by
  have e : l.take (k + 1) = l.take k ++ [l.getD k 0] := by
    rw [List.take_add_one]; simp [List.getD, h]
  rw [e, stepsR_app]; rfl
set_option maxRecDepth 100000 in
set_option maxHeartbeats 1600000 in
theorem nsteps_any {A : Option Addr} {len cap : Nat} {l : List Int} {est prior v n : Int} (hn : l.length = len) (hl : len ≤ 1099511627776) (hi : ∀ x ∈ l, In64 x) (he : In64 est) (hp : In64 prior) (hv : In64 v) (h : stepsR est prior v l = n) (w : World) (hr : RowAt w A len (fun k => .int .i64 (l.getD k 0))) : Calls Try.prog 12 #[.int .i64 est, .int .i64 prior, .int .i64 v, .slice A len cap] w fun e w' => e = .returned (.int .i64 n) ∧ Kept w w' := by
  have HR := Lib.hid hr
  have HN := Lib.hid hn
  have HE := Lib.hid h
  have HI := Lib.hid hi
  have IE := Lib.hid he
  have IP := Lib.hid hp
  have IV := Lib.hid hv
  clear hr hn h hi he hp hv
  go_enter Try.func12, Try.ntmps12
  go_wp2
  go_loopw [0, 13] (fun s0 i wr => ∃ (k : Nat) (m : Int), k ≤ len ∧ s0 = .int .i64 m ∧ i = .int .i64 k ∧ m = stepsR est prior v (l.take k) ∧ Kept w wr) (fun _ i _ => len - (intOf i).toNat)
  case atStart => exact ⟨0, est, Nat.zero_le _, rfl, rfl, rfl, Kept.refl _⟩
  case round =>
    obtain ⟨k, m, hk, rfl, rfl, hm, kw⟩ := hrel
    have HM := Lib.hid hm
    clear hm
    by_cases hlt : k < len
    · have hltI : (k : Int) < (len : Int) := by omega
      have hlt' : k < l.length := by have := HN.out; omega
      obtain ⟨b, off, rfl, hc⟩ := (HR.out.kept kw) (by omega)
      have c1 : wr.cell? ⟨b, off + k, none⟩ = some (.int .i64 (l.getD k 0)) := hc k hlt
      have NX := Lib.hid (stepsR_one prior v l est hlt')
      have IZ := Lib.hid (HI.out (l.getD k 0) (by rw [List.getD_eq_getElem?_getD, List.getElem?_eq_getElem hlt']; exact List.getElem_mem hlt'))
      generalize l.getD k 0 = z at *
      have ST := Lib.hid (fun w => nstep_c m prior v z _ (by have q := stepsR_in (prior := prior) (v := v) IE.out (l.take k); rw [← HM.out] at q; exact q) IP.out IV.out IZ.out rfl w)
      clear hc
      go_wp2_with fail
      refine (ST.out _).mono ?_
      rintro e w1 ⟨rfl, k1⟩
      go_wp2_with fail
      go_roundw
      case rel => exact ⟨k + 1, _, by omega, rfl, by go_num, by rw [NX.out, ← HM.out], Kept.trans kw k1⟩
      case measure => simp [intOf]; omega
    · obtain rfl : k = len := by omega
      have E := Lib.hid (show m = n from by rw [HM.out, List.take_of_length_le (by have := HN.out; omega)]; exact HE.out)
      go_wp2
      go_ret
      exact ⟨by rw [E.out]; rfl, kw⟩
theorem nsteps_c : NStepsC := fun A cap l est prior v n hc hm hl hi he hp hv h w hr => nsteps_any rfl hl hi he hp hv h w hr
end Go.Proofs.Ythlfdkkiedfpjaa
