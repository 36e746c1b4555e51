/-
  The functions timely, follows and Check of package least.
-/
import Derived.Test.YtpbchcpbjflnoaaMarks08
import Derived.Test.YtpbchcpbjflnoaaKwN
import Derived.Test.YtpbchcpbjflnoaaQuiet
import Derived.Test.YtpbchcpbjflnoaaClock05
import Derived.Deep.DeepCutAuto
import Derived.Deep.DeepCutAuto
namespace Go.Proofs.Ytpbchcpbjflnoaa
open Go.RowKit Go.BigFrame
set_option linter.unusedVariables false

set_option maxRecDepth 100000 in
set_option maxHeartbeats 1600000 in
theorem timely8_yes {t : Int} (ht : IsTime t) (w : World) : Calls Try.prog 20 #[.int .i64 t] w fun e w' => e = .returned (.bool true) ∧ Kept w w' := by
  obtain ⟨h0, h1⟩ := ht
  have d0 : decide (0 ≤ t) = true := by simp [h0]
  have d1 : decide (t ≤ 1099511627776) = true := by simp [h1]
  go_enter Try.func20, Try.ntmps20
  go_wp2
  go_ret
  exact ⟨rfl, Kept.refl _⟩
set_option maxRecDepth 100000 in
set_option maxHeartbeats 1600000 in
theorem timely8_no {t : Int} (ht : ¬ IsTime t) (w : World) : Calls Try.prog 20 #[.int .i64 t] w fun e w' => e = .returned (.bool false) ∧ Kept w w' := by
  by_cases h0 : t < 0
  · have d0 : decide (0 ≤ t) = false := by simp; omega
    go_enter Try.func20, Try.ntmps20
    go_wp2
    go_ret
    exact ⟨rfl, Kept.refl _⟩
  · have d0 : decide (0 ≤ t) = true := by simp; omega
    have d1 : decide (t ≤ 1099511627776) = false := by unfold IsTime at ht; simp; omega
    go_enter Try.func20, Try.ntmps20
    go_wp2
    go_ret
    exact ⟨rfl, Kept.refl _⟩
set_option maxRecDepth 100000 in
set_option maxHeartbeats 1600000 in
theorem follows8_ok (t n s m : Int) (v : Bool) (hv : v = decide (s ≤ t ∧ m < n)) (w : World) : Calls Try.prog 27 #[.agg #[.int .i64 t, .int .i64 n], .agg #[.int .i64 s, .int .i64 m]] w fun e w' => e = .returned (.bool v) ∧ Kept w w' := by
  by_cases h0 : s ≤ t
  · by_cases h1 : m < n
    · have d0 : decide (s ≤ t) = true := by simp [h0]
      have d1 : decide (m < n) = true := by simp [h1]
      obtain rfl : v = true := by rw [hv]; simp [h0, h1]
      clear hv
      go_enter Try.func27, Try.ntmps27
      go_wp2
      go_ret
      exact ⟨rfl, ((Kept.refl _).alloc _ _).alloc _ _⟩
    · have d0 : decide (s ≤ t) = true := by simp [h0]
      have d1 : decide (m < n) = false := by simp; omega
      obtain rfl : v = false := by rw [hv]; simp; omega
      clear hv
      go_enter Try.func27, Try.ntmps27
      go_wp2
      go_ret
      exact ⟨rfl, ((Kept.refl _).alloc _ _).alloc _ _⟩
  · have d0 : decide (s ≤ t) = false := by simp; omega
    obtain rfl : v = false := by rw [hv]; simp; omega
    clear hv
    go_enter Try.func27, Try.ntmps27
    go_wp2
    go_ret
    exact ⟨rfl, ((Kept.refl _).alloc _ _).alloc _ _⟩
theorem mayNext8 {l : List (Int × Int)} {k : Nat} (h : MayL (l.take k)) (ht : IsTime (mk l k).1) (hr : 0 < k → (mk l (k - 1)).1 ≤ (mk l k).1 ∧ (mk l (k - 1)).2 < (mk l k).2) : MayL (l.take (k + 1)) := fun j hj => by
  have hj' : j < k + 1 ∧ j < l.length := by simp at hj; omega
  rw [mk_take hj'.1, mk_take (show j - 1 < k + 1 by omega)]
  rcases (show j < k ∨ j = k by omega) with g | rfl
  · have := h j (by simp; omega)
    rw [mk_take g, mk_take (show j - 1 < k by omega)] at this
    exact this
  · exact ⟨ht, hr⟩
set_option maxRecDepth 100000 in
set_option maxHeartbeats 1600000 in
theorem check8_ok (A : Option Addr) (len cap : Nat) (l : List (Int × Int)) (v : Bool) (hn : l.length = len) (hl : len ≤ 1099511627776) (hv : v = true ↔ MayL l) (w : World) (hr : RowM w A l) : Calls Try.prog 17 #[.slice A len cap] w fun e w' => e = .returned (.bool v) ∧ Kept w w' := by
  have HR := Lib.hid hr
  have HV := Lib.hid hv
  have HN := Lib.hid hn
  clear hr hv hn
  go_enter Try.func17, Try.ntmps17
  go_wp2
  go_loopw [7] (fun i wr => ∃ k : Nat, k ≤ len ∧ i = .int .i64 k ∧ MayL (l.take k) ∧ Kept w wr) (fun i _ => len - (intOf i).toNat)
  case atStart => exact ⟨0, Nat.zero_le _, rfl, fun j h => absurd h (by simp), Kept.refl _⟩
  case round =>
    obtain ⟨k, hk, rfl, hm, kw⟩ := hrel
    have HM := Lib.hid hm
    clear hm
    by_cases hlt : k < len
    · have hltI : (k : Int) < (len : Int) := by omega
      have hlt' : k < l.length := by have := HN.out; omega
      obtain ⟨b, off, rfl, hc⟩ := (HR.out.kept kw) (by omega)
      obtain ⟨c1, c2⟩ := hc k hlt'
      obtain ⟨t, et⟩ : ∃ t, (mk l k).1 = t := ⟨_, rfl⟩
      obtain ⟨n, en⟩ : ∃ n, (mk l k).2 = n := ⟨_, rfl⟩
      rw [et] at c1
      rw [en] at c2
      by_cases ht : IsTime t
      · have HT := Lib.hid (fun w => timely8_yes ht w)
        have HTI := Lib.hid ht
        clear ht
        by_cases h0 : k = 0
        · have hd : decide (0 < k) = false := by simp; omega
          have NX := Lib.hid (show MayL (l.take (k + 1)) from mayNext8 HM.out (by rw [et]; exact HTI.out) (fun h => absurd h (by omega)))
          clear et en hc h0
          go_upto_region 4 with fail
          generalize hW : World.alloc wr (.cells #[.int .i64 t, .int .i64 n] 28) = W_m
          have K_m : Kept wr W_m := by subst hW; exact (Kept.refl _).alloc _ _
          have H_m := Lib.hid (show W_m.cell? ⟨wr.heap.size, 0, none⟩ = some (.int .i64 t) ∧ W_m.cell? ⟨wr.heap.size, 1, none⟩ = some (.int .i64 n) from by subst hW; simp [go_sem])
          clear hW
          generalize wr.heap.size = g_m at *
          clear c1 c2
          go_upto_region 4 with fail
          have B_m := Lib.hid (Kept.alln2 (show Kept W_m W_m from (by (repeat (first | with_reducible exact Kept.refl _ | with_reducible apply Kept.drew | with_reducible apply Kept.alloc | ((with_reducible apply Kept.set); focus (simp <;> omega)) | ((with_reducible apply Kept.via); focus with_reducible assumption))))) H_m)
          have kall : Kept w W_m := (by (repeat (first | with_reducible exact Kept.refl _ | with_reducible apply Kept.drew | with_reducible apply Kept.alloc | ((with_reducible apply Kept.set); focus (simp <;> omega)) | ((with_reducible apply Kept.via); focus with_reducible assumption))))
          obtain ⟨q_m0, q_m1⟩ := kwn2 B_m
          clear B_m
          refine wp_region_kept (by kernel_rfl) (by as_aux_lemma => kernel_rfl) ?_
          repeat (go_big_quiet_step (first | (with_reducible exact kept_of (HT.out _))))
          refine wpQuiet_nil ?_
          intro wq hw'
          have kq : Kept W_m wq := by obtain ⟨p, rfl⟩ := hw'; exact p.k
          clear hw'
          clear kall
          go_wp2
          go_roundw
          case rel => exact ⟨k + 1, by omega, by go_num, NX.out, Kept.trans (Kept.trans kw K_m) kq⟩
          case measure => simp [intOf]; omega
        · obtain ⟨j, rfl⟩ : ∃ j, k = j + 1 := ⟨k - 1, by omega⟩
          clear h0
          obtain ⟨d1, d2⟩ := hc j (by omega)
          obtain ⟨s, es⟩ : ∃ s, (mk l j).1 = s := ⟨_, rfl⟩
          obtain ⟨m, em⟩ : ∃ m, (mk l j).2 = m := ⟨_, rfl⟩
          rw [es] at d1
          rw [em] at d2
          have E4 := Lib.hid (And.intro et (And.intro en (And.intro es em)))
          clear hc et en es em
          have g0 : (0 : Int) ≤ (j : Int) := by omega
          have g1 : (j : Int) < (len : Int) := by omega
          by_cases hf : s ≤ t ∧ m < n
          · have NX := Lib.hid (show MayL (l.take (j + 1 + 1)) from mayNext8 HM.out (by rw [E4.out.1]; exact HTI.out) (fun _ => by show (mk l j).1 ≤ _ ∧ (mk l j).2 < _; rw [E4.out.1, E4.out.2.1, E4.out.2.2.1, E4.out.2.2.2]; exact hf))
            have FO := Lib.hid (fun w => follows8_ok t n s m true (by simp [hf]) w)
            clear hf
            go_upto_region 4 with fail
            generalize hW : World.alloc wr (.cells #[.int .i64 t, .int .i64 n] 28) = W_m
            have K_m : Kept wr W_m := by subst hW; exact (Kept.refl _).alloc _ _
            have H_m := Lib.hid (show W_m.cell? ⟨wr.heap.size, 0, none⟩ = some (.int .i64 t) ∧ W_m.cell? ⟨wr.heap.size, 1, none⟩ = some (.int .i64 n) from by subst hW; simp [go_sem])
            clear hW
            generalize wr.heap.size = g_m at *
            have H_r := Lib.hid (And.intro (K_m.read c1) (And.intro (K_m.read c2) (And.intro (K_m.read d1) (K_m.read d2))))
            clear c1 c2 d1 d2
            go_upto_region 4 with fail
            have B_m := Lib.hid (Kept.alln2 (show Kept W_m W_m from (by (repeat (first | with_reducible exact Kept.refl _ | with_reducible apply Kept.drew | with_reducible apply Kept.alloc | ((with_reducible apply Kept.set); focus (simp <;> omega)) | ((with_reducible apply Kept.via); focus with_reducible assumption))))) H_m)
            have B_r := Lib.hid (Kept.alln4 (show Kept W_m W_m from (by (repeat (first | with_reducible exact Kept.refl _ | with_reducible apply Kept.drew | with_reducible apply Kept.alloc | ((with_reducible apply Kept.set); focus (simp <;> omega)) | ((with_reducible apply Kept.via); focus with_reducible assumption))))) H_r)
            have kall : Kept w W_m := (by (repeat (first | with_reducible exact Kept.refl _ | with_reducible apply Kept.drew | with_reducible apply Kept.alloc | ((with_reducible apply Kept.set); focus (simp <;> omega)) | ((with_reducible apply Kept.via); focus with_reducible assumption))))
            obtain ⟨q_m0, q_m1⟩ := kwn2 B_m
            obtain ⟨q_r0, q_r1, q_r2, q_r3⟩ := kwn4 B_r
            clear B_m B_r
            refine wp_region_kept (by kernel_rfl) (by as_aux_lemma => kernel_rfl) ?_
            repeat (go_big_quiet_step (first | (with_reducible exact kept_of (HT.out _)) | (with_reducible exact kept_of (FO.out _))))
            refine wpQuiet_nil ?_
            intro wq hw'
            have kq : Kept W_m wq := by obtain ⟨p, rfl⟩ := hw'; exact p.k
            clear hw'
            clear kall
            go_wp2
            go_roundw
            case rel => exact ⟨j + 1 + 1, by omega, by go_num, NX.out, Kept.trans (Kept.trans kw K_m) kq⟩
            case measure => simp [intOf]; omega
          · have NO := Lib.hid (show v = false from by
              cases v with
              | false => rfl
              | true =>
                have h := (HV.out.1 rfl (j + 1) hlt').2 (by omega)
                have h' : (mk l j).1 ≤ (mk l (j + 1)).1 ∧ (mk l j).2 < (mk l (j + 1)).2 := h
                rw [E4.out.1, E4.out.2.1, E4.out.2.2.1, E4.out.2.2.2] at h'
                exact absurd h' hf)
            have FO := Lib.hid (fun w => follows8_ok t n s m false (by simp [hf]) w)
            clear hf
            go_upto_region 4 with fail
            generalize hW : World.alloc wr (.cells #[.int .i64 t, .int .i64 n] 28) = W_m
            have K_m : Kept wr W_m := by subst hW; exact (Kept.refl _).alloc _ _
            have H_m := Lib.hid (show W_m.cell? ⟨wr.heap.size, 0, none⟩ = some (.int .i64 t) ∧ W_m.cell? ⟨wr.heap.size, 1, none⟩ = some (.int .i64 n) from by subst hW; simp [go_sem])
            clear hW
            generalize wr.heap.size = g_m at *
            have H_r := Lib.hid (And.intro (K_m.read c1) (And.intro (K_m.read c2) (And.intro (K_m.read d1) (K_m.read d2))))
            clear c1 c2 d1 d2
            go_upto_region 4 with fail
            have B_m := Lib.hid (Kept.alln2 (show Kept W_m W_m from (by (repeat (first | with_reducible exact Kept.refl _ | with_reducible apply Kept.drew | with_reducible apply Kept.alloc | ((with_reducible apply Kept.set); focus (simp <;> omega)) | ((with_reducible apply Kept.via); focus with_reducible assumption))))) H_m)
            have B_r := Lib.hid (Kept.alln4 (show Kept W_m W_m from (by (repeat (first | with_reducible exact Kept.refl _ | with_reducible apply Kept.drew | with_reducible apply Kept.alloc | ((with_reducible apply Kept.set); focus (simp <;> omega)) | ((with_reducible apply Kept.via); focus with_reducible assumption))))) H_r)
            have kall : Kept w W_m := (by (repeat (first | with_reducible exact Kept.refl _ | with_reducible apply Kept.drew | with_reducible apply Kept.alloc | ((with_reducible apply Kept.set); focus (simp <;> omega)) | ((with_reducible apply Kept.via); focus with_reducible assumption))))
            obtain ⟨q_m0, q_m1⟩ := kwn2 B_m
            obtain ⟨q_r0, q_r1, q_r2, q_r3⟩ := kwn4 B_r
            clear B_m B_r
            refine wp_region_kept (by kernel_rfl) (by as_aux_lemma => kernel_rfl) ?_
            repeat (go_big_quiet_step (first | (with_reducible exact kept_of (HT.out _)) | (with_reducible exact kept_of (FO.out _))))
            refine wpQuiet_nil ?_
            intro wq hw'
            have kq : Kept W_m wq := by obtain ⟨p, rfl⟩ := hw'; exact p.k
            clear hw'
            clear kall
            go_wp2
            go_ret
            exact ⟨ret_b NO.out.symm, Kept.trans (Kept.trans kw K_m) kq⟩
      · have NO := Lib.hid (show v = false from by
          cases v with
          | false => rfl
          | true =>
            have h := (HV.out.1 rfl k hlt').1
            rw [et] at h
            exact absurd h ht)
        have HT := Lib.hid (fun w => timely8_no ht w)
        clear ht et en hc
        go_upto_region 4 with fail
        generalize hW : World.alloc wr (.cells #[.int .i64 t, .int .i64 n] 28) = W_m
        have K_m : Kept wr W_m := by subst hW; exact (Kept.refl _).alloc _ _
        have H_m := Lib.hid (show W_m.cell? ⟨wr.heap.size, 0, none⟩ = some (.int .i64 t) ∧ W_m.cell? ⟨wr.heap.size, 1, none⟩ = some (.int .i64 n) from by subst hW; simp [go_sem])
        clear hW
        generalize wr.heap.size = g_m at *
        clear c1 c2
        go_upto_region 4 with fail
        have B_m := Lib.hid (Kept.alln2 (show Kept W_m W_m from (by (repeat (first | with_reducible exact Kept.refl _ | with_reducible apply Kept.drew | with_reducible apply Kept.alloc | ((with_reducible apply Kept.set); focus (simp <;> omega)) | ((with_reducible apply Kept.via); focus with_reducible assumption))))) H_m)
        have kall : Kept w W_m := (by (repeat (first | with_reducible exact Kept.refl _ | with_reducible apply Kept.drew | with_reducible apply Kept.alloc | ((with_reducible apply Kept.set); focus (simp <;> omega)) | ((with_reducible apply Kept.via); focus with_reducible assumption))))
        obtain ⟨q_m0, q_m1⟩ := kwn2 B_m
        clear B_m
        refine wp_region_kept (by kernel_rfl) (by as_aux_lemma => kernel_rfl) ?_
        repeat (go_big_quiet_step (first | (with_reducible exact kept_of (HT.out _))))
        refine wpQuiet_nil ?_
        intro wq hw'
        have kq : Kept W_m wq := by obtain ⟨p, rfl⟩ := hw'; exact p.k
        clear hw'
        clear kall
        go_wp2
        go_ret
        exact ⟨ret_b NO.out.symm, Kept.trans (Kept.trans kw K_m) kq⟩
    · have YES := Lib.hid (show v = true from HV.out.2 (by
        have h := HM.out
        rw [List.take_of_length_le (by have := HN.out; omega)] at h
        exact h))
      obtain rfl : k = len := by omega
      go_wp2
      go_ret
      exact ⟨ret_b YES.out.symm, kw⟩
end Go.Proofs.Ytpbchcpbjflnoaa
