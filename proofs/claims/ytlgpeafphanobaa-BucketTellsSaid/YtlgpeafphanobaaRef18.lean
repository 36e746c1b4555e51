/-
  Contracts of the document's answers of layer 18.
-/
import Derived.Test.YtlgpeafphanobaaCon18
import Derived.Test.YtlgpeafphanobaaRef04
import Derived.Test.YtlgpeafphanobaaRefN02
import Derived.Test.YtlgpeafphanobaaOne01
import Derived.Test.YtlgpeafphanobaaRef05
import Derived.Test.YtlgpeafphanobaaRoom
import Derived.Deep.DeepCutAuto
namespace Go.Proofs.Ytlgpeafphanobaa
open Go.RowKit Go.BigFrame
set_option linter.unusedVariables false

theorem clamp_taken (n : Int) : clampAt n 0 1099511627776 = heldTime n := by
  unfold clampAt heldTime
  (repeat split) <;> omega
theorem clampLift18 (a b c n : Int) (hn : clampAt a b c = n) (w : World) : Calls Try.prog 44 #[.int .i64 a, .int .i64 b, .int .i64 c] w fun e w' => e = .returned (.int .i64 n) ∧ Kept w w' := (refClamp_lit_s a b c n w hn).mono (fun _ _ ⟨h, k⟩ => ⟨h, k ▸ Kept.refl _⟩)
theorem addLift18 {a b n : Int} (ha : In64 a) (hb : In64 b) (hn : heldAt (a + b) = n) (w : World) : Calls Try.prog 25 #[.int .i64 a, .int .i64 b] w fun e w' => e = .returned (.int .i64 n) ∧ Kept w w' := (refAdd_lit_s a b n w ha hb hn).mono (fun _ _ ⟨h, k⟩ => ⟨h, k ▸ Kept.refl _⟩)
theorem mulLift18 {a b n : Int} (ha : In64 a) (hb : In64 b) (hn : heldAt (a * b) = n) (w : World) : Calls Try.prog 26 #[.int .i64 a, .int .i64 b] w fun e w' => e = .returned (.int .i64 n) ∧ Kept w w' := (refMul_lit_s a b n w ha hb hn).mono (fun _ _ ⟨h, k⟩ => ⟨h, k ▸ Kept.refl _⟩)
set_option maxRecDepth 100000 in
set_option maxHeartbeats 1600000 in
theorem taken18 {n v : Int} (CL : ∀ w, Calls Try.prog 44 #[.int .i64 n, .int .i64 0, .int .i64 1099511627776] w fun e w' => e = .returned (.int .i64 v) ∧ Kept w w') (w : World) : Calls Try.prog 27 #[.int .i64 n] w fun e w' => e = .returned (.int .i64 v) ∧ Kept w w' := by
  have CL' := Lib.hid CL
  clear CL
  go_enter Try.func27, Try.ntmps27
  go_wp2_with fail
  refine (CL'.out _).mono ?_
  rintro e w20 ⟨rfl, k20⟩
  go_wp2
  go_ret
  exact ⟨rfl, (by (repeat (first | with_reducible exact Kept.refl _ | with_reducible apply Kept.drew | with_reducible apply Kept.alloc | ((with_reducible apply Kept.set); focus (simp <;> omega)) | ((with_reducible apply Kept.via); focus with_reducible assumption))))⟩
theorem refTaken18_ok (n : Int) (w : World) : Calls Try.prog 27 #[.int .i64 n] w fun e w' => e = .returned (.int .i64 (heldTime n)) ∧ Kept w w' := taken18 (fun w => clampLift18 n 0 1099511627776 _ (clamp_taken n) w) w
set_option maxRecDepth 100000 in
set_option maxHeartbeats 1600000 in
theorem top18 {n v : Int} (v0 : 0 ≤ v) (v1 : v ≤ 1099511627776) (TK : ∀ w, Calls Try.prog 27 #[.int .i64 n] w fun e w' => e = .returned (.int .i64 v) ∧ Kept w w') (w : World) : Calls Try.prog 28 #[.int .i64 n] w fun e w' => e = .returned (.int .i64 (v * 1000000)) ∧ Kept w w' := by
  have TK' := Lib.hid TK
  clear TK
  go_enter Try.func28, Try.ntmps28
  go_wp2_with fail
  refine (TK'.out _).mono ?_
  rintro e w20 ⟨rfl, k20⟩
  go_wp2
  go_ret
  exact ⟨rfl, (by (repeat (first | with_reducible exact Kept.refl _ | with_reducible apply Kept.drew | with_reducible apply Kept.alloc | ((with_reducible apply Kept.set); focus (simp <;> omega)) | ((with_reducible apply Kept.via); focus with_reducible assumption))))⟩
theorem refTop18_ok (n : Int) (w : World) : Calls Try.prog 28 #[.int .i64 n] w fun e w' => e = .returned (.int .i64 (topN n)) ∧ Kept w w' := top18 (taken_range n).1 (taken_range n).2 (fun w => refTaken18_ok n w) w
set_option maxRecDepth 100000 in
set_option maxHeartbeats 1600000 in
theorem rchk18_t {a h : Int}  (TM : ∀ w, Calls Try.prog 30 #[.int .i64 a] w fun e w' => e = .returned (.bool false) ∧ Kept w w') (w : World) : Calls Try.prog 15 #[.agg #[.int .i64 a, .int .i64 h]] w fun e w' => e = .returned (.bool false) ∧ Kept w w' := by
  have TM' := Lib.hid TM
  clear TM
  go_enter Try.func15, Try.ntmps15
  go_upto_region 1 with fail
  generalize hW : World.alloc w (.cells #[.int .i64 a, .int .i64 h] 23) = W_b
  have K_b : Kept w W_b := by subst hW; exact (Kept.refl _).alloc _ _
  have H_b := Lib.hid (show W_b.cell? ⟨w.heap.size, 0, none⟩ = some (.int .i64 a) ∧ W_b.cell? ⟨w.heap.size, 1, none⟩ = some (.int .i64 h) from by subst hW; simp [go_sem])
  clear hW
  generalize w.heap.size = g_b at *
  obtain ⟨cb0, cb1⟩ := Kept.alln2 (show Kept W_b W_b from (by (repeat (first | with_reducible exact Kept.refl _ | with_reducible apply Kept.drew | with_reducible apply Kept.alloc | ((with_reducible apply Kept.set); focus (simp <;> omega)) | ((with_reducible apply Kept.via); focus with_reducible assumption))))) H_b
  go_wp2_with fail
  refine (TM'.out _).mono ?_
  rintro e w20 ⟨rfl, k20⟩
  clear cb0 cb1
  obtain ⟨cb0, cb1⟩ := Kept.alln2 (show Kept W_b w20 from (by (repeat (first | with_reducible exact Kept.refl _ | with_reducible apply Kept.drew | with_reducible apply Kept.alloc | ((with_reducible apply Kept.set); focus (simp <;> omega)) | ((with_reducible apply Kept.via); focus with_reducible assumption))))) H_b
  go_wp2
  go_ret
  exact ⟨rfl, (by (repeat (first | with_reducible exact Kept.refl _ | with_reducible apply Kept.drew | with_reducible apply Kept.alloc | ((with_reducible apply Kept.set); focus (simp <;> omega)) | ((with_reducible apply Kept.via); focus with_reducible assumption))))⟩
set_option maxRecDepth 100000 in
set_option maxHeartbeats 1600000 in
theorem rchk18_n {a h : Int} (d0 : decide (0 ≤ h) = false) (TM : ∀ w, Calls Try.prog 30 #[.int .i64 a] w fun e w' => e = .returned (.bool true) ∧ Kept w w') (w : World) : Calls Try.prog 15 #[.agg #[.int .i64 a, .int .i64 h]] w fun e w' => e = .returned (.bool false) ∧ Kept w w' := by
  have TM' := Lib.hid TM
  clear TM
  go_enter Try.func15, Try.ntmps15
  go_upto_region 1 with fail
  generalize hW : World.alloc w (.cells #[.int .i64 a, .int .i64 h] 23) = W_b
  have K_b : Kept w W_b := by subst hW; exact (Kept.refl _).alloc _ _
  have H_b := Lib.hid (show W_b.cell? ⟨w.heap.size, 0, none⟩ = some (.int .i64 a) ∧ W_b.cell? ⟨w.heap.size, 1, none⟩ = some (.int .i64 h) from by subst hW; simp [go_sem])
  clear hW
  generalize w.heap.size = g_b at *
  obtain ⟨cb0, cb1⟩ := Kept.alln2 (show Kept W_b W_b from (by (repeat (first | with_reducible exact Kept.refl _ | with_reducible apply Kept.drew | with_reducible apply Kept.alloc | ((with_reducible apply Kept.set); focus (simp <;> omega)) | ((with_reducible apply Kept.via); focus with_reducible assumption))))) H_b
  go_wp2_with fail
  refine (TM'.out _).mono ?_
  rintro e w20 ⟨rfl, k20⟩
  clear cb0 cb1
  obtain ⟨cb0, cb1⟩ := Kept.alln2 (show Kept W_b w20 from (by (repeat (first | with_reducible exact Kept.refl _ | with_reducible apply Kept.drew | with_reducible apply Kept.alloc | ((with_reducible apply Kept.set); focus (simp <;> omega)) | ((with_reducible apply Kept.via); focus with_reducible assumption))))) H_b
  go_wp2
  go_ret
  exact ⟨rfl, (by (repeat (first | with_reducible exact Kept.refl _ | with_reducible apply Kept.drew | with_reducible apply Kept.alloc | ((with_reducible apply Kept.set); focus (simp <;> omega)) | ((with_reducible apply Kept.via); focus with_reducible assumption))))⟩
set_option maxRecDepth 100000 in
set_option maxHeartbeats 1600000 in
theorem rchk18_m {a h : Int} (d0 : decide (0 ≤ h) = true) (d1 : decide (h ≤ 1152921504606846976) = false) (TM : ∀ w, Calls Try.prog 30 #[.int .i64 a] w fun e w' => e = .returned (.bool true) ∧ Kept w w') (w : World) : Calls Try.prog 15 #[.agg #[.int .i64 a, .int .i64 h]] w fun e w' => e = .returned (.bool false) ∧ Kept w w' := by
  have TM' := Lib.hid TM
  clear TM
  go_enter Try.func15, Try.ntmps15
  go_upto_region 1 with fail
  generalize hW : World.alloc w (.cells #[.int .i64 a, .int .i64 h] 23) = W_b
  have K_b : Kept w W_b := by subst hW; exact (Kept.refl _).alloc _ _
  have H_b := Lib.hid (show W_b.cell? ⟨w.heap.size, 0, none⟩ = some (.int .i64 a) ∧ W_b.cell? ⟨w.heap.size, 1, none⟩ = some (.int .i64 h) from by subst hW; simp [go_sem])
  clear hW
  generalize w.heap.size = g_b at *
  obtain ⟨cb0, cb1⟩ := Kept.alln2 (show Kept W_b W_b from (by (repeat (first | with_reducible exact Kept.refl _ | with_reducible apply Kept.drew | with_reducible apply Kept.alloc | ((with_reducible apply Kept.set); focus (simp <;> omega)) | ((with_reducible apply Kept.via); focus with_reducible assumption))))) H_b
  go_wp2_with fail
  refine (TM'.out _).mono ?_
  rintro e w20 ⟨rfl, k20⟩
  clear cb0 cb1
  obtain ⟨cb0, cb1⟩ := Kept.alln2 (show Kept W_b w20 from (by (repeat (first | with_reducible exact Kept.refl _ | with_reducible apply Kept.drew | with_reducible apply Kept.alloc | ((with_reducible apply Kept.set); focus (simp <;> omega)) | ((with_reducible apply Kept.via); focus with_reducible assumption))))) H_b
  go_wp2
  go_ret
  exact ⟨rfl, (by (repeat (first | with_reducible exact Kept.refl _ | with_reducible apply Kept.drew | with_reducible apply Kept.alloc | ((with_reducible apply Kept.set); focus (simp <;> omega)) | ((with_reducible apply Kept.via); focus with_reducible assumption))))⟩
set_option maxRecDepth 100000 in
set_option maxHeartbeats 1600000 in
theorem rchk18_y {a h : Int} (d0 : decide (0 ≤ h) = true) (d1 : decide (h ≤ 1152921504606846976) = true) (TM : ∀ w, Calls Try.prog 30 #[.int .i64 a] w fun e w' => e = .returned (.bool true) ∧ Kept w w') (w : World) : Calls Try.prog 15 #[.agg #[.int .i64 a, .int .i64 h]] w fun e w' => e = .returned (.bool true) ∧ Kept w w' := by
  have TM' := Lib.hid TM
  clear TM
  go_enter Try.func15, Try.ntmps15
  go_upto_region 1 with fail
  generalize hW : World.alloc w (.cells #[.int .i64 a, .int .i64 h] 23) = W_b
  have K_b : Kept w W_b := by subst hW; exact (Kept.refl _).alloc _ _
  have H_b := Lib.hid (show W_b.cell? ⟨w.heap.size, 0, none⟩ = some (.int .i64 a) ∧ W_b.cell? ⟨w.heap.size, 1, none⟩ = some (.int .i64 h) from by subst hW; simp [go_sem])
  clear hW
  generalize w.heap.size = g_b at *
  obtain ⟨cb0, cb1⟩ := Kept.alln2 (show Kept W_b W_b from (by (repeat (first | with_reducible exact Kept.refl _ | with_reducible apply Kept.drew | with_reducible apply Kept.alloc | ((with_reducible apply Kept.set); focus (simp <;> omega)) | ((with_reducible apply Kept.via); focus with_reducible assumption))))) H_b
  go_wp2_with fail
  refine (TM'.out _).mono ?_
  rintro e w20 ⟨rfl, k20⟩
  clear cb0 cb1
  obtain ⟨cb0, cb1⟩ := Kept.alln2 (show Kept W_b w20 from (by (repeat (first | with_reducible exact Kept.refl _ | with_reducible apply Kept.drew | with_reducible apply Kept.alloc | ((with_reducible apply Kept.set); focus (simp <;> omega)) | ((with_reducible apply Kept.via); focus with_reducible assumption))))) H_b
  go_wp2
  go_ret
  exact ⟨rfl, (by (repeat (first | with_reducible exact Kept.refl _ | with_reducible apply Kept.drew | with_reducible apply Kept.alloc | ((with_reducible apply Kept.set); focus (simp <;> omega)) | ((with_reducible apply Kept.via); focus with_reducible assumption))))⟩
theorem refCheck18_ok {a h : Int} (v : Bool) (hv : v = true ↔ MayB a h) (w : World) : Calls Try.prog 15 #[.agg #[.int .i64 a, .int .i64 h]] w fun e w' => e = .returned (.bool v) ∧ Kept w w' := by
  by_cases m : MayB a h
  · obtain rfl : v = true := hv.2 m
    exact rchk18_y (by simp [m.2.1]) (by simp [m.2.2]) (fun w => refCheck_yes m.1 w) w
  · obtain rfl : v = false := by cases v with
      | false => rfl
      | true => exact absurd (hv.1 rfl) m
    by_cases ht : IsTime a
    · by_cases h0 : 0 ≤ h
      · exact rchk18_m (by simp [h0]) (by simp; rcases (show h ≤ 1152921504606846976 ∨ 1152921504606846976 < h by omega) with z | z; exact absurd ⟨ht, h0, z⟩ m; exact z) (fun w => refCheck_yes ht w) w
      · exact rchk18_n (by simp; omega) (fun w => refCheck_yes ht w) w
    · exact rchk18_t (fun w => refCheck_no ht w) w
set_option maxRecDepth 100000 in
set_option maxHeartbeats 1600000 in
theorem rbyt18_n {a h : Int} (CK : ∀ w, Calls Try.prog 15 #[.agg #[.int .i64 a, .int .i64 h]] w fun e w' => e = .returned (.bool false) ∧ Kept w w') (w : World) : Calls Try.prog 19 #[.agg #[.int .i64 a, .int .i64 h]] w fun e w' => e = .returned (.int .i64 0) ∧ Kept w w' := by
  have CK' := Lib.hid CK
  clear CK
  go_enter Try.func19, Try.ntmps19
  go_upto_region 1 with fail
  generalize hW : World.alloc w (.cells #[.int .i64 a, .int .i64 h] 23) = W_b
  have K_b : Kept w W_b := by subst hW; exact (Kept.refl _).alloc _ _
  have H_b := Lib.hid (show W_b.cell? ⟨w.heap.size, 0, none⟩ = some (.int .i64 a) ∧ W_b.cell? ⟨w.heap.size, 1, none⟩ = some (.int .i64 h) from by subst hW; simp [go_sem])
  clear hW
  generalize w.heap.size = g_b at *
  obtain ⟨cb0, cb1⟩ := Kept.alln2 (show Kept W_b W_b from (by (repeat (first | with_reducible exact Kept.refl _ | with_reducible apply Kept.drew | with_reducible apply Kept.alloc | ((with_reducible apply Kept.set); focus (simp <;> omega)) | ((with_reducible apply Kept.via); focus with_reducible assumption))))) H_b
  go_wp2_with fail
  refine (CK'.out _).mono ?_
  rintro e w20 ⟨rfl, k20⟩
  clear cb0 cb1
  obtain ⟨cb0, cb1⟩ := Kept.alln2 (show Kept W_b w20 from (by (repeat (first | with_reducible exact Kept.refl _ | with_reducible apply Kept.drew | with_reducible apply Kept.alloc | ((with_reducible apply Kept.set); focus (simp <;> omega)) | ((with_reducible apply Kept.via); focus with_reducible assumption))))) H_b
  go_wp2
  go_ret
  exact ⟨rfl, (by (repeat (first | with_reducible exact Kept.refl _ | with_reducible apply Kept.drew | with_reducible apply Kept.alloc | ((with_reducible apply Kept.set); focus (simp <;> omega)) | ((with_reducible apply Kept.via); focus with_reducible assumption))))⟩
set_option maxRecDepth 100000 in
set_option maxHeartbeats 1600000 in
theorem rbyt18_y {a h : Int} (h0 : 0 ≤ h) (h1 : h ≤ 1152921504606846976) (CK : ∀ w, Calls Try.prog 15 #[.agg #[.int .i64 a, .int .i64 h]] w fun e w' => e = .returned (.bool true) ∧ Kept w w') (w : World) : Calls Try.prog 19 #[.agg #[.int .i64 a, .int .i64 h]] w fun e w' => e = .returned (.int .i64 (h / 1000000)) ∧ Kept w w' := by
  have CK' := Lib.hid CK
  clear CK
  go_enter Try.func19, Try.ntmps19
  go_upto_region 1 with fail
  generalize hW : World.alloc w (.cells #[.int .i64 a, .int .i64 h] 23) = W_b
  have K_b : Kept w W_b := by subst hW; exact (Kept.refl _).alloc _ _
  have H_b := Lib.hid (show W_b.cell? ⟨w.heap.size, 0, none⟩ = some (.int .i64 a) ∧ W_b.cell? ⟨w.heap.size, 1, none⟩ = some (.int .i64 h) from by subst hW; simp [go_sem])
  clear hW
  generalize w.heap.size = g_b at *
  obtain ⟨cb0, cb1⟩ := Kept.alln2 (show Kept W_b W_b from (by (repeat (first | with_reducible exact Kept.refl _ | with_reducible apply Kept.drew | with_reducible apply Kept.alloc | ((with_reducible apply Kept.set); focus (simp <;> omega)) | ((with_reducible apply Kept.via); focus with_reducible assumption))))) H_b
  go_wp2_with fail
  refine (CK'.out _).mono ?_
  rintro e w20 ⟨rfl, k20⟩
  clear cb0 cb1
  obtain ⟨cb0, cb1⟩ := Kept.alln2 (show Kept W_b w20 from (by (repeat (first | with_reducible exact Kept.refl _ | with_reducible apply Kept.drew | with_reducible apply Kept.alloc | ((with_reducible apply Kept.set); focus (simp <;> omega)) | ((with_reducible apply Kept.via); focus with_reducible assumption))))) H_b
  go_wp2
  go_ret
  exact ⟨rfl, (by (repeat (first | with_reducible exact Kept.refl _ | with_reducible apply Kept.drew | with_reducible apply Kept.alloc | ((with_reducible apply Kept.set); focus (simp <;> omega)) | ((with_reducible apply Kept.via); focus with_reducible assumption))))⟩
theorem refBytes18_ok {a h n : Int} (hn : bytesB a h = n) (w : World) : Calls Try.prog 19 #[.agg #[.int .i64 a, .int .i64 h]] w fun e w' => e = .returned (.int .i64 n) ∧ Kept w w' := by
  by_cases m : MayB a h
  · obtain rfl : h / 1000000 = n := by rw [← hn]; unfold bytesB; rw [if_pos m]
    exact rbyt18_y m.2.1 m.2.2 (fun w => refCheck18_ok true (by simp [m]) w) w
  · obtain rfl : 0 = n := by rw [← hn]; unfold bytesB; rw [if_neg m]
    exact rbyt18_n (fun w => refCheck18_ok false (by simp [m]) w) w
set_option maxRecDepth 100000 in
set_option maxHeartbeats 1600000 in
theorem rtak18_m {a h n : Int} (CK : ∀ w, Calls Try.prog 15 #[.agg #[.int .i64 a, .int .i64 h]] w fun e w' => e = .returned (.bool false) ∧ Kept w w') (w : World) : Calls Try.prog 13 #[.agg #[.int .i64 a, .int .i64 h], .int .i64 n] w fun e w' => e = .returned (.tuple #[.agg #[.int .i64 a, .int .i64 h], .int .i64 201]) ∧ Kept w w' := by
  have CK' := Lib.hid CK
  clear CK
  go_enter Try.func13, Try.ntmps13
  go_upto_region 1 with fail
  generalize hW : (World.alloc (World.alloc w (.cells #[.int .i64 a, .int .i64 h] 23)) (.cells #[.int .i64 0, .int .i64 0] 23)) = W0
  have R0 := Lib.hid (show RB W0 w.heap.size a h from by subst hW; exact ⟨⟨by simp [go_sem], by simp [go_sem]⟩, by simp [go_sem], by simp [go_sem]⟩)
  have Z0 := Lib.hid (show RB W0 (w.heap.size + 1) 0 0 from by subst hW; exact ⟨⟨by simp [go_sem], by simp [go_sem]⟩, by simp [go_sem], by simp [go_sem]⟩)
  have kz0 : Kept w W0 := by subst hW; exact ((Kept.refl _).alloc _ _).alloc _ _
  clear hW
  generalize hg : w.heap.size = g at *
  have gw : w.heap.size ≤ g + 1 := by omega
  obtain ⟨c0, c1⟩ := R0.out.1
  go_wp2_with fail
  refine (CK'.out _).mono ?_
  rintro e v0 ⟨rfl, k0⟩
  clear c0 c1
  have R1 := Lib.hid (R0.out.kept k0)
  have Z1 := Lib.hid (Z0.out.kept k0)
  have kz1 := Kept.trans kz0 k0
  clear R0 Z0 kz0
  have ne0 := R1.out.ne
  have ne1 := Z1.out.ne
  obtain ⟨⟨c0, c1⟩, cf0, cf1⟩ := R1.out
  obtain ⟨⟨z0, z1⟩, zf0, zf1⟩ := Z1.out
  go_wp2
  simp [bodyPost, results, Try.results13, go_sem, *]
  exact (by (repeat (first | with_reducible exact Kept.refl _ | with_reducible apply Kept.drew | with_reducible apply Kept.alloc | ((with_reducible apply Kept.set); focus (simp <;> omega)) | ((with_reducible apply Kept.via); focus with_reducible assumption))))
set_option maxRecDepth 100000 in
set_option maxHeartbeats 1600000 in
theorem rtak18_n {a h n : Int} (d0 : decide (n < 1) = true) (CK : ∀ w, Calls Try.prog 15 #[.agg #[.int .i64 a, .int .i64 h]] w fun e w' => e = .returned (.bool true) ∧ Kept w w') (w : World) : Calls Try.prog 13 #[.agg #[.int .i64 a, .int .i64 h], .int .i64 n] w fun e w' => e = .returned (.tuple #[.agg #[.int .i64 a, .int .i64 h], .int .i64 201]) ∧ Kept w w' := by
  have CK' := Lib.hid CK
  clear CK
  go_enter Try.func13, Try.ntmps13
  go_upto_region 1 with fail
  generalize hW : (World.alloc (World.alloc w (.cells #[.int .i64 a, .int .i64 h] 23)) (.cells #[.int .i64 0, .int .i64 0] 23)) = W0
  have R0 := Lib.hid (show RB W0 w.heap.size a h from by subst hW; exact ⟨⟨by simp [go_sem], by simp [go_sem]⟩, by simp [go_sem], by simp [go_sem]⟩)
  have Z0 := Lib.hid (show RB W0 (w.heap.size + 1) 0 0 from by subst hW; exact ⟨⟨by simp [go_sem], by simp [go_sem]⟩, by simp [go_sem], by simp [go_sem]⟩)
  have kz0 : Kept w W0 := by subst hW; exact ((Kept.refl _).alloc _ _).alloc _ _
  clear hW
  generalize hg : w.heap.size = g at *
  have gw : w.heap.size ≤ g + 1 := by omega
  obtain ⟨c0, c1⟩ := R0.out.1
  go_wp2_with fail
  refine (CK'.out _).mono ?_
  rintro e v0 ⟨rfl, k0⟩
  clear c0 c1
  have R1 := Lib.hid (R0.out.kept k0)
  have Z1 := Lib.hid (Z0.out.kept k0)
  have kz1 := Kept.trans kz0 k0
  clear R0 Z0 kz0
  have ne0 := R1.out.ne
  have ne1 := Z1.out.ne
  obtain ⟨⟨c0, c1⟩, cf0, cf1⟩ := R1.out
  obtain ⟨⟨z0, z1⟩, zf0, zf1⟩ := Z1.out
  go_wp2
  simp [bodyPost, results, Try.results13, go_sem, *]
  exact (by (repeat (first | with_reducible exact Kept.refl _ | with_reducible apply Kept.drew | with_reducible apply Kept.alloc | ((with_reducible apply Kept.set); focus (simp <;> omega)) | ((with_reducible apply Kept.via); focus with_reducible assumption))))
set_option maxRecDepth 100000 in
set_option maxHeartbeats 1600000 in
theorem rtak18_f {a h n y : Int} (d0 : decide (n < 1) = false) (d1 : decide (y < n) = true) (CK : ∀ w, Calls Try.prog 15 #[.agg #[.int .i64 a, .int .i64 h]] w fun e w' => e = .returned (.bool true) ∧ Kept w w') (YB : ∀ w, Calls Try.prog 19 #[.agg #[.int .i64 a, .int .i64 h]] w fun e w' => e = .returned (.int .i64 y) ∧ Kept w w') (w : World) : Calls Try.prog 13 #[.agg #[.int .i64 a, .int .i64 h], .int .i64 n] w fun e w' => e = .returned (.tuple #[.agg #[.int .i64 a, .int .i64 h], .int .i64 203]) ∧ Kept w w' := by
  have CK' := Lib.hid CK
  have YB' := Lib.hid YB
  clear CK YB
  go_enter Try.func13, Try.ntmps13
  go_upto_region 1 with fail
  generalize hW : (World.alloc (World.alloc w (.cells #[.int .i64 a, .int .i64 h] 23)) (.cells #[.int .i64 0, .int .i64 0] 23)) = W0
  have R0 := Lib.hid (show RB W0 w.heap.size a h from by subst hW; exact ⟨⟨by simp [go_sem], by simp [go_sem]⟩, by simp [go_sem], by simp [go_sem]⟩)
  have Z0 := Lib.hid (show RB W0 (w.heap.size + 1) 0 0 from by subst hW; exact ⟨⟨by simp [go_sem], by simp [go_sem]⟩, by simp [go_sem], by simp [go_sem]⟩)
  have kz0 : Kept w W0 := by subst hW; exact ((Kept.refl _).alloc _ _).alloc _ _
  clear hW
  generalize hg : w.heap.size = g at *
  have gw : w.heap.size ≤ g + 1 := by omega
  obtain ⟨c0, c1⟩ := R0.out.1
  go_wp2_with fail
  refine (CK'.out _).mono ?_
  rintro e v0 ⟨rfl, k0⟩
  clear c0 c1
  have R1 := Lib.hid (R0.out.kept k0)
  have Z1 := Lib.hid (Z0.out.kept k0)
  have kz1 := Kept.trans kz0 k0
  clear R0 Z0 kz0
  obtain ⟨c0, c1⟩ := R1.out.1
  go_wp2_with fail
  refine (YB'.out _).mono ?_
  rintro e v1 ⟨rfl, k1⟩
  clear c0 c1
  have R2 := Lib.hid (R1.out.kept k1)
  have Z2 := Lib.hid (Z1.out.kept k1)
  have kz2 := Kept.trans kz1 k1
  clear R1 Z1 kz1
  have ne0 := R2.out.ne
  have ne1 := Z2.out.ne
  obtain ⟨⟨c0, c1⟩, cf0, cf1⟩ := R2.out
  obtain ⟨⟨z0, z1⟩, zf0, zf1⟩ := Z2.out
  go_wp2
  simp [bodyPost, results, Try.results13, go_sem, *]
  exact (by (repeat (first | with_reducible exact Kept.refl _ | with_reducible apply Kept.drew | with_reducible apply Kept.alloc | ((with_reducible apply Kept.set); focus (simp <;> omega)) | ((with_reducible apply Kept.via); focus with_reducible assumption))))
set_option maxRecDepth 100000 in
set_option maxHeartbeats 1600000 in
theorem rtak18_y {a h n y : Int} (d0 : decide (n < 1) = false) (d1 : decide (y < n) = false) (n0 : 1 ≤ n) (n1 : n ≤ 1152921504607) (h0 : 0 ≤ h) (h1 : h ≤ 1152921504606846976) (CK : ∀ w, Calls Try.prog 15 #[.agg #[.int .i64 a, .int .i64 h]] w fun e w' => e = .returned (.bool true) ∧ Kept w w') (YB : ∀ w, Calls Try.prog 19 #[.agg #[.int .i64 a, .int .i64 h]] w fun e w' => e = .returned (.int .i64 y) ∧ Kept w w') (w : World) : Calls Try.prog 13 #[.agg #[.int .i64 a, .int .i64 h], .int .i64 n] w fun e w' => e = .returned (.tuple #[.agg #[.int .i64 a, .int .i64 (h - 1000000 * n)], .int .i64 0]) ∧ Kept w w' := by
  have CK' := Lib.hid CK
  have YB' := Lib.hid YB
  clear CK YB
  go_enter Try.func13, Try.ntmps13
  go_upto_region 1 with fail
  generalize hW : (World.alloc (World.alloc w (.cells #[.int .i64 a, .int .i64 h] 23)) (.cells #[.int .i64 0, .int .i64 0] 23)) = W0
  have R0 := Lib.hid (show RB W0 w.heap.size a h from by subst hW; exact ⟨⟨by simp [go_sem], by simp [go_sem]⟩, by simp [go_sem], by simp [go_sem]⟩)
  have Z0 := Lib.hid (show RB W0 (w.heap.size + 1) 0 0 from by subst hW; exact ⟨⟨by simp [go_sem], by simp [go_sem]⟩, by simp [go_sem], by simp [go_sem]⟩)
  have kz0 : Kept w W0 := by subst hW; exact ((Kept.refl _).alloc _ _).alloc _ _
  clear hW
  generalize hg : w.heap.size = g at *
  have gw : w.heap.size ≤ g + 1 := by omega
  obtain ⟨c0, c1⟩ := R0.out.1
  go_wp2_with fail
  refine (CK'.out _).mono ?_
  rintro e v0 ⟨rfl, k0⟩
  clear c0 c1
  have R1 := Lib.hid (R0.out.kept k0)
  have Z1 := Lib.hid (Z0.out.kept k0)
  have kz1 := Kept.trans kz0 k0
  clear R0 Z0 kz0
  obtain ⟨c0, c1⟩ := R1.out.1
  go_wp2_with fail
  refine (YB'.out _).mono ?_
  rintro e v1 ⟨rfl, k1⟩
  clear c0 c1
  have R2 := Lib.hid (R1.out.kept k1)
  have Z2 := Lib.hid (Z1.out.kept k1)
  have kz2 := Kept.trans kz1 k1
  clear R1 Z1 kz1
  have ne0 := R2.out.ne
  have ne1 := Z2.out.ne
  obtain ⟨⟨c0, c1⟩, cf0, cf1⟩ := R2.out
  obtain ⟨⟨z0, z1⟩, zf0, zf1⟩ := Z2.out
  go_wp2
  simp [bodyPost, results, Try.results13, go_sem, *]
  exact (by (repeat (first | with_reducible exact Kept.refl _ | with_reducible apply Kept.drew | with_reducible apply Kept.alloc | ((with_reducible apply Kept.set); focus (simp <;> omega)) | ((with_reducible apply Kept.via); focus with_reducible assumption))))
theorem refTake18_ok {a h n h' er : Int} (f : TakeIs a h n h' er) (w : World) : Calls Try.prog 13 #[.agg #[.int .i64 a, .int .i64 h], .int .i64 n] w fun e w' => e = .returned (.tuple #[.agg #[.int .i64 a, .int .i64 h'], .int .i64 er]) ∧ Kept w w' := by
  rcases f with ⟨f, rfl, rfl⟩ | ⟨m, n0, l, rfl, rfl⟩ | ⟨m, n0, l, rfl, rfl⟩
  · by_cases m : MayB a h'
    · exact rtak18_n (by simp; rcases (show n < 1 ∨ 1 ≤ n by omega) with z | z; omega; exact absurd ⟨m, z⟩ f) (fun w => refCheck18_ok true (by simp [m]) w) w
    · exact rtak18_m (fun w => refCheck18_ok false (by simp [m]) w) w
  · exact rtak18_f (y := h' / 1000000) (by simp; omega) (by simp [l]) (fun w => refCheck18_ok true (by simp [m]) w) (fun w => refBytes18_ok (by unfold bytesB; rw [if_pos m]) w) w
  · have := m.2.2
    exact rtak18_y (y := h / 1000000) (by simp; omega) (by simp; omega) n0 (by omega) m.2.1 m.2.2 (fun w => refCheck18_ok true (by simp [m]) w) (fun w => refBytes18_ok (by unfold bytesB; rw [if_pos m]) w) w
set_option maxRecDepth 100000 in
set_option maxHeartbeats 1600000 in
theorem rfil18_m {a h t rate most : Int} (CK : ∀ w, Calls Try.prog 15 #[.agg #[.int .i64 a, .int .i64 h]] w fun e w' => e = .returned (.bool false) ∧ Kept w w') (w : World) : Calls Try.prog 11 #[.agg #[.int .i64 a, .int .i64 h], .int .i64 t, .int .i64 rate, .int .i64 most] w fun e w' => e = .returned (.tuple #[.agg #[.int .i64 a, .int .i64 h], .int .i64 201]) ∧ Kept w w' := by
  have CK' := Lib.hid CK
  clear CK
  go_enter Try.func11, Try.ntmps11
  go_upto_region 1 with fail
  generalize hW : (World.alloc (World.alloc w (.cells #[.int .i64 a, .int .i64 h] 23)) (.cells #[.int .i64 0, .int .i64 0] 23)) = W0
  have R0 := Lib.hid (show RB W0 w.heap.size a h from by subst hW; exact ⟨⟨by simp [go_sem], by simp [go_sem]⟩, by simp [go_sem], by simp [go_sem]⟩)
  have Z0 := Lib.hid (show RB W0 (w.heap.size + 1) 0 0 from by subst hW; exact ⟨⟨by simp [go_sem], by simp [go_sem]⟩, by simp [go_sem], by simp [go_sem]⟩)
  have kz0 : Kept w W0 := by subst hW; exact ((Kept.refl _).alloc _ _).alloc _ _
  clear hW
  generalize hg : w.heap.size = g at *
  have gw : w.heap.size ≤ g + 1 := by omega
  obtain ⟨c0, c1⟩ := R0.out.1
  go_wp2_with fail
  refine (CK'.out _).mono ?_
  rintro e v0 ⟨rfl, k0⟩
  clear c0 c1
  have R1 := Lib.hid (R0.out.kept k0)
  have Z1 := Lib.hid (Z0.out.kept k0)
  have kz1 := Kept.trans kz0 k0
  clear R0 Z0 kz0
  have ne0 := R1.out.ne
  have ne1 := Z1.out.ne
  obtain ⟨⟨c0, c1⟩, cf0, cf1⟩ := R1.out
  obtain ⟨⟨z0, z1⟩, zf0, zf1⟩ := Z1.out
  go_wp2
  simp [bodyPost, results, Try.results11, go_sem, *]
  exact (by (repeat (first | with_reducible exact Kept.refl _ | with_reducible apply Kept.drew | with_reducible apply Kept.alloc | ((with_reducible apply Kept.set); focus (simp <;> omega)) | ((with_reducible apply Kept.via); focus with_reducible assumption))))
set_option maxRecDepth 100000 in
set_option maxHeartbeats 1600000 in
theorem rfil18_s {a h t rate most er v : Int} (z : (er == 0) = false) (z2 : ¬ er = 0) (CK : ∀ w, Calls Try.prog 15 #[.agg #[.int .i64 a, .int .i64 h]] w fun e w' => e = .returned (.bool true) ∧ Kept w w') (ST : ∀ w, Calls Try.prog 24 #[.int .i64 a, .int .i64 t] w fun e w' => e = .returned (.tuple #[.int .i64 v, .int .i64 er]) ∧ Kept w w') (w : World) : Calls Try.prog 11 #[.agg #[.int .i64 a, .int .i64 h], .int .i64 t, .int .i64 rate, .int .i64 most] w fun e w' => e = .returned (.tuple #[.agg #[.int .i64 a, .int .i64 h], .int .i64 er]) ∧ Kept w w' := by
  have CK' := Lib.hid CK
  have ST' := Lib.hid ST
  clear CK ST
  go_enter Try.func11, Try.ntmps11
  go_upto_region 1 with fail
  generalize hW : (World.alloc (World.alloc w (.cells #[.int .i64 a, .int .i64 h] 23)) (.cells #[.int .i64 0, .int .i64 0] 23)) = W0
  have R0 := Lib.hid (show RB W0 w.heap.size a h from by subst hW; exact ⟨⟨by simp [go_sem], by simp [go_sem]⟩, by simp [go_sem], by simp [go_sem]⟩)
  have Z0 := Lib.hid (show RB W0 (w.heap.size + 1) 0 0 from by subst hW; exact ⟨⟨by simp [go_sem], by simp [go_sem]⟩, by simp [go_sem], by simp [go_sem]⟩)
  have kz0 : Kept w W0 := by subst hW; exact ((Kept.refl _).alloc _ _).alloc _ _
  clear hW
  generalize hg : w.heap.size = g at *
  have gw : w.heap.size ≤ g + 1 := by omega
  obtain ⟨c0, c1⟩ := R0.out.1
  go_wp2_with fail
  refine (CK'.out _).mono ?_
  rintro e v0 ⟨rfl, k0⟩
  clear c0 c1
  have R1 := Lib.hid (R0.out.kept k0)
  have Z1 := Lib.hid (Z0.out.kept k0)
  have kz1 := Kept.trans kz0 k0
  clear R0 Z0 kz0
  obtain ⟨c0, c1⟩ := R1.out.1
  go_wp2_with fail
  refine (ST'.out _).mono ?_
  rintro e v1 ⟨rfl, k1⟩
  clear c0 c1
  have R2 := Lib.hid (R1.out.kept k1)
  have Z2 := Lib.hid (Z1.out.kept k1)
  have kz2 := Kept.trans kz1 k1
  clear R1 Z1 kz1
  have ne0 := R2.out.ne
  have ne1 := Z2.out.ne
  obtain ⟨⟨c0, c1⟩, cf0, cf1⟩ := R2.out
  obtain ⟨⟨z0, z1⟩, zf0, zf1⟩ := Z2.out
  go_wp2
  simp [bodyPost, results, Try.results11, go_sem, *]
  exact (by (repeat (first | with_reducible exact Kept.refl _ | with_reducible apply Kept.drew | with_reducible apply Kept.alloc | ((with_reducible apply Kept.set); focus (simp <;> omega)) | ((with_reducible apply Kept.via); focus with_reducible assumption))))
set_option maxRecDepth 100000 in
set_option maxHeartbeats 1600000 in
theorem rfil18_ol {a h t rate most r p x y : Int} (d1 : decide (y < x) = true) (d2 : decide (y < h) = true) (ew : IntKind.i64.wrap (t - a) = t - a) (CK : ∀ w, Calls Try.prog 15 #[.agg #[.int .i64 a, .int .i64 h]] w fun e w' => e = .returned (.bool true) ∧ Kept w w') (ST : ∀ w, Calls Try.prog 24 #[.int .i64 a, .int .i64 t] w fun e w' => e = .returned (.tuple #[.int .i64 t, .int .i64 0]) ∧ Kept w w') (TK : ∀ w, Calls Try.prog 27 #[.int .i64 rate] w fun e w' => e = .returned (.int .i64 r) ∧ Kept w w') (ML : ∀ w, Calls Try.prog 26 #[.int .i64 r, .int .i64 (t - a)] w fun e w' => e = .returned (.int .i64 p) ∧ Kept w w') (AD : ∀ w, Calls Try.prog 25 #[.int .i64 h, .int .i64 p] w fun e w' => e = .returned (.int .i64 x) ∧ Kept w w') (TP : ∀ w, Calls Try.prog 28 #[.int .i64 most] w fun e w' => e = .returned (.int .i64 y) ∧ Kept w w') (w : World) : Calls Try.prog 11 #[.agg #[.int .i64 a, .int .i64 h], .int .i64 t, .int .i64 rate, .int .i64 most] w fun e w' => e = .returned (.tuple #[.agg #[.int .i64 t, .int .i64 h], .int .i64 0]) ∧ Kept w w' := by
  have CK' := Lib.hid CK
  have ST' := Lib.hid ST
  have TK' := Lib.hid TK
  have ML' := Lib.hid ML
  have AD' := Lib.hid AD
  have TP' := Lib.hid TP
  clear CK ST TK ML AD TP
  go_enter Try.func11, Try.ntmps11
  go_upto_region 1 with fail
  generalize hW : (World.alloc (World.alloc w (.cells #[.int .i64 a, .int .i64 h] 23)) (.cells #[.int .i64 0, .int .i64 0] 23)) = W0
  have R0 := Lib.hid (show RB W0 w.heap.size a h from by subst hW; exact ⟨⟨by simp [go_sem], by simp [go_sem]⟩, by simp [go_sem], by simp [go_sem]⟩)
  have Z0 := Lib.hid (show RB W0 (w.heap.size + 1) 0 0 from by subst hW; exact ⟨⟨by simp [go_sem], by simp [go_sem]⟩, by simp [go_sem], by simp [go_sem]⟩)
  have kz0 : Kept w W0 := by subst hW; exact ((Kept.refl _).alloc _ _).alloc _ _
  clear hW
  generalize hg : w.heap.size = g at *
  have gw : w.heap.size ≤ g + 1 := by omega
  obtain ⟨c0, c1⟩ := R0.out.1
  go_wp2_with fail
  refine (CK'.out _).mono ?_
  rintro e v0 ⟨rfl, k0⟩
  clear c0 c1
  have R1 := Lib.hid (R0.out.kept k0)
  have Z1 := Lib.hid (Z0.out.kept k0)
  have kz1 := Kept.trans kz0 k0
  clear R0 Z0 kz0
  obtain ⟨c0, c1⟩ := R1.out.1
  go_wp2_with fail
  refine (ST'.out _).mono ?_
  rintro e v1 ⟨rfl, k1⟩
  clear c0 c1
  have R2 := Lib.hid (R1.out.kept k1)
  have Z2 := Lib.hid (Z1.out.kept k1)
  have kz2 := Kept.trans kz1 k1
  clear R1 Z1 kz1
  go_upto_region 7 with fail
  have B_b := Lib.hid R2.out.1
  obtain ⟨q_b0, q_b1⟩ := kwn2 B_b
  clear B_b
  refine wp_region_kept (by kernel_rfl) (by as_aux_lemma => kernel_rfl) ?_
  repeat (go_big_quiet_step (first | (with_reducible exact kept_of (TK'.out _)) | (with_reducible exact kept_of (ML'.out _)) | (with_reducible exact kept_of (AD'.out _))))
  refine wpQuiet_nil ?_
  intro wq hw'
  have kq : Kept v1 wq := by obtain ⟨p, rfl⟩ := hw'; exact p.k
  clear hw'
  have kq9 := kq
  clear kq
  have R3 := Lib.hid (R2.out.kept kq9)
  have Z3 := Lib.hid (Z2.out.kept kq9)
  have kz3 := Kept.trans kz2 kq9
  clear R2 Z2 kz2
  go_wp2_with fail
  refine (TP'.out _).mono ?_
  rintro e v3 ⟨rfl, k3⟩
  have R4 := Lib.hid (R3.out.kept k3)
  have Z4 := Lib.hid (Z3.out.kept k3)
  have kz4 := Kept.trans kz3 k3
  clear R3 Z3 kz3
  go_wp2_with fail
  refine (TP'.out _).mono ?_
  rintro e v4 ⟨rfl, k4⟩
  have R5 := Lib.hid (R4.out.kept k4)
  have Z5 := Lib.hid (Z4.out.kept k4)
  have kz5 := Kept.trans kz4 k4
  clear R4 Z4 kz4
  have ne0 := R5.out.ne
  have ne1 := Z5.out.ne
  obtain ⟨⟨c0, c1⟩, cf0, cf1⟩ := R5.out
  obtain ⟨⟨z0, z1⟩, zf0, zf1⟩ := Z5.out
  go_wp2
  simp [bodyPost, results, Try.results11, go_sem, *]
  exact (by (repeat (first | with_reducible exact Kept.refl _ | with_reducible apply Kept.drew | with_reducible apply Kept.alloc | ((with_reducible apply Kept.set); focus (simp <;> omega)) | ((with_reducible apply Kept.via); focus with_reducible assumption))))
set_option maxRecDepth 100000 in
set_option maxHeartbeats 1600000 in
theorem rfil18_ok {a h t rate most r p x y : Int} (d1 : decide (y < x) = true) (d2 : decide (y < h) = false) (ew : IntKind.i64.wrap (t - a) = t - a) (CK : ∀ w, Calls Try.prog 15 #[.agg #[.int .i64 a, .int .i64 h]] w fun e w' => e = .returned (.bool true) ∧ Kept w w') (ST : ∀ w, Calls Try.prog 24 #[.int .i64 a, .int .i64 t] w fun e w' => e = .returned (.tuple #[.int .i64 t, .int .i64 0]) ∧ Kept w w') (TK : ∀ w, Calls Try.prog 27 #[.int .i64 rate] w fun e w' => e = .returned (.int .i64 r) ∧ Kept w w') (ML : ∀ w, Calls Try.prog 26 #[.int .i64 r, .int .i64 (t - a)] w fun e w' => e = .returned (.int .i64 p) ∧ Kept w w') (AD : ∀ w, Calls Try.prog 25 #[.int .i64 h, .int .i64 p] w fun e w' => e = .returned (.int .i64 x) ∧ Kept w w') (TP : ∀ w, Calls Try.prog 28 #[.int .i64 most] w fun e w' => e = .returned (.int .i64 y) ∧ Kept w w') (w : World) : Calls Try.prog 11 #[.agg #[.int .i64 a, .int .i64 h], .int .i64 t, .int .i64 rate, .int .i64 most] w fun e w' => e = .returned (.tuple #[.agg #[.int .i64 t, .int .i64 y], .int .i64 0]) ∧ Kept w w' := by
  have CK' := Lib.hid CK
  have ST' := Lib.hid ST
  have TK' := Lib.hid TK
  have ML' := Lib.hid ML
  have AD' := Lib.hid AD
  have TP' := Lib.hid TP
  clear CK ST TK ML AD TP
  go_enter Try.func11, Try.ntmps11
  go_upto_region 1 with fail
  generalize hW : (World.alloc (World.alloc w (.cells #[.int .i64 a, .int .i64 h] 23)) (.cells #[.int .i64 0, .int .i64 0] 23)) = W0
  have R0 := Lib.hid (show RB W0 w.heap.size a h from by subst hW; exact ⟨⟨by simp [go_sem], by simp [go_sem]⟩, by simp [go_sem], by simp [go_sem]⟩)
  have Z0 := Lib.hid (show RB W0 (w.heap.size + 1) 0 0 from by subst hW; exact ⟨⟨by simp [go_sem], by simp [go_sem]⟩, by simp [go_sem], by simp [go_sem]⟩)
  have kz0 : Kept w W0 := by subst hW; exact ((Kept.refl _).alloc _ _).alloc _ _
  clear hW
  generalize hg : w.heap.size = g at *
  have gw : w.heap.size ≤ g + 1 := by omega
  obtain ⟨c0, c1⟩ := R0.out.1
  go_wp2_with fail
  refine (CK'.out _).mono ?_
  rintro e v0 ⟨rfl, k0⟩
  clear c0 c1
  have R1 := Lib.hid (R0.out.kept k0)
  have Z1 := Lib.hid (Z0.out.kept k0)
  have kz1 := Kept.trans kz0 k0
  clear R0 Z0 kz0
  obtain ⟨c0, c1⟩ := R1.out.1
  go_wp2_with fail
  refine (ST'.out _).mono ?_
  rintro e v1 ⟨rfl, k1⟩
  clear c0 c1
  have R2 := Lib.hid (R1.out.kept k1)
  have Z2 := Lib.hid (Z1.out.kept k1)
  have kz2 := Kept.trans kz1 k1
  clear R1 Z1 kz1
  go_upto_region 7 with fail
  have B_b := Lib.hid R2.out.1
  obtain ⟨q_b0, q_b1⟩ := kwn2 B_b
  clear B_b
  refine wp_region_kept (by kernel_rfl) (by as_aux_lemma => kernel_rfl) ?_
  repeat (go_big_quiet_step (first | (with_reducible exact kept_of (TK'.out _)) | (with_reducible exact kept_of (ML'.out _)) | (with_reducible exact kept_of (AD'.out _))))
  refine wpQuiet_nil ?_
  intro wq hw'
  have kq : Kept v1 wq := by obtain ⟨p, rfl⟩ := hw'; exact p.k
  clear hw'
  have kq9 := kq
  clear kq
  have R3 := Lib.hid (R2.out.kept kq9)
  have Z3 := Lib.hid (Z2.out.kept kq9)
  have kz3 := Kept.trans kz2 kq9
  clear R2 Z2 kz2
  go_wp2_with fail
  refine (TP'.out _).mono ?_
  rintro e v3 ⟨rfl, k3⟩
  have R4 := Lib.hid (R3.out.kept k3)
  have Z4 := Lib.hid (Z3.out.kept k3)
  have kz4 := Kept.trans kz3 k3
  clear R3 Z3 kz3
  go_wp2_with fail
  refine (TP'.out _).mono ?_
  rintro e v4 ⟨rfl, k4⟩
  have R5 := Lib.hid (R4.out.kept k4)
  have Z5 := Lib.hid (Z4.out.kept k4)
  have kz5 := Kept.trans kz4 k4
  clear R4 Z4 kz4
  have ne0 := R5.out.ne
  have ne1 := Z5.out.ne
  obtain ⟨⟨c0, c1⟩, cf0, cf1⟩ := R5.out
  obtain ⟨⟨z0, z1⟩, zf0, zf1⟩ := Z5.out
  go_wp2
  simp [bodyPost, results, Try.results11, go_sem, *]
  exact (by (repeat (first | with_reducible exact Kept.refl _ | with_reducible apply Kept.drew | with_reducible apply Kept.alloc | ((with_reducible apply Kept.set); focus (simp <;> omega)) | ((with_reducible apply Kept.via); focus with_reducible assumption))))
set_option maxRecDepth 100000 in
set_option maxHeartbeats 1600000 in
theorem rfil18_ul {a h t rate most r p x y : Int} (d1 : decide (y < x) = false) (d2 : decide (x < h) = true) (ew : IntKind.i64.wrap (t - a) = t - a) (CK : ∀ w, Calls Try.prog 15 #[.agg #[.int .i64 a, .int .i64 h]] w fun e w' => e = .returned (.bool true) ∧ Kept w w') (ST : ∀ w, Calls Try.prog 24 #[.int .i64 a, .int .i64 t] w fun e w' => e = .returned (.tuple #[.int .i64 t, .int .i64 0]) ∧ Kept w w') (TK : ∀ w, Calls Try.prog 27 #[.int .i64 rate] w fun e w' => e = .returned (.int .i64 r) ∧ Kept w w') (ML : ∀ w, Calls Try.prog 26 #[.int .i64 r, .int .i64 (t - a)] w fun e w' => e = .returned (.int .i64 p) ∧ Kept w w') (AD : ∀ w, Calls Try.prog 25 #[.int .i64 h, .int .i64 p] w fun e w' => e = .returned (.int .i64 x) ∧ Kept w w') (TP : ∀ w, Calls Try.prog 28 #[.int .i64 most] w fun e w' => e = .returned (.int .i64 y) ∧ Kept w w') (w : World) : Calls Try.prog 11 #[.agg #[.int .i64 a, .int .i64 h], .int .i64 t, .int .i64 rate, .int .i64 most] w fun e w' => e = .returned (.tuple #[.agg #[.int .i64 t, .int .i64 h], .int .i64 0]) ∧ Kept w w' := by
  have CK' := Lib.hid CK
  have ST' := Lib.hid ST
  have TK' := Lib.hid TK
  have ML' := Lib.hid ML
  have AD' := Lib.hid AD
  have TP' := Lib.hid TP
  clear CK ST TK ML AD TP
  go_enter Try.func11, Try.ntmps11
  go_upto_region 1 with fail
  generalize hW : (World.alloc (World.alloc w (.cells #[.int .i64 a, .int .i64 h] 23)) (.cells #[.int .i64 0, .int .i64 0] 23)) = W0
  have R0 := Lib.hid (show RB W0 w.heap.size a h from by subst hW; exact ⟨⟨by simp [go_sem], by simp [go_sem]⟩, by simp [go_sem], by simp [go_sem]⟩)
  have Z0 := Lib.hid (show RB W0 (w.heap.size + 1) 0 0 from by subst hW; exact ⟨⟨by simp [go_sem], by simp [go_sem]⟩, by simp [go_sem], by simp [go_sem]⟩)
  have kz0 : Kept w W0 := by subst hW; exact ((Kept.refl _).alloc _ _).alloc _ _
  clear hW
  generalize hg : w.heap.size = g at *
  have gw : w.heap.size ≤ g + 1 := by omega
  obtain ⟨c0, c1⟩ := R0.out.1
  go_wp2_with fail
  refine (CK'.out _).mono ?_
  rintro e v0 ⟨rfl, k0⟩
  clear c0 c1
  have R1 := Lib.hid (R0.out.kept k0)
  have Z1 := Lib.hid (Z0.out.kept k0)
  have kz1 := Kept.trans kz0 k0
  clear R0 Z0 kz0
  obtain ⟨c0, c1⟩ := R1.out.1
  go_wp2_with fail
  refine (ST'.out _).mono ?_
  rintro e v1 ⟨rfl, k1⟩
  clear c0 c1
  have R2 := Lib.hid (R1.out.kept k1)
  have Z2 := Lib.hid (Z1.out.kept k1)
  have kz2 := Kept.trans kz1 k1
  clear R1 Z1 kz1
  go_upto_region 7 with fail
  have B_b := Lib.hid R2.out.1
  obtain ⟨q_b0, q_b1⟩ := kwn2 B_b
  clear B_b
  refine wp_region_kept (by kernel_rfl) (by as_aux_lemma => kernel_rfl) ?_
  repeat (go_big_quiet_step (first | (with_reducible exact kept_of (TK'.out _)) | (with_reducible exact kept_of (ML'.out _)) | (with_reducible exact kept_of (AD'.out _))))
  refine wpQuiet_nil ?_
  intro wq hw'
  have kq : Kept v1 wq := by obtain ⟨p, rfl⟩ := hw'; exact p.k
  clear hw'
  have kq9 := kq
  clear kq
  have R3 := Lib.hid (R2.out.kept kq9)
  have Z3 := Lib.hid (Z2.out.kept kq9)
  have kz3 := Kept.trans kz2 kq9
  clear R2 Z2 kz2
  go_wp2_with fail
  refine (TP'.out _).mono ?_
  rintro e v3 ⟨rfl, k3⟩
  have R4 := Lib.hid (R3.out.kept k3)
  have Z4 := Lib.hid (Z3.out.kept k3)
  have kz4 := Kept.trans kz3 k3
  clear R3 Z3 kz3
  have ne0 := R4.out.ne
  have ne1 := Z4.out.ne
  obtain ⟨⟨c0, c1⟩, cf0, cf1⟩ := R4.out
  obtain ⟨⟨z0, z1⟩, zf0, zf1⟩ := Z4.out
  go_wp2
  simp [bodyPost, results, Try.results11, go_sem, *]
  exact (by (repeat (first | with_reducible exact Kept.refl _ | with_reducible apply Kept.drew | with_reducible apply Kept.alloc | ((with_reducible apply Kept.set); focus (simp <;> omega)) | ((with_reducible apply Kept.via); focus with_reducible assumption))))
set_option maxRecDepth 100000 in
set_option maxHeartbeats 1600000 in
theorem rfil18_uk {a h t rate most r p x y : Int} (d1 : decide (y < x) = false) (d2 : decide (x < h) = false) (ew : IntKind.i64.wrap (t - a) = t - a) (CK : ∀ w, Calls Try.prog 15 #[.agg #[.int .i64 a, .int .i64 h]] w fun e w' => e = .returned (.bool true) ∧ Kept w w') (ST : ∀ w, Calls Try.prog 24 #[.int .i64 a, .int .i64 t] w fun e w' => e = .returned (.tuple #[.int .i64 t, .int .i64 0]) ∧ Kept w w') (TK : ∀ w, Calls Try.prog 27 #[.int .i64 rate] w fun e w' => e = .returned (.int .i64 r) ∧ Kept w w') (ML : ∀ w, Calls Try.prog 26 #[.int .i64 r, .int .i64 (t - a)] w fun e w' => e = .returned (.int .i64 p) ∧ Kept w w') (AD : ∀ w, Calls Try.prog 25 #[.int .i64 h, .int .i64 p] w fun e w' => e = .returned (.int .i64 x) ∧ Kept w w') (TP : ∀ w, Calls Try.prog 28 #[.int .i64 most] w fun e w' => e = .returned (.int .i64 y) ∧ Kept w w') (w : World) : Calls Try.prog 11 #[.agg #[.int .i64 a, .int .i64 h], .int .i64 t, .int .i64 rate, .int .i64 most] w fun e w' => e = .returned (.tuple #[.agg #[.int .i64 t, .int .i64 x], .int .i64 0]) ∧ Kept w w' := by
  have CK' := Lib.hid CK
  have ST' := Lib.hid ST
  have TK' := Lib.hid TK
  have ML' := Lib.hid ML
  have AD' := Lib.hid AD
  have TP' := Lib.hid TP
  clear CK ST TK ML AD TP
  go_enter Try.func11, Try.ntmps11
  go_upto_region 1 with fail
  generalize hW : (World.alloc (World.alloc w (.cells #[.int .i64 a, .int .i64 h] 23)) (.cells #[.int .i64 0, .int .i64 0] 23)) = W0
  have R0 := Lib.hid (show RB W0 w.heap.size a h from by subst hW; exact ⟨⟨by simp [go_sem], by simp [go_sem]⟩, by simp [go_sem], by simp [go_sem]⟩)
  have Z0 := Lib.hid (show RB W0 (w.heap.size + 1) 0 0 from by subst hW; exact ⟨⟨by simp [go_sem], by simp [go_sem]⟩, by simp [go_sem], by simp [go_sem]⟩)
  have kz0 : Kept w W0 := by subst hW; exact ((Kept.refl _).alloc _ _).alloc _ _
  clear hW
  generalize hg : w.heap.size = g at *
  have gw : w.heap.size ≤ g + 1 := by omega
  obtain ⟨c0, c1⟩ := R0.out.1
  go_wp2_with fail
  refine (CK'.out _).mono ?_
  rintro e v0 ⟨rfl, k0⟩
  clear c0 c1
  have R1 := Lib.hid (R0.out.kept k0)
  have Z1 := Lib.hid (Z0.out.kept k0)
  have kz1 := Kept.trans kz0 k0
  clear R0 Z0 kz0
  obtain ⟨c0, c1⟩ := R1.out.1
  go_wp2_with fail
  refine (ST'.out _).mono ?_
  rintro e v1 ⟨rfl, k1⟩
  clear c0 c1
  have R2 := Lib.hid (R1.out.kept k1)
  have Z2 := Lib.hid (Z1.out.kept k1)
  have kz2 := Kept.trans kz1 k1
  clear R1 Z1 kz1
  go_upto_region 7 with fail
  have B_b := Lib.hid R2.out.1
  obtain ⟨q_b0, q_b1⟩ := kwn2 B_b
  clear B_b
  refine wp_region_kept (by kernel_rfl) (by as_aux_lemma => kernel_rfl) ?_
  repeat (go_big_quiet_step (first | (with_reducible exact kept_of (TK'.out _)) | (with_reducible exact kept_of (ML'.out _)) | (with_reducible exact kept_of (AD'.out _))))
  refine wpQuiet_nil ?_
  intro wq hw'
  have kq : Kept v1 wq := by obtain ⟨p, rfl⟩ := hw'; exact p.k
  clear hw'
  have kq9 := kq
  clear kq
  have R3 := Lib.hid (R2.out.kept kq9)
  have Z3 := Lib.hid (Z2.out.kept kq9)
  have kz3 := Kept.trans kz2 kq9
  clear R2 Z2 kz2
  go_wp2_with fail
  refine (TP'.out _).mono ?_
  rintro e v3 ⟨rfl, k3⟩
  have R4 := Lib.hid (R3.out.kept k3)
  have Z4 := Lib.hid (Z3.out.kept k3)
  have kz4 := Kept.trans kz3 k3
  clear R3 Z3 kz3
  have ne0 := R4.out.ne
  have ne1 := Z4.out.ne
  obtain ⟨⟨c0, c1⟩, cf0, cf1⟩ := R4.out
  obtain ⟨⟨z0, z1⟩, zf0, zf1⟩ := Z4.out
  go_wp2
  simp [bodyPost, results, Try.results11, go_sem, *]
  exact (by (repeat (first | with_reducible exact Kept.refl _ | with_reducible apply Kept.drew | with_reducible apply Kept.alloc | ((with_reducible apply Kept.set); focus (simp <;> omega)) | ((with_reducible apply Kept.via); focus with_reducible assumption))))
theorem refFill18_ok {a h t rate most a' h' er : Int} (ht : In64 t) (f : FillIs a h t rate most a' h' er) (w : World) : Calls Try.prog 11 #[.agg #[.int .i64 a, .int .i64 h], .int .i64 t, .int .i64 rate, .int .i64 most] w fun e w' => e = .returned (.tuple #[.agg #[.int .i64 a', .int .i64 h'], .int .i64 er]) ∧ Kept w w' := by
  rcases f with ⟨m, rfl, rfl, rfl⟩ | ⟨m, ht, rfl, rfl, rfl⟩ | ⟨m, ht, l, rfl, rfl, rfl⟩ | ⟨m, ht, l, rfl, rfl, rfl⟩
  · exact rfil18_m (fun w => refCheck18_ok false (by simp [m]) w) w
  · exact rfil18_s (by decide) (by decide) (fun w => refCheck18_ok true (by simp [m]) w) (fun w => refStep_ok (Or.inl ⟨ht, rfl, rfl⟩) w) w
  · exact rfil18_s (by decide) (by decide) (fun w => refCheck18_ok true (by simp [m]) w) (fun w => refStep_ok (Or.inr (Or.inl ⟨ht, l, rfl, rfl⟩)) w) w
  · have q := m.1
    unfold IsTime at q ht
    have tk := taken_range rate
    have CK := fun w => refCheck18_ok (a := a) (h := h) true (by simp [m]) w
    have ST := fun w => refStep_ok (now := a) (t := a') (v := a') (er := 0) (Or.inr (Or.inr ⟨ht, l, rfl, rfl⟩)) w
    have TK := fun w => refTaken18_ok rate w
    have TP := fun w => refTop18_ok most w
    have id_ : In64 (a' - a) := by unfold In64; omega
    have ih : In64 h := by have := m.2.1; have := m.2.2; unfold In64; omega
    have ML := fun w => mulLift18 (a := heldTime rate) (b := a' - a) (by unfold In64; omega) id_ rfl w
    have AD := fun w => addLift18 (a := h) (b := heldAt (heldTime rate * (a' - a))) ih (heldAt_in _) rfl w
    have ew : IntKind.i64.wrap (a' - a) = a' - a := by rw [IntKind.wrap_i64]; omega
    have er : heldAt (h + heldAt (heldTime rate * (a' - a))) = rawB h rate (a' - a) := rfl
    unfold fillB capB
    by_cases c1 : topN most < rawB h rate (a' - a)
    · rw [if_pos c1]
      by_cases c2 : topN most < h
      · rw [if_pos c2]; exact rfil18_ol (by simp [er, c1]) (by simp [c2]) ew CK ST TK ML AD TP w
      · rw [if_neg c2]; exact rfil18_ok (by simp [er, c1]) (by simp [c2]) ew CK ST TK ML AD TP w
    · rw [if_neg c1]
      by_cases c2 : rawB h rate (a' - a) < h
      · rw [if_pos c2]; exact rfil18_ul (by simp [er, c1]) (by simp [er, c2]) ew CK ST TK ML AD TP w
      · rw [if_neg c2]; exact rfil18_uk (by simp [er, c1]) (by simp [er, c2]) ew CK ST TK ML AD TP w
set_option maxRecDepth 100000 in
set_option maxHeartbeats 1600000 in
theorem rwai18_m {a h n rate k x : Int} (km : max n 0 = k)  (CK : ∀ w, Calls Try.prog 15 #[.agg #[.int .i64 a, .int .i64 h]] w fun e w' => e = .returned (.bool false) ∧ Kept w w') (NE : ∀ w, Calls Try.prog 26 #[.int .i64 k, .int .i64 1000000] w fun e w' => e = .returned (.int .i64 x) ∧ Kept w w') (w : World) : Calls Try.prog 17 #[.agg #[.int .i64 a, .int .i64 h], .int .i64 n, .int .i64 rate] w fun e w' => e = .returned (.int .i64 0) ∧ Kept w w' := by
  have CK' := Lib.hid CK
  have NE' := Lib.hid NE
  clear CK NE
  go_enter Try.func17, Try.ntmps17
  go_upto_region 1 with fail
  generalize hW : World.alloc w (.cells #[.int .i64 a, .int .i64 h] 23) = W_b
  have K_b : Kept w W_b := by subst hW; exact (Kept.refl _).alloc _ _
  have H_b := Lib.hid (show W_b.cell? ⟨w.heap.size, 0, none⟩ = some (.int .i64 a) ∧ W_b.cell? ⟨w.heap.size, 1, none⟩ = some (.int .i64 h) from by subst hW; simp [go_sem])
  clear hW
  generalize w.heap.size = g_b at *
  obtain ⟨cb0, cb1⟩ := Kept.alln2 (show Kept W_b W_b from (by (repeat (first | with_reducible exact Kept.refl _ | with_reducible apply Kept.drew | with_reducible apply Kept.alloc | ((with_reducible apply Kept.set); focus (simp <;> omega)) | ((with_reducible apply Kept.via); focus with_reducible assumption))))) H_b
  go_wp2_with fail
  refine (CK'.out _).mono ?_
  rintro e w20 ⟨rfl, k20⟩
  clear cb0 cb1
  go_wp2_with fail
  refine (NE'.out _).mono ?_
  rintro e w21 ⟨rfl, k21⟩
  obtain ⟨cb0, cb1⟩ := Kept.alln2 (show Kept W_b w21 from (by (repeat (first | with_reducible exact Kept.refl _ | with_reducible apply Kept.drew | with_reducible apply Kept.alloc | ((with_reducible apply Kept.set); focus (simp <;> omega)) | ((with_reducible apply Kept.via); focus with_reducible assumption))))) H_b
  go_wp2
  go_ret
  exact ⟨rfl, (by (repeat (first | with_reducible exact Kept.refl _ | with_reducible apply Kept.drew | with_reducible apply Kept.alloc | ((with_reducible apply Kept.set); focus (simp <;> omega)) | ((with_reducible apply Kept.via); focus with_reducible assumption))))⟩
set_option maxRecDepth 100000 in
set_option maxHeartbeats 1600000 in
theorem rwai18_h {a h n rate k x : Int} (km : max n 0 = k) (d0 : decide (x ≤ h) = true) (CK : ∀ w, Calls Try.prog 15 #[.agg #[.int .i64 a, .int .i64 h]] w fun e w' => e = .returned (.bool true) ∧ Kept w w') (NE : ∀ w, Calls Try.prog 26 #[.int .i64 k, .int .i64 1000000] w fun e w' => e = .returned (.int .i64 x) ∧ Kept w w') (w : World) : Calls Try.prog 17 #[.agg #[.int .i64 a, .int .i64 h], .int .i64 n, .int .i64 rate] w fun e w' => e = .returned (.int .i64 0) ∧ Kept w w' := by
  have CK' := Lib.hid CK
  have NE' := Lib.hid NE
  clear CK NE
  go_enter Try.func17, Try.ntmps17
  go_upto_region 1 with fail
  generalize hW : World.alloc w (.cells #[.int .i64 a, .int .i64 h] 23) = W_b
  have K_b : Kept w W_b := by subst hW; exact (Kept.refl _).alloc _ _
  have H_b := Lib.hid (show W_b.cell? ⟨w.heap.size, 0, none⟩ = some (.int .i64 a) ∧ W_b.cell? ⟨w.heap.size, 1, none⟩ = some (.int .i64 h) from by subst hW; simp [go_sem])
  clear hW
  generalize w.heap.size = g_b at *
  obtain ⟨cb0, cb1⟩ := Kept.alln2 (show Kept W_b W_b from (by (repeat (first | with_reducible exact Kept.refl _ | with_reducible apply Kept.drew | with_reducible apply Kept.alloc | ((with_reducible apply Kept.set); focus (simp <;> omega)) | ((with_reducible apply Kept.via); focus with_reducible assumption))))) H_b
  go_wp2_with fail
  refine (CK'.out _).mono ?_
  rintro e w20 ⟨rfl, k20⟩
  clear cb0 cb1
  go_wp2_with fail
  refine (NE'.out _).mono ?_
  rintro e w21 ⟨rfl, k21⟩
  obtain ⟨cb0, cb1⟩ := Kept.alln2 (show Kept W_b w21 from (by (repeat (first | with_reducible exact Kept.refl _ | with_reducible apply Kept.drew | with_reducible apply Kept.alloc | ((with_reducible apply Kept.set); focus (simp <;> omega)) | ((with_reducible apply Kept.via); focus with_reducible assumption))))) H_b
  go_wp2
  go_ret
  exact ⟨rfl, (by (repeat (first | with_reducible exact Kept.refl _ | with_reducible apply Kept.drew | with_reducible apply Kept.alloc | ((with_reducible apply Kept.set); focus (simp <;> omega)) | ((with_reducible apply Kept.via); focus with_reducible assumption))))⟩
set_option maxRecDepth 100000 in
set_option maxHeartbeats 1600000 in
theorem rwai18_r {a h n rate k x : Int} (km : max n 0 = k) (d0 : decide (x ≤ h) = false) (d1 : decide (rate < 1) = true) (CK : ∀ w, Calls Try.prog 15 #[.agg #[.int .i64 a, .int .i64 h]] w fun e w' => e = .returned (.bool true) ∧ Kept w w') (NE : ∀ w, Calls Try.prog 26 #[.int .i64 k, .int .i64 1000000] w fun e w' => e = .returned (.int .i64 x) ∧ Kept w w') (w : World) : Calls Try.prog 17 #[.agg #[.int .i64 a, .int .i64 h], .int .i64 n, .int .i64 rate] w fun e w' => e = .returned (.int .i64 1099511627776) ∧ Kept w w' := by
  have CK' := Lib.hid CK
  have NE' := Lib.hid NE
  clear CK NE
  go_enter Try.func17, Try.ntmps17
  go_upto_region 1 with fail
  generalize hW : World.alloc w (.cells #[.int .i64 a, .int .i64 h] 23) = W_b
  have K_b : Kept w W_b := by subst hW; exact (Kept.refl _).alloc _ _
  have H_b := Lib.hid (show W_b.cell? ⟨w.heap.size, 0, none⟩ = some (.int .i64 a) ∧ W_b.cell? ⟨w.heap.size, 1, none⟩ = some (.int .i64 h) from by subst hW; simp [go_sem])
  clear hW
  generalize w.heap.size = g_b at *
  obtain ⟨cb0, cb1⟩ := Kept.alln2 (show Kept W_b W_b from (by (repeat (first | with_reducible exact Kept.refl _ | with_reducible apply Kept.drew | with_reducible apply Kept.alloc | ((with_reducible apply Kept.set); focus (simp <;> omega)) | ((with_reducible apply Kept.via); focus with_reducible assumption))))) H_b
  go_wp2_with fail
  refine (CK'.out _).mono ?_
  rintro e w20 ⟨rfl, k20⟩
  clear cb0 cb1
  go_wp2_with fail
  refine (NE'.out _).mono ?_
  rintro e w21 ⟨rfl, k21⟩
  obtain ⟨cb0, cb1⟩ := Kept.alln2 (show Kept W_b w21 from (by (repeat (first | with_reducible exact Kept.refl _ | with_reducible apply Kept.drew | with_reducible apply Kept.alloc | ((with_reducible apply Kept.set); focus (simp <;> omega)) | ((with_reducible apply Kept.via); focus with_reducible assumption))))) H_b
  go_wp2
  go_ret
  exact ⟨rfl, (by (repeat (first | with_reducible exact Kept.refl _ | with_reducible apply Kept.drew | with_reducible apply Kept.alloc | ((with_reducible apply Kept.set); focus (simp <;> omega)) | ((with_reducible apply Kept.via); focus with_reducible assumption))))⟩
set_option maxRecDepth 100000 in
set_option maxHeartbeats 1600000 in
theorem rwai18_t {a h n rate k x r c ec : Int} (km : max n 0 = k) (d0 : decide (x ≤ h) = false) (d1 : decide (rate < 1) = false) (d2 : decide (1099511627776 < c) = true) (ew : IntKind.i64.wrap (x - h) = x - h) (CK : ∀ w, Calls Try.prog 15 #[.agg #[.int .i64 a, .int .i64 h]] w fun e w' => e = .returned (.bool true) ∧ Kept w w') (NE : ∀ w, Calls Try.prog 26 #[.int .i64 k, .int .i64 1000000] w fun e w' => e = .returned (.int .i64 x) ∧ Kept w w') (TK : ∀ w, Calls Try.prog 27 #[.int .i64 rate] w fun e w' => e = .returned (.int .i64 r) ∧ Kept w w') (CE : ∀ w, Calls Try.prog 32 #[.int .i64 (x - h), .int .i64 1, .int .i64 r] w fun e w' => e = .returned (.tuple #[.int .i64 c, .int .i64 ec]) ∧ Kept w w') (w : World) : Calls Try.prog 17 #[.agg #[.int .i64 a, .int .i64 h], .int .i64 n, .int .i64 rate] w fun e w' => e = .returned (.int .i64 1099511627776) ∧ Kept w w' := by
  have CK' := Lib.hid CK
  have NE' := Lib.hid NE
  have TK' := Lib.hid TK
  have CE' := Lib.hid CE
  clear CK NE TK CE
  go_enter Try.func17, Try.ntmps17
  go_upto_region 1 with fail
  generalize hW : World.alloc w (.cells #[.int .i64 a, .int .i64 h] 23) = W_b
  have K_b : Kept w W_b := by subst hW; exact (Kept.refl _).alloc _ _
  have H_b := Lib.hid (show W_b.cell? ⟨w.heap.size, 0, none⟩ = some (.int .i64 a) ∧ W_b.cell? ⟨w.heap.size, 1, none⟩ = some (.int .i64 h) from by subst hW; simp [go_sem])
  clear hW
  generalize w.heap.size = g_b at *
  obtain ⟨cb0, cb1⟩ := Kept.alln2 (show Kept W_b W_b from (by (repeat (first | with_reducible exact Kept.refl _ | with_reducible apply Kept.drew | with_reducible apply Kept.alloc | ((with_reducible apply Kept.set); focus (simp <;> omega)) | ((with_reducible apply Kept.via); focus with_reducible assumption))))) H_b
  go_wp2_with fail
  refine (CK'.out _).mono ?_
  rintro e w20 ⟨rfl, k20⟩
  clear cb0 cb1
  go_wp2_with fail
  refine (NE'.out _).mono ?_
  rintro e w21 ⟨rfl, k21⟩
  obtain ⟨cb0, cb1⟩ := Kept.alln2 (show Kept W_b w21 from (by (repeat (first | with_reducible exact Kept.refl _ | with_reducible apply Kept.drew | with_reducible apply Kept.alloc | ((with_reducible apply Kept.set); focus (simp <;> omega)) | ((with_reducible apply Kept.via); focus with_reducible assumption))))) H_b
  go_upto_region 7 with fail
  clear cb0 cb1
  have B_b := Lib.hid (Kept.alln2 (show Kept W_b w21 from (by (repeat (first | with_reducible exact Kept.refl _ | with_reducible apply Kept.drew | with_reducible apply Kept.alloc | ((with_reducible apply Kept.set); focus (simp <;> omega)) | ((with_reducible apply Kept.via); focus with_reducible assumption))))) H_b)
  have kall : Kept w w21 := (by (repeat (first | with_reducible exact Kept.refl _ | with_reducible apply Kept.drew | with_reducible apply Kept.alloc | ((with_reducible apply Kept.set); focus (simp <;> omega)) | ((with_reducible apply Kept.via); focus with_reducible assumption))))
  obtain ⟨q_b0, q_b1⟩ := kwn2 B_b
  clear B_b
  refine wp_region_kept (by kernel_rfl) (by as_aux_lemma => kernel_rfl) ?_
  repeat (go_big_quiet_step (first | (with_reducible exact kept_of (TK'.out _)) | (with_reducible exact kept_of (CE'.out _))))
  refine wpQuiet_nil ?_
  intro wq hw'
  have kq : Kept w21 wq := by obtain ⟨p, rfl⟩ := hw'; exact p.k
  clear hw'
  clear kall
  go_wp2
  go_ret
  exact ⟨rfl, Kept.trans (Kept.trans (Kept.trans (K_b) k20) k21) kq⟩
set_option maxRecDepth 100000 in
set_option maxHeartbeats 1600000 in
theorem rwai18_y {a h n rate k x r c ec : Int} (km : max n 0 = k) (d0 : decide (x ≤ h) = false) (d1 : decide (rate < 1) = false) (d2 : decide (1099511627776 < c) = false) (ew : IntKind.i64.wrap (x - h) = x - h) (CK : ∀ w, Calls Try.prog 15 #[.agg #[.int .i64 a, .int .i64 h]] w fun e w' => e = .returned (.bool true) ∧ Kept w w') (NE : ∀ w, Calls Try.prog 26 #[.int .i64 k, .int .i64 1000000] w fun e w' => e = .returned (.int .i64 x) ∧ Kept w w') (TK : ∀ w, Calls Try.prog 27 #[.int .i64 rate] w fun e w' => e = .returned (.int .i64 r) ∧ Kept w w') (CE : ∀ w, Calls Try.prog 32 #[.int .i64 (x - h), .int .i64 1, .int .i64 r] w fun e w' => e = .returned (.tuple #[.int .i64 c, .int .i64 ec]) ∧ Kept w w') (w : World) : Calls Try.prog 17 #[.agg #[.int .i64 a, .int .i64 h], .int .i64 n, .int .i64 rate] w fun e w' => e = .returned (.int .i64 c) ∧ Kept w w' := by
  have CK' := Lib.hid CK
  have NE' := Lib.hid NE
  have TK' := Lib.hid TK
  have CE' := Lib.hid CE
  clear CK NE TK CE
  go_enter Try.func17, Try.ntmps17
  go_upto_region 1 with fail
  generalize hW : World.alloc w (.cells #[.int .i64 a, .int .i64 h] 23) = W_b
  have K_b : Kept w W_b := by subst hW; exact (Kept.refl _).alloc _ _
  have H_b := Lib.hid (show W_b.cell? ⟨w.heap.size, 0, none⟩ = some (.int .i64 a) ∧ W_b.cell? ⟨w.heap.size, 1, none⟩ = some (.int .i64 h) from by subst hW; simp [go_sem])
  clear hW
  generalize w.heap.size = g_b at *
  obtain ⟨cb0, cb1⟩ := Kept.alln2 (show Kept W_b W_b from (by (repeat (first | with_reducible exact Kept.refl _ | with_reducible apply Kept.drew | with_reducible apply Kept.alloc | ((with_reducible apply Kept.set); focus (simp <;> omega)) | ((with_reducible apply Kept.via); focus with_reducible assumption))))) H_b
  go_wp2_with fail
  refine (CK'.out _).mono ?_
  rintro e w20 ⟨rfl, k20⟩
  clear cb0 cb1
  go_wp2_with fail
  refine (NE'.out _).mono ?_
  rintro e w21 ⟨rfl, k21⟩
  obtain ⟨cb0, cb1⟩ := Kept.alln2 (show Kept W_b w21 from (by (repeat (first | with_reducible exact Kept.refl _ | with_reducible apply Kept.drew | with_reducible apply Kept.alloc | ((with_reducible apply Kept.set); focus (simp <;> omega)) | ((with_reducible apply Kept.via); focus with_reducible assumption))))) H_b
  go_upto_region 7 with fail
  clear cb0 cb1
  have B_b := Lib.hid (Kept.alln2 (show Kept W_b w21 from (by (repeat (first | with_reducible exact Kept.refl _ | with_reducible apply Kept.drew | with_reducible apply Kept.alloc | ((with_reducible apply Kept.set); focus (simp <;> omega)) | ((with_reducible apply Kept.via); focus with_reducible assumption))))) H_b)
  have kall : Kept w w21 := (by (repeat (first | with_reducible exact Kept.refl _ | with_reducible apply Kept.drew | with_reducible apply Kept.alloc | ((with_reducible apply Kept.set); focus (simp <;> omega)) | ((with_reducible apply Kept.via); focus with_reducible assumption))))
  obtain ⟨q_b0, q_b1⟩ := kwn2 B_b
  clear B_b
  refine wp_region_kept (by kernel_rfl) (by as_aux_lemma => kernel_rfl) ?_
  repeat (go_big_quiet_step (first | (with_reducible exact kept_of (TK'.out _)) | (with_reducible exact kept_of (CE'.out _))))
  refine wpQuiet_nil ?_
  intro wq hw'
  have kq : Kept w21 wq := by obtain ⟨p, rfl⟩ := hw'; exact p.k
  clear hw'
  clear kall
  go_wp2
  go_ret
  exact ⟨rfl, Kept.trans (Kept.trans (Kept.trans (K_b) k20) k21) kq⟩
theorem refWait18_ok {a h n rate t : Int} (hn : In64 n) (e : waitB a h n rate = t) (w : World) : Calls Try.prog 17 #[.agg #[.int .i64 a, .int .i64 h], .int .i64 n, .int .i64 rate] w fun e w' => e = .returned (.int .i64 t) ∧ Kept w w' := by
  have km : max n 0 = (if n < 0 then 0 else n) := by split <;> omega
  have ik : In64 (if n < 0 then 0 else n) := by unfold In64 at *; split <;> omega
  have NE := fun w => mulLift18 (a := if n < 0 then 0 else n) (b := 1000000) ik (by unfold In64; omega) (n := needB n) rfl w
  unfold waitB at e
  by_cases m : MayB a h
  · have CK := fun w => refCheck18_ok (a := a) (h := h) true (by simp [m]) w
    by_cases l : needB n ≤ h
    · rw [if_pos (Or.inr l)] at e; subst e
      exact rwai18_h km (by simp [l]) CK NE w
    · rw [if_neg (by intro z; rcases z with z | z; exact z m; exact l z)] at e
      by_cases r : rate < 1
      · rw [if_pos r] at e; subst e
        exact rwai18_r km (by simp; omega) (by simp [r]) CK NE w
      · rw [if_neg r] at e
        have nb : In64 (needB n) := heldAt_in _
        have h0 := m.2.1
        have tk : 1 ≤ heldTime rate ∧ heldTime rate ≤ 1099511627776 := by unfold heldTime; split <;> (try split) <;> omega
        have cp := ceil_pos (m := needB n - h) (by omega) tk.1
        have cl := ceil_least (m := needB n - h) tk.1
        have cb : In64 (ceilOf (needB n - h) (heldTime rate)) := by
          have a1 : (ceilOf (needB n - h) (heldTime rate) - 1) * 1 ≤ (ceilOf (needB n - h) (heldTime rate) - 1) * heldTime rate ∨ ceilOf (needB n - h) (heldTime rate) - 1 < 0 := by
            rcases Int.lt_or_le (ceilOf (needB n - h) (heldTime rate) - 1) 0 with z | z
            · exact Or.inr z
            · exact Or.inl (Int.mul_le_mul_of_nonneg_left tk.1 z)
          unfold In64 at *; omega
        have CE := fun w => refCeil_ok (a := needB n - h) (b := 1) (c := heldTime rate) (by unfold In64 at *; omega) (by unfold In64; omega) (by unfold In64; omega) (part_yes tk.1 (show In64 (ceilOf ((needB n - h) * 1) (heldTime rate)) from by rw [Int.mul_one]; exact cb)) w
        rw [Int.mul_one] at CE
        have ew : IntKind.i64.wrap (needB n - h) = needB n - h := by rw [IntKind.wrap_i64]; unfold In64 at nb; omega
        have TK := fun w => refTaken18_ok rate w
        by_cases c : 1099511627776 < ceilOf (needB n - h) (heldTime rate)
        · rw [if_pos c] at e; subst e
          exact rwai18_t km (by simp; omega) (by simp; omega) (by simp [c]) ew CK NE TK CE w
        · rw [if_neg c] at e; subst e
          exact rwai18_y km (by simp; omega) (by simp; omega) (by simp; omega) ew CK NE TK CE w
  · rw [if_pos (Or.inl m)] at e; subst e
    exact rwai18_m km (fun w => refCheck18_ok false (by simp [m]) w) NE w
end Go.Proofs.Ytlgpeafphanobaa
