/-
  The walk of RenoSteps: it answers true, if the calls do what they are to do.
-/
import Derived.Test.YthlfdkkiedfpjaaAwake13
import Derived.Deep.RegionHeld3
import Derived.Deep.DeepCutAuto
namespace Go.Proofs.Ythlfdkkiedfpjaa
open Go.RowKit Go.BigFrame
set_option linter.unusedVariables false

set_option maxRecDepth 100000 in
set_option maxHeartbeats 1600000 in
theorem steps13_long (PC : NPartC) (TC : NStepC) (LC : NStepsC) {e p v cu : Int} {A : Option Addr} {len cap : Nat} {l : List Int} (e0 : 0 ≤ e) (e1 : e ≤ 4294967295) (hp : In64 p) (hv : In64 v) (hn : l.length = len) (hc : len ≤ cap) (hm : cap ≤ 9223372036854775807) (h : 100 < len) (w : World) : Calls Try.prog 7 #[.int .u32 e, .int .i64 p, .int .i64 v, .slice A len cap, .int .u8 cu] w fun e w' => e = .returned (.bool true) ∧ Kept w w' := by
  have PC' := Lib.hid PC
  have TC' := Lib.hid TC
  have LC' := Lib.hid LC
  have AW' := Lib.hid (fun w => awake13 PC TC LC w)
  clear PC TC LC
  have d0 : (100 : Int) < (len : Int) := by omega
  go_enter Try.func7, Try.ntmps7
  go_wp2_with fail
  refine (AW'.out _).mono ?_
  rintro e w20 ⟨rfl, k20⟩
  go_wp2
  go_ret
  exact ⟨rfl, (by (repeat (first | with_reducible exact Kept.refl _ | with_reducible apply Kept.drew | with_reducible apply Kept.alloc | ((with_reducible apply Kept.set); focus (simp <;> omega)) | ((with_reducible apply Kept.via); focus with_reducible assumption))))⟩
theorem row_take {w : World} {A : Option Addr} {len : Nat} {l : List Int} {k : Nat} (h : RowAt w A len (fun j => .int .i64 (l.getD j 0))) (hk : k ≤ len) : RowAt w A k (fun j => .int .i64 ((l.take k).getD j 0)) := fun h0 => by
  obtain ⟨b, off, e, hc⟩ := h (by omega)
  refine ⟨b, off, e, fun j hj => ?_⟩
  have q := hc j (by omega)
  have e2 : (l.take k).getD j 0 = l.getD j 0 := by simp [List.getD, hj]
  show w.cell? _ = some (.int .i64 ((l.take k).getD j 0))
  rw [e2]; exact q
theorem row_drop {w : World} {b off len : Nat} {l : List Int} {k : Nat} (h : RowAt w (some ⟨b, off, none⟩) len (fun j => .int .i64 (l.getD j 0))) (hk : k ≤ len) {A2 : Option Addr} (hA : k < len → A2 = some ⟨b, off + k, none⟩) : RowAt w A2 (len - k) (fun j => .int .i64 ((l.drop k).getD j 0)) := fun h0 => by
  obtain ⟨b', off', e, hc⟩ := h (by omega)
  cases e
  refine ⟨b, off + k, hA (by omega), fun j hj => ?_⟩
  have q := hc (k + j) (by omega)
  have e2 : (l.drop k).getD j 0 = l.getD (k + j) 0 := by simp [List.getD, List.getElem?_drop]
  show w.cell? _ = some (.int .i64 ((l.drop k).getD j 0))
  rw [e2, Nat.add_assoc]; exact q
set_option maxRecDepth 100000 in
set_option maxHeartbeats 1600000 in
theorem steps13_in (PC : NPartC) (TC : NStepC) (LC : NStepsC) {e p v cu : Int} {len cap : Nat} {l : List Int} (e0 : 0 ≤ e) (e1 : e ≤ 4294967295) (hp : In64 p) (hv : In64 v) (hn : l.length = len) (hc : len ≤ cap) (hm : cap ≤ 9223372036854775807) (hi : ∀ x ∈ l, In64 x) (c0 : 0 ≤ cu) (c1 : cu ≤ 255) {k : Nat} (hk : cu % ((len : Int) + 1) = (k : Int)) (kl : k ≤ len) (hl : len ≤ 100) {g n : Int} (f1 : stepsR e p v (l.take k) = g) (f2 : stepsR g p v (l.drop k) = n) (f3 : stepsR e p v l = n) (f4 : stepR e p v 0 = e) (g0 : e ≤ g) (g1 : g ≤ 68719476736) {b off : Nat} (hkc : ¬ cap = k) (hc0 : ¬ cap = 0) (w : World) (hr : RowAt w (some ⟨b, off, none⟩) len (fun j => .int .i64 (l.getD j 0))) : Calls Try.prog 7 #[.int .u32 e, .int .i64 p, .int .i64 v, .slice (some ⟨b, off, none⟩) len cap, .int .u8 cu] w fun e w' => e = .returned (.bool true) ∧ Kept w w' := by
  have PC' := Lib.hid PC
  have TC' := Lib.hid TC
  have LC' := Lib.hid LC
  have AW' := Lib.hid (fun w => awake13 PC TC LC w)
  clear PC TC LC
  have HI := Lib.hid hi
  have HR := Lib.hid hr
  have HN := Lib.hid hn
  clear hr hn hi
  have S0 := Lib.hid (fun w_ => TC'.out e p v 0 e (by unfold In64; omega) hp hv (by unfold In64; omega) f4 w_)
  have d0 : ¬ (100 : Int) < (len : Int) := by omega
  have d1 : decide (e ≤ g) = true := by simp [g0]
  have d2 : decide (100 < len) = false := by simp; omega
  have i0 : (0 : Int) ≤ (k : Int) := by omega
  have i1 : (k : Int) ≤ (len : Int) := by omega
  have i2 : (k : Int) ≤ (cap : Int) := by omega
  clear f4
  go_enter Try.func7, Try.ntmps7
  go_wp2_with fail
  refine (AW'.out _).mono ?_
  rintro e w20 ⟨rfl, k20⟩
  go_wp2_with fail
  refine (steps_use LC'.out (l := l.take k) (cap := cap) (by rw [List.length_take]; have := HN.out; omega) (by omega) (by omega) (by omega) (fun x hx => HI.out x (List.mem_of_mem_take hx)) (by unfold In64; omega) hp hv f1 _ (row_take (HR.out.kept ((by (repeat (first | with_reducible exact Kept.refl _ | with_reducible apply Kept.drew | with_reducible apply Kept.alloc | ((with_reducible apply Kept.set); focus (simp <;> omega)) | ((with_reducible apply Kept.via); focus with_reducible assumption)))))) kl)).mono ?_
  rintro e_ w21 ⟨rfl, k21⟩
  go_wp2_with fail
  refine (steps_use LC'.out (l := l.drop k) (cap := cap - k) (by rw [List.length_drop, HN.out]) (by omega) (by omega) (by omega) (fun x hx => HI.out x (List.mem_of_mem_drop hx)) (by unfold In64; omega) hp hv f2 _ (row_drop (HR.out.kept ((by (repeat (first | with_reducible exact Kept.refl _ | with_reducible apply Kept.drew | with_reducible apply Kept.alloc | ((with_reducible apply Kept.set); focus (simp <;> omega)) | ((with_reducible apply Kept.via); focus with_reducible assumption)))))) kl (fun _ => rfl))).mono ?_
  rintro e_ w22 ⟨rfl, k22⟩
  go_wp2_with fail
  refine (steps_use LC'.out (l := l) (cap := cap) (HN.out) (by omega) (by omega) (by omega) (fun x hx => HI.out x (hx)) (by unfold In64; omega) hp hv f3 _ (HR.out.kept ((by (repeat (first | with_reducible exact Kept.refl _ | with_reducible apply Kept.drew | with_reducible apply Kept.alloc | ((with_reducible apply Kept.set); focus (simp <;> omega)) | ((with_reducible apply Kept.via); focus with_reducible assumption))))))).mono ?_
  rintro e_ w23 ⟨rfl, k23⟩
  go_wp2_with fail
  refine (S0.out _).mono ?_
  rintro e w24 ⟨rfl, k24⟩
  go_wp2
  go_ret
  exact ⟨rfl, (by (repeat (first | with_reducible exact Kept.refl _ | with_reducible apply Kept.drew | with_reducible apply Kept.alloc | ((with_reducible apply Kept.set); focus (simp <;> omega)) | ((with_reducible apply Kept.via); focus with_reducible assumption))))⟩
set_option maxRecDepth 100000 in
set_option maxHeartbeats 1600000 in
theorem steps13_zero (PC : NPartC) (TC : NStepC) (LC : NStepsC) {e p v cu : Int} (A : Option Addr) (cap : Nat) (e0 : 0 ≤ e) (e1 : e ≤ 4294967295) (hp : In64 p) (hv : In64 v) (hm : cap ≤ 9223372036854775807) (c0 : 0 ≤ cu) (c1 : cu ≤ 255) (f4 : stepR e p v 0 = e) (w : World) : Calls Try.prog 7 #[.int .u32 e, .int .i64 p, .int .i64 v, .slice A 0 cap, .int .u8 cu] w fun e w' => e = .returned (.bool true) ∧ Kept w w' := by
  have PC' := Lib.hid PC
  have TC' := Lib.hid TC
  have LC' := Lib.hid LC
  have AW' := Lib.hid (fun w => awake13 PC TC LC w)
  clear PC TC LC
  have S0 := Lib.hid (fun w_ => TC'.out e p v 0 e (by unfold In64; omega) hp hv (by unfold In64; omega) f4 w_)
  have i2 : (0 : Int) ≤ (cap : Int) := by omega
  clear f4
  cases A with
  | none =>
    go_enter Try.func7, Try.ntmps7
    go_wp2_with fail
    refine (AW'.out _).mono ?_
    rintro e w20 ⟨rfl, k20⟩
    go_wp2_with fail
    refine (steps_use LC'.out (len := 0) (l := []) (n := e) rfl (by omega) (by omega) (by omega) (by simp) (by unfold In64; omega) hp hv rfl _ (fun h => absurd h (by omega))).mono ?_
    rintro e_ w21 ⟨rfl, k21⟩
    go_wp2_with fail
    refine (steps_use LC'.out (len := 0) (l := []) (n := e) rfl (by omega) (by omega) (by omega) (by simp) (by unfold In64; omega) hp hv rfl _ (fun h => absurd h (by omega))).mono ?_
    rintro e_ w22 ⟨rfl, k22⟩
    go_wp2_with fail
    refine (steps_use LC'.out (len := 0) (l := []) (n := e) rfl (by omega) (by omega) (by omega) (by simp) (by unfold In64; omega) hp hv rfl _ (fun h => absurd h (by omega))).mono ?_
    rintro e_ w23 ⟨rfl, k23⟩
    go_wp2_with fail
    refine (S0.out _).mono ?_
    rintro e w24 ⟨rfl, k24⟩
    go_wp2
    go_ret
    exact ⟨rfl, (by (repeat (first | with_reducible exact Kept.refl _ | with_reducible apply Kept.drew | with_reducible apply Kept.alloc | ((with_reducible apply Kept.set); focus (simp <;> omega)) | ((with_reducible apply Kept.via); focus with_reducible assumption))))⟩
  | some a =>
    by_cases hz : cap = 0
    · subst hz
      go_enter Try.func7, Try.ntmps7
      go_wp2_with fail
      refine (AW'.out _).mono ?_
      rintro e w20 ⟨rfl, k20⟩
      go_wp2_with fail
      refine (steps_use LC'.out (len := 0) (l := []) (n := e) rfl (by omega) (by omega) (by omega) (by simp) (by unfold In64; omega) hp hv rfl _ (fun h => absurd h (by omega))).mono ?_
      rintro e_ w21 ⟨rfl, k21⟩
      go_wp2_with fail
      refine (steps_use LC'.out (len := 0) (l := []) (n := e) rfl (by omega) (by omega) (by omega) (by simp) (by unfold In64; omega) hp hv rfl _ (fun h => absurd h (by omega))).mono ?_
      rintro e_ w22 ⟨rfl, k22⟩
      go_wp2_with fail
      refine (steps_use LC'.out (len := 0) (l := []) (n := e) rfl (by omega) (by omega) (by omega) (by simp) (by unfold In64; omega) hp hv rfl _ (fun h => absurd h (by omega))).mono ?_
      rintro e_ w23 ⟨rfl, k23⟩
      go_wp2_with fail
      refine (S0.out _).mono ?_
      rintro e w24 ⟨rfl, k24⟩
      go_wp2
      go_ret
      exact ⟨rfl, (by (repeat (first | with_reducible exact Kept.refl _ | with_reducible apply Kept.drew | with_reducible apply Kept.alloc | ((with_reducible apply Kept.set); focus (simp <;> omega)) | ((with_reducible apply Kept.via); focus with_reducible assumption))))⟩
    · have hz1 : ¬ cap = 0 := hz
      go_enter Try.func7, Try.ntmps7
      go_wp2_with fail
      refine (AW'.out _).mono ?_
      rintro e w20 ⟨rfl, k20⟩
      go_wp2_with fail
      refine (steps_use LC'.out (len := 0) (l := []) (n := e) rfl (by omega) (by omega) (by omega) (by simp) (by unfold In64; omega) hp hv rfl _ (fun h => absurd h (by omega))).mono ?_
      rintro e_ w21 ⟨rfl, k21⟩
      go_wp2_with fail
      refine (steps_use LC'.out (len := 0) (l := []) (n := e) rfl (by omega) (by omega) (by omega) (by simp) (by unfold In64; omega) hp hv rfl _ (fun h => absurd h (by omega))).mono ?_
      rintro e_ w22 ⟨rfl, k22⟩
      go_wp2_with fail
      refine (steps_use LC'.out (len := 0) (l := []) (n := e) rfl (by omega) (by omega) (by omega) (by simp) (by unfold In64; omega) hp hv rfl _ (fun h => absurd h (by omega))).mono ?_
      rintro e_ w23 ⟨rfl, k23⟩
      go_wp2_with fail
      refine (S0.out _).mono ?_
      rintro e w24 ⟨rfl, k24⟩
      go_wp2
      go_ret
      exact ⟨rfl, (by (repeat (first | with_reducible exact Kept.refl _ | with_reducible apply Kept.drew | with_reducible apply Kept.alloc | ((with_reducible apply Kept.set); focus (simp <;> omega)) | ((with_reducible apply Kept.via); focus with_reducible assumption))))⟩
set_option maxRecDepth 100000 in
set_option maxHeartbeats 1600000 in
theorem steps13_end (PC : NPartC) (TC : NStepC) (LC : NStepsC) {e p v cu n : Int} {b off len : Nat} {l : List Int} (e0 : 0 ≤ e) (e1 : e ≤ 4294967295) (hp : In64 p) (hv : In64 v) (hn : l.length = len) (hi : ∀ x ∈ l, In64 x) (c0 : 0 ≤ cu) (c1 : cu ≤ 255) (hk : cu % ((len : Int) + 1) = (len : Int)) (hl0 : ¬ len = 0) (hl : len ≤ 100) (f3 : stepsR e p v l = n) (f4 : stepR e p v 0 = e) (g0 : e ≤ n) (g1 : n ≤ 68719476736) (w : World) (hr : RowAt w (some ⟨b, off, none⟩) len (fun j => .int .i64 (l.getD j 0))) : Calls Try.prog 7 #[.int .u32 e, .int .i64 p, .int .i64 v, .slice (some ⟨b, off, none⟩) len len, .int .u8 cu] w fun e w' => e = .returned (.bool true) ∧ Kept w w' := by
  have PC' := Lib.hid PC
  have TC' := Lib.hid TC
  have LC' := Lib.hid LC
  have AW' := Lib.hid (fun w => awake13 PC TC LC w)
  clear PC TC LC
  have HI := Lib.hid hi
  have HR := Lib.hid hr
  have HN := Lib.hid hn
  clear hr hn hi
  have S0 := Lib.hid (fun w_ => TC'.out e p v 0 e (by unfold In64; omega) hp hv (by unfold In64; omega) f4 w_)
  have d1 : decide (e ≤ n) = true := by simp [g0]
  have d2 : decide (100 < len) = false := by simp; omega
  have i1 : (0 : Int) ≤ (len : Int) := by omega
  clear f4
  go_enter Try.func7, Try.ntmps7
  go_wp2_with fail
  refine (AW'.out _).mono ?_
  rintro e w20 ⟨rfl, k20⟩
  go_wp2_with fail
  refine (steps_use LC'.out (l := l) (HN.out) (by omega) (by omega) (by omega) (fun x hx => HI.out x hx) (by unfold In64; omega) hp hv f3 _ (HR.out.kept ((by (repeat (first | with_reducible exact Kept.refl _ | with_reducible apply Kept.drew | with_reducible apply Kept.alloc | ((with_reducible apply Kept.set); focus (simp <;> omega)) | ((with_reducible apply Kept.via); focus with_reducible assumption))))))).mono ?_
  rintro e_ w21 ⟨rfl, k21⟩
  go_wp2_with fail
  refine (steps_use LC'.out (len := 0) (l := []) (rfl) (by omega) (by omega) (by omega) (by simp) (by unfold In64; omega) hp hv rfl _ (fun h => absurd h (by omega))).mono ?_
  rintro e_ w22 ⟨rfl, k22⟩
  go_wp2_with fail
  refine (steps_use LC'.out (l := l) (HN.out) (by omega) (by omega) (by omega) (fun x hx => HI.out x hx) (by unfold In64; omega) hp hv f3 _ (HR.out.kept ((by (repeat (first | with_reducible exact Kept.refl _ | with_reducible apply Kept.drew | with_reducible apply Kept.alloc | ((with_reducible apply Kept.set); focus (simp <;> omega)) | ((with_reducible apply Kept.via); focus with_reducible assumption))))))).mono ?_
  rintro e_ w23 ⟨rfl, k23⟩
  go_wp2_with fail
  refine (S0.out _).mono ?_
  rintro e w24 ⟨rfl, k24⟩
  go_wp2
  go_ret
  exact ⟨rfl, (by (repeat (first | with_reducible exact Kept.refl _ | with_reducible apply Kept.drew | with_reducible apply Kept.alloc | ((with_reducible apply Kept.set); focus (simp <;> omega)) | ((with_reducible apply Kept.via); focus with_reducible assumption))))⟩
theorem renoSteps_walk (PC : NPartC) (TC : NStepC) (LC : NStepsC) (e p v cu : Int) (A : Option Addr) (len cap : Nat) (l : List Int) (w : World) (e0 : 0 ≤ e) (e1 : e ≤ 4294967295) (hp : In64 p) (hv : In64 v) (hn : l.length = len) (hc : len ≤ cap) (hm : cap ≤ 9223372036854775807) (hi : ∀ x ∈ l, In64 x) (c0 : 0 ≤ cu) (c1 : cu ≤ 255) (hr : RowAt w A len (fun j => .int .i64 (l.getD j 0))) : Calls Try.prog 7 #[.int .u32 e, .int .i64 p, .int .i64 v, .slice A len cap, .int .u8 cu] w fun e w' => e = .returned (.bool true) ∧ Kept w w' := by
  by_cases h : 100 < len
  · exact steps13_long PC TC LC e0 e1 hp hv hn hc hm h w
  · have f4 : stepR e p v 0 = e := step_zero p v (by omega)
    rcases Nat.eq_zero_or_pos len with z | z
    · subst z
      exact steps13_zero PC TC LC A cap e0 e1 hp hv hm c0 c1 f4 w
    · obtain ⟨b, off, rfl, _⟩ := hr z
      obtain ⟨k, hk⟩ := Int.eq_ofNat_of_zero_le (a := cu % ((len : Int) + 1)) (Int.emod_nonneg _ (by omega))
      have kl : k ≤ len := by have := Int.emod_lt_of_pos cu (b := (len : Int) + 1) (by omega); omega
      have s1 := steps_up p v (l.take k) e (by omega)
      have s2 : stepsR (stepsR e p v (l.take k)) p v (l.drop k) = stepsR e p v l := by rw [← stepsR_app, List.take_append_drop]
      by_cases q : cap = k
      · have e2 : cap = len := by omega
        have e3 : k = len := by omega
        subst e2 e3
        have s3 := steps_up p v l e (by omega)
        exact steps13_end PC TC LC e0 e1 hp hv hn hi c0 c1 hk (by omega) (by omega) rfl f4 s3.1 s3.2 w hr
      · exact steps13_in PC TC LC e0 e1 hp hv hn hc hm hi c0 c1 hk kl (by omega) rfl s2 rfl f4 s1.1 s1.2 q (by omega) w hr
end Go.Proofs.Ythlfdkkiedfpjaa
