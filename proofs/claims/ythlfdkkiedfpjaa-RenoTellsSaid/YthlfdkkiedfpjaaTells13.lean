/-
  The walk of RenoTells: it answers true, if the calls do what they are to do.
-/
import Derived.Test.YthlfdkkiedfpjaaAwake13
import Derived.Test.YthlfdkkiedfpjaaRef13
import Derived.Test.YthlfdkkiedfpjaaRoom
import Derived.Deep.RegionHeld3
import Derived.Deep.DeepCutAuto
namespace Go.Proofs.Ythlfdkkiedfpjaa
open Go.RowKit Go.BigFrame
set_option linter.unusedVariables false

set_option maxRecDepth 100000 in
set_option maxHeartbeats 1600000 in
theorem tells13_long (PC : NPartC) (TC : NStepC) (LC : NStepsC) {est p v : Int} {A : Option Addr} {len cap : Nat} {l : List Int} (he : In64 est) (hp : In64 p) (hv : In64 v) (hn : l.length = len) (hc : len ≤ cap) (hm : cap ≤ 9223372036854775807) (h : 100 < len) (w : World) : Calls Try.prog 3 #[.int .i64 est, .int .i64 p, .int .i64 v, .slice A len cap] w fun e w' => e = .returned (.bool true) ∧ Kept w w' := by
  have PC' := Lib.hid PC
  have TC' := Lib.hid TC
  have LC' := Lib.hid LC
  have AW' := Lib.hid (fun w => awake13 PC TC LC w)
  clear PC TC LC
  have d0 : decide (100 < len) = true := by simp [h]
  go_enter Try.func3, Try.ntmps3
  go_wp2_with fail
  refine (AW'.out _).mono ?_
  rintro e w20 ⟨rfl, k20⟩
  go_wp2
  go_ret
  exact ⟨rfl, (by (repeat (first | with_reducible exact Kept.refl _ | with_reducible apply Kept.drew | with_reducible apply Kept.alloc | ((with_reducible apply Kept.set); focus (simp <;> omega)) | ((with_reducible apply Kept.via); focus with_reducible assumption))))⟩
set_option maxRecDepth 100000 in
set_option maxHeartbeats 1600000 in
theorem tells13_less (PC : NPartC) (TC : NStepC) (LC : NStepsC) {est p v : Int} {A : Option Addr} {len cap : Nat} {l : List Int} (he : In64 est) (hp : In64 p) (hv : In64 v) (hn : l.length = len) (hc : len ≤ cap) (hm : cap ≤ 9223372036854775807) (hi : ∀ x ∈ l, In64 x) (hl : len ≤ 100) (h : est < p) (w : World) (hr : RowAt w A len (fun j => .int .i64 (l.getD j 0))) : Calls Try.prog 3 #[.int .i64 est, .int .i64 p, .int .i64 v, .slice A len cap] w fun e w' => e = .returned (.bool true) ∧ Kept w w' := by
  have PC' := Lib.hid PC
  have TC' := Lib.hid TC
  have LC' := Lib.hid LC
  have AW' := Lib.hid (fun w => awake13 PC TC LC w)
  clear PC TC LC
  have HI := Lib.hid hi
  have HR := Lib.hid hr
  have HN := Lib.hid hn
  clear hr hn hi
  have d0 : decide (100 < len) = false := by simp; omega
  have Q1 := Lib.hid (fun w_ => PC'.out est p 9 17 he hp (by unfold numR; simp; omega) (by unfold denR; simp; omega) w_)
  have d1 : decide (est < p) = true := by simp [h]
  have d2 : decide (p ≤ est) = false := by simp; omega
  go_enter Try.func3, Try.ntmps3
  go_wp2_with fail
  refine (AW'.out _).mono ?_
  rintro e w20 ⟨rfl, k20⟩
  go_wp2_with fail
  refine (Q1.out _).mono ?_
  rintro e w21 ⟨rfl, k21⟩
  go_wp2_with fail
  go_loopw [13] (fun i wr => ∃ k : Nat, k ≤ len ∧ i = .int .i64 k ∧ Kept w wr) (fun i _ => len - (intOf i).toNat)
  case atStart => exact ⟨0, Nat.zero_le _, rfl, (by (repeat (first | with_reducible exact Kept.refl _ | with_reducible apply Kept.drew | with_reducible apply Kept.alloc | ((with_reducible apply Kept.set); focus (simp <;> omega)) | ((with_reducible apply Kept.via); focus with_reducible assumption))))⟩
  case round =>
    obtain ⟨k, hk, rfl, kw⟩ := hrel
    by_cases hlt : k < len
    · have hltI : (k : Int) < (len : Int) := by omega
      have g0 : (0 : Int) ≤ (k : Int) := by omega
      obtain ⟨b, off, rfl, hc_⟩ := (HR.out.kept kw) (by omega)
      have c1 : wr.cell? ⟨b, off + k, none⟩ = some (.int .i64 (l.getD k 0)) := hc_ k hlt
      have iz : In64 (l.getD k 0) := HI.out _ (by have hk2 : k < l.length := (by have := HN.out; omega); simp [List.getD, hk2])
      generalize l.getD k 0 = z at *
      obtain ⟨r, er⟩ : ∃ r, stepR est p v z = r := ⟨_, rfl⟩
      have T1 := Lib.hid (fun w_ => TC'.out est p v z r he hp hv iz er w_)
      have T2 := Lib.hid (fun w_ => refStep13_ok er w_)
      have H_r := Lib.hid c1
      clear hc_ er iz c1
      go_upto_region 9 with fail
      go_upto_region 9 with fail
      have B_r := Lib.hid (Kept.alln1 (show Kept wr wr from (by (repeat (first | with_reducible exact Kept.refl _ | with_reducible apply Kept.drew | with_reducible apply Kept.alloc | ((with_reducible apply Kept.set); focus (simp <;> omega)) | ((with_reducible apply Kept.via); focus with_reducible assumption))))) H_r)
      have kall : Kept w wr := (by (repeat (first | with_reducible exact Kept.refl _ | with_reducible apply Kept.drew | with_reducible apply Kept.alloc | ((with_reducible apply Kept.set); focus (simp <;> omega)) | ((with_reducible apply Kept.via); focus with_reducible assumption))))
      have q_r0 := kwn1 B_r
      clear B_r
      refine wp_region_kept (by kernel_rfl) (by as_aux_lemma => kernel_rfl) ?_
      repeat (go_big_quiet_step (first | (with_reducible exact kept_of (T1.out _)) | (with_reducible exact kept_of (T2.out _))))
      refine wpQuiet_nil ?_
      intro wq hw'
      have kq : Kept wr wq := by obtain ⟨p, rfl⟩ := hw'; exact p.k
      clear hw'
      clear kall
      go_wp2
      go_roundw
      case rel => exact ⟨k + 1, by omega, by go_num, Kept.trans kw kq⟩
      case measure => simp [intOf]; omega
    · obtain rfl : k = len := by omega
      go_wp2_with fail
      refine (steps_use LC'.out (l := l) HN.out hc hm (by omega) (fun x hx => HI.out x hx) he hp hv rfl _ (HR.out.kept kw)).mono ?_
      rintro e_ u1 ⟨rfl, j1⟩
      go_wp2_with fail
      refine (refSteps13_ok (l := l) HN.out (by omega) rfl _ (HR.out.kept (Kept.trans kw j1))).mono ?_
      rintro e_ u2 ⟨rfl, j2⟩
      go_wp2
      go_ret
      exact ⟨rfl, Kept.trans (Kept.trans kw j1) j2⟩
set_option maxRecDepth 100000 in
set_option maxHeartbeats 1600000 in
theorem tells13_more (PC : NPartC) (TC : NStepC) (LC : NStepsC) {est p v : Int} {A : Option Addr} {len cap : Nat} {l : List Int} (he : In64 est) (hp : In64 p) (hv : In64 v) (hn : l.length = len) (hc : len ≤ cap) (hm : cap ≤ 9223372036854775807) (hi : ∀ x ∈ l, In64 x) (hl : len ≤ 100) (h : p ≤ est) (w : World) (hr : RowAt w A len (fun j => .int .i64 (l.getD j 0))) : Calls Try.prog 3 #[.int .i64 est, .int .i64 p, .int .i64 v, .slice A len cap] w fun e w' => e = .returned (.bool true) ∧ Kept w w' := by
  have PC' := Lib.hid PC
  have TC' := Lib.hid TC
  have LC' := Lib.hid LC
  have AW' := Lib.hid (fun w => awake13 PC TC LC w)
  clear PC TC LC
  have HI := Lib.hid hi
  have HR := Lib.hid hr
  have HN := Lib.hid hn
  clear hr hn hi
  have d0 : decide (100 < len) = false := by simp; omega
  have Q1 := Lib.hid (fun w_ => PC'.out est p 1 1 he hp (by unfold numR; simp; omega) (by unfold denR; simp; omega) w_)
  have d1 : decide (est < p) = false := by simp; omega
  have d2 : decide (p ≤ est) = true := by simp [h]
  go_enter Try.func3, Try.ntmps3
  go_wp2_with fail
  refine (AW'.out _).mono ?_
  rintro e w20 ⟨rfl, k20⟩
  go_wp2_with fail
  refine (Q1.out _).mono ?_
  rintro e w21 ⟨rfl, k21⟩
  go_wp2_with fail
  go_loopw [13] (fun i wr => ∃ k : Nat, k ≤ len ∧ i = .int .i64 k ∧ Kept w wr) (fun i _ => len - (intOf i).toNat)
  case atStart => exact ⟨0, Nat.zero_le _, rfl, (by (repeat (first | with_reducible exact Kept.refl _ | with_reducible apply Kept.drew | with_reducible apply Kept.alloc | ((with_reducible apply Kept.set); focus (simp <;> omega)) | ((with_reducible apply Kept.via); focus with_reducible assumption))))⟩
  case round =>
    obtain ⟨k, hk, rfl, kw⟩ := hrel
    by_cases hlt : k < len
    · have hltI : (k : Int) < (len : Int) := by omega
      have g0 : (0 : Int) ≤ (k : Int) := by omega
      obtain ⟨b, off, rfl, hc_⟩ := (HR.out.kept kw) (by omega)
      have c1 : wr.cell? ⟨b, off + k, none⟩ = some (.int .i64 (l.getD k 0)) := hc_ k hlt
      have iz : In64 (l.getD k 0) := HI.out _ (by have hk2 : k < l.length := (by have := HN.out; omega); simp [List.getD, hk2])
      generalize l.getD k 0 = z at *
      obtain ⟨r, er⟩ : ∃ r, stepR est p v z = r := ⟨_, rfl⟩
      have T1 := Lib.hid (fun w_ => TC'.out est p v z r he hp hv iz er w_)
      have T2 := Lib.hid (fun w_ => refStep13_ok er w_)
      have H_r := Lib.hid c1
      clear hc_ er iz c1
      go_upto_region 9 with fail
      go_upto_region 9 with fail
      have B_r := Lib.hid (Kept.alln1 (show Kept wr wr from (by (repeat (first | with_reducible exact Kept.refl _ | with_reducible apply Kept.drew | with_reducible apply Kept.alloc | ((with_reducible apply Kept.set); focus (simp <;> omega)) | ((with_reducible apply Kept.via); focus with_reducible assumption))))) H_r)
      have kall : Kept w wr := (by (repeat (first | with_reducible exact Kept.refl _ | with_reducible apply Kept.drew | with_reducible apply Kept.alloc | ((with_reducible apply Kept.set); focus (simp <;> omega)) | ((with_reducible apply Kept.via); focus with_reducible assumption))))
      have q_r0 := kwn1 B_r
      clear B_r
      refine wp_region_kept (by kernel_rfl) (by as_aux_lemma => kernel_rfl) ?_
      repeat (go_big_quiet_step (first | (with_reducible exact kept_of (T1.out _)) | (with_reducible exact kept_of (T2.out _))))
      refine wpQuiet_nil ?_
      intro wq hw'
      have kq : Kept wr wq := by obtain ⟨p, rfl⟩ := hw'; exact p.k
      clear hw'
      clear kall
      go_wp2
      go_roundw
      case rel => exact ⟨k + 1, by omega, by go_num, Kept.trans kw kq⟩
      case measure => simp [intOf]; omega
    · obtain rfl : k = len := by omega
      go_wp2_with fail
      refine (steps_use LC'.out (l := l) HN.out hc hm (by omega) (fun x hx => HI.out x hx) he hp hv rfl _ (HR.out.kept kw)).mono ?_
      rintro e_ u1 ⟨rfl, j1⟩
      go_wp2_with fail
      refine (refSteps13_ok (l := l) HN.out (by omega) rfl _ (HR.out.kept (Kept.trans kw j1))).mono ?_
      rintro e_ u2 ⟨rfl, j2⟩
      go_wp2
      go_ret
      exact ⟨rfl, Kept.trans (Kept.trans kw j1) j2⟩
theorem renoTells_walk (PC : NPartC) (TC : NStepC) (LC : NStepsC) (est p v : Int) (A : Option Addr) (len cap : Nat) (l : List Int) (w : World) (he : In64 est) (hp : In64 p) (hv : In64 v) (hn : l.length = len) (hc : len ≤ cap) (hm : cap ≤ 9223372036854775807) (hi : ∀ x ∈ l, In64 x) (hr : RowAt w A len (fun j => .int .i64 (l.getD j 0))) : Calls Try.prog 3 #[.int .i64 est, .int .i64 p, .int .i64 v, .slice A len cap] w fun e w' => e = .returned (.bool true) ∧ Kept w w' := by
  by_cases h : 100 < len
  · exact tells13_long PC TC LC he hp hv hn hc hm h w
  · by_cases h2 : est < p
    · exact tells13_less PC TC LC he hp hv hn hc hm hi (by omega) h2 w hr
    · exact tells13_more PC TC LC he hp hv hn hc hm hi (by omega) (by omega) w hr
end Go.Proofs.Ythlfdkkiedfpjaa
