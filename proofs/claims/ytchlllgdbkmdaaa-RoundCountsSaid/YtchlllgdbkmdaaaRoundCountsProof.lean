/-
  RoundCounts: how often rounds are over is told step by step.
-/
import Derived.Test.YtchlllgdbkmdaaaRows
import Derived.WalkKit
import Derived.ProofKit
import Derived.OpenShut
import Derived.Lib.SmallJoins
import Derived.Test.YtchlllgdbkmdaaaFrame
import Derived.Test.YtchlllgdbkmdaaaWf
import Derived.Test.YtchlllgdbkmdaaaRound09
import Derived.Test.YtchlllgdbkmdaaaCounts09
namespace Go.Proofs.Ytchlllgdbkmdaaa.roundCounts
open Go.ChangeShapes Go.WideShapes Go.ChangeAt Go.RowKit Go.Joins
set_option linter.unusedVariables false

theorem own : ownKnob Try.prog.godebug = none := by kernel_rfl
theorem kids : Kids Try.prog (· < Try.prog.types.size) := kids_rows (by kernel_rfl) (by kernel_rfl)
theorem full : ∀ t e, t < Try.prog.types.size → Try.prog.underlying t = some (.slice e) → 0 < Try.prog.cellsOf e := slices_full_of Try.prog (by kernel_rfl)

theorem walk (A0 : Option Addr) (len0 cap0 : Nat) (zs0 : List Int) (A1 : Option Addr) (len1 cap1 : Nat) (zs1 : List Int) (W : World) (hl0 : zs0.length = len0) (hc0 : len0 ≤ cap0) (hm0 : cap0 ≤ maxLen) (hr0 : RowAt W A0 len0 (fun j => .int .i64 (zs0.getD j 0))) (hz0 : ∀ n ∈ zs0, (Lit.int .i64 n).wf = true) (hl1 : zs1.length = len1) (hc1 : len1 ≤ cap1) (hm1 : cap1 ≤ maxLen) (hr1 : RowAt W A1 len1 (fun j => .int .i64 (zs1.getD j 0))) (hz1 : ∀ n ∈ zs1, (Lit.int .i64 n).wf = true) :
    Calls Try.prog 5 #[.slice A0 len0 cap0, .slice A1 len1 cap1] W fun e w' => e = .returned (.bool true) ∧ Kept W w' := by
  exact roundCounts_walk rbegin_c rack_c rcheck_c rcount_c A0 len0 cap0 zs0 A1 len1 cap1 zs1 W hl0 hl1 hc0 (by unfold maxLen at hm0; omega) hc1 (by unfold maxLen at hm1; omega) (fun n hn => in64Wf (hz0 n hn)) (fun n hn => in64Wf (hz1 n hn)) hr0 hr1

set_option maxRecDepth 100000 in
theorem lifted (os : Os) (started : os.Started) (H : Type) (enc : TypeId × Value → H) :
    ReturnsInHanded {} Try.checked os 5 .any (Rows.roundCountsSpec.pre6 enc Try.prog Try.f5 Rows.roundCountsRow.domain false) (Rows.roundCountsSpec.post enc Try.prog Try.f5 false true false false) := by
  refine returnsInHanded_of_change (C := Try.checked) own started (by kernel_rfl) Try.func5
    (ChangeSpec.witness6 (enc := enc) (C := Try.checked) false ⟨#[], #[.slice none 0 0, .slice none 0 0], []⟩ 8 (by kernel_rfl) (by kernel_rfl) (by kernel_rfl) (by kernel_rfl)) ?_
  intro W base args ds gs before hval0 hW hcnd _
  have hval : ∀ (j : Nat) t v, Try.f5.params[j]? = some t → args[j]? = some v → Value.okWide Try.prog W .any base t v := hval0
  have hW' := hW
  obtain ⟨p, q, hA0, hV, rfl, hfz, hnd⟩ := hW
  have hA : DataW.TrodAll enc Try.prog W 0 (fun _ => true) true Try.f5.params.toList args.toList ds p := hA0
  have hAk := hA
  rw [Try.params5] at hA hval
  obtain ⟨v0, vs0, d0, ds0, p0, q0, hargs, rfl, _, k0, r0⟩ := trodAll_cons hA
  obtain ⟨v1, vs1, d1, ds1, p1, q1, rfl, rfl, _, k1, r1⟩ := trodAll_cons r0
  obtain ⟨rfl, rfl, _⟩ := trodAll_nil r1
  obtain rfl : args = #[v0, v1] := by cases args; simp_all
  obtain ⟨rfl, rfl⟩ := trodVars_none hV
  obtain ⟨A0, len0, cap0, zs0, rfl, hl0, hc0, hm0, hr0, hz0⟩ := row_of_ints Try.underlying34 Try.underlying3 (by kernel_rfl) (okWide_slice Try.underlying34 (hval 0 34 v0 rfl rfl)) k0
  obtain ⟨A1, len1, cap1, zs1, rfl, hl1, hc1, hm1, hr1, hz1⟩ := row_of_ints Try.underlying34 Try.underlying3 (by kernel_rfl) (okWide_slice Try.underlying34 (hval 1 34 v1 rfl rfl)) k1
  clear hA0 hval0
  simp only [List.append_nil] at hW'
  refine (walk A0 len0 cap0 zs0 A1 len1 cap1 zs1 W hl0 hc0 hm0 hr0 hz0 hl1 hc1 hm1 hr1 hz1).mono fun e W' ⟨he, hg⟩ => ?_
  subst he
  exact ⟨_, rfl, post_of_same (pa := p) (pv := []) hW' (fun _ _ _ => (trodAll_cons_mk (shut_bool Try.underlying4 _) trodAll_mk0)) (fun sp hsp => again_kept kids full (by rw [Try.params5]; decide) hAk hg.2 hsp) (fun _ _ => rfl) (by simp)
    (hg.1.frame _) hg.1.2.1 (ok_one (by kernel_rfl) rfl (okWide_bool_mk Try.underlying4 _))⟩

theorem over : Rows.roundCountsRow.holds Try.pinned (OpenSpec.ofChange Rows.roundCountsSpec) :=
  OpenClaim.holds_of_wide 5 Try.f5 rfl rfl rfl rfl rfl rfl rfl ⟨rfl, rfl, rfl, rfl, rfl⟩ rfl rfl rfl rfl rfl (by kernel_rfl) Try.func5 (by kernel_rfl)
    (of_decide_eq_true (by kernel_rfl)) (by unfold Func.isWrapper; first | (rw [if_pos (by decide +kernel)]; kernel_rfl) | (rw [if_neg (by decide +kernel)]; exact ⟨rfl, rfl⟩))
    (fun os started H enc _ => lifted os started H enc)

theorem proved : Rows.RoundCountsSaid :=
  over
#print axioms proved
end Go.Proofs.Ytchlllgdbkmdaaa.roundCounts
