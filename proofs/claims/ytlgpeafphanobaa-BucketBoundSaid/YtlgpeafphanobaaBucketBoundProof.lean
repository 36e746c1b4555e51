/-
  BucketBound: what goes in some time is at most what it had, and the rates times the times between.
-/
import Derived.Test.YtlgpeafphanobaaRows
import Derived.WalkKit
import Derived.ProofKit
import Derived.OpenShut
import Derived.Lib.SmallJoins
import Derived.Test.YtlgpeafphanobaaFrame
import Derived.Test.YtlgpeafphanobaaWf
import Derived.Test.YtlgpeafphanobaaBucket18
import Derived.Test.YtlgpeafphanobaaBound18
namespace Go.Proofs.Ytlgpeafphanobaa.bucketBound
open Go.ChangeShapes Go.WideShapes Go.ChangeAt Go.RowKit Go.Joins
set_option linter.unusedVariables false

theorem own : ownKnob Try.prog.godebug = none := by kernel_rfl
theorem kids : Kids Try.prog (· < Try.prog.types.size) := kids_rows (by kernel_rfl) (by kernel_rfl)
theorem full : ∀ t e, t < Try.prog.types.size → Try.prog.underlying t = some (.slice e) → 0 < Try.prog.cellsOf e := slices_full_of Try.prog (by kernel_rfl)

theorem walk (a0 : Int) (a1 : Int) (A2 : Option Addr) (len2 cap2 : Nat) (E2 : Nat → Nat → Int) (W : World) (w0 : (Lit.int .u32 a0).wf = true) (w1 : (Lit.int .u32 a1).wf = true) (sk2 : SliceOk A2 len2 cap2) (hr2 : RowI .i64 W A2 3 len2 E2) (hz2 : ∀ i, i < len2 → ∀ j, j < 3 → (Lit.int .i64 (E2 i j)).wf = true) :
    Calls Try.prog 4 #[.int .u32 a0, .int .u32 a1, .slice A2 len2 cap2] W fun e w' => e = .returned (.bool true) ∧ Kept W w' := by
  exact bucketBound_walk bcheck_c bfill_c btake_c bwait_c bbytes_c a0 a1 A2 len2 cap2 E2 W (by have := bounds_u32 w0; omega) (by have := bounds_u32 w0; omega) (by have := bounds_u32 w1; omega) (by have := bounds_u32 w1; omega) sk2 (fun i hi j hj => in64Wf (hz2 i hi j hj)) hr2

set_option maxRecDepth 100000 in
theorem lifted (os : Os) (started : os.Started) (H : Type) (enc : TypeId × Value → H) :
    ReturnsInHanded {} Try.checked os 4 .any (Rows.bucketBoundSpec.pre6 enc Try.prog Try.f4 Rows.bucketBoundRow.domain false) (Rows.bucketBoundSpec.post enc Try.prog Try.f4 false true false false) := by
  refine returnsInHanded_of_change (C := Try.checked) own started (by kernel_rfl) Try.func4
    (ChangeSpec.witness6 (enc := enc) (C := Try.checked) false ⟨#[], #[.int .u32 0, .int .u32 0, .slice none 0 0], []⟩ 8 (by kernel_rfl) (by kernel_rfl) (by kernel_rfl) (by kernel_rfl)) ?_
  intro W base args ds gs before hval0 hW hcnd _
  have hval : ∀ (j : Nat) t v, Try.f4.params[j]? = some t → args[j]? = some v → Value.okWide Try.prog W .any base t v := hval0
  have hW' := hW
  obtain ⟨p, q, hA0, hV, rfl, hfz, hnd⟩ := hW
  have hA : DataW.TrodAll enc Try.prog W 0 (fun _ => true) true Try.f4.params.toList args.toList ds p := hA0
  have hAk := hA
  rw [Try.params4] at hA hval
  obtain ⟨v0, vs0, d0, ds0, p0, q0, hargs, rfl, _, k0, r0⟩ := trodAll_cons hA
  obtain ⟨v1, vs1, d1, ds1, p1, q1, rfl, rfl, _, k1, r1⟩ := trodAll_cons r0
  obtain ⟨v2, vs2, d2, ds2, p2, q2, rfl, rfl, _, k2, r2⟩ := trodAll_cons r1
  obtain ⟨rfl, rfl, _⟩ := trodAll_nil r2
  obtain rfl : args = #[v0, v1, v2] := by cases args; simp_all
  obtain ⟨rfl, rfl⟩ := trodVars_none hV
  obtain ⟨a0, rfl, _, _, w0⟩ := open_int Try.underlying33 (hval 0 33 v0 rfl rfl) k0
  obtain ⟨a1, rfl, _, _, w1⟩ := open_int Try.underlying33 (hval 1 33 v1 rfl rfl) k1
  obtain ⟨A2, len2, cap2, E2, rfl, sk2, hr2, hz2⟩ := rows_of_ints (κ := .i64) (n := 3) Try.underlying34 (by kernel_rfl) (by kernel_rfl) (by decide) (okWide_slice Try.underlying34 (hval 2 34 v2 rfl rfl)) k2
  clear hA0 hval0
  simp only [List.append_nil] at hW'
  refine (walk a0 a1 A2 len2 cap2 E2 W w0 w1 sk2 hr2 hz2).mono fun e W' ⟨he, hg⟩ => ?_
  subst he
  exact ⟨_, rfl, post_of_same (pa := p) (pv := []) hW' (fun _ _ _ => (trodAll_cons_mk (shut_bool Try.underlying4 _) trodAll_mk0)) (fun sp hsp => again_kept kids full (by rw [Try.params4]; decide) hAk hg.2 hsp) (fun _ _ => rfl) (by simp)
    (hg.1.frame _) hg.1.2.1 (ok_one (by kernel_rfl) rfl (okWide_bool_mk Try.underlying4 _))⟩

theorem over : Rows.bucketBoundRow.holds Try.pinned (OpenSpec.ofChange Rows.bucketBoundSpec) :=
  OpenClaim.holds_of_wide 4 Try.f4 rfl rfl rfl rfl rfl rfl rfl ⟨rfl, rfl, rfl, rfl, rfl⟩ rfl rfl rfl rfl rfl (by kernel_rfl) Try.func4 (by kernel_rfl)
    (of_decide_eq_true (by kernel_rfl)) (by unfold Func.isWrapper; first | (rw [if_pos (by decide +kernel)]; kernel_rfl) | (rw [if_neg (by decide +kernel)]; exact ⟨rfl, rfl⟩))
    (fun os started H enc _ => lifted os started H enc)

theorem proved : Rows.BucketBoundSaid :=
  over
#print axioms proved
end Go.Proofs.Ytlgpeafphanobaa.bucketBound
