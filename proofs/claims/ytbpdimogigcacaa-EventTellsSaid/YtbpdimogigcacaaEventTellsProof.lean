/-
  EventTells: whether any event may be, that of any numbers, and those of many, are what the document says, or its error.
-/
import Derived.Test.YtbpdimogigcacaaRows
import Derived.WalkKit
import Derived.ProofKit
import Derived.OpenShut
import Derived.Lib.SmallJoins
import Derived.Test.YtbpdimogigcacaaFrame
import Derived.Test.YtbpdimogigcacaaWf
import Derived.Test.YtbpdimogigcacaaEvent20
import Derived.Test.YtbpdimogigcacaaTells20
import Derived.Test.YtbpdimogigcacaaAgg
namespace Go.Proofs.Ytbpdimogigcacaa.eventTells
open Go.ChangeShapes Go.WideShapes Go.ChangeAt Go.RowKit Go.Joins
set_option linter.unusedVariables false

theorem own : ownKnob Try.prog.godebug = none := by kernel_rfl
theorem kids : Kids Try.prog (· < Try.prog.types.size) := kids_rows (by kernel_rfl) (by kernel_rfl)
theorem full : ∀ t e, t < Try.prog.types.size → Try.prog.underlying t = some (.slice e) → 0 < Try.prog.cellsOf e := slices_full_of Try.prog (by kernel_rfl)

theorem walk (g0_0 : Int) (g0_1 : Int) (g0_2 : Int) (g0_3 : Int) (A1 : Option Addr) (len1 cap1 : Nat) (E1 : Nat → Nat → Int) (A2 : Option Addr) (len2 cap2 : Nat) (B2 : Nat → Option Addr) (Cr2 : Nat → Nat) (R2 : Nat → List Int) (W : World) (gw0_0 : (Lit.int .i64 g0_0).wf = true) (gw0_1 : (Lit.int .i64 g0_1).wf = true) (gw0_2 : (Lit.int .i64 g0_2).wf = true) (gw0_3 : (Lit.int .i64 g0_3).wf = true) (sk1 : SliceOk A1 len1 cap1) (hr1 : RowI .i64 W A1 1 len1 E1) (hz1 : ∀ i, i < len1 → ∀ j, j < 1 → (Lit.int .i64 (E1 i j)).wf = true) (sk2 : SliceOk A2 len2 cap2) (hr2 : RowS .i64 W A2 len2 B2 Cr2 R2) (hz2 : ∀ i, i < len2 → ∀ n ∈ R2 i, (Lit.int .i64 n).wf = true) :
    Calls Try.prog 3 #[.agg #[.int .i64 g0_0, .int .i64 g0_1, .int .i64 g0_2, .int .i64 g0_3], .slice A1 len1 cap1, .slice A2 len2 cap2] W fun e w' => e = .returned (.bool true) ∧ Kept W w' := by
  exact eventTells_walk vcheck_c vdec_c venc_c vall_c W (in64Wf gw0_0) (in64Wf gw0_1) (in64Wf gw0_2) (in64Wf gw0_3) sk1 sk2 (intsOf_len E1 len1) (intsOf_in (fun i hi j hj => in64Wf (hz1 i hi j hj))) (fun i hi x hx => in64Wf (hz2 i hi x hx)) (rowK_of hr1) hr2

set_option maxRecDepth 100000 in
theorem lifted (os : Os) (started : os.Started) (H : Type) (enc : TypeId × Value → H) :
    ReturnsInHanded {} Try.checked os 3 .any (Rows.eventTellsSpec.pre6 enc Try.prog Try.f3 Rows.eventTellsRow.domain false) (Rows.eventTellsSpec.post enc Try.prog Try.f3 false true false false) := by
  refine returnsInHanded_of_change (C := Try.checked) own started (by kernel_rfl) Try.func3
    (ChangeSpec.witness6 (enc := enc) (C := Try.checked) false ⟨#[], #[.agg #[.int .i64 0, .int .i64 0, .int .i64 0, .int .i64 0], .slice none 0 0, .slice none 0 0], []⟩ 8 (by kernel_rfl) (by kernel_rfl) (by kernel_rfl) (by kernel_rfl)) ?_
  intro W base args ds gs before hval0 hW hcnd _
  have hval : ∀ (j : Nat) t v, Try.f3.params[j]? = some t → args[j]? = some v → Value.okWide Try.prog W .any base t v := hval0
  have hW' := hW
  obtain ⟨p, q, hA0, hV, rfl, hfz, hnd⟩ := hW
  have hA : DataW.TrodAll enc Try.prog W 0 (fun _ => true) true Try.f3.params.toList args.toList ds p := hA0
  have hAk := hA
  rw [Try.params3] at hA hval
  obtain ⟨v0, vs0, d0, ds0, p0, q0, hargs, rfl, _, k0, r0⟩ := trodAll_cons hA
  obtain ⟨v1, vs1, d1, ds1, p1, q1, rfl, rfl, _, k1, r1⟩ := trodAll_cons r0
  obtain ⟨v2, vs2, d2, ds2, p2, q2, rfl, rfl, _, k2, r2⟩ := trodAll_cons r1
  obtain ⟨rfl, rfl, _⟩ := trodAll_nil r2
  obtain rfl : args = #[v0, v1, v2] := by cases args; simp_all
  obtain ⟨rfl, rfl⟩ := trodVars_none hV
  obtain ⟨cs0, rfl, hcs0⟩ := open_leaves (ls := [.i .i64, .i .i64, .i .i64, .i .i64]) 6 Try.underlying23 (by kernel_rfl) (hval 0 23 v0 rfl rfl) k0
  obtain ⟨g0_0, vs0_0, rfl, gw0_0, g0_1, vs0_1, rfl, gw0_1, g0_2, vs0_2, rfl, gw0_2, g0_3, vs0_3, rfl, gw0_3, rfl⟩ := hcs0
  obtain ⟨A1, len1, cap1, E1, rfl, sk1, hr1, hz1⟩ := rows_of_ints (κ := .i64) (n := 1) Try.underlying24 (by kernel_rfl) (by kernel_rfl) (by decide) (okWide_slice Try.underlying24 (hval 1 24 v1 rfl rfl)) k1
  obtain ⟨A2, len2, cap2, B2, Cr2, R2, rfl, sk2, hr2, hz2⟩ := rows_of_rows (κ := .i64) Try.underlying25 Try.underlying24 Try.underlying3 (by kernel_rfl) (by kernel_rfl) (okWide_slice Try.underlying25 (hval 2 25 v2 rfl rfl)) k2
  clear hA0 hval0
  simp only [List.append_nil] at hW'
  refine (walk g0_0 g0_1 g0_2 g0_3 A1 len1 cap1 E1 A2 len2 cap2 B2 Cr2 R2 W gw0_0 gw0_1 gw0_2 gw0_3 sk1 hr1 hz1 sk2 hr2 hz2).mono fun e W' ⟨he, hg⟩ => ?_
  subst he
  exact ⟨_, rfl, post_of_same (pa := p) (pv := []) hW' (fun _ _ _ => (trodAll_cons_mk (shut_bool Try.underlying4 _) trodAll_mk0)) (fun sp hsp => again_kept kids full (by rw [Try.params3]; decide) hAk hg.2 hsp) (fun _ _ => rfl) (by simp)
    (hg.1.frame _) hg.1.2.1 (ok_one (by kernel_rfl) rfl (okWide_bool_mk Try.underlying4 _))⟩

theorem over : Rows.eventTellsRow.holds Try.pinned (OpenSpec.ofChange Rows.eventTellsSpec) :=
  OpenClaim.holds_of_wide 3 Try.f3 rfl rfl rfl rfl rfl rfl rfl ⟨rfl, rfl, rfl, rfl, rfl⟩ rfl rfl rfl rfl rfl (by kernel_rfl) Try.func3 (by kernel_rfl)
    (of_decide_eq_true (by kernel_rfl)) (by unfold Func.isWrapper; first | (rw [if_pos (by decide +kernel)]; kernel_rfl) | (rw [if_neg (by decide +kernel)]; exact ⟨rfl, rfl⟩))
    (fun os started H enc _ => lifted os started H enc)

theorem proved : Rows.EventTellsSaid :=
  over
#print axioms proved
end Go.Proofs.Ytbpdimogigcacaa.eventTells
