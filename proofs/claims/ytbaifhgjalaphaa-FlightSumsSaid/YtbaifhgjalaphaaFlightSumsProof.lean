/-
  FlightSums: what was sent is what was told of, lost, and is on its way.
-/
import Derived.Test.YtbaifhgjalaphaaRows
import Derived.WalkKit
import Derived.ProofKit
import Derived.OpenShut
import Derived.Lib.SmallJoins
import Derived.Test.YtbaifhgjalaphaaFrame
import Derived.Test.YtbaifhgjalaphaaWf
import Derived.Test.YtbaifhgjalaphaaFlight16
import Derived.Test.YtbaifhgjalaphaaSums16
namespace Go.Proofs.Ytbaifhgjalaphaa.flightSums
open Go.ChangeShapes Go.WideShapes Go.ChangeAt Go.RowKit Go.Joins
set_option linter.unusedVariables false

theorem own : ownKnob Try.prog.godebug = none := by kernel_rfl
theorem kids : Kids Try.prog (· < Try.prog.types.size) := kids_rows (by kernel_rfl) (by kernel_rfl)
theorem full : ∀ t e, t < Try.prog.types.size → Try.prog.underlying t = some (.slice e) → 0 < Try.prog.cellsOf e := slices_full_of Try.prog (by kernel_rfl)

theorem walk (A0 : Option Addr) (len0 cap0 : Nat) (E0 : Nat → Nat → Int) (W : World) (sk0 : SliceOk A0 len0 cap0) (hr0 : RowI .i32 W A0 3 len0 E0) (hz0 : ∀ i, i < len0 → ∀ j, j < 3 → (Lit.int .i32 (E0 i j)).wf = true) :
    Calls Try.prog 4 #[.slice A0 len0 cap0] W fun e w' => e = .returned (.bool true) ∧ Kept W w' := by
  exact flightSums_walk fcheck_c fsend_c fack_c flose_c froom_c fdo_c A0 len0 cap0 E0 W sk0 (fun i hi j hj => by have := bounds_i32 (hz0 i hi j hj); omega) hr0

set_option maxRecDepth 100000 in
theorem lifted (os : Os) (started : os.Started) (H : Type) (enc : TypeId × Value → H) :
    ReturnsInHanded {} Try.checked os 4 .any (Rows.flightSumsSpec.pre6 enc Try.prog Try.f4 Rows.flightSumsRow.domain false) (Rows.flightSumsSpec.post enc Try.prog Try.f4 false true false false) := by
  refine returnsInHanded_of_change (C := Try.checked) own started (by kernel_rfl) Try.func4
    (ChangeSpec.witness6 (enc := enc) (C := Try.checked) false ⟨#[], #[.slice none 0 0], []⟩ 8 (by kernel_rfl) (by kernel_rfl) (by kernel_rfl) (by kernel_rfl)) ?_
  intro W base args ds gs before hval0 hW hcnd _
  have hval : ∀ (j : Nat) t v, Try.f4.params[j]? = some t → args[j]? = some v → Value.okWide Try.prog W .any base t v := hval0
  have hW' := hW
  obtain ⟨p, q, hA0, hV, rfl, hfz, hnd⟩ := hW
  have hA : DataW.TrodAll enc Try.prog W 0 (fun _ => true) true Try.f4.params.toList args.toList ds p := hA0
  have hAk := hA
  rw [Try.params4] at hA hval
  obtain ⟨v0, vs0, d0, ds0, p0, q0, hargs, rfl, _, k0, r0⟩ := trodAll_cons hA
  obtain ⟨rfl, rfl, _⟩ := trodAll_nil r0
  obtain rfl : args = #[v0] := by cases args; simp_all
  obtain ⟨rfl, rfl⟩ := trodVars_none hV
  obtain ⟨A0, len0, cap0, E0, rfl, sk0, hr0, hz0⟩ := rows_of_ints (κ := .i32) (n := 3) Try.underlying37 (by kernel_rfl) (by kernel_rfl) (by decide) (okWide_slice Try.underlying37 (hval 0 37 v0 rfl rfl)) k0
  clear hA0 hval0
  simp only [List.append_nil] at hW'
  refine (walk A0 len0 cap0 E0 W sk0 hr0 hz0).mono fun e W' ⟨he, hg⟩ => ?_
  subst he
  exact ⟨_, rfl, post_of_same (pa := p) (pv := []) hW' (fun _ _ _ => (trodAll_cons_mk (shut_bool Try.underlying4 _) trodAll_mk0)) (fun sp hsp => again_kept kids full (by rw [Try.params4]; decide) hAk hg.2 hsp) (fun _ _ => rfl) (by simp)
    (hg.1.frame _) hg.1.2.1 (ok_one (by kernel_rfl) rfl (okWide_bool_mk Try.underlying4 _))⟩

theorem over : Rows.flightSumsRow.holds Try.pinned (OpenSpec.ofChange Rows.flightSumsSpec) :=
  OpenClaim.holds_of_wide 4 Try.f4 rfl rfl rfl rfl rfl rfl rfl ⟨rfl, rfl, rfl, rfl, rfl⟩ rfl rfl rfl rfl rfl (by kernel_rfl) Try.func4 (by kernel_rfl)
    (of_decide_eq_true (by kernel_rfl)) (by unfold Func.isWrapper; first | (rw [if_pos (by decide +kernel)]; kernel_rfl) | (rw [if_neg (by decide +kernel)]; exact ⟨rfl, rfl⟩))
    (fun os started H enc _ => lifted os started H enc)

theorem proved : Rows.FlightSumsSaid :=
  over
#print axioms proved
end Go.Proofs.Ytbaifhgjalaphaa.flightSums
