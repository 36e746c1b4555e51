/-
  RtoTells: the timeout by anything that is known, doubled any times, and how often it is to be doubled next, are what the document says.
-/
import Derived.Test.YtmdekgcgfcdppaaRows
import Derived.WalkKit
import Derived.ProofKit
import Derived.OpenShut
import Derived.Lib.SmallJoins
import Derived.Test.YtmdekgcgfcdppaaFrame
import Derived.Test.YtmdekgcgfcdppaaWf
import Derived.Test.YtmdekgcgfcdppaaRto07
import Derived.Test.YtmdekgcgfcdppaaTells07
import Derived.Test.YtmdekgcgfcdppaaAgg
namespace Go.Proofs.Ytmdekgcgfcdppaa.rtoTells
open Go.ChangeShapes Go.WideShapes Go.ChangeAt Go.RowKit Go.Joins
set_option linter.unusedVariables false

theorem own : ownKnob Try.prog.godebug = none := by kernel_rfl
theorem kids : Kids Try.prog (· < Try.prog.types.size) := kids_rows (by kernel_rfl) (by kernel_rfl)
theorem full : ∀ t e, t < Try.prog.types.size → Try.prog.underlying t = some (.slice e) → 0 < Try.prog.cellsOf e := slices_full_of Try.prog (by kernel_rfl)

theorem walk (n0 : Bool) (h0 l0 : Int) (g1_0 : Int) (g1_1 : Int) (g1_2 : Int) (g1_3 : Int) (g1_4 : Int) (g1_5 : Int) (g1_6 : Int) (A2 : Option Addr) (len2 cap2 : Nat) (zs2 : List Int) (W : World) (hw0 : (Lit.int .i64 h0).wf = true) (lw0 : (Lit.int .i64 l0).wf = true) (gw1_0 : (Lit.int .i64 g1_0).wf = true) (gw1_1 : (Lit.int .i64 g1_1).wf = true) (gw1_2 : (Lit.int .i64 g1_2).wf = true) (gw1_3 : (Lit.int .i64 g1_3).wf = true) (gw1_4 : (Lit.int .i64 g1_4).wf = true) (gw1_5 : (Lit.int .i64 g1_5).wf = true) (gw1_6 : (Lit.int .i64 g1_6).wf = true) (hl2 : zs2.length = len2) (hc2 : len2 ≤ cap2) (hm2 : cap2 ≤ maxLen) (hr2 : RowAt W A2 len2 (fun j => .int .i64 (zs2.getD j 0))) (hz2 : ∀ n ∈ zs2, (Lit.int .i64 n).wf = true) :
    Calls Try.prog 3 #[.agg #[.bool n0, .int .i64 h0, .int .i64 l0], .agg #[.int .i64 g1_0, .int .i64 g1_1, .int .i64 g1_2, .int .i64 g1_3, .int .i64 g1_4, .int .i64 g1_5, .int .i64 g1_6], .slice A2 len2 cap2] W fun e w' => e = .returned (.bool true) ∧ Kept W w' := by
  exact rtoTells_walk base_c of_c back_c all_c n0 h0 l0 g1_0 g1_1 g1_2 g1_3 g1_4 g1_5 g1_6 A2 len2 cap2 zs2 W hl2 (fun n hn => in64Wf (hz2 n hn)) (by unfold maxLen at hm2; omega) hr2

set_option maxRecDepth 100000 in
theorem lifted (os : Os) (started : os.Started) (H : Type) (enc : TypeId × Value → H) :
    ReturnsInHanded {} Try.checked os 3 .any (Rows.rtoTellsSpec.pre6 enc Try.prog Try.f3 Rows.rtoTellsRow.domain false) (Rows.rtoTellsSpec.post enc Try.prog Try.f3 false true false false) := by
  refine returnsInHanded_of_change (C := Try.checked) own started (by kernel_rfl) Try.func3
    (ChangeSpec.witness6 (enc := enc) (C := Try.checked) false ⟨#[], #[.agg #[.bool false, .int .i64 0, .int .i64 0], .agg #[.int .i64 0, .int .i64 0, .int .i64 0, .int .i64 0, .int .i64 0, .int .i64 0, .int .i64 0], .slice none 0 0], []⟩ 8 (by kernel_rfl) (by kernel_rfl) (by kernel_rfl) (by kernel_rfl)) ?_
  intro W base args ds gs before hval0 hW hcnd _
  have hval : ∀ (j : Nat) t v, Try.f3.params[j]? = some t → args[j]? = some v → Value.okWide Try.prog W .any base t v := hval0
  have hW' := hW
  obtain ⟨p, q, hA0, hV, rfl, hfz, hnd⟩ := hW
  have hA : DataW.TrodAll enc Try.prog W 0 (fun _ => true) true Try.f3.params.toList args.toList ds p := hA0
  have hAk := hA
  rw [Try.params3] at hA hval
  obtain ⟨v0, vs0, d0, ds0, p0, q0, hargs, rfl, _, k0, r0⟩ := trodAll_cons hA
  obtain ⟨v1, vs1, d1, ds1, p1, q1, rfl, rfl, _, k1, r1⟩ := trodAll_cons r0
  obtain ⟨v2, vs2, d2, ds2, p2, q2, rfl, rfl, _, k2, r2⟩ := trodAll_cons r1
  obtain ⟨rfl, rfl, _⟩ := trodAll_nil r2
  obtain rfl : args = #[v0, v1, v2] := by cases args; simp_all
  obtain ⟨rfl, rfl⟩ := trodVars_none hV
  obtain ⟨c0, c1, c2, y0, y1, y2, m, rfl, _, _, hy0, hy1, hy2⟩ := open_agg3 Try.underlying23 (by kernel_rfl) (by kernel_rfl) (hval 0 23 v0 rfl rfl) k0
  obtain ⟨n0, e0, _⟩ := DataW.trod_bool Try.underlying4 hy0
  obtain ⟨h0, e1, _, hw0⟩ := DataW.trod_int Try.underlying3 hy1
  obtain ⟨l0, e2, _, lw0⟩ := DataW.trod_int Try.underlying3 hy2
  simp at e0 e1 e2
  subst e0 e1 e2
  obtain ⟨cs1, rfl, hcs1⟩ := open_leaves (ls := [.i .i64, .i .i64, .i .i64, .i .i64, .i .i64, .i .i64, .i .i64]) 6 Try.underlying25 (by kernel_rfl) (hval 1 25 v1 rfl rfl) k1
  obtain ⟨g1_0, vs1_0, rfl, gw1_0, g1_1, vs1_1, rfl, gw1_1, g1_2, vs1_2, rfl, gw1_2, g1_3, vs1_3, rfl, gw1_3, g1_4, vs1_4, rfl, gw1_4, g1_5, vs1_5, rfl, gw1_5, g1_6, vs1_6, rfl, gw1_6, rfl⟩ := hcs1
  obtain ⟨A2, len2, cap2, zs2, rfl, hl2, hc2, hm2, hr2, hz2⟩ := row_of_ints Try.underlying26 Try.underlying3 (by kernel_rfl) (okWide_slice Try.underlying26 (hval 2 26 v2 rfl rfl)) k2
  clear hA0 hval0
  simp only [List.append_nil] at hW'
  refine (walk n0 h0 l0 g1_0 g1_1 g1_2 g1_3 g1_4 g1_5 g1_6 A2 len2 cap2 zs2 W hw0 lw0 gw1_0 gw1_1 gw1_2 gw1_3 gw1_4 gw1_5 gw1_6 hl2 hc2 hm2 hr2 hz2).mono fun e W' ⟨he, hg⟩ => ?_
  subst he
  exact ⟨_, rfl, post_of_same (pa := p) (pv := []) hW' (fun _ _ _ => (trodAll_cons_mk (shut_bool Try.underlying4 _) trodAll_mk0)) (fun sp hsp => again_kept kids full (by rw [Try.params3]; decide) hAk hg.2 hsp) (fun _ _ => rfl) (by simp)
    (hg.1.frame _) hg.1.2.1 (ok_one (by kernel_rfl) rfl (okWide_bool_mk Try.underlying4 _))⟩

theorem over : Rows.rtoTellsRow.holds Try.pinned (OpenSpec.ofChange Rows.rtoTellsSpec) :=
  OpenClaim.holds_of_wide 3 Try.f3 rfl rfl rfl rfl rfl rfl rfl ⟨rfl, rfl, rfl, rfl, rfl⟩ rfl rfl rfl rfl rfl (by kernel_rfl) Try.func3 (by kernel_rfl)
    (of_decide_eq_true (by kernel_rfl)) (by unfold Func.isWrapper; first | (rw [if_pos (by decide +kernel)]; kernel_rfl) | (rw [if_neg (by decide +kernel)]; exact ⟨rfl, rfl⟩))
    (fun os started H enc _ => lifted os started H enc)

theorem proved : Rows.RtoTellsSaid :=
  over
#print axioms proved
end Go.Proofs.Ytmdekgcgfcdppaa.rtoTells
