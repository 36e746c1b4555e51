/-
  GuideIdle: a pause leaves no more than there was, none up to the timeout leaves less, and a longer one leaves no more than a shorter one.
-/
import Derived.Test.YtdbikeehoildlaaDoorCards
import Derived.Test.YtdbikeehoildlaaDoorTie
import Derived.WalkKit
import Derived.ProofKit
import Derived.Deep.DeepHandedRow
import Derived.Lib.LaidTab
import Derived.OpenShut
import Derived.Lib.SmallJoins
import Derived.Test.YtdbikeehoildlaaDoorFrame
import Derived.Test.YtdbikeehoildlaaDoorWf
import Derived.Test.YtdbikeehoildlaaDoorEpoch11
import Derived.Test.YtdbikeehoildlaaDoorGuide19
import Derived.Test.YtdbikeehoildlaaDoorIdle19
import Derived.Test.YtdbikeehoildlaaDoorAgg
namespace Go.Proofs.YtdbikeehoildlaaDoor.guideIdle
open Go.ChangeShapes Go.WideShapes Go.ChangeAt Go.RowKit Go.Joins
set_option linter.unusedVariables false

theorem own : ownKnob Tryd.prog.godebug = none := by kernel_rfl
theorem kids : Kids Tryd.prog (· < Tryd.prog.types.size) := kids_rows (by kernel_rfl) (by kernel_rfl)
theorem full : ∀ t e, t < Tryd.prog.types.size → Tryd.prog.underlying t = some (.slice e) → 0 < Tryd.prog.cellsOf e := slices_full_of Tryd.prog (by kernel_rfl)

theorem gTab : Tryd.prog.globalNamed "sawtooth/epoch.tens" = some 0 := by kernel_rfl
theorem gTabType : (Tryd.prog.globals[0]?).map (·.type) = some 84 := by kernel_rfl
theorem cellsT : Tryd.prog.cellsOf 84 = 4 := by kernel_rfl
theorem cellsE : Tryd.prog.cellsOf 59 = 1 := by kernel_rfl
/-- What the row's list gives: the table's cells. -/
theorem table {W : World} (h : laidMetH Tryd.prog Rows.guideIdleRow.laid W) : Lib.TabIs Tryd.prog W "sawtooth/epoch.tens" .u64 [10, 1000000, 1000000, 1000000] :=
  Lib.tabIs_of_head (rest := []) gTab gTabType Tryd.underlying84 Tryd.underlying59 cellsE cellsT h
theorem walk (a0 : Int) (a1 : Int) (a2 : Int) (a3 : Int) (g4_0 : Int) (g4_1 : Int) (g4_2 : Int) (g4_3 : Int) (g4_4 : Int) (g4_5 : Int) (g4_6 : Int) (W : World) (hL : laidMetH Tryd.prog Rows.guideIdleRow.laid W) (w0 : (Lit.int .u32 a0).wf = true) (w1 : (Lit.int .u32 a1).wf = true) (w2 : (Lit.int .u32 a2).wf = true) (w3 : (Lit.int .u32 a3).wf = true) (gw4_0 : (Lit.int .i64 g4_0).wf = true) (gw4_1 : (Lit.int .i64 g4_1).wf = true) (gw4_2 : (Lit.int .i64 g4_2).wf = true) (gw4_3 : (Lit.int .i64 g4_3).wf = true) (gw4_4 : (Lit.int .i64 g4_4).wf = true) (gw4_5 : (Lit.int .i64 g4_5).wf = true) (gw4_6 : (Lit.int .i64 g4_6).wf = true) :
    Calls Tryd.prog 4 #[.int .u32 a0, .int .u32 a1, .int .u32 a2, .int .u32 a3, .agg #[.int .i64 g4_0, .int .i64 g4_1, .int .i64 g4_2, .int .i64 g4_3, .int .i64 g4_4, .int .i64 g4_5, .int .i64 g4_6]] W fun e w' => e = .returned (.bool true) ∧ Kept W w' := by
  have T : Tens W := ⟨(table hL).cell gTab 0 (by decide), (table hL).cell gTab 1 (by decide), (table hL).cell gTab 2 (by decide), (table hL).cell gTab 3 (by decide)⟩
  exact guideIdle_walk gcheck_c gfirst_c gidle_c gpause_c gused_c gparts_c echeck_c ebegin_c a0 a1 a2 a3 g4_0 g4_1 g4_2 g4_3 g4_4 g4_5 g4_6  W T (in64Wf gw4_0) (in64Wf gw4_1) (in64Wf gw4_2) (in64Wf gw4_3) (in64Wf gw4_4) (in64Wf gw4_5) (in64Wf gw4_6)  (by have := bounds_u32 w0; omega) (by have := bounds_u32 w0; omega) (by have := bounds_u32 w1; omega) (by have := bounds_u32 w1; omega) (by have := bounds_u32 w2; omega) (by have := bounds_u32 w2; omega) (by have := bounds_u32 w3; omega) (by have := bounds_u32 w3; omega)

set_option maxRecDepth 100000 in
theorem contract (H : Type) (enc : TypeId × Value → H) (W : World) (base : Nat) (args : Array Value) (ds gs : List (DataW H)) (before : List MemPlace)
    (hval : ∀ (j : Nat) t v, Tryd.f4.params[j]? = some t → args[j]? = some v → Value.okWide Tryd.prog W .any base t v)
    (hW : DataW.Whole enc Tryd.prog Tryd.f4.params.toList Rows.guideIdleSpec.vars false W args.toList ds gs before) (hL : laidMetH Tryd.prog Rows.guideIdleRow.laid W) :
    Calls Tryd.prog 4 args W fun e W' => ∃ v, e = .returned v ∧ Rows.guideIdleSpec.post enc Tryd.prog Tryd.f4 false true false false W args v W' := by
  have hW' := hW
  obtain ⟨p, q, hA0, hV, rfl, hfz, hnd⟩ := hW
  have hA : DataW.TrodAll enc Tryd.prog W 0 (fun _ => true) true Tryd.f4.params.toList args.toList ds p := hA0
  have hAk := hA
  rw [Tryd.params4] at hA hval
  obtain ⟨v0, vs0, d0, ds0, p0, q0, hargs, rfl, _, k0, r0⟩ := trodAll_cons hA
  obtain ⟨v1, vs1, d1, ds1, p1, q1, rfl, rfl, _, k1, r1⟩ := trodAll_cons r0
  obtain ⟨v2, vs2, d2, ds2, p2, q2, rfl, rfl, _, k2, r2⟩ := trodAll_cons r1
  obtain ⟨v3, vs3, d3, ds3, p3, q3, rfl, rfl, _, k3, r3⟩ := trodAll_cons r2
  obtain ⟨v4, vs4, d4, ds4, p4, q4, rfl, rfl, _, k4, r4⟩ := trodAll_cons r3
  obtain ⟨rfl, rfl, _⟩ := trodAll_nil r4
  obtain rfl : args = #[v0, v1, v2, v3, v4] := by cases args; simp_all
  obtain ⟨rfl, rfl⟩ := trodVars_none hV
  obtain ⟨a0, rfl, _, _, w0⟩ := open_int Tryd.underlying39 (hval 0 39 v0 rfl rfl) k0
  obtain ⟨a1, rfl, _, _, w1⟩ := open_int Tryd.underlying39 (hval 1 39 v1 rfl rfl) k1
  obtain ⟨a2, rfl, _, _, w2⟩ := open_int Tryd.underlying39 (hval 2 39 v2 rfl rfl) k2
  obtain ⟨a3, rfl, _, _, w3⟩ := open_int Tryd.underlying39 (hval 3 39 v3 rfl rfl) k3
  obtain ⟨cs4, rfl, hcs4⟩ := open_leaves (ls := [.i .i64, .i .i64, .i .i64, .i .i64, .i .i64, .i .i64, .i .i64]) 6 Tryd.underlying23 (by kernel_rfl) (hval 4 23 v4 rfl rfl) k4
  obtain ⟨g4_0, vs4_0, rfl, gw4_0, g4_1, vs4_1, rfl, gw4_1, g4_2, vs4_2, rfl, gw4_2, g4_3, vs4_3, rfl, gw4_3, g4_4, vs4_4, rfl, gw4_4, g4_5, vs4_5, rfl, gw4_5, g4_6, vs4_6, rfl, gw4_6, rfl⟩ := hcs4
  clear hA0
  simp only [List.append_nil] at hW'
  refine (walk a0 a1 a2 a3 g4_0 g4_1 g4_2 g4_3 g4_4 g4_5 g4_6 W hL w0 w1 w2 w3 gw4_0 gw4_1 gw4_2 gw4_3 gw4_4 gw4_5 gw4_6).mono fun e W' ⟨he, hg⟩ => ?_
  subst he
  exact ⟨_, rfl, post_of_same (pa := p) (pv := []) hW' (fun _ _ _ => (trodAll_cons_mk (shut_bool Tryd.underlying4 _) trodAll_mk0)) (fun sp hsp => again_kept kids full (by rw [Tryd.params4]; decide) hAk hg.2 hsp) (fun _ _ => rfl) (by simp)
    (hg.1.frame _) hg.1.2.1 (ok_one (by kernel_rfl) rfl (okWide_bool_mk Tryd.underlying4 _))⟩

/-- A world for the witness: the settled one, the table holding what its initialiser lays. -/
noncomputable def laidWorld (os : Os) : World :=
  { World.holding Tryd.prog os ⟨#[], #[], []⟩ with heap := (World.holding Tryd.prog os ⟨#[], #[], []⟩).heap.modify 0 fun
      | .cells _ t frozen => .cells #[.int .u64 10, .int .u64 1000000, .int .u64 1000000, .int .u64 1000000] t frozen
      | o => o }
theorem laid_met (os : Os) : laidMet Tryd.prog Rows.guideIdleRow.laid ((laidWorld os).forCall (fun _ _ => 0) ⟨#[], #[.int .u32 0, .int .u32 0, .int .u32 0, .int .u32 0, .agg #[.int .i64 0, .int .i64 0, .int .i64 0, .int .i64 0, .int .i64 0, .int .i64 0, .int .i64 0]], []⟩).memory :=
  laidMet_of_run' 8 (by kernel_rfl) (by kernel_rfl)
theorem reads (os : Os) {H : Type} (enc : TypeId × Value → H) : ∃ places, DataW.whole enc Tryd.prog ((laidWorld os).forCall (fun _ _ => 0) ⟨#[], #[.int .u32 0, .int .u32 0, .int .u32 0, .int .u32 0, .agg #[.int .i64 0, .int .i64 0, .int .i64 0, .int .i64 0, .int .i64 0, .int .i64 0, .int .i64 0]], []⟩).memory Tryd.f4.params.toList Rows.guideIdleSpec.vars false (#[.int .u32 0, .int .u32 0, .int .u32 0, .int .u32 0, .agg #[.int .i64 0, .int .i64 0, .int .i64 0, .int .i64 0, .int .i64 0, .int .i64 0, .int .i64 0]] : Array Value).toList 8 = some ([.lit (.int .u32 0), .lit (.int .u32 0), .lit (.int .u32 0), .lit (.int .u32 0), .agg [.lit (.int .i64 0), .lit (.int .i64 0), .lit (.int .i64 0), .lit (.int .i64 0), .lit (.int .i64 0), .lit (.int .i64 0), .lit (.int .i64 0)]], [], places) :=
  ⟨[], by kernel_rfl⟩

set_option maxRecDepth 100000 in
theorem lifted (os : Os) (started : os.Started) (H : Type) (enc : TypeId × Value → H) (F : Stop.Interp) :
    ReturnsInHanded {} Tryd.checked os 4 .any ((OpenSpec.ofChange Rows.guideIdleSpec).preRow enc Tryd.prog Tryd.f4 Rows.guideIdleRow.domain false Rows.guideIdleRow.laid) (((OpenSpec.ofChange Rows.guideIdleSpec).at F).post enc Tryd.prog Tryd.f4 false true false false) := by
  obtain ⟨places, hx⟩ := reads os enc
  refine returnsInHanded_of_row (C := Tryd.checked) (s := OpenSpec.ofChange Rows.guideIdleSpec) own started (by kernel_rfl) Tryd.func4
    (witness_row_at (enc := enc) (C := Tryd.checked) false (laidWorld os) #[.int .u32 0, .int .u32 0, .int .u32 0, .int .u32 0, .agg #[.int .i64 0, .int .i64 0, .int .i64 0, .int .i64 0, .int .i64 0, .int .i64 0, .int .i64 0]] rfl (by kernel_rfl) (by kernel_rfl) (by kernel_rfl)
      (OpenSpec.preRow_of_cond 8 hx (by kernel_rfl) (fun k hk => by cases hk) (by kernel_rfl) (laid_met os))) ?_
  intro W base args ds gs before hval hW _ _ _ hL _ _
  exact contract H enc W base args ds gs before hval hW hL

theorem said : Rows.GuideIdleSaid :=
  OpenClaim.holds_of_cond 4 Tryd.f4 rfl rfl rfl rfl rfl rfl rfl ⟨rfl, rfl, rfl, rfl, rfl⟩ rfl rfl rfl rfl rfl (by kernel_rfl) Tryd.func4 (by kernel_rfl)
    (of_decide_eq_true (by kernel_rfl)) (by unfold Func.isWrapper; first | (rw [if_pos (by decide +kernel)]; kernel_rfl) | (rw [if_neg (by decide +kernel)]; exact ⟨rfl, rfl⟩))
    (fun os started H enc _ F => by rw [OpenClaim.pre_eq_preRow]; exact lifted os started H enc F)

theorem plain (f : FuncId) (fn : Func) (hf : Tryd.pinned.checked.prog.funcNamed "sawtooth/sawtoothlaw19.GuideIdle" = some f) (hfn : Tryd.pinned.checked.prog.funcs[f]? = some fn) :
    false = Tryd.pinned.checked.prog.looks [] ∧ ∀ (j : Nat) t, fn.params[j]? = some t → Tryd.pinned.checked.prog.wantsStandIn t = false := by
  obtain rfl : f = 4 := Option.some.inj ((show Tryd.prog.funcNamed "sawtooth/sawtoothlaw19.GuideIdle" = some 4 by kernel_rfl).symm.trans hf) |>.symm
  obtain rfl : fn = Tryd.f4 := (Option.some.inj (Tryd.func4.symm.trans hfn)).symm
  refine ⟨by kernel_rfl, fun j t ht => ?_⟩
  rw [Tryd.params4] at ht
  have hm : t ∈ ([39, 39, 39, 39, 23] : List TypeId) := by simpa using Array.mem_of_getElem? ht
  have ha : ([39, 39, 39, 39, 23] : List TypeId).all (fun t => !(Tryd.prog.wantsStandIn t)) = true := by kernel_rfl
  have hq := List.all_eq_true.1 ha t hm
  have hq2 : (!(Tryd.prog.wantsStandIn t)) = true := hq
  rw [Bool.not_eq_true'] at hq2
  exact hq2

theorem proved : Rows.GuideIdleCardSaid :=
  Claim7.holds_tied_plain_at .later [] _ _ _ _ said (fun _ h => by cases h) (by kernel_rfl) (fun _ h => by cases h) guideIdle_row_tie rfl ⟨rfl, rfl⟩ (by kernel_rfl) rfl plain (by kernel_rfl)
#print axioms proved
end Go.Proofs.YtdbikeehoildlaaDoor.guideIdle
