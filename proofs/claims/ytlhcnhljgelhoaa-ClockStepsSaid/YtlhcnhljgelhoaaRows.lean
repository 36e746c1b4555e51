/-
  No cell of these rows narrows 'for every input' (looked for: loops, veiled, ifaces, maps, wideKeys, modest, calm, conditions, laid).
  DERIVED. THE GIVEN ROWS OF THIS SEAT. 5 by the template 'for every input the law returns true; each argument reads behind the call as it read before'; 0 by the template 'total and deterministic' (their statements: YtlhcnhljgelhoaaTotals.lean).
  GIVEN WITH THE SEED: the statements are not yours to turn. If you find one false, say at which input.
  Laid BY PROGRAM, IN A SANDBOX (cutbox-rows.mjs): the forced cells as the released guide's own fill.sh prints them over the translation b379b00b6b0260ab… (all of the seat's roots in one cut). By AI agents, Wed Nov 11 2026. No macro, syntax, notation, axiom, sorry.
-/
import Derived.Test.YtlhcnhljgelhoaaChecked
import GoSem.Claim
import GoSem.ClaimJoined
import GoSem.ClaimMapViews
import Derived.JoinedTies
import Derived.KernelRfl
namespace Go.Proofs.Ytlhcnhljgelhoaa
/- THE CELL 'sum', in the pinned program and in every row, IS THE sha256 OF THE DUMP (.gsa) THAT YtlhcnhljgelhoaaProg.lean LOADS. Nothing in Lean hashes anything: it is a label: what it is worth is what the hold of that sum in a sandbox is worth. -/
noncomputable def Try.pinned : Pinned := { name := "ytlhcnhljgelhoaa", sum := "b379b00b6b0260ab23f579e5dc7b1e1b3dda91b16b5444c05195d9ac044b6fdc", checked := Try.checked }
namespace Rows
def none {H : Type} : Left H := { results := [], args := [] }

/-- 'sawtoothlaw05.ClockTells': WHATEVER THE INPUT: true; the input reads as it did. -/
def clockTellsSpec : ChangeSpec := { name := "clockTells", fn := fun _ => fun
  | [d1, d2] => { results := [.lit (.bool true)], args := [d1, d2] }
  | _ => none }
def clockTellsRow : OpenClaim := { program := "ytlhcnhljgelhoaa", sum := "b379b00b6b0260ab23f579e5dc7b1e1b3dda91b16b5444c05195d9ac044b6fdc", func := "sawtooth/sawtoothlaw05.ClockTells", spec := "clockTells", unfollowed := true, recurses := true, apart := false }
def ClockTellsSaid : Prop := clockTellsRow.holds Try.pinned (OpenSpec.ofChange clockTellsSpec)

/-- ITS FALSE NEIGHBOUR: 'it returns false'. Refute it at one input. -/
def clockTellsWrong : ChangeSpec := { name := "clockTells", fn := fun _ => fun
  | [d1, d2] => { results := [.lit (.bool false)], args := [d1, d2] }
  | _ => none }
def ClockTellsWrongFalsely : Prop := clockTellsRow.holds Try.pinned (OpenSpec.ofChange clockTellsWrong)

/-- 'sawtoothlaw05.ClockSteps': WHATEVER THE INPUT: true; the input reads as it did. -/
def clockStepsSpec : ChangeSpec := { name := "clockSteps", fn := fun _ => fun
  | [d] => { results := [.lit (.bool true)], args := [d] }
  | _ => none }
def clockStepsRow : OpenClaim := { program := "ytlhcnhljgelhoaa", sum := "b379b00b6b0260ab23f579e5dc7b1e1b3dda91b16b5444c05195d9ac044b6fdc", func := "sawtooth/sawtoothlaw05.ClockSteps", spec := "clockSteps", unfollowed := true, recurses := true, apart := false }
def ClockStepsSaid : Prop := clockStepsRow.holds Try.pinned (OpenSpec.ofChange clockStepsSpec)

/-- ITS FALSE NEIGHBOUR: 'it returns false'. Refute it at one input. -/
def clockStepsWrong : ChangeSpec := { name := "clockSteps", fn := fun _ => fun
  | [d] => { results := [.lit (.bool false)], args := [d] }
  | _ => none }
def ClockStepsWrongFalsely : Prop := clockStepsRow.holds Try.pinned (OpenSpec.ofChange clockStepsWrong)

/-- 'sawtoothlaw05.ClockGrains': WHATEVER THE INPUT: true; the input reads as it did. -/
def clockGrainsSpec : ChangeSpec := { name := "clockGrains", fn := fun _ => fun
  | [d1, d2] => { results := [.lit (.bool true)], args := [d1, d2] }
  | _ => none }
def clockGrainsRow : OpenClaim := { program := "ytlhcnhljgelhoaa", sum := "b379b00b6b0260ab23f579e5dc7b1e1b3dda91b16b5444c05195d9ac044b6fdc", func := "sawtooth/sawtoothlaw05.ClockGrains", spec := "clockGrains", unfollowed := true, recurses := true, apart := false }
def ClockGrainsSaid : Prop := clockGrainsRow.holds Try.pinned (OpenSpec.ofChange clockGrainsSpec)

/-- ITS FALSE NEIGHBOUR: 'it returns false'. Refute it at one input. -/
def clockGrainsWrong : ChangeSpec := { name := "clockGrains", fn := fun _ => fun
  | [d1, d2] => { results := [.lit (.bool false)], args := [d1, d2] }
  | _ => none }
def ClockGrainsWrongFalsely : Prop := clockGrainsRow.holds Try.pinned (OpenSpec.ofChange clockGrainsWrong)

/-- 'sawtoothlaw05.ClockAfter': WHATEVER THE INPUT: true; the input reads as it did. -/
def clockAfterSpec : ChangeSpec := { name := "clockAfter", fn := fun _ => fun
  | [d1, d2, d3] => { results := [.lit (.bool true)], args := [d1, d2, d3] }
  | _ => none }
def clockAfterRow : OpenClaim := { program := "ytlhcnhljgelhoaa", sum := "b379b00b6b0260ab23f579e5dc7b1e1b3dda91b16b5444c05195d9ac044b6fdc", func := "sawtooth/sawtoothlaw05.ClockAfter", spec := "clockAfter", unfollowed := true, recurses := true, apart := false }
def ClockAfterSaid : Prop := clockAfterRow.holds Try.pinned (OpenSpec.ofChange clockAfterSpec)

/-- ITS FALSE NEIGHBOUR: 'it returns false'. Refute it at one input. -/
def clockAfterWrong : ChangeSpec := { name := "clockAfter", fn := fun _ => fun
  | [d1, d2, d3] => { results := [.lit (.bool false)], args := [d1, d2, d3] }
  | _ => none }
def ClockAfterWrongFalsely : Prop := clockAfterRow.holds Try.pinned (OpenSpec.ofChange clockAfterWrong)

/-- 'sawtoothlaw05.ClockKinds': WHATEVER THE INPUT: true; the input reads as it did. -/
def clockKindsSpec : ChangeSpec := { name := "clockKinds", fn := fun _ => fun
  | [d1, d2] => { results := [.lit (.bool true)], args := [d1, d2] }
  | _ => none }
def clockKindsRow : OpenClaim := { program := "ytlhcnhljgelhoaa", sum := "b379b00b6b0260ab23f579e5dc7b1e1b3dda91b16b5444c05195d9ac044b6fdc", func := "sawtooth/sawtoothlaw05.ClockKinds", spec := "clockKinds", unfollowed := true, recurses := true, apart := false }
def ClockKindsSaid : Prop := clockKindsRow.holds Try.pinned (OpenSpec.ofChange clockKindsSpec)

/-- ITS FALSE NEIGHBOUR: 'it returns false'. Refute it at one input. -/
def clockKindsWrong : ChangeSpec := { name := "clockKinds", fn := fun _ => fun
  | [d1, d2] => { results := [.lit (.bool false)], args := [d1, d2] }
  | _ => none }
def ClockKindsWrongFalsely : Prop := clockKindsRow.holds Try.pinned (OpenSpec.ofChange clockKindsWrong)

/- THE SECOND FORM. 'bulk': how many values and letters a reading holds, each counted each time it is reached (what is shared counts as often as it is met; a slice's spare places count too). A statement '..UptoSaid' is the law's where the arguments, and the package variables that the reading takes, are together of bulk at most 1048576: NARROWER than '..Said'. Prove '..Said' where nothing that the law and all that it calls make is longer than what came in: it says more and counts as full. Else prove '..UptoSaid'. A law counts once. -/
mutual
def uptoBulk {H : Type} : DataW H → Nat
  | .lit (.string bytes) => bytes.length + 1
  | .lit _ => 1
  | .nil => 1
  | .ptr d => uptoBulk d + 1
  | .slice elems spare => uptoBulkAll elems + uptoBulkAll spare + 1
  | .agg parts => uptoBulkAll parts + 1
  | .iface _ d => uptoBulk d + 1
  | .map entries => uptoBulkEntries entries + 1
  | .held _ => 1
def uptoBulkAll {H : Type} : List (DataW H) → Nat
  | [] => 0
  | d :: r => uptoBulk d + uptoBulkAll r
def uptoBulkEntries {H : Type} : List (Lit × DataW H) → Nat
  | [] => 0
  | x :: r => uptoBulkEntry x + uptoBulkEntries r
def uptoBulkEntry {H : Type} : Lit × DataW H → Nat
  | (.string bytes, d) => bytes.length + uptoBulk d + 1
  | (_, d) => uptoBulk d + 1
 end
def uptoSmall : (H : Type) → List (DataW H) → Bool := fun _ ds => decide (uptoBulkAll ds ≤ 1048576)
def OpenSpec.upto (s : _root_.Go.ChangeSpec) : _root_.Go.OpenSpec := { _root_.Go.OpenSpec.ofChange s with cond := some uptoSmall }

/-- 'sawtoothlaw05.ClockTells', WHERE WHAT IT READS IS OF BULK AT MOST 1048576: true; the input reads as it did. -/
def clockTellsUptoRow : OpenClaim := { program := "ytlhcnhljgelhoaa", sum := "b379b00b6b0260ab23f579e5dc7b1e1b3dda91b16b5444c05195d9ac044b6fdc", func := "sawtooth/sawtoothlaw05.ClockTells", spec := "clockTells", unfollowed := true, recurses := true, apart := false, narrowed := true }
def ClockTellsUptoSaid : Prop := clockTellsUptoRow.holds Try.pinned (OpenSpec.upto clockTellsSpec)

/-- 'sawtoothlaw05.ClockSteps', WHERE WHAT IT READS IS OF BULK AT MOST 1048576: true; the input reads as it did. -/
def clockStepsUptoRow : OpenClaim := { program := "ytlhcnhljgelhoaa", sum := "b379b00b6b0260ab23f579e5dc7b1e1b3dda91b16b5444c05195d9ac044b6fdc", func := "sawtooth/sawtoothlaw05.ClockSteps", spec := "clockSteps", unfollowed := true, recurses := true, apart := false, narrowed := true }
def ClockStepsUptoSaid : Prop := clockStepsUptoRow.holds Try.pinned (OpenSpec.upto clockStepsSpec)

/-- 'sawtoothlaw05.ClockGrains', WHERE WHAT IT READS IS OF BULK AT MOST 1048576: true; the input reads as it did. -/
def clockGrainsUptoRow : OpenClaim := { program := "ytlhcnhljgelhoaa", sum := "b379b00b6b0260ab23f579e5dc7b1e1b3dda91b16b5444c05195d9ac044b6fdc", func := "sawtooth/sawtoothlaw05.ClockGrains", spec := "clockGrains", unfollowed := true, recurses := true, apart := false, narrowed := true }
def ClockGrainsUptoSaid : Prop := clockGrainsUptoRow.holds Try.pinned (OpenSpec.upto clockGrainsSpec)

/-- 'sawtoothlaw05.ClockAfter', WHERE WHAT IT READS IS OF BULK AT MOST 1048576: true; the input reads as it did. -/
def clockAfterUptoRow : OpenClaim := { program := "ytlhcnhljgelhoaa", sum := "b379b00b6b0260ab23f579e5dc7b1e1b3dda91b16b5444c05195d9ac044b6fdc", func := "sawtooth/sawtoothlaw05.ClockAfter", spec := "clockAfter", unfollowed := true, recurses := true, apart := false, narrowed := true }
def ClockAfterUptoSaid : Prop := clockAfterUptoRow.holds Try.pinned (OpenSpec.upto clockAfterSpec)

/-- 'sawtoothlaw05.ClockKinds', WHERE WHAT IT READS IS OF BULK AT MOST 1048576: true; the input reads as it did. -/
def clockKindsUptoRow : OpenClaim := { program := "ytlhcnhljgelhoaa", sum := "b379b00b6b0260ab23f579e5dc7b1e1b3dda91b16b5444c05195d9ac044b6fdc", func := "sawtooth/sawtoothlaw05.ClockKinds", spec := "clockKinds", unfollowed := true, recurses := true, apart := false, narrowed := true }
def ClockKindsUptoSaid : Prop := clockKindsUptoRow.holds Try.pinned (OpenSpec.upto clockKindsSpec)

end Rows
end Go.Proofs.Ytlhcnhljgelhoaa
