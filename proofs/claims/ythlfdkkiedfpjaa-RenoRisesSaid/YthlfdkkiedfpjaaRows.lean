/-
  No cell of these rows narrows 'for every input' (looked for: loops, veiled, ifaces, maps, wideKeys, modest, calm, conditions, laid).
  DERIVED. THE GIVEN ROWS OF THIS SEAT. 5 by the template 'for every input the law returns true; each argument reads behind the call as it read before'; 0 by the template 'total and deterministic' (their statements: YthlfdkkiedfpjaaTotals.lean).
  GIVEN WITH THE SEED: the statements are not yours to turn. If you find one false, say at which input.
  Laid BY PROGRAM, IN A SANDBOX (cutbox-rows.mjs): the forced cells as the released guide's own fill.sh prints them over the translation e3458adbd780ee61… (all of the seat's roots in one cut). By AI agents, Wed Nov 11 2026. No macro, syntax, notation, axiom, sorry.
-/
import Derived.Test.YthlfdkkiedfpjaaChecked
import GoSem.Claim
import GoSem.ClaimJoined
import GoSem.ClaimMapViews
import Derived.JoinedTies
import Derived.KernelRfl
namespace Go.Proofs.Ythlfdkkiedfpjaa
/- THE CELL 'sum', in the pinned program and in every row, IS THE sha256 OF THE DUMP (.gsa) THAT YthlfdkkiedfpjaaProg.lean LOADS. Nothing in Lean hashes anything: it is a label: what it is worth is what the hold of that sum in a sandbox is worth. -/
noncomputable def Try.pinned : Pinned := { name := "ythlfdkkiedfpjaa", sum := "e3458adbd780ee6173695baab1c2a46d8384d66e79ffd5ab8688dfcc0b4a23be", checked := Try.checked }
namespace Rows
def none {H : Type} : Left H := { results := [], args := [] }

/-- 'sawtoothlaw13.RenoTells': WHATEVER THE INPUT: true; the input reads as it did. -/
def renoTellsSpec : ChangeSpec := { name := "renoTells", fn := fun _ => fun
  | [d1, d2, d3, d4] => { results := [.lit (.bool true)], args := [d1, d2, d3, d4] }
  | _ => none }
def renoTellsRow : OpenClaim := { program := "ythlfdkkiedfpjaa", sum := "e3458adbd780ee6173695baab1c2a46d8384d66e79ffd5ab8688dfcc0b4a23be", func := "sawtooth/sawtoothlaw13.RenoTells", spec := "renoTells", inPlace := ["math/bits.Add64", "math/bits.Sub64"], unfollowed := true, recurses := true, named := ["math/bits.divideError", "math/bits.overflowError"], apart := false }
def RenoTellsSaid : Prop := renoTellsRow.holds Try.pinned (OpenSpec.ofChange renoTellsSpec)

/-- ITS FALSE NEIGHBOUR: 'it returns false'. Refute it at one input. -/
def renoTellsWrong : ChangeSpec := { name := "renoTells", fn := fun _ => fun
  | [d1, d2, d3, d4] => { results := [.lit (.bool false)], args := [d1, d2, d3, d4] }
  | _ => none }
def RenoTellsWrongFalsely : Prop := renoTellsRow.holds Try.pinned (OpenSpec.ofChange renoTellsWrong)

/-- 'sawtoothlaw13.RenoRises': WHATEVER THE INPUT: true; the input reads as it did. -/
def renoRisesSpec : ChangeSpec := { name := "renoRises", fn := fun _ => fun
  | [d1, d2, d3, d4, d5] => { results := [.lit (.bool true)], args := [d1, d2, d3, d4, d5] }
  | _ => none }
def renoRisesRow : OpenClaim := { program := "ythlfdkkiedfpjaa", sum := "e3458adbd780ee6173695baab1c2a46d8384d66e79ffd5ab8688dfcc0b4a23be", func := "sawtooth/sawtoothlaw13.RenoRises", spec := "renoRises", inPlace := ["math/bits.Add64", "math/bits.Sub64"], unfollowed := true, recurses := true, named := ["math/bits.divideError", "math/bits.overflowError"], apart := false }
def RenoRisesSaid : Prop := renoRisesRow.holds Try.pinned (OpenSpec.ofChange renoRisesSpec)

/-- ITS FALSE NEIGHBOUR: 'it returns false'. Refute it at one input. -/
def renoRisesWrong : ChangeSpec := { name := "renoRises", fn := fun _ => fun
  | [d1, d2, d3, d4, d5] => { results := [.lit (.bool false)], args := [d1, d2, d3, d4, d5] }
  | _ => none }
def RenoRisesWrongFalsely : Prop := renoRisesRow.holds Try.pinned (OpenSpec.ofChange renoRisesWrong)

/-- 'sawtoothlaw13.RenoRound': WHATEVER THE INPUT: true; the input reads as it did. -/
def renoRoundSpec : ChangeSpec := { name := "renoRound", fn := fun _ => fun
  | [d1, d2, d3] => { results := [.lit (.bool true)], args := [d1, d2, d3] }
  | _ => none }
def renoRoundRow : OpenClaim := { program := "ythlfdkkiedfpjaa", sum := "e3458adbd780ee6173695baab1c2a46d8384d66e79ffd5ab8688dfcc0b4a23be", func := "sawtooth/sawtoothlaw13.RenoRound", spec := "renoRound", inPlace := ["math/bits.Add64", "math/bits.Sub64"], unfollowed := true, recurses := true, named := ["math/bits.divideError", "math/bits.overflowError"], apart := false }
def RenoRoundSaid : Prop := renoRoundRow.holds Try.pinned (OpenSpec.ofChange renoRoundSpec)

/-- ITS FALSE NEIGHBOUR: 'it returns false'. Refute it at one input. -/
def renoRoundWrong : ChangeSpec := { name := "renoRound", fn := fun _ => fun
  | [d1, d2, d3] => { results := [.lit (.bool false)], args := [d1, d2, d3] }
  | _ => none }
def RenoRoundWrongFalsely : Prop := renoRoundRow.holds Try.pinned (OpenSpec.ofChange renoRoundWrong)

/-- 'sawtoothlaw13.RenoParts': WHATEVER THE INPUT: true; the input reads as it did. -/
def renoPartsSpec : ChangeSpec := { name := "renoParts", fn := fun _ => fun
  | [d1, d2, d3, d4, d5] => { results := [.lit (.bool true)], args := [d1, d2, d3, d4, d5] }
  | _ => none }
def renoPartsRow : OpenClaim := { program := "ythlfdkkiedfpjaa", sum := "e3458adbd780ee6173695baab1c2a46d8384d66e79ffd5ab8688dfcc0b4a23be", func := "sawtooth/sawtoothlaw13.RenoParts", spec := "renoParts", inPlace := ["math/bits.Add64", "math/bits.Sub64"], unfollowed := true, recurses := true, named := ["math/bits.divideError", "math/bits.overflowError"], apart := false }
def RenoPartsSaid : Prop := renoPartsRow.holds Try.pinned (OpenSpec.ofChange renoPartsSpec)

/-- ITS FALSE NEIGHBOUR: 'it returns false'. Refute it at one input. -/
def renoPartsWrong : ChangeSpec := { name := "renoParts", fn := fun _ => fun
  | [d1, d2, d3, d4, d5] => { results := [.lit (.bool false)], args := [d1, d2, d3, d4, d5] }
  | _ => none }
def RenoPartsWrongFalsely : Prop := renoPartsRow.holds Try.pinned (OpenSpec.ofChange renoPartsWrong)

/-- 'sawtoothlaw13.RenoSteps': WHATEVER THE INPUT: true; the input reads as it did. -/
def renoStepsSpec : ChangeSpec := { name := "renoSteps", fn := fun _ => fun
  | [d1, d2, d3, d4, d5] => { results := [.lit (.bool true)], args := [d1, d2, d3, d4, d5] }
  | _ => none }
def renoStepsRow : OpenClaim := { program := "ythlfdkkiedfpjaa", sum := "e3458adbd780ee6173695baab1c2a46d8384d66e79ffd5ab8688dfcc0b4a23be", func := "sawtooth/sawtoothlaw13.RenoSteps", spec := "renoSteps", inPlace := ["math/bits.Add64", "math/bits.Sub64"], unfollowed := true, recurses := true, named := ["math/bits.divideError", "math/bits.overflowError"], apart := false }
def RenoStepsSaid : Prop := renoStepsRow.holds Try.pinned (OpenSpec.ofChange renoStepsSpec)

/-- ITS FALSE NEIGHBOUR: 'it returns false'. Refute it at one input. -/
def renoStepsWrong : ChangeSpec := { name := "renoSteps", fn := fun _ => fun
  | [d1, d2, d3, d4, d5] => { results := [.lit (.bool false)], args := [d1, d2, d3, d4, d5] }
  | _ => none }
def RenoStepsWrongFalsely : Prop := renoStepsRow.holds Try.pinned (OpenSpec.ofChange renoStepsWrong)

/- THE SECOND FORM. 'bulk': how many values and letters a reading holds, each counted each time it is reached (what is shared counts as often as it is met; a slice's spare places count too). A statement '..UptoSaid' is the law's where the arguments, and the package variables that the reading takes, are together of bulk at most 1048576: NARROWER than '..Said'. Prove '..Said' where nothing that the law and all that it calls make is longer than what came in: it says more and counts as full. Else prove '..UptoSaid'. A law counts once. -/
mutual
def uptoBulk {H : Type} : DataW H → Nat
  | .lit (.string bytes) => bytes.length + 1
  | .lit _ => 1
  | .nil => 1
  | .ptr d => uptoBulk d + 1
  | .slice elems spare => uptoBulkAll elems + uptoBulkAll spare + 1
  | .agg parts => uptoBulkAll parts + 1
  | .iface _ d => uptoBulk d + 1
  | .map entries => uptoBulkEntries entries + 1
  | .held _ => 1
def uptoBulkAll {H : Type} : List (DataW H) → Nat
  | [] => 0
  | d :: r => uptoBulk d + uptoBulkAll r
def uptoBulkEntries {H : Type} : List (Lit × DataW H) → Nat
  | [] => 0
  | x :: r => uptoBulkEntry x + uptoBulkEntries r
def uptoBulkEntry {H : Type} : Lit × DataW H → Nat
  | (.string bytes, d) => bytes.length + uptoBulk d + 1
  | (_, d) => uptoBulk d + 1
 end
def uptoSmall : (H : Type) → List (DataW H) → Bool := fun _ ds => decide (uptoBulkAll ds ≤ 1048576)
def OpenSpec.upto (s : _root_.Go.ChangeSpec) : _root_.Go.OpenSpec := { _root_.Go.OpenSpec.ofChange s with cond := some uptoSmall }

/-- 'sawtoothlaw13.RenoTells', WHERE WHAT IT READS IS OF BULK AT MOST 1048576: true; the input reads as it did. -/
def renoTellsUptoRow : OpenClaim := { program := "ythlfdkkiedfpjaa", sum := "e3458adbd780ee6173695baab1c2a46d8384d66e79ffd5ab8688dfcc0b4a23be", func := "sawtooth/sawtoothlaw13.RenoTells", spec := "renoTells", inPlace := ["math/bits.Add64", "math/bits.Sub64"], unfollowed := true, recurses := true, named := ["math/bits.divideError", "math/bits.overflowError"], apart := false, narrowed := true }
def RenoTellsUptoSaid : Prop := renoTellsUptoRow.holds Try.pinned (OpenSpec.upto renoTellsSpec)

/-- 'sawtoothlaw13.RenoRises', WHERE WHAT IT READS IS OF BULK AT MOST 1048576: true; the input reads as it did. -/
def renoRisesUptoRow : OpenClaim := { program := "ythlfdkkiedfpjaa", sum := "e3458adbd780ee6173695baab1c2a46d8384d66e79ffd5ab8688dfcc0b4a23be", func := "sawtooth/sawtoothlaw13.RenoRises", spec := "renoRises", inPlace := ["math/bits.Add64", "math/bits.Sub64"], unfollowed := true, recurses := true, named := ["math/bits.divideError", "math/bits.overflowError"], apart := false, narrowed := true }
def RenoRisesUptoSaid : Prop := renoRisesUptoRow.holds Try.pinned (OpenSpec.upto renoRisesSpec)

/-- 'sawtoothlaw13.RenoRound', WHERE WHAT IT READS IS OF BULK AT MOST 1048576: true; the input reads as it did. -/
def renoRoundUptoRow : OpenClaim := { program := "ythlfdkkiedfpjaa", sum := "e3458adbd780ee6173695baab1c2a46d8384d66e79ffd5ab8688dfcc0b4a23be", func := "sawtooth/sawtoothlaw13.RenoRound", spec := "renoRound", inPlace := ["math/bits.Add64", "math/bits.Sub64"], unfollowed := true, recurses := true, named := ["math/bits.divideError", "math/bits.overflowError"], apart := false, narrowed := true }
def RenoRoundUptoSaid : Prop := renoRoundUptoRow.holds Try.pinned (OpenSpec.upto renoRoundSpec)

/-- 'sawtoothlaw13.RenoParts', WHERE WHAT IT READS IS OF BULK AT MOST 1048576: true; the input reads as it did. -/
def renoPartsUptoRow : OpenClaim := { program := "ythlfdkkiedfpjaa", sum := "e3458adbd780ee6173695baab1c2a46d8384d66e79ffd5ab8688dfcc0b4a23be", func := "sawtooth/sawtoothlaw13.RenoParts", spec := "renoParts", inPlace := ["math/bits.Add64", "math/bits.Sub64"], unfollowed := true, recurses := true, named := ["math/bits.divideError", "math/bits.overflowError"], apart := false, narrowed := true }
def RenoPartsUptoSaid : Prop := renoPartsUptoRow.holds Try.pinned (OpenSpec.upto renoPartsSpec)

/-- 'sawtoothlaw13.RenoSteps', WHERE WHAT IT READS IS OF BULK AT MOST 1048576: true; the input reads as it did. -/
def renoStepsUptoRow : OpenClaim := { program := "ythlfdkkiedfpjaa", sum := "e3458adbd780ee6173695baab1c2a46d8384d66e79ffd5ab8688dfcc0b4a23be", func := "sawtooth/sawtoothlaw13.RenoSteps", spec := "renoSteps", inPlace := ["math/bits.Add64", "math/bits.Sub64"], unfollowed := true, recurses := true, named := ["math/bits.divideError", "math/bits.overflowError"], apart := false, narrowed := true }
def RenoStepsUptoSaid : Prop := renoStepsUptoRow.holds Try.pinned (OpenSpec.upto renoStepsSpec)

end Rows
end Go.Proofs.Ythlfdkkiedfpjaa
