/-
  No cell of these rows narrows 'for every input' (looked for: loops, veiled, ifaces, maps, wideKeys, modest, calm, conditions, laid).
  DERIVED. THE GIVEN ROWS OF THIS SEAT. 6 by the template 'for every input the law returns true; each argument reads behind the call as it read before'; 0 by the template 'total and deterministic' (their statements: YtfkdbelajideiaaTotals.lean).
  GIVEN WITH THE SEED: the statements are not yours to turn. If you find one false, say at which input.
  Laid BY PROGRAM, IN A SANDBOX (cutbox-rows.mjs): the forced cells as the released guide's own fill.sh prints them over the translation 7e73343ce8227e0d… (all of the seat's roots in one cut). By AI agents, Wed Nov 11 2026. No macro, syntax, notation, axiom, sorry.
-/
import Derived.Test.YtfkdbelajideiaaChecked
import GoSem.Claim
import GoSem.ClaimJoined
import GoSem.ClaimMapViews
import Derived.JoinedTies
import Derived.KernelRfl
namespace Go.Proofs.Ytfkdbelajideiaa
/- THE CELL 'sum', in the pinned program and in every row, IS THE sha256 OF THE DUMP (.gsa) THAT YtfkdbelajideiaaProg.lean LOADS. Nothing in Lean hashes anything: it is a label: what it is worth is what the hold of that sum in a sandbox is worth. -/
noncomputable def Try.pinned : Pinned := { name := "ytfkdbelajideiaa", sum := "7e73343ce8227e0de7ac0911058f2dcec9e2bd3b9685936783b819ac5bce6f7a", checked := Try.checked }
namespace Rows
def none {H : Type} : Left H := { results := [], args := [] }

/-- 'sawtoothlaw04.FracTells': WHATEVER THE INPUT: true; the input reads as it did. -/
def fracTellsSpec : ChangeSpec := { name := "fracTells", fn := fun _ => fun
  | [d1, d2, d3] => { results := [.lit (.bool true)], args := [d1, d2, d3] }
  | _ => none }
def fracTellsRow : OpenClaim := { program := "ytfkdbelajideiaa", sum := "7e73343ce8227e0de7ac0911058f2dcec9e2bd3b9685936783b819ac5bce6f7a", func := "sawtooth/sawtoothlaw04.FracTells", spec := "fracTells", inPlace := ["math/bits.Add64", "math/bits.Sub64"], unfollowed := true, recurses := true, named := ["math/bits.divideError", "math/bits.overflowError"], apart := false }
def FracTellsSaid : Prop := fracTellsRow.holds Try.pinned (OpenSpec.ofChange fracTellsSpec)

/-- ITS FALSE NEIGHBOUR: 'it returns false'. Refute it at one input. -/
def fracTellsWrong : ChangeSpec := { name := "fracTells", fn := fun _ => fun
  | [d1, d2, d3] => { results := [.lit (.bool false)], args := [d1, d2, d3] }
  | _ => none }
def FracTellsWrongFalsely : Prop := fracTellsRow.holds Try.pinned (OpenSpec.ofChange fracTellsWrong)

/-- 'sawtoothlaw04.FracParts': WHATEVER THE INPUT: true; the input reads as it did. -/
def fracPartsSpec : ChangeSpec := { name := "fracParts", fn := fun _ => fun
  | [d1, d2, d3] => { results := [.lit (.bool true)], args := [d1, d2, d3] }
  | _ => none }
def fracPartsRow : OpenClaim := { program := "ytfkdbelajideiaa", sum := "7e73343ce8227e0de7ac0911058f2dcec9e2bd3b9685936783b819ac5bce6f7a", func := "sawtooth/sawtoothlaw04.FracParts", spec := "fracParts", inPlace := ["math/bits.Add64", "math/bits.Sub64"], unfollowed := true, recurses := true, named := ["math/bits.divideError", "math/bits.overflowError"], apart := false }
def FracPartsSaid : Prop := fracPartsRow.holds Try.pinned (OpenSpec.ofChange fracPartsSpec)

/-- ITS FALSE NEIGHBOUR: 'it returns false'. Refute it at one input. -/
def fracPartsWrong : ChangeSpec := { name := "fracParts", fn := fun _ => fun
  | [d1, d2, d3] => { results := [.lit (.bool false)], args := [d1, d2, d3] }
  | _ => none }
def FracPartsWrongFalsely : Prop := fracPartsRow.holds Try.pinned (OpenSpec.ofChange fracPartsWrong)

/-- 'sawtoothlaw04.FracTurns': WHATEVER THE INPUT: true; the input reads as it did. -/
def fracTurnsSpec : ChangeSpec := { name := "fracTurns", fn := fun _ => fun
  | [d1, d2, d3] => { results := [.lit (.bool true)], args := [d1, d2, d3] }
  | _ => none }
def fracTurnsRow : OpenClaim := { program := "ytfkdbelajideiaa", sum := "7e73343ce8227e0de7ac0911058f2dcec9e2bd3b9685936783b819ac5bce6f7a", func := "sawtooth/sawtoothlaw04.FracTurns", spec := "fracTurns", inPlace := ["math/bits.Add64", "math/bits.Sub64"], unfollowed := true, recurses := true, named := ["math/bits.divideError", "math/bits.overflowError"], apart := false }
def FracTurnsSaid : Prop := fracTurnsRow.holds Try.pinned (OpenSpec.ofChange fracTurnsSpec)

/-- ITS FALSE NEIGHBOUR: 'it returns false'. Refute it at one input. -/
def fracTurnsWrong : ChangeSpec := { name := "fracTurns", fn := fun _ => fun
  | [d1, d2, d3] => { results := [.lit (.bool false)], args := [d1, d2, d3] }
  | _ => none }
def FracTurnsWrongFalsely : Prop := fracTurnsRow.holds Try.pinned (OpenSpec.ofChange fracTurnsWrong)

/-- 'sawtoothlaw04.FracBytes': WHATEVER THE INPUT: true; the input reads as it did. -/
def fracBytesSpec : ChangeSpec := { name := "fracBytes", fn := fun _ => fun
  | [d1, d2] => { results := [.lit (.bool true)], args := [d1, d2] }
  | _ => none }
def fracBytesRow : OpenClaim := { program := "ytfkdbelajideiaa", sum := "7e73343ce8227e0de7ac0911058f2dcec9e2bd3b9685936783b819ac5bce6f7a", func := "sawtooth/sawtoothlaw04.FracBytes", spec := "fracBytes", inPlace := ["math/bits.Add64", "math/bits.Sub64"], unfollowed := true, recurses := true, named := ["math/bits.divideError", "math/bits.overflowError"], apart := false }
def FracBytesSaid : Prop := fracBytesRow.holds Try.pinned (OpenSpec.ofChange fracBytesSpec)

/-- ITS FALSE NEIGHBOUR: 'it returns false'. Refute it at one input. -/
def fracBytesWrong : ChangeSpec := { name := "fracBytes", fn := fun _ => fun
  | [d1, d2] => { results := [.lit (.bool false)], args := [d1, d2] }
  | _ => none }
def FracBytesWrongFalsely : Prop := fracBytesRow.holds Try.pinned (OpenSpec.ofChange fracBytesWrong)

/-- 'sawtoothlaw04.FracRises': WHATEVER THE INPUT: true; the input reads as it did. -/
def fracRisesSpec : ChangeSpec := { name := "fracRises", fn := fun _ => fun
  | [d1, d2, d3, d4, d5] => { results := [.lit (.bool true)], args := [d1, d2, d3, d4, d5] }
  | _ => none }
def fracRisesRow : OpenClaim := { program := "ytfkdbelajideiaa", sum := "7e73343ce8227e0de7ac0911058f2dcec9e2bd3b9685936783b819ac5bce6f7a", func := "sawtooth/sawtoothlaw04.FracRises", spec := "fracRises", inPlace := ["math/bits.Add64", "math/bits.Sub64"], unfollowed := true, recurses := true, named := ["math/bits.divideError", "math/bits.overflowError"], apart := false }
def FracRisesSaid : Prop := fracRisesRow.holds Try.pinned (OpenSpec.ofChange fracRisesSpec)

/-- ITS FALSE NEIGHBOUR: 'it returns false'. Refute it at one input. -/
def fracRisesWrong : ChangeSpec := { name := "fracRises", fn := fun _ => fun
  | [d1, d2, d3, d4, d5] => { results := [.lit (.bool false)], args := [d1, d2, d3, d4, d5] }
  | _ => none }
def FracRisesWrongFalsely : Prop := fracRisesRow.holds Try.pinned (OpenSpec.ofChange fracRisesWrong)

/-- 'sawtoothlaw04.FracWholes': WHATEVER THE INPUT: true; the input reads as it did. -/
def fracWholesSpec : ChangeSpec := { name := "fracWholes", fn := fun _ => fun
  | [d1, d2] => { results := [.lit (.bool true)], args := [d1, d2] }
  | _ => none }
def fracWholesRow : OpenClaim := { program := "ytfkdbelajideiaa", sum := "7e73343ce8227e0de7ac0911058f2dcec9e2bd3b9685936783b819ac5bce6f7a", func := "sawtooth/sawtoothlaw04.FracWholes", spec := "fracWholes", inPlace := ["math/bits.Add64", "math/bits.Sub64"], unfollowed := true, recurses := true, named := ["math/bits.divideError", "math/bits.overflowError"], apart := false }
def FracWholesSaid : Prop := fracWholesRow.holds Try.pinned (OpenSpec.ofChange fracWholesSpec)

/-- ITS FALSE NEIGHBOUR: 'it returns false'. Refute it at one input. -/
def fracWholesWrong : ChangeSpec := { name := "fracWholes", fn := fun _ => fun
  | [d1, d2] => { results := [.lit (.bool false)], args := [d1, d2] }
  | _ => none }
def FracWholesWrongFalsely : Prop := fracWholesRow.holds Try.pinned (OpenSpec.ofChange fracWholesWrong)

/- THE SECOND FORM. 'bulk': how many values and letters a reading holds, each counted each time it is reached (what is shared counts as often as it is met; a slice's spare places count too). A statement '..UptoSaid' is the law's where the arguments, and the package variables that the reading takes, are together of bulk at most 1048576: NARROWER than '..Said'. Prove '..Said' where nothing that the law and all that it calls make is longer than what came in: it says more and counts as full. Else prove '..UptoSaid'. A law counts once. -/
mutual
def uptoBulk {H : Type} : DataW H → Nat
  | .lit (.string bytes) => bytes.length + 1
  | .lit _ => 1
  | .nil => 1
  | .ptr d => uptoBulk d + 1
  | .slice elems spare => uptoBulkAll elems + uptoBulkAll spare + 1
  | .agg parts => uptoBulkAll parts + 1
  | .iface _ d => uptoBulk d + 1
  | .map entries => uptoBulkEntries entries + 1
  | .held _ => 1
def uptoBulkAll {H : Type} : List (DataW H) → Nat
  | [] => 0
  | d :: r => uptoBulk d + uptoBulkAll r
def uptoBulkEntries {H : Type} : List (Lit × DataW H) → Nat
  | [] => 0
  | x :: r => uptoBulkEntry x + uptoBulkEntries r
def uptoBulkEntry {H : Type} : Lit × DataW H → Nat
  | (.string bytes, d) => bytes.length + uptoBulk d + 1
  | (_, d) => uptoBulk d + 1
 end
def uptoSmall : (H : Type) → List (DataW H) → Bool := fun _ ds => decide (uptoBulkAll ds ≤ 1048576)
def OpenSpec.upto (s : _root_.Go.ChangeSpec) : _root_.Go.OpenSpec := { _root_.Go.OpenSpec.ofChange s with cond := some uptoSmall }

/-- 'sawtoothlaw04.FracTells', WHERE WHAT IT READS IS OF BULK AT MOST 1048576: true; the input reads as it did. -/
def fracTellsUptoRow : OpenClaim := { program := "ytfkdbelajideiaa", sum := "7e73343ce8227e0de7ac0911058f2dcec9e2bd3b9685936783b819ac5bce6f7a", func := "sawtooth/sawtoothlaw04.FracTells", spec := "fracTells", inPlace := ["math/bits.Add64", "math/bits.Sub64"], unfollowed := true, recurses := true, named := ["math/bits.divideError", "math/bits.overflowError"], apart := false, narrowed := true }
def FracTellsUptoSaid : Prop := fracTellsUptoRow.holds Try.pinned (OpenSpec.upto fracTellsSpec)

/-- 'sawtoothlaw04.FracParts', WHERE WHAT IT READS IS OF BULK AT MOST 1048576: true; the input reads as it did. -/
def fracPartsUptoRow : OpenClaim := { program := "ytfkdbelajideiaa", sum := "7e73343ce8227e0de7ac0911058f2dcec9e2bd3b9685936783b819ac5bce6f7a", func := "sawtooth/sawtoothlaw04.FracParts", spec := "fracParts", inPlace := ["math/bits.Add64", "math/bits.Sub64"], unfollowed := true, recurses := true, named := ["math/bits.divideError", "math/bits.overflowError"], apart := false, narrowed := true }
def FracPartsUptoSaid : Prop := fracPartsUptoRow.holds Try.pinned (OpenSpec.upto fracPartsSpec)

/-- 'sawtoothlaw04.FracTurns', WHERE WHAT IT READS IS OF BULK AT MOST 1048576: true; the input reads as it did. -/
def fracTurnsUptoRow : OpenClaim := { program := "ytfkdbelajideiaa", sum := "7e73343ce8227e0de7ac0911058f2dcec9e2bd3b9685936783b819ac5bce6f7a", func := "sawtooth/sawtoothlaw04.FracTurns", spec := "fracTurns", inPlace := ["math/bits.Add64", "math/bits.Sub64"], unfollowed := true, recurses := true, named := ["math/bits.divideError", "math/bits.overflowError"], apart := false, narrowed := true }
def FracTurnsUptoSaid : Prop := fracTurnsUptoRow.holds Try.pinned (OpenSpec.upto fracTurnsSpec)

/-- 'sawtoothlaw04.FracBytes', WHERE WHAT IT READS IS OF BULK AT MOST 1048576: true; the input reads as it did. -/
def fracBytesUptoRow : OpenClaim := { program := "ytfkdbelajideiaa", sum := "7e73343ce8227e0de7ac0911058f2dcec9e2bd3b9685936783b819ac5bce6f7a", func := "sawtooth/sawtoothlaw04.FracBytes", spec := "fracBytes", inPlace := ["math/bits.Add64", "math/bits.Sub64"], unfollowed := true, recurses := true, named := ["math/bits.divideError", "math/bits.overflowError"], apart := false, narrowed := true }
def FracBytesUptoSaid : Prop := fracBytesUptoRow.holds Try.pinned (OpenSpec.upto fracBytesSpec)

/-- 'sawtoothlaw04.FracRises', WHERE WHAT IT READS IS OF BULK AT MOST 1048576: true; the input reads as it did. -/
def fracRisesUptoRow : OpenClaim := { program := "ytfkdbelajideiaa", sum := "7e73343ce8227e0de7ac0911058f2dcec9e2bd3b9685936783b819ac5bce6f7a", func := "sawtooth/sawtoothlaw04.FracRises", spec := "fracRises", inPlace := ["math/bits.Add64", "math/bits.Sub64"], unfollowed := true, recurses := true, named := ["math/bits.divideError", "math/bits.overflowError"], apart := false, narrowed := true }
def FracRisesUptoSaid : Prop := fracRisesUptoRow.holds Try.pinned (OpenSpec.upto fracRisesSpec)

/-- 'sawtoothlaw04.FracWholes', WHERE WHAT IT READS IS OF BULK AT MOST 1048576: true; the input reads as it did. -/
def fracWholesUptoRow : OpenClaim := { program := "ytfkdbelajideiaa", sum := "7e73343ce8227e0de7ac0911058f2dcec9e2bd3b9685936783b819ac5bce6f7a", func := "sawtooth/sawtoothlaw04.FracWholes", spec := "fracWholes", inPlace := ["math/bits.Add64", "math/bits.Sub64"], unfollowed := true, recurses := true, named := ["math/bits.divideError", "math/bits.overflowError"], apart := false, narrowed := true }
def FracWholesUptoSaid : Prop := fracWholesUptoRow.holds Try.pinned (OpenSpec.upto fracWholesSpec)

end Rows
end Go.Proofs.Ytfkdbelajideiaa
