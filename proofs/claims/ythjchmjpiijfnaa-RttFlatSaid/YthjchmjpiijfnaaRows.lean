/-
  No cell of these rows narrows 'for every input' (looked for: loops, veiled, ifaces, maps, wideKeys, modest, calm, conditions, laid).
  DERIVED. THE GIVEN ROWS OF THIS SEAT. 6 by the template 'for every input the law returns true; each argument reads behind the call as it read before'; 0 by the template 'total and deterministic' (their statements: YthjchmjpiijfnaaTotals.lean).
  GIVEN WITH THE SEED: the statements are not yours to turn. If you find one false, say at which input.
  Laid BY PROGRAM, IN A SANDBOX (cutbox-rows.mjs): the forced cells as the released guide's own fill.sh prints them over the translation 0c197bc97810dc4e… (all of the seat's roots in one cut). By AI agents, Wed Nov 11 2026. No macro, syntax, notation, axiom, sorry.
-/
import Derived.Test.YthjchmjpiijfnaaChecked
import GoSem.Claim
import GoSem.ClaimJoined
import GoSem.ClaimMapViews
import Derived.JoinedTies
import Derived.KernelRfl
namespace Go.Proofs.Ythjchmjpiijfnaa
/- THE CELL 'sum', in the pinned program and in every row, IS THE sha256 OF THE DUMP (.gsa) THAT YthjchmjpiijfnaaProg.lean LOADS. Nothing in Lean hashes anything: it is a label: what it is worth is what the hold of that sum in a sandbox is worth. -/
noncomputable def Try.pinned : Pinned := { name := "ythjchmjpiijfnaa", sum := "0c197bc97810dc4e0a64a09012cda6e8d18b4324881ef1220373b2d7f3313b0d", checked := Try.checked }
namespace Rows
def none {H : Type} : Left H := { results := [], args := [] }

/-- 'sawtoothlaw06.RttTells': WHATEVER THE INPUT: true; the input reads as it did. -/
def rttTellsSpec : ChangeSpec := { name := "rttTells", fn := fun _ => fun
  | [d1, d2] => { results := [.lit (.bool true)], args := [d1, d2] }
  | _ => none }
def rttTellsRow : OpenClaim := { program := "ythjchmjpiijfnaa", sum := "0c197bc97810dc4e0a64a09012cda6e8d18b4324881ef1220373b2d7f3313b0d", func := "sawtooth/sawtoothlaw06.RttTells", spec := "rttTells", apart := false }
def RttTellsSaid : Prop := rttTellsRow.holds Try.pinned (OpenSpec.ofChange rttTellsSpec)

/-- ITS FALSE NEIGHBOUR: 'it returns false'. Refute it at one input. -/
def rttTellsWrong : ChangeSpec := { name := "rttTells", fn := fun _ => fun
  | [d1, d2] => { results := [.lit (.bool false)], args := [d1, d2] }
  | _ => none }
def RttTellsWrongFalsely : Prop := rttTellsRow.holds Try.pinned (OpenSpec.ofChange rttTellsWrong)

/-- 'sawtoothlaw06.RttBetween': WHATEVER THE INPUT: true; the input reads as it did. -/
def rttBetweenSpec : ChangeSpec := { name := "rttBetween", fn := fun _ => fun
  | [d1, d2] => { results := [.lit (.bool true)], args := [d1, d2] }
  | _ => none }
def rttBetweenRow : OpenClaim := { program := "ythjchmjpiijfnaa", sum := "0c197bc97810dc4e0a64a09012cda6e8d18b4324881ef1220373b2d7f3313b0d", func := "sawtooth/sawtoothlaw06.RttBetween", spec := "rttBetween", apart := false }
def RttBetweenSaid : Prop := rttBetweenRow.holds Try.pinned (OpenSpec.ofChange rttBetweenSpec)

/-- ITS FALSE NEIGHBOUR: 'it returns false'. Refute it at one input. -/
def rttBetweenWrong : ChangeSpec := { name := "rttBetween", fn := fun _ => fun
  | [d1, d2] => { results := [.lit (.bool false)], args := [d1, d2] }
  | _ => none }
def RttBetweenWrongFalsely : Prop := rttBetweenRow.holds Try.pinned (OpenSpec.ofChange rttBetweenWrong)

/-- 'sawtoothlaw06.RttSteady': WHATEVER THE INPUT: true; the input reads as it did. -/
def rttSteadySpec : ChangeSpec := { name := "rttSteady", fn := fun _ => fun
  | [d1, d2] => { results := [.lit (.bool true)], args := [d1, d2] }
  | _ => none }
def rttSteadyRow : OpenClaim := { program := "ythjchmjpiijfnaa", sum := "0c197bc97810dc4e0a64a09012cda6e8d18b4324881ef1220373b2d7f3313b0d", func := "sawtooth/sawtoothlaw06.RttSteady", spec := "rttSteady", apart := false }
def RttSteadySaid : Prop := rttSteadyRow.holds Try.pinned (OpenSpec.ofChange rttSteadySpec)

/-- ITS FALSE NEIGHBOUR: 'it returns false'. Refute it at one input. -/
def rttSteadyWrong : ChangeSpec := { name := "rttSteady", fn := fun _ => fun
  | [d1, d2] => { results := [.lit (.bool false)], args := [d1, d2] }
  | _ => none }
def RttSteadyWrongFalsely : Prop := rttSteadyRow.holds Try.pinned (OpenSpec.ofChange rttSteadyWrong)

/-- 'sawtoothlaw06.RttRises': WHATEVER THE INPUT: true; the input reads as it did. -/
def rttRisesSpec : ChangeSpec := { name := "rttRises", fn := fun _ => fun
  | [d1, d2, d3] => { results := [.lit (.bool true)], args := [d1, d2, d3] }
  | _ => none }
def rttRisesRow : OpenClaim := { program := "ythjchmjpiijfnaa", sum := "0c197bc97810dc4e0a64a09012cda6e8d18b4324881ef1220373b2d7f3313b0d", func := "sawtooth/sawtoothlaw06.RttRises", spec := "rttRises", apart := false }
def RttRisesSaid : Prop := rttRisesRow.holds Try.pinned (OpenSpec.ofChange rttRisesSpec)

/-- ITS FALSE NEIGHBOUR: 'it returns false'. Refute it at one input. -/
def rttRisesWrong : ChangeSpec := { name := "rttRises", fn := fun _ => fun
  | [d1, d2, d3] => { results := [.lit (.bool false)], args := [d1, d2, d3] }
  | _ => none }
def RttRisesWrongFalsely : Prop := rttRisesRow.holds Try.pinned (OpenSpec.ofChange rttRisesWrong)

/-- 'sawtoothlaw06.RttKnown': WHATEVER THE INPUT: true; the input reads as it did. -/
def rttKnownSpec : ChangeSpec := { name := "rttKnown", fn := fun _ => fun
  | [d] => { results := [.lit (.bool true)], args := [d] }
  | _ => none }
def rttKnownRow : OpenClaim := { program := "ythjchmjpiijfnaa", sum := "0c197bc97810dc4e0a64a09012cda6e8d18b4324881ef1220373b2d7f3313b0d", func := "sawtooth/sawtoothlaw06.RttKnown", spec := "rttKnown", apart := false }
def RttKnownSaid : Prop := rttKnownRow.holds Try.pinned (OpenSpec.ofChange rttKnownSpec)

/-- ITS FALSE NEIGHBOUR: 'it returns false'. Refute it at one input. -/
def rttKnownWrong : ChangeSpec := { name := "rttKnown", fn := fun _ => fun
  | [d] => { results := [.lit (.bool false)], args := [d] }
  | _ => none }
def RttKnownWrongFalsely : Prop := rttKnownRow.holds Try.pinned (OpenSpec.ofChange rttKnownWrong)

/-- 'sawtoothlaw06.RttFlat': WHATEVER THE INPUT: true; the input reads as it did. -/
def rttFlatSpec : ChangeSpec := { name := "rttFlat", fn := fun _ => fun
  | [d1, d2] => { results := [.lit (.bool true)], args := [d1, d2] }
  | _ => none }
def rttFlatRow : OpenClaim := { program := "ythjchmjpiijfnaa", sum := "0c197bc97810dc4e0a64a09012cda6e8d18b4324881ef1220373b2d7f3313b0d", func := "sawtooth/sawtoothlaw06.RttFlat", spec := "rttFlat", apart := false }
def RttFlatSaid : Prop := rttFlatRow.holds Try.pinned (OpenSpec.ofChange rttFlatSpec)

/-- ITS FALSE NEIGHBOUR: 'it returns false'. Refute it at one input. -/
def rttFlatWrong : ChangeSpec := { name := "rttFlat", fn := fun _ => fun
  | [d1, d2] => { results := [.lit (.bool false)], args := [d1, d2] }
  | _ => none }
def RttFlatWrongFalsely : Prop := rttFlatRow.holds Try.pinned (OpenSpec.ofChange rttFlatWrong)

/- THE SECOND FORM. 'bulk': how many values and letters a reading holds, each counted each time it is reached (what is shared counts as often as it is met; a slice's spare places count too). A statement '..UptoSaid' is the law's where the arguments, and the package variables that the reading takes, are together of bulk at most 1048576: NARROWER than '..Said'. Prove '..Said' where nothing that the law and all that it calls make is longer than what came in: it says more and counts as full. Else prove '..UptoSaid'. A law counts once. -/
mutual
def uptoBulk {H : Type} : DataW H → Nat
  | .lit (.string bytes) => bytes.length + 1
  | .lit _ => 1
  | .nil => 1
  | .ptr d => uptoBulk d + 1
  | .slice elems spare => uptoBulkAll elems + uptoBulkAll spare + 1
  | .agg parts => uptoBulkAll parts + 1
  | .iface _ d => uptoBulk d + 1
  | .map entries => uptoBulkEntries entries + 1
  | .held _ => 1
def uptoBulkAll {H : Type} : List (DataW H) → Nat
  | [] => 0
  | d :: r => uptoBulk d + uptoBulkAll r
def uptoBulkEntries {H : Type} : List (Lit × DataW H) → Nat
  | [] => 0
  | x :: r => uptoBulkEntry x + uptoBulkEntries r
def uptoBulkEntry {H : Type} : Lit × DataW H → Nat
  | (.string bytes, d) => bytes.length + uptoBulk d + 1
  | (_, d) => uptoBulk d + 1
 end
def uptoSmall : (H : Type) → List (DataW H) → Bool := fun _ ds => decide (uptoBulkAll ds ≤ 1048576)
def OpenSpec.upto (s : _root_.Go.ChangeSpec) : _root_.Go.OpenSpec := { _root_.Go.OpenSpec.ofChange s with cond := some uptoSmall }

/-- 'sawtoothlaw06.RttTells', WHERE WHAT IT READS IS OF BULK AT MOST 1048576: true; the input reads as it did. -/
def rttTellsUptoRow : OpenClaim := { program := "ythjchmjpiijfnaa", sum := "0c197bc97810dc4e0a64a09012cda6e8d18b4324881ef1220373b2d7f3313b0d", func := "sawtooth/sawtoothlaw06.RttTells", spec := "rttTells", apart := false, narrowed := true }
def RttTellsUptoSaid : Prop := rttTellsUptoRow.holds Try.pinned (OpenSpec.upto rttTellsSpec)

/-- 'sawtoothlaw06.RttBetween', WHERE WHAT IT READS IS OF BULK AT MOST 1048576: true; the input reads as it did. -/
def rttBetweenUptoRow : OpenClaim := { program := "ythjchmjpiijfnaa", sum := "0c197bc97810dc4e0a64a09012cda6e8d18b4324881ef1220373b2d7f3313b0d", func := "sawtooth/sawtoothlaw06.RttBetween", spec := "rttBetween", apart := false, narrowed := true }
def RttBetweenUptoSaid : Prop := rttBetweenUptoRow.holds Try.pinned (OpenSpec.upto rttBetweenSpec)

/-- 'sawtoothlaw06.RttSteady', WHERE WHAT IT READS IS OF BULK AT MOST 1048576: true; the input reads as it did. -/
def rttSteadyUptoRow : OpenClaim := { program := "ythjchmjpiijfnaa", sum := "0c197bc97810dc4e0a64a09012cda6e8d18b4324881ef1220373b2d7f3313b0d", func := "sawtooth/sawtoothlaw06.RttSteady", spec := "rttSteady", apart := false, narrowed := true }
def RttSteadyUptoSaid : Prop := rttSteadyUptoRow.holds Try.pinned (OpenSpec.upto rttSteadySpec)

/-- 'sawtoothlaw06.RttRises', WHERE WHAT IT READS IS OF BULK AT MOST 1048576: true; the input reads as it did. -/
def rttRisesUptoRow : OpenClaim := { program := "ythjchmjpiijfnaa", sum := "0c197bc97810dc4e0a64a09012cda6e8d18b4324881ef1220373b2d7f3313b0d", func := "sawtooth/sawtoothlaw06.RttRises", spec := "rttRises", apart := false, narrowed := true }
def RttRisesUptoSaid : Prop := rttRisesUptoRow.holds Try.pinned (OpenSpec.upto rttRisesSpec)

/-- 'sawtoothlaw06.RttKnown', WHERE WHAT IT READS IS OF BULK AT MOST 1048576: true; the input reads as it did. -/
def rttKnownUptoRow : OpenClaim := { program := "ythjchmjpiijfnaa", sum := "0c197bc97810dc4e0a64a09012cda6e8d18b4324881ef1220373b2d7f3313b0d", func := "sawtooth/sawtoothlaw06.RttKnown", spec := "rttKnown", apart := false, narrowed := true }
def RttKnownUptoSaid : Prop := rttKnownUptoRow.holds Try.pinned (OpenSpec.upto rttKnownSpec)

/-- 'sawtoothlaw06.RttFlat', WHERE WHAT IT READS IS OF BULK AT MOST 1048576: true; the input reads as it did. -/
def rttFlatUptoRow : OpenClaim := { program := "ythjchmjpiijfnaa", sum := "0c197bc97810dc4e0a64a09012cda6e8d18b4324881ef1220373b2d7f3313b0d", func := "sawtooth/sawtoothlaw06.RttFlat", spec := "rttFlat", apart := false, narrowed := true }
def RttFlatUptoSaid : Prop := rttFlatUptoRow.holds Try.pinned (OpenSpec.upto rttFlatSpec)

end Rows
end Go.Proofs.Ythjchmjpiijfnaa
