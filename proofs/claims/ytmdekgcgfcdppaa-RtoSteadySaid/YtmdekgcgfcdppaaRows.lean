/-
  No cell of these rows narrows 'for every input' (looked for: loops, veiled, ifaces, maps, wideKeys, modest, calm, conditions, laid).
  DERIVED. THE GIVEN ROWS OF THIS SEAT. 6 by the template 'for every input the law returns true; each argument reads behind the call as it read before'; 0 by the template 'total and deterministic' (their statements: YtmdekgcgfcdppaaTotals.lean).
  GIVEN WITH THE SEED: the statements are not yours to turn. If you find one false, say at which input.
  Laid BY PROGRAM, IN A SANDBOX (cutbox-rows.mjs): the forced cells as the released guide's own fill.sh prints them over the translation 1eff34ea8b4843bb… (all of the seat's roots in one cut). By AI agents, Wed Nov 11 2026. No macro, syntax, notation, axiom, sorry.
-/
import Derived.Test.YtmdekgcgfcdppaaChecked
import GoSem.Claim
import GoSem.ClaimJoined
import GoSem.ClaimMapViews
import Derived.JoinedTies
import Derived.KernelRfl
namespace Go.Proofs.Ytmdekgcgfcdppaa
/- THE CELL 'sum', in the pinned program and in every row, IS THE sha256 OF THE DUMP (.gsa) THAT YtmdekgcgfcdppaaProg.lean LOADS. Nothing in Lean hashes anything: it is a label: what it is worth is what the hold of that sum in a sandbox is worth. -/
noncomputable def Try.pinned : Pinned := { name := "ytmdekgcgfcdppaa", sum := "1eff34ea8b4843bbdacdbfd9f99a331639c426e799f533979d25d6d2a469a386", checked := Try.checked }
namespace Rows
def none {H : Type} : Left H := { results := [], args := [] }

/-- 'sawtoothlaw07.RtoTells': WHATEVER THE INPUT: true; the input reads as it did. -/
def rtoTellsSpec : ChangeSpec := { name := "rtoTells", fn := fun _ => fun
  | [d1, d2, d3] => { results := [.lit (.bool true)], args := [d1, d2, d3] }
  | _ => none }
def rtoTellsRow : OpenClaim := { program := "ytmdekgcgfcdppaa", sum := "1eff34ea8b4843bbdacdbfd9f99a331639c426e799f533979d25d6d2a469a386", func := "sawtooth/sawtoothlaw07.RtoTells", spec := "rtoTells", apart := false }
def RtoTellsSaid : Prop := rtoTellsRow.holds Try.pinned (OpenSpec.ofChange rtoTellsSpec)

/-- ITS FALSE NEIGHBOUR: 'it returns false'. Refute it at one input. -/
def rtoTellsWrong : ChangeSpec := { name := "rtoTells", fn := fun _ => fun
  | [d1, d2, d3] => { results := [.lit (.bool false)], args := [d1, d2, d3] }
  | _ => none }
def RtoTellsWrongFalsely : Prop := rtoTellsRow.holds Try.pinned (OpenSpec.ofChange rtoTellsWrong)

/-- 'sawtoothlaw07.RtoBounds': WHATEVER THE INPUT: true; the input reads as it did. -/
def rtoBoundsSpec : ChangeSpec := { name := "rtoBounds", fn := fun _ => fun
  | [d1, d2, d3] => { results := [.lit (.bool true)], args := [d1, d2, d3] }
  | _ => none }
def rtoBoundsRow : OpenClaim := { program := "ytmdekgcgfcdppaa", sum := "1eff34ea8b4843bbdacdbfd9f99a331639c426e799f533979d25d6d2a469a386", func := "sawtooth/sawtoothlaw07.RtoBounds", spec := "rtoBounds", apart := false }
def RtoBoundsSaid : Prop := rtoBoundsRow.holds Try.pinned (OpenSpec.ofChange rtoBoundsSpec)

/-- ITS FALSE NEIGHBOUR: 'it returns false'. Refute it at one input. -/
def rtoBoundsWrong : ChangeSpec := { name := "rtoBounds", fn := fun _ => fun
  | [d1, d2, d3] => { results := [.lit (.bool false)], args := [d1, d2, d3] }
  | _ => none }
def RtoBoundsWrongFalsely : Prop := rtoBoundsRow.holds Try.pinned (OpenSpec.ofChange rtoBoundsWrong)

/-- 'sawtoothlaw07.RtoDoubles': WHATEVER THE INPUT: true; the input reads as it did. -/
def rtoDoublesSpec : ChangeSpec := { name := "rtoDoubles", fn := fun _ => fun
  | [d1, d2, d3] => { results := [.lit (.bool true)], args := [d1, d2, d3] }
  | _ => none }
def rtoDoublesRow : OpenClaim := { program := "ytmdekgcgfcdppaa", sum := "1eff34ea8b4843bbdacdbfd9f99a331639c426e799f533979d25d6d2a469a386", func := "sawtooth/sawtoothlaw07.RtoDoubles", spec := "rtoDoubles", apart := false }
def RtoDoublesSaid : Prop := rtoDoublesRow.holds Try.pinned (OpenSpec.ofChange rtoDoublesSpec)

/-- ITS FALSE NEIGHBOUR: 'it returns false'. Refute it at one input. -/
def rtoDoublesWrong : ChangeSpec := { name := "rtoDoubles", fn := fun _ => fun
  | [d1, d2, d3] => { results := [.lit (.bool false)], args := [d1, d2, d3] }
  | _ => none }
def RtoDoublesWrongFalsely : Prop := rtoDoublesRow.holds Try.pinned (OpenSpec.ofChange rtoDoublesWrong)

/-- 'sawtoothlaw07.RtoBacks': WHATEVER THE INPUT: true; the input reads as it did. -/
def rtoBacksSpec : ChangeSpec := { name := "rtoBacks", fn := fun _ => fun
  | [d1, d2] => { results := [.lit (.bool true)], args := [d1, d2] }
  | _ => none }
def rtoBacksRow : OpenClaim := { program := "ytmdekgcgfcdppaa", sum := "1eff34ea8b4843bbdacdbfd9f99a331639c426e799f533979d25d6d2a469a386", func := "sawtooth/sawtoothlaw07.RtoBacks", spec := "rtoBacks", apart := false }
def RtoBacksSaid : Prop := rtoBacksRow.holds Try.pinned (OpenSpec.ofChange rtoBacksSpec)

/-- ITS FALSE NEIGHBOUR: 'it returns false'. Refute it at one input. -/
def rtoBacksWrong : ChangeSpec := { name := "rtoBacks", fn := fun _ => fun
  | [d1, d2] => { results := [.lit (.bool false)], args := [d1, d2] }
  | _ => none }
def RtoBacksWrongFalsely : Prop := rtoBacksRow.holds Try.pinned (OpenSpec.ofChange rtoBacksWrong)

/-- 'sawtoothlaw07.RtoSteady': WHATEVER THE INPUT: true; the input reads as it did. -/
def rtoSteadySpec : ChangeSpec := { name := "rtoSteady", fn := fun _ => fun
  | [d1, d2] => { results := [.lit (.bool true)], args := [d1, d2] }
  | _ => none }
def rtoSteadyRow : OpenClaim := { program := "ytmdekgcgfcdppaa", sum := "1eff34ea8b4843bbdacdbfd9f99a331639c426e799f533979d25d6d2a469a386", func := "sawtooth/sawtoothlaw07.RtoSteady", spec := "rtoSteady", apart := false }
def RtoSteadySaid : Prop := rtoSteadyRow.holds Try.pinned (OpenSpec.ofChange rtoSteadySpec)

/-- ITS FALSE NEIGHBOUR: 'it returns false'. Refute it at one input. -/
def rtoSteadyWrong : ChangeSpec := { name := "rtoSteady", fn := fun _ => fun
  | [d1, d2] => { results := [.lit (.bool false)], args := [d1, d2] }
  | _ => none }
def RtoSteadyWrongFalsely : Prop := rtoSteadyRow.holds Try.pinned (OpenSpec.ofChange rtoSteadyWrong)

/-- 'sawtoothlaw07.RtoRises': WHATEVER THE INPUT: true; the input reads as it did. -/
def rtoRisesSpec : ChangeSpec := { name := "rtoRises", fn := fun _ => fun
  | [d1, d2, d3, d4, d5] => { results := [.lit (.bool true)], args := [d1, d2, d3, d4, d5] }
  | _ => none }
def rtoRisesRow : OpenClaim := { program := "ytmdekgcgfcdppaa", sum := "1eff34ea8b4843bbdacdbfd9f99a331639c426e799f533979d25d6d2a469a386", func := "sawtooth/sawtoothlaw07.RtoRises", spec := "rtoRises", apart := false }
def RtoRisesSaid : Prop := rtoRisesRow.holds Try.pinned (OpenSpec.ofChange rtoRisesSpec)

/-- ITS FALSE NEIGHBOUR: 'it returns false'. Refute it at one input. -/
def rtoRisesWrong : ChangeSpec := { name := "rtoRises", fn := fun _ => fun
  | [d1, d2, d3, d4, d5] => { results := [.lit (.bool false)], args := [d1, d2, d3, d4, d5] }
  | _ => none }
def RtoRisesWrongFalsely : Prop := rtoRisesRow.holds Try.pinned (OpenSpec.ofChange rtoRisesWrong)

/- THE SECOND FORM. 'bulk': how many values and letters a reading holds, each counted each time it is reached (what is shared counts as often as it is met; a slice's spare places count too). A statement '..UptoSaid' is the law's where the arguments, and the package variables that the reading takes, are together of bulk at most 1048576: NARROWER than '..Said'. Prove '..Said' where nothing that the law and all that it calls make is longer than what came in: it says more and counts as full. Else prove '..UptoSaid'. A law counts once. -/
mutual
def uptoBulk {H : Type} : DataW H → Nat
  | .lit (.string bytes) => bytes.length + 1
  | .lit _ => 1
  | .nil => 1
  | .ptr d => uptoBulk d + 1
  | .slice elems spare => uptoBulkAll elems + uptoBulkAll spare + 1
  | .agg parts => uptoBulkAll parts + 1
  | .iface _ d => uptoBulk d + 1
  | .map entries => uptoBulkEntries entries + 1
  | .held _ => 1
def uptoBulkAll {H : Type} : List (DataW H) → Nat
  | [] => 0
  | d :: r => uptoBulk d + uptoBulkAll r
def uptoBulkEntries {H : Type} : List (Lit × DataW H) → Nat
  | [] => 0
  | x :: r => uptoBulkEntry x + uptoBulkEntries r
def uptoBulkEntry {H : Type} : Lit × DataW H → Nat
  | (.string bytes, d) => bytes.length + uptoBulk d + 1
  | (_, d) => uptoBulk d + 1
 end
def uptoSmall : (H : Type) → List (DataW H) → Bool := fun _ ds => decide (uptoBulkAll ds ≤ 1048576)
def OpenSpec.upto (s : _root_.Go.ChangeSpec) : _root_.Go.OpenSpec := { _root_.Go.OpenSpec.ofChange s with cond := some uptoSmall }

/-- 'sawtoothlaw07.RtoTells', WHERE WHAT IT READS IS OF BULK AT MOST 1048576: true; the input reads as it did. -/
def rtoTellsUptoRow : OpenClaim := { program := "ytmdekgcgfcdppaa", sum := "1eff34ea8b4843bbdacdbfd9f99a331639c426e799f533979d25d6d2a469a386", func := "sawtooth/sawtoothlaw07.RtoTells", spec := "rtoTells", apart := false, narrowed := true }
def RtoTellsUptoSaid : Prop := rtoTellsUptoRow.holds Try.pinned (OpenSpec.upto rtoTellsSpec)

/-- 'sawtoothlaw07.RtoBounds', WHERE WHAT IT READS IS OF BULK AT MOST 1048576: true; the input reads as it did. -/
def rtoBoundsUptoRow : OpenClaim := { program := "ytmdekgcgfcdppaa", sum := "1eff34ea8b4843bbdacdbfd9f99a331639c426e799f533979d25d6d2a469a386", func := "sawtooth/sawtoothlaw07.RtoBounds", spec := "rtoBounds", apart := false, narrowed := true }
def RtoBoundsUptoSaid : Prop := rtoBoundsUptoRow.holds Try.pinned (OpenSpec.upto rtoBoundsSpec)

/-- 'sawtoothlaw07.RtoDoubles', WHERE WHAT IT READS IS OF BULK AT MOST 1048576: true; the input reads as it did. -/
def rtoDoublesUptoRow : OpenClaim := { program := "ytmdekgcgfcdppaa", sum := "1eff34ea8b4843bbdacdbfd9f99a331639c426e799f533979d25d6d2a469a386", func := "sawtooth/sawtoothlaw07.RtoDoubles", spec := "rtoDoubles", apart := false, narrowed := true }
def RtoDoublesUptoSaid : Prop := rtoDoublesUptoRow.holds Try.pinned (OpenSpec.upto rtoDoublesSpec)

/-- 'sawtoothlaw07.RtoBacks', WHERE WHAT IT READS IS OF BULK AT MOST 1048576: true; the input reads as it did. -/
def rtoBacksUptoRow : OpenClaim := { program := "ytmdekgcgfcdppaa", sum := "1eff34ea8b4843bbdacdbfd9f99a331639c426e799f533979d25d6d2a469a386", func := "sawtooth/sawtoothlaw07.RtoBacks", spec := "rtoBacks", apart := false, narrowed := true }
def RtoBacksUptoSaid : Prop := rtoBacksUptoRow.holds Try.pinned (OpenSpec.upto rtoBacksSpec)

/-- 'sawtoothlaw07.RtoSteady', WHERE WHAT IT READS IS OF BULK AT MOST 1048576: true; the input reads as it did. -/
def rtoSteadyUptoRow : OpenClaim := { program := "ytmdekgcgfcdppaa", sum := "1eff34ea8b4843bbdacdbfd9f99a331639c426e799f533979d25d6d2a469a386", func := "sawtooth/sawtoothlaw07.RtoSteady", spec := "rtoSteady", apart := false, narrowed := true }
def RtoSteadyUptoSaid : Prop := rtoSteadyUptoRow.holds Try.pinned (OpenSpec.upto rtoSteadySpec)

/-- 'sawtoothlaw07.RtoRises', WHERE WHAT IT READS IS OF BULK AT MOST 1048576: true; the input reads as it did. -/
def rtoRisesUptoRow : OpenClaim := { program := "ytmdekgcgfcdppaa", sum := "1eff34ea8b4843bbdacdbfd9f99a331639c426e799f533979d25d6d2a469a386", func := "sawtooth/sawtoothlaw07.RtoRises", spec := "rtoRises", apart := false, narrowed := true }
def RtoRisesUptoSaid : Prop := rtoRisesUptoRow.holds Try.pinned (OpenSpec.upto rtoRisesSpec)

end Rows
end Go.Proofs.Ytmdekgcgfcdppaa
