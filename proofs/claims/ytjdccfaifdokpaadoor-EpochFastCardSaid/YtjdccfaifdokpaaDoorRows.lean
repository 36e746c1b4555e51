/-
  NARROWER THAN 'FOR EVERY INPUT', by the rows' own cells (each row's printed sentence says how): EpochTells: laid · EpochRoot: laid · EpochRises: laid · EpochBegins: laid · EpochFast: laid · EpochShifts: laid · EpochEight: laid.
  DERIVED. THE GIVEN ROWS OF THIS SEAT. 7 by the template 'for every input the law returns true; each argument reads behind the call as it read before'; 0 by the template 'total and deterministic' (their statements: YtjdccfaifdokpaaDoorTotals.lean).
  GIVEN WITH THE SEED: the statements are not yours to turn. If you find one false, say at which input.
  Laid BY PROGRAM, IN A SANDBOX (cutbox-rows.mjs): the forced cells as the released guide's own fill.sh prints them over the translation 57244e19b3002c4c… (all of the seat's roots in one cut). By AI agents, Wed Nov 11 2026. No macro, syntax, notation, axiom, sorry.
-/
import Derived.Test.YtjdccfaifdokpaaDoorChecked
import GoSem.Claim
import GoSem.ClaimJoined
import GoSem.ClaimMapViews
import Derived.JoinedTies
import Derived.KernelRfl
namespace Go.Proofs.YtjdccfaifdokpaaDoor
/- THE CELL 'sum', in the pinned program and in every row, IS THE sha256 OF THE DUMP (.gsa) THAT YtjdccfaifdokpaaDoorProg.lean LOADS. Nothing in Lean hashes anything: it is a label: what it is worth is what the hold of that sum in a sandbox is worth. -/
noncomputable def Tryd.pinned : Pinned := { name := "ytjdccfaifdokpaadoor", sum := "57244e19b3002c4ce9a10a90d1d1ff058a1c95d64d4feb9c3673775aaf9af610", checked := Tryd.checked }
namespace Rows
def none {H : Type} : Left H := { results := [], args := [] }

/- WHAT THE LISTED PACKAGE-LEVEL VARIABLES READ AS WHEN THE CALL BEGINS. Each datum BY PROGRAM (the guide's laid-datum.mjs) off the statement by which the dump's own 'gosem.cut.vars' lays the variable. In a bare row this is a premise. The card (YtjdccfaifdokpaaDoorCards.lean) ties it to the program's text. -/
def laid_sawtooth_epoch_tens {H : Type} : DataW H := .agg [.lit (.int .u64 10), .lit (.int .u64 1000000), .lit (.int .u64 1000000), .lit (.int .u64 1000000)]

/-- 'sawtoothlaw11.EpochTells': WHATEVER THE INPUT: true; the input reads as it did. -/
def epochTellsSpec : ChangeSpec := { name := "epochTells", fn := fun _ => fun
  | [d1, d2, d3, d4] => { results := [.lit (.bool true)], args := [d1, d2, d3, d4] }
  | _ => none }
def epochTellsRow : OpenClaim := { program := "ytjdccfaifdokpaadoor", sum := "57244e19b3002c4ce9a10a90d1d1ff058a1c95d64d4feb9c3673775aaf9af610", func := "sawtooth/sawtoothlaw11.EpochTells", spec := "epochTells", inPlace := ["math/bits.Add64", "math/bits.Sub64"], unfollowed := true, recurses := true, named := ["sawtooth/epoch.tens", "math/bits.divideError", "math/bits.overflowError"], apart := false, laid := [("sawtooth/epoch.tens", laid_sawtooth_epoch_tens)] }
def EpochTellsSaid : Prop := epochTellsRow.holds Tryd.pinned (OpenSpec.ofChange epochTellsSpec)

/-- ITS FALSE NEIGHBOUR: 'it returns false'. Refute it at one input. -/
def epochTellsWrong : ChangeSpec := { name := "epochTells", fn := fun _ => fun
  | [d1, d2, d3, d4] => { results := [.lit (.bool false)], args := [d1, d2, d3, d4] }
  | _ => none }
def EpochTellsWrongFalsely : Prop := epochTellsRow.holds Tryd.pinned (OpenSpec.ofChange epochTellsWrong)

/-- 'sawtoothlaw11.EpochRoot': WHATEVER THE INPUT: true; the input reads as it did. -/
def epochRootSpec : ChangeSpec := { name := "epochRoot", fn := fun _ => fun
  | [d] => { results := [.lit (.bool true)], args := [d] }
  | _ => none }
def epochRootRow : OpenClaim := { program := "ytjdccfaifdokpaadoor", sum := "57244e19b3002c4ce9a10a90d1d1ff058a1c95d64d4feb9c3673775aaf9af610", func := "sawtooth/sawtoothlaw11.EpochRoot", spec := "epochRoot", inPlace := ["math/bits.Add64", "math/bits.Sub64"], unfollowed := true, recurses := true, named := ["sawtooth/epoch.tens", "math/bits.divideError", "math/bits.overflowError"], apart := false, laid := [("sawtooth/epoch.tens", laid_sawtooth_epoch_tens)] }
def EpochRootSaid : Prop := epochRootRow.holds Tryd.pinned (OpenSpec.ofChange epochRootSpec)

/-- ITS FALSE NEIGHBOUR: 'it returns false'. Refute it at one input. -/
def epochRootWrong : ChangeSpec := { name := "epochRoot", fn := fun _ => fun
  | [d] => { results := [.lit (.bool false)], args := [d] }
  | _ => none }
def EpochRootWrongFalsely : Prop := epochRootRow.holds Tryd.pinned (OpenSpec.ofChange epochRootWrong)

/-- 'sawtoothlaw11.EpochRises': WHATEVER THE INPUT: true; the input reads as it did. -/
def epochRisesSpec : ChangeSpec := { name := "epochRises", fn := fun _ => fun
  | [d1, d2] => { results := [.lit (.bool true)], args := [d1, d2] }
  | _ => none }
def epochRisesRow : OpenClaim := { program := "ytjdccfaifdokpaadoor", sum := "57244e19b3002c4ce9a10a90d1d1ff058a1c95d64d4feb9c3673775aaf9af610", func := "sawtooth/sawtoothlaw11.EpochRises", spec := "epochRises", inPlace := ["math/bits.Add64", "math/bits.Sub64"], unfollowed := true, recurses := true, named := ["sawtooth/epoch.tens", "math/bits.divideError", "math/bits.overflowError"], apart := false, laid := [("sawtooth/epoch.tens", laid_sawtooth_epoch_tens)] }
def EpochRisesSaid : Prop := epochRisesRow.holds Tryd.pinned (OpenSpec.ofChange epochRisesSpec)

/-- ITS FALSE NEIGHBOUR: 'it returns false'. Refute it at one input. -/
def epochRisesWrong : ChangeSpec := { name := "epochRises", fn := fun _ => fun
  | [d1, d2] => { results := [.lit (.bool false)], args := [d1, d2] }
  | _ => none }
def EpochRisesWrongFalsely : Prop := epochRisesRow.holds Tryd.pinned (OpenSpec.ofChange epochRisesWrong)

/-- 'sawtoothlaw11.EpochBegins': WHATEVER THE INPUT: true; the input reads as it did. -/
def epochBeginsSpec : ChangeSpec := { name := "epochBegins", fn := fun _ => fun
  | [d1, d2, d3] => { results := [.lit (.bool true)], args := [d1, d2, d3] }
  | _ => none }
def epochBeginsRow : OpenClaim := { program := "ytjdccfaifdokpaadoor", sum := "57244e19b3002c4ce9a10a90d1d1ff058a1c95d64d4feb9c3673775aaf9af610", func := "sawtooth/sawtoothlaw11.EpochBegins", spec := "epochBegins", inPlace := ["math/bits.Add64", "math/bits.Sub64"], unfollowed := true, recurses := true, named := ["sawtooth/epoch.tens", "math/bits.divideError", "math/bits.overflowError"], apart := false, laid := [("sawtooth/epoch.tens", laid_sawtooth_epoch_tens)] }
def EpochBeginsSaid : Prop := epochBeginsRow.holds Tryd.pinned (OpenSpec.ofChange epochBeginsSpec)

/-- ITS FALSE NEIGHBOUR: 'it returns false'. Refute it at one input. -/
def epochBeginsWrong : ChangeSpec := { name := "epochBegins", fn := fun _ => fun
  | [d1, d2, d3] => { results := [.lit (.bool false)], args := [d1, d2, d3] }
  | _ => none }
def EpochBeginsWrongFalsely : Prop := epochBeginsRow.holds Tryd.pinned (OpenSpec.ofChange epochBeginsWrong)

/-- 'sawtoothlaw11.EpochFast': WHATEVER THE INPUT: true; the input reads as it did. -/
def epochFastSpec : ChangeSpec := { name := "epochFast", fn := fun _ => fun
  | [d1, d2] => { results := [.lit (.bool true)], args := [d1, d2] }
  | _ => none }
def epochFastRow : OpenClaim := { program := "ytjdccfaifdokpaadoor", sum := "57244e19b3002c4ce9a10a90d1d1ff058a1c95d64d4feb9c3673775aaf9af610", func := "sawtooth/sawtoothlaw11.EpochFast", spec := "epochFast", inPlace := ["math/bits.Add64", "math/bits.Sub64"], unfollowed := true, recurses := true, named := ["sawtooth/epoch.tens", "math/bits.divideError", "math/bits.overflowError"], apart := false, laid := [("sawtooth/epoch.tens", laid_sawtooth_epoch_tens)] }
def EpochFastSaid : Prop := epochFastRow.holds Tryd.pinned (OpenSpec.ofChange epochFastSpec)

/-- ITS FALSE NEIGHBOUR: 'it returns false'. Refute it at one input. -/
def epochFastWrong : ChangeSpec := { name := "epochFast", fn := fun _ => fun
  | [d1, d2] => { results := [.lit (.bool false)], args := [d1, d2] }
  | _ => none }
def EpochFastWrongFalsely : Prop := epochFastRow.holds Tryd.pinned (OpenSpec.ofChange epochFastWrong)

/-- 'sawtoothlaw11.EpochShifts': WHATEVER THE INPUT: true; the input reads as it did. -/
def epochShiftsSpec : ChangeSpec := { name := "epochShifts", fn := fun _ => fun
  | [d1, d2, d3] => { results := [.lit (.bool true)], args := [d1, d2, d3] }
  | _ => none }
def epochShiftsRow : OpenClaim := { program := "ytjdccfaifdokpaadoor", sum := "57244e19b3002c4ce9a10a90d1d1ff058a1c95d64d4feb9c3673775aaf9af610", func := "sawtooth/sawtoothlaw11.EpochShifts", spec := "epochShifts", inPlace := ["math/bits.Add64", "math/bits.Sub64"], unfollowed := true, recurses := true, named := ["sawtooth/epoch.tens", "math/bits.divideError", "math/bits.overflowError"], apart := false, laid := [("sawtooth/epoch.tens", laid_sawtooth_epoch_tens)] }
def EpochShiftsSaid : Prop := epochShiftsRow.holds Tryd.pinned (OpenSpec.ofChange epochShiftsSpec)

/-- ITS FALSE NEIGHBOUR: 'it returns false'. Refute it at one input. -/
def epochShiftsWrong : ChangeSpec := { name := "epochShifts", fn := fun _ => fun
  | [d1, d2, d3] => { results := [.lit (.bool false)], args := [d1, d2, d3] }
  | _ => none }
def EpochShiftsWrongFalsely : Prop := epochShiftsRow.holds Tryd.pinned (OpenSpec.ofChange epochShiftsWrong)

/-- 'sawtoothlaw11.EpochEight': WHATEVER THE INPUT: true; the input reads as it did. -/
def epochEightSpec : ChangeSpec := { name := "epochEight", fn := fun _ => fun
  | [d] => { results := [.lit (.bool true)], args := [d] }
  | _ => none }
def epochEightRow : OpenClaim := { program := "ytjdccfaifdokpaadoor", sum := "57244e19b3002c4ce9a10a90d1d1ff058a1c95d64d4feb9c3673775aaf9af610", func := "sawtooth/sawtoothlaw11.EpochEight", spec := "epochEight", inPlace := ["math/bits.Add64", "math/bits.Sub64"], unfollowed := true, recurses := true, named := ["sawtooth/epoch.tens", "math/bits.divideError", "math/bits.overflowError"], apart := false, laid := [("sawtooth/epoch.tens", laid_sawtooth_epoch_tens)] }
def EpochEightSaid : Prop := epochEightRow.holds Tryd.pinned (OpenSpec.ofChange epochEightSpec)

/-- ITS FALSE NEIGHBOUR: 'it returns false'. Refute it at one input. -/
def epochEightWrong : ChangeSpec := { name := "epochEight", fn := fun _ => fun
  | [d] => { results := [.lit (.bool false)], args := [d] }
  | _ => none }
def EpochEightWrongFalsely : Prop := epochEightRow.holds Tryd.pinned (OpenSpec.ofChange epochEightWrong)

/- THE SECOND FORM. 'bulk': how many values and letters a reading holds, each counted each time it is reached (what is shared counts as often as it is met; a slice's spare places count too). A statement '..UptoSaid' is the law's where the arguments, and the package variables that the reading takes, are together of bulk at most 1048576: NARROWER than '..Said'. Prove '..Said' where nothing that the law and all that it calls make is longer than what came in: it says more and counts as full. Else prove '..UptoSaid'. A law counts once. -/
mutual
def uptoBulk {H : Type} : DataW H → Nat
  | .lit (.string bytes) => bytes.length + 1
  | .lit _ => 1
  | .nil => 1
  | .ptr d => uptoBulk d + 1
  | .slice elems spare => uptoBulkAll elems + uptoBulkAll spare + 1
  | .agg parts => uptoBulkAll parts + 1
  | .iface _ d => uptoBulk d + 1
  | .map entries => uptoBulkEntries entries + 1
  | .held _ => 1
def uptoBulkAll {H : Type} : List (DataW H) → Nat
  | [] => 0
  | d :: r => uptoBulk d + uptoBulkAll r
def uptoBulkEntries {H : Type} : List (Lit × DataW H) → Nat
  | [] => 0
  | x :: r => uptoBulkEntry x + uptoBulkEntries r
def uptoBulkEntry {H : Type} : Lit × DataW H → Nat
  | (.string bytes, d) => bytes.length + uptoBulk d + 1
  | (_, d) => uptoBulk d + 1
 end
def uptoSmall : (H : Type) → List (DataW H) → Bool := fun _ ds => decide (uptoBulkAll ds ≤ 1048576)
def OpenSpec.upto (s : _root_.Go.ChangeSpec) : _root_.Go.OpenSpec := { _root_.Go.OpenSpec.ofChange s with cond := some uptoSmall }

/-- 'sawtoothlaw11.EpochTells', WHERE WHAT IT READS IS OF BULK AT MOST 1048576: true; the input reads as it did. -/
def epochTellsUptoRow : OpenClaim := { program := "ytjdccfaifdokpaadoor", sum := "57244e19b3002c4ce9a10a90d1d1ff058a1c95d64d4feb9c3673775aaf9af610", func := "sawtooth/sawtoothlaw11.EpochTells", spec := "epochTells", inPlace := ["math/bits.Add64", "math/bits.Sub64"], unfollowed := true, recurses := true, named := ["sawtooth/epoch.tens", "math/bits.divideError", "math/bits.overflowError"], apart := false, laid := [("sawtooth/epoch.tens", laid_sawtooth_epoch_tens)], narrowed := true }
def EpochTellsUptoSaid : Prop := epochTellsUptoRow.holds Tryd.pinned (OpenSpec.upto epochTellsSpec)

/-- 'sawtoothlaw11.EpochRoot', WHERE WHAT IT READS IS OF BULK AT MOST 1048576: true; the input reads as it did. -/
def epochRootUptoRow : OpenClaim := { program := "ytjdccfaifdokpaadoor", sum := "57244e19b3002c4ce9a10a90d1d1ff058a1c95d64d4feb9c3673775aaf9af610", func := "sawtooth/sawtoothlaw11.EpochRoot", spec := "epochRoot", inPlace := ["math/bits.Add64", "math/bits.Sub64"], unfollowed := true, recurses := true, named := ["sawtooth/epoch.tens", "math/bits.divideError", "math/bits.overflowError"], apart := false, laid := [("sawtooth/epoch.tens", laid_sawtooth_epoch_tens)], narrowed := true }
def EpochRootUptoSaid : Prop := epochRootUptoRow.holds Tryd.pinned (OpenSpec.upto epochRootSpec)

/-- 'sawtoothlaw11.EpochRises', WHERE WHAT IT READS IS OF BULK AT MOST 1048576: true; the input reads as it did. -/
def epochRisesUptoRow : OpenClaim := { program := "ytjdccfaifdokpaadoor", sum := "57244e19b3002c4ce9a10a90d1d1ff058a1c95d64d4feb9c3673775aaf9af610", func := "sawtooth/sawtoothlaw11.EpochRises", spec := "epochRises", inPlace := ["math/bits.Add64", "math/bits.Sub64"], unfollowed := true, recurses := true, named := ["sawtooth/epoch.tens", "math/bits.divideError", "math/bits.overflowError"], apart := false, laid := [("sawtooth/epoch.tens", laid_sawtooth_epoch_tens)], narrowed := true }
def EpochRisesUptoSaid : Prop := epochRisesUptoRow.holds Tryd.pinned (OpenSpec.upto epochRisesSpec)

/-- 'sawtoothlaw11.EpochBegins', WHERE WHAT IT READS IS OF BULK AT MOST 1048576: true; the input reads as it did. -/
def epochBeginsUptoRow : OpenClaim := { program := "ytjdccfaifdokpaadoor", sum := "57244e19b3002c4ce9a10a90d1d1ff058a1c95d64d4feb9c3673775aaf9af610", func := "sawtooth/sawtoothlaw11.EpochBegins", spec := "epochBegins", inPlace := ["math/bits.Add64", "math/bits.Sub64"], unfollowed := true, recurses := true, named := ["sawtooth/epoch.tens", "math/bits.divideError", "math/bits.overflowError"], apart := false, laid := [("sawtooth/epoch.tens", laid_sawtooth_epoch_tens)], narrowed := true }
def EpochBeginsUptoSaid : Prop := epochBeginsUptoRow.holds Tryd.pinned (OpenSpec.upto epochBeginsSpec)

/-- 'sawtoothlaw11.EpochFast', WHERE WHAT IT READS IS OF BULK AT MOST 1048576: true; the input reads as it did. -/
def epochFastUptoRow : OpenClaim := { program := "ytjdccfaifdokpaadoor", sum := "57244e19b3002c4ce9a10a90d1d1ff058a1c95d64d4feb9c3673775aaf9af610", func := "sawtooth/sawtoothlaw11.EpochFast", spec := "epochFast", inPlace := ["math/bits.Add64", "math/bits.Sub64"], unfollowed := true, recurses := true, named := ["sawtooth/epoch.tens", "math/bits.divideError", "math/bits.overflowError"], apart := false, laid := [("sawtooth/epoch.tens", laid_sawtooth_epoch_tens)], narrowed := true }
def EpochFastUptoSaid : Prop := epochFastUptoRow.holds Tryd.pinned (OpenSpec.upto epochFastSpec)

/-- 'sawtoothlaw11.EpochShifts', WHERE WHAT IT READS IS OF BULK AT MOST 1048576: true; the input reads as it did. -/
def epochShiftsUptoRow : OpenClaim := { program := "ytjdccfaifdokpaadoor", sum := "57244e19b3002c4ce9a10a90d1d1ff058a1c95d64d4feb9c3673775aaf9af610", func := "sawtooth/sawtoothlaw11.EpochShifts", spec := "epochShifts", inPlace := ["math/bits.Add64", "math/bits.Sub64"], unfollowed := true, recurses := true, named := ["sawtooth/epoch.tens", "math/bits.divideError", "math/bits.overflowError"], apart := false, laid := [("sawtooth/epoch.tens", laid_sawtooth_epoch_tens)], narrowed := true }
def EpochShiftsUptoSaid : Prop := epochShiftsUptoRow.holds Tryd.pinned (OpenSpec.upto epochShiftsSpec)

/-- 'sawtoothlaw11.EpochEight', WHERE WHAT IT READS IS OF BULK AT MOST 1048576: true; the input reads as it did. -/
def epochEightUptoRow : OpenClaim := { program := "ytjdccfaifdokpaadoor", sum := "57244e19b3002c4ce9a10a90d1d1ff058a1c95d64d4feb9c3673775aaf9af610", func := "sawtooth/sawtoothlaw11.EpochEight", spec := "epochEight", inPlace := ["math/bits.Add64", "math/bits.Sub64"], unfollowed := true, recurses := true, named := ["sawtooth/epoch.tens", "math/bits.divideError", "math/bits.overflowError"], apart := false, laid := [("sawtooth/epoch.tens", laid_sawtooth_epoch_tens)], narrowed := true }
def EpochEightUptoSaid : Prop := epochEightUptoRow.holds Tryd.pinned (OpenSpec.upto epochEightSpec)

end Rows
end Go.Proofs.YtjdccfaifdokpaaDoor
