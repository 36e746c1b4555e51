/-
  NARROWER THAN 'FOR EVERY INPUT', by the rows' own cells (each row's printed sentence says how): CubicTells: laid · CubicExact: laid · CubicRises: laid · CubicEnds: laid · CubicTarget: laid · CubicReach: laid · CubicLater: laid.
  DERIVED. THE GIVEN ROWS OF THIS SEAT. 7 by the template 'for every input the law returns true; each argument reads behind the call as it read before'; 0 by the template 'total and deterministic' (their statements: YtlonfobeblnbbaaDoorTotals.lean).
  GIVEN WITH THE SEED: the statements are not yours to turn. If you find one false, say at which input.
  Laid BY PROGRAM, IN A SANDBOX (cutbox-rows.mjs): the forced cells as the released guide's own fill.sh prints them over the translation 2707658d07e11f52… (all of the seat's roots in one cut). By AI agents, Wed Nov 11 2026. No macro, syntax, notation, axiom, sorry.
-/
import Derived.Test.YtlonfobeblnbbaaDoorChecked
import GoSem.Claim
import GoSem.ClaimJoined
import GoSem.ClaimMapViews
import Derived.JoinedTies
import Derived.KernelRfl
namespace Go.Proofs.YtlonfobeblnbbaaDoor
/- THE CELL 'sum', in the pinned program and in every row, IS THE sha256 OF THE DUMP (.gsa) THAT YtlonfobeblnbbaaDoorProg.lean LOADS. Nothing in Lean hashes anything: it is a label: what it is worth is what the hold of that sum in a sandbox is worth. -/
noncomputable def Tryd.pinned : Pinned := { name := "ytlonfobeblnbbaadoor", sum := "2707658d07e11f52fecb77b8f2d03029970a05fce3b941fdfee43e30ca385129", checked := Tryd.checked }
namespace Rows
def none {H : Type} : Left H := { results := [], args := [] }

/- WHAT THE LISTED PACKAGE-LEVEL VARIABLES READ AS WHEN THE CALL BEGINS. Each datum BY PROGRAM (the guide's laid-datum.mjs) off the statement by which the dump's own 'gosem.cut.vars' lays the variable. In a bare row this is a premise. The card (YtlonfobeblnbbaaDoorCards.lean) ties it to the program's text. -/
def laid_sawtooth_epoch_tens {H : Type} : DataW H := .agg [.lit (.int .u64 10), .lit (.int .u64 1000000), .lit (.int .u64 1000000), .lit (.int .u64 1000000)]

/-- 'sawtoothlaw12.CubicTells': WHATEVER THE INPUT: true; the input reads as it did. -/
def cubicTellsSpec : ChangeSpec := { name := "cubicTells", fn := fun _ => fun
  | [d1, d2, d3, d4] => { results := [.lit (.bool true)], args := [d1, d2, d3, d4] }
  | _ => none }
def cubicTellsRow : OpenClaim := { program := "ytlonfobeblnbbaadoor", sum := "2707658d07e11f52fecb77b8f2d03029970a05fce3b941fdfee43e30ca385129", func := "sawtooth/sawtoothlaw12.CubicTells", spec := "cubicTells", inPlace := ["math/bits.Add64"], unfollowed := true, recurses := true, named := ["sawtooth/epoch.tens", "math/bits.divideError", "math/bits.overflowError"], apart := false, laid := [("sawtooth/epoch.tens", laid_sawtooth_epoch_tens)] }
def CubicTellsSaid : Prop := cubicTellsRow.holds Tryd.pinned (OpenSpec.ofChange cubicTellsSpec)

/-- ITS FALSE NEIGHBOUR: 'it returns false'. Refute it at one input. -/
def cubicTellsWrong : ChangeSpec := { name := "cubicTells", fn := fun _ => fun
  | [d1, d2, d3, d4] => { results := [.lit (.bool false)], args := [d1, d2, d3, d4] }
  | _ => none }
def CubicTellsWrongFalsely : Prop := cubicTellsRow.holds Tryd.pinned (OpenSpec.ofChange cubicTellsWrong)

/-- 'sawtoothlaw12.CubicExact': WHATEVER THE INPUT: true; the input reads as it did. -/
def cubicExactSpec : ChangeSpec := { name := "cubicExact", fn := fun _ => fun
  | [d] => { results := [.lit (.bool true)], args := [d] }
  | _ => none }
def cubicExactRow : OpenClaim := { program := "ytlonfobeblnbbaadoor", sum := "2707658d07e11f52fecb77b8f2d03029970a05fce3b941fdfee43e30ca385129", func := "sawtooth/sawtoothlaw12.CubicExact", spec := "cubicExact", inPlace := ["math/bits.Add64"], unfollowed := true, recurses := true, named := ["sawtooth/epoch.tens", "math/bits.divideError", "math/bits.overflowError"], apart := false, laid := [("sawtooth/epoch.tens", laid_sawtooth_epoch_tens)] }
def CubicExactSaid : Prop := cubicExactRow.holds Tryd.pinned (OpenSpec.ofChange cubicExactSpec)

/-- ITS FALSE NEIGHBOUR: 'it returns false'. Refute it at one input. -/
def cubicExactWrong : ChangeSpec := { name := "cubicExact", fn := fun _ => fun
  | [d] => { results := [.lit (.bool false)], args := [d] }
  | _ => none }
def CubicExactWrongFalsely : Prop := cubicExactRow.holds Tryd.pinned (OpenSpec.ofChange cubicExactWrong)

/-- 'sawtoothlaw12.CubicRises': WHATEVER THE INPUT: true; the input reads as it did. -/
def cubicRisesSpec : ChangeSpec := { name := "cubicRises", fn := fun _ => fun
  | [d1, d2, d3] => { results := [.lit (.bool true)], args := [d1, d2, d3] }
  | _ => none }
def cubicRisesRow : OpenClaim := { program := "ytlonfobeblnbbaadoor", sum := "2707658d07e11f52fecb77b8f2d03029970a05fce3b941fdfee43e30ca385129", func := "sawtooth/sawtoothlaw12.CubicRises", spec := "cubicRises", inPlace := ["math/bits.Add64"], unfollowed := true, recurses := true, named := ["sawtooth/epoch.tens", "math/bits.divideError", "math/bits.overflowError"], apart := false, laid := [("sawtooth/epoch.tens", laid_sawtooth_epoch_tens)] }
def CubicRisesSaid : Prop := cubicRisesRow.holds Tryd.pinned (OpenSpec.ofChange cubicRisesSpec)

/-- ITS FALSE NEIGHBOUR: 'it returns false'. Refute it at one input. -/
def cubicRisesWrong : ChangeSpec := { name := "cubicRises", fn := fun _ => fun
  | [d1, d2, d3] => { results := [.lit (.bool false)], args := [d1, d2, d3] }
  | _ => none }
def CubicRisesWrongFalsely : Prop := cubicRisesRow.holds Tryd.pinned (OpenSpec.ofChange cubicRisesWrong)

/-- 'sawtoothlaw12.CubicEnds': WHATEVER THE INPUT: true; the input reads as it did. -/
def cubicEndsSpec : ChangeSpec := { name := "cubicEnds", fn := fun _ => fun
  | [d1, d2, d3, d4] => { results := [.lit (.bool true)], args := [d1, d2, d3, d4] }
  | _ => none }
def cubicEndsRow : OpenClaim := { program := "ytlonfobeblnbbaadoor", sum := "2707658d07e11f52fecb77b8f2d03029970a05fce3b941fdfee43e30ca385129", func := "sawtooth/sawtoothlaw12.CubicEnds", spec := "cubicEnds", inPlace := ["math/bits.Add64"], unfollowed := true, recurses := true, named := ["sawtooth/epoch.tens", "math/bits.divideError", "math/bits.overflowError"], apart := false, laid := [("sawtooth/epoch.tens", laid_sawtooth_epoch_tens)] }
def CubicEndsSaid : Prop := cubicEndsRow.holds Tryd.pinned (OpenSpec.ofChange cubicEndsSpec)

/-- ITS FALSE NEIGHBOUR: 'it returns false'. Refute it at one input. -/
def cubicEndsWrong : ChangeSpec := { name := "cubicEnds", fn := fun _ => fun
  | [d1, d2, d3, d4] => { results := [.lit (.bool false)], args := [d1, d2, d3, d4] }
  | _ => none }
def CubicEndsWrongFalsely : Prop := cubicEndsRow.holds Tryd.pinned (OpenSpec.ofChange cubicEndsWrong)

/-- 'sawtoothlaw12.CubicTarget': WHATEVER THE INPUT: true; the input reads as it did. -/
def cubicTargetSpec : ChangeSpec := { name := "cubicTarget", fn := fun _ => fun
  | [d1, d2, d3] => { results := [.lit (.bool true)], args := [d1, d2, d3] }
  | _ => none }
def cubicTargetRow : OpenClaim := { program := "ytlonfobeblnbbaadoor", sum := "2707658d07e11f52fecb77b8f2d03029970a05fce3b941fdfee43e30ca385129", func := "sawtooth/sawtoothlaw12.CubicTarget", spec := "cubicTarget", inPlace := ["math/bits.Add64"], unfollowed := true, recurses := true, named := ["sawtooth/epoch.tens", "math/bits.divideError", "math/bits.overflowError"], apart := false, laid := [("sawtooth/epoch.tens", laid_sawtooth_epoch_tens)] }
def CubicTargetSaid : Prop := cubicTargetRow.holds Tryd.pinned (OpenSpec.ofChange cubicTargetSpec)

/-- ITS FALSE NEIGHBOUR: 'it returns false'. Refute it at one input. -/
def cubicTargetWrong : ChangeSpec := { name := "cubicTarget", fn := fun _ => fun
  | [d1, d2, d3] => { results := [.lit (.bool false)], args := [d1, d2, d3] }
  | _ => none }
def CubicTargetWrongFalsely : Prop := cubicTargetRow.holds Tryd.pinned (OpenSpec.ofChange cubicTargetWrong)

/-- 'sawtoothlaw12.CubicReach': WHATEVER THE INPUT: true; the input reads as it did. -/
def cubicReachSpec : ChangeSpec := { name := "cubicReach", fn := fun _ => fun
  | [d1, d2, d3] => { results := [.lit (.bool true)], args := [d1, d2, d3] }
  | _ => none }
def cubicReachRow : OpenClaim := { program := "ytlonfobeblnbbaadoor", sum := "2707658d07e11f52fecb77b8f2d03029970a05fce3b941fdfee43e30ca385129", func := "sawtooth/sawtoothlaw12.CubicReach", spec := "cubicReach", inPlace := ["math/bits.Add64"], unfollowed := true, recurses := true, named := ["sawtooth/epoch.tens", "math/bits.divideError", "math/bits.overflowError"], apart := false, laid := [("sawtooth/epoch.tens", laid_sawtooth_epoch_tens)] }
def CubicReachSaid : Prop := cubicReachRow.holds Tryd.pinned (OpenSpec.ofChange cubicReachSpec)

/-- ITS FALSE NEIGHBOUR: 'it returns false'. Refute it at one input. -/
def cubicReachWrong : ChangeSpec := { name := "cubicReach", fn := fun _ => fun
  | [d1, d2, d3] => { results := [.lit (.bool false)], args := [d1, d2, d3] }
  | _ => none }
def CubicReachWrongFalsely : Prop := cubicReachRow.holds Tryd.pinned (OpenSpec.ofChange cubicReachWrong)

/-- 'sawtoothlaw12.CubicLater': WHATEVER THE INPUT: true; the input reads as it did. -/
def cubicLaterSpec : ChangeSpec := { name := "cubicLater", fn := fun _ => fun
  | [d1, d2, d3, d4, d5, d6] => { results := [.lit (.bool true)], args := [d1, d2, d3, d4, d5, d6] }
  | _ => none }
def cubicLaterRow : OpenClaim := { program := "ytlonfobeblnbbaadoor", sum := "2707658d07e11f52fecb77b8f2d03029970a05fce3b941fdfee43e30ca385129", func := "sawtooth/sawtoothlaw12.CubicLater", spec := "cubicLater", inPlace := ["math/bits.Add64"], unfollowed := true, recurses := true, named := ["sawtooth/epoch.tens", "math/bits.divideError", "math/bits.overflowError"], apart := false, laid := [("sawtooth/epoch.tens", laid_sawtooth_epoch_tens)] }
def CubicLaterSaid : Prop := cubicLaterRow.holds Tryd.pinned (OpenSpec.ofChange cubicLaterSpec)

/-- ITS FALSE NEIGHBOUR: 'it returns false'. Refute it at one input. -/
def cubicLaterWrong : ChangeSpec := { name := "cubicLater", fn := fun _ => fun
  | [d1, d2, d3, d4, d5, d6] => { results := [.lit (.bool false)], args := [d1, d2, d3, d4, d5, d6] }
  | _ => none }
def CubicLaterWrongFalsely : Prop := cubicLaterRow.holds Tryd.pinned (OpenSpec.ofChange cubicLaterWrong)

/- THE SECOND FORM. 'bulk': how many values and letters a reading holds, each counted each time it is reached (what is shared counts as often as it is met; a slice's spare places count too). A statement '..UptoSaid' is the law's where the arguments, and the package variables that the reading takes, are together of bulk at most 1048576: NARROWER than '..Said'. Prove '..Said' where nothing that the law and all that it calls make is longer than what came in: it says more and counts as full. Else prove '..UptoSaid'. A law counts once. -/
mutual
def uptoBulk {H : Type} : DataW H → Nat
  | .lit (.string bytes) => bytes.length + 1
  | .lit _ => 1
  | .nil => 1
  | .ptr d => uptoBulk d + 1
  | .slice elems spare => uptoBulkAll elems + uptoBulkAll spare + 1
  | .agg parts => uptoBulkAll parts + 1
  | .iface _ d => uptoBulk d + 1
  | .map entries => uptoBulkEntries entries + 1
  | .held _ => 1
def uptoBulkAll {H : Type} : List (DataW H) → Nat
  | [] => 0
  | d :: r => uptoBulk d + uptoBulkAll r
def uptoBulkEntries {H : Type} : List (Lit × DataW H) → Nat
  | [] => 0
  | x :: r => uptoBulkEntry x + uptoBulkEntries r
def uptoBulkEntry {H : Type} : Lit × DataW H → Nat
  | (.string bytes, d) => bytes.length + uptoBulk d + 1
  | (_, d) => uptoBulk d + 1
 end
def uptoSmall : (H : Type) → List (DataW H) → Bool := fun _ ds => decide (uptoBulkAll ds ≤ 1048576)
def OpenSpec.upto (s : _root_.Go.ChangeSpec) : _root_.Go.OpenSpec := { _root_.Go.OpenSpec.ofChange s with cond := some uptoSmall }

/-- 'sawtoothlaw12.CubicTells', WHERE WHAT IT READS IS OF BULK AT MOST 1048576: true; the input reads as it did. -/
def cubicTellsUptoRow : OpenClaim := { program := "ytlonfobeblnbbaadoor", sum := "2707658d07e11f52fecb77b8f2d03029970a05fce3b941fdfee43e30ca385129", func := "sawtooth/sawtoothlaw12.CubicTells", spec := "cubicTells", inPlace := ["math/bits.Add64"], unfollowed := true, recurses := true, named := ["sawtooth/epoch.tens", "math/bits.divideError", "math/bits.overflowError"], apart := false, laid := [("sawtooth/epoch.tens", laid_sawtooth_epoch_tens)], narrowed := true }
def CubicTellsUptoSaid : Prop := cubicTellsUptoRow.holds Tryd.pinned (OpenSpec.upto cubicTellsSpec)

/-- 'sawtoothlaw12.CubicExact', WHERE WHAT IT READS IS OF BULK AT MOST 1048576: true; the input reads as it did. -/
def cubicExactUptoRow : OpenClaim := { program := "ytlonfobeblnbbaadoor", sum := "2707658d07e11f52fecb77b8f2d03029970a05fce3b941fdfee43e30ca385129", func := "sawtooth/sawtoothlaw12.CubicExact", spec := "cubicExact", inPlace := ["math/bits.Add64"], unfollowed := true, recurses := true, named := ["sawtooth/epoch.tens", "math/bits.divideError", "math/bits.overflowError"], apart := false, laid := [("sawtooth/epoch.tens", laid_sawtooth_epoch_tens)], narrowed := true }
def CubicExactUptoSaid : Prop := cubicExactUptoRow.holds Tryd.pinned (OpenSpec.upto cubicExactSpec)

/-- 'sawtoothlaw12.CubicRises', WHERE WHAT IT READS IS OF BULK AT MOST 1048576: true; the input reads as it did. -/
def cubicRisesUptoRow : OpenClaim := { program := "ytlonfobeblnbbaadoor", sum := "2707658d07e11f52fecb77b8f2d03029970a05fce3b941fdfee43e30ca385129", func := "sawtooth/sawtoothlaw12.CubicRises", spec := "cubicRises", inPlace := ["math/bits.Add64"], unfollowed := true, recurses := true, named := ["sawtooth/epoch.tens", "math/bits.divideError", "math/bits.overflowError"], apart := false, laid := [("sawtooth/epoch.tens", laid_sawtooth_epoch_tens)], narrowed := true }
def CubicRisesUptoSaid : Prop := cubicRisesUptoRow.holds Tryd.pinned (OpenSpec.upto cubicRisesSpec)

/-- 'sawtoothlaw12.CubicEnds', WHERE WHAT IT READS IS OF BULK AT MOST 1048576: true; the input reads as it did. -/
def cubicEndsUptoRow : OpenClaim := { program := "ytlonfobeblnbbaadoor", sum := "2707658d07e11f52fecb77b8f2d03029970a05fce3b941fdfee43e30ca385129", func := "sawtooth/sawtoothlaw12.CubicEnds", spec := "cubicEnds", inPlace := ["math/bits.Add64"], unfollowed := true, recurses := true, named := ["sawtooth/epoch.tens", "math/bits.divideError", "math/bits.overflowError"], apart := false, laid := [("sawtooth/epoch.tens", laid_sawtooth_epoch_tens)], narrowed := true }
def CubicEndsUptoSaid : Prop := cubicEndsUptoRow.holds Tryd.pinned (OpenSpec.upto cubicEndsSpec)

/-- 'sawtoothlaw12.CubicTarget', WHERE WHAT IT READS IS OF BULK AT MOST 1048576: true; the input reads as it did. -/
def cubicTargetUptoRow : OpenClaim := { program := "ytlonfobeblnbbaadoor", sum := "2707658d07e11f52fecb77b8f2d03029970a05fce3b941fdfee43e30ca385129", func := "sawtooth/sawtoothlaw12.CubicTarget", spec := "cubicTarget", inPlace := ["math/bits.Add64"], unfollowed := true, recurses := true, named := ["sawtooth/epoch.tens", "math/bits.divideError", "math/bits.overflowError"], apart := false, laid := [("sawtooth/epoch.tens", laid_sawtooth_epoch_tens)], narrowed := true }
def CubicTargetUptoSaid : Prop := cubicTargetUptoRow.holds Tryd.pinned (OpenSpec.upto cubicTargetSpec)

/-- 'sawtoothlaw12.CubicReach', WHERE WHAT IT READS IS OF BULK AT MOST 1048576: true; the input reads as it did. -/
def cubicReachUptoRow : OpenClaim := { program := "ytlonfobeblnbbaadoor", sum := "2707658d07e11f52fecb77b8f2d03029970a05fce3b941fdfee43e30ca385129", func := "sawtooth/sawtoothlaw12.CubicReach", spec := "cubicReach", inPlace := ["math/bits.Add64"], unfollowed := true, recurses := true, named := ["sawtooth/epoch.tens", "math/bits.divideError", "math/bits.overflowError"], apart := false, laid := [("sawtooth/epoch.tens", laid_sawtooth_epoch_tens)], narrowed := true }
def CubicReachUptoSaid : Prop := cubicReachUptoRow.holds Tryd.pinned (OpenSpec.upto cubicReachSpec)

/-- 'sawtoothlaw12.CubicLater', WHERE WHAT IT READS IS OF BULK AT MOST 1048576: true; the input reads as it did. -/
def cubicLaterUptoRow : OpenClaim := { program := "ytlonfobeblnbbaadoor", sum := "2707658d07e11f52fecb77b8f2d03029970a05fce3b941fdfee43e30ca385129", func := "sawtooth/sawtoothlaw12.CubicLater", spec := "cubicLater", inPlace := ["math/bits.Add64"], unfollowed := true, recurses := true, named := ["sawtooth/epoch.tens", "math/bits.divideError", "math/bits.overflowError"], apart := false, laid := [("sawtooth/epoch.tens", laid_sawtooth_epoch_tens)], narrowed := true }
def CubicLaterUptoSaid : Prop := cubicLaterUptoRow.holds Tryd.pinned (OpenSpec.upto cubicLaterSpec)

end Rows
end Go.Proofs.YtlonfobeblnbbaaDoor
