/-
  NARROWER THAN 'FOR EVERY INPUT', by the rows' own cells (each row's printed sentence says how): GuideTells: laid · GuideIdle: laid · GuidePause: laid · GuideUsed: laid · GuideChecks: laid · GuideParts: laid.
  DERIVED. THE GIVEN ROWS OF THIS SEAT. 6 by the template 'for every input the law returns true; each argument reads behind the call as it read before'; 0 by the template 'total and deterministic' (their statements: YtdbikeehoildlaaDoorTotals.lean).
  GIVEN WITH THE SEED: the statements are not yours to turn. If you find one false, say at which input.
  Laid BY PROGRAM, IN A SANDBOX (cutbox-rows.mjs): the forced cells as the released guide's own fill.sh prints them over the translation 751f9f74d1be4a61… (all of the seat's roots in one cut). By AI agents, Wed Nov 11 2026. No macro, syntax, notation, axiom, sorry.
-/
import Derived.Test.YtdbikeehoildlaaDoorChecked
import GoSem.Claim
import GoSem.ClaimJoined
import GoSem.ClaimMapViews
import Derived.JoinedTies
import Derived.KernelRfl
namespace Go.Proofs.YtdbikeehoildlaaDoor
/- THE CELL 'sum', in the pinned program and in every row, IS THE sha256 OF THE DUMP (.gsa) THAT YtdbikeehoildlaaDoorProg.lean LOADS. Nothing in Lean hashes anything: it is a label: what it is worth is what the hold of that sum in a sandbox is worth. -/
noncomputable def Tryd.pinned : Pinned := { name := "ytdbikeehoildlaadoor", sum := "751f9f74d1be4a61e03adddc6aa8132c4b3e3fadd1ad702ab1ef425f6c0bf295", checked := Tryd.checked }
namespace Rows
def none {H : Type} : Left H := { results := [], args := [] }

/- WHAT THE LISTED PACKAGE-LEVEL VARIABLES READ AS WHEN THE CALL BEGINS. Each datum BY PROGRAM (the guide's laid-datum.mjs) off the statement by which the dump's own 'gosem.cut.vars' lays the variable. In a bare row this is a premise. The card (YtdbikeehoildlaaDoorCards.lean) ties it to the program's text. -/
def laid_sawtooth_epoch_tens {H : Type} : DataW H := .agg [.lit (.int .u64 10), .lit (.int .u64 1000000), .lit (.int .u64 1000000), .lit (.int .u64 1000000)]

/-- 'sawtoothlaw19.GuideTells': WHATEVER THE INPUT: true; the input reads as it did. -/
def guideTellsSpec : ChangeSpec := { name := "guideTells", fn := fun _ => fun
  | [d1, d2, d3, d4, d5, d6, d7] => { results := [.lit (.bool true)], args := [d1, d2, d3, d4, d5, d6, d7] }
  | _ => none }
def guideTellsRow : OpenClaim := { program := "ytdbikeehoildlaadoor", sum := "751f9f74d1be4a61e03adddc6aa8132c4b3e3fadd1ad702ab1ef425f6c0bf295", func := "sawtooth/sawtoothlaw19.GuideTells", spec := "guideTells", inPlace := ["math/bits.Add64"], unfollowed := true, recurses := true, named := ["sawtooth/epoch.tens", "math/bits.divideError", "math/bits.overflowError"], apart := false, laid := [("sawtooth/epoch.tens", laid_sawtooth_epoch_tens)] }
def GuideTellsSaid : Prop := guideTellsRow.holds Tryd.pinned (OpenSpec.ofChange guideTellsSpec)

/-- ITS FALSE NEIGHBOUR: 'it returns false'. Refute it at one input. -/
def guideTellsWrong : ChangeSpec := { name := "guideTells", fn := fun _ => fun
  | [d1, d2, d3, d4, d5, d6, d7] => { results := [.lit (.bool false)], args := [d1, d2, d3, d4, d5, d6, d7] }
  | _ => none }
def GuideTellsWrongFalsely : Prop := guideTellsRow.holds Tryd.pinned (OpenSpec.ofChange guideTellsWrong)

/-- 'sawtoothlaw19.GuideIdle': WHATEVER THE INPUT: true; the input reads as it did. -/
def guideIdleSpec : ChangeSpec := { name := "guideIdle", fn := fun _ => fun
  | [d1, d2, d3, d4, d5] => { results := [.lit (.bool true)], args := [d1, d2, d3, d4, d5] }
  | _ => none }
def guideIdleRow : OpenClaim := { program := "ytdbikeehoildlaadoor", sum := "751f9f74d1be4a61e03adddc6aa8132c4b3e3fadd1ad702ab1ef425f6c0bf295", func := "sawtooth/sawtoothlaw19.GuideIdle", spec := "guideIdle", inPlace := ["math/bits.Add64"], unfollowed := true, recurses := true, named := ["sawtooth/epoch.tens", "math/bits.divideError", "math/bits.overflowError"], apart := false, laid := [("sawtooth/epoch.tens", laid_sawtooth_epoch_tens)] }
def GuideIdleSaid : Prop := guideIdleRow.holds Tryd.pinned (OpenSpec.ofChange guideIdleSpec)

/-- ITS FALSE NEIGHBOUR: 'it returns false'. Refute it at one input. -/
def guideIdleWrong : ChangeSpec := { name := "guideIdle", fn := fun _ => fun
  | [d1, d2, d3, d4, d5] => { results := [.lit (.bool false)], args := [d1, d2, d3, d4, d5] }
  | _ => none }
def GuideIdleWrongFalsely : Prop := guideIdleRow.holds Tryd.pinned (OpenSpec.ofChange guideIdleWrong)

/-- 'sawtoothlaw19.GuidePause': WHATEVER THE INPUT: true; the input reads as it did. -/
def guidePauseSpec : ChangeSpec := { name := "guidePause", fn := fun _ => fun
  | [d1, d2, d3] => { results := [.lit (.bool true)], args := [d1, d2, d3] }
  | _ => none }
def guidePauseRow : OpenClaim := { program := "ytdbikeehoildlaadoor", sum := "751f9f74d1be4a61e03adddc6aa8132c4b3e3fadd1ad702ab1ef425f6c0bf295", func := "sawtooth/sawtoothlaw19.GuidePause", spec := "guidePause", inPlace := ["math/bits.Add64"], unfollowed := true, recurses := true, named := ["sawtooth/epoch.tens", "math/bits.divideError", "math/bits.overflowError"], apart := false, laid := [("sawtooth/epoch.tens", laid_sawtooth_epoch_tens)] }
def GuidePauseSaid : Prop := guidePauseRow.holds Tryd.pinned (OpenSpec.ofChange guidePauseSpec)

/-- ITS FALSE NEIGHBOUR: 'it returns false'. Refute it at one input. -/
def guidePauseWrong : ChangeSpec := { name := "guidePause", fn := fun _ => fun
  | [d1, d2, d3] => { results := [.lit (.bool false)], args := [d1, d2, d3] }
  | _ => none }
def GuidePauseWrongFalsely : Prop := guidePauseRow.holds Tryd.pinned (OpenSpec.ofChange guidePauseWrong)

/-- 'sawtoothlaw19.GuideUsed': WHATEVER THE INPUT: true; the input reads as it did. -/
def guideUsedSpec : ChangeSpec := { name := "guideUsed", fn := fun _ => fun
  | [d1, d2, d3, d4] => { results := [.lit (.bool true)], args := [d1, d2, d3, d4] }
  | _ => none }
def guideUsedRow : OpenClaim := { program := "ytdbikeehoildlaadoor", sum := "751f9f74d1be4a61e03adddc6aa8132c4b3e3fadd1ad702ab1ef425f6c0bf295", func := "sawtooth/sawtoothlaw19.GuideUsed", spec := "guideUsed", inPlace := ["math/bits.Add64"], unfollowed := true, recurses := true, named := ["sawtooth/epoch.tens", "math/bits.divideError", "math/bits.overflowError"], apart := false, laid := [("sawtooth/epoch.tens", laid_sawtooth_epoch_tens)] }
def GuideUsedSaid : Prop := guideUsedRow.holds Tryd.pinned (OpenSpec.ofChange guideUsedSpec)

/-- ITS FALSE NEIGHBOUR: 'it returns false'. Refute it at one input. -/
def guideUsedWrong : ChangeSpec := { name := "guideUsed", fn := fun _ => fun
  | [d1, d2, d3, d4] => { results := [.lit (.bool false)], args := [d1, d2, d3, d4] }
  | _ => none }
def GuideUsedWrongFalsely : Prop := guideUsedRow.holds Tryd.pinned (OpenSpec.ofChange guideUsedWrong)

/-- 'sawtoothlaw19.GuideChecks': WHATEVER THE INPUT: true; the input reads as it did. -/
def guideChecksSpec : ChangeSpec := { name := "guideChecks", fn := fun _ => fun
  | [d1, d2, d3] => { results := [.lit (.bool true)], args := [d1, d2, d3] }
  | _ => none }
def guideChecksRow : OpenClaim := { program := "ytdbikeehoildlaadoor", sum := "751f9f74d1be4a61e03adddc6aa8132c4b3e3fadd1ad702ab1ef425f6c0bf295", func := "sawtooth/sawtoothlaw19.GuideChecks", spec := "guideChecks", inPlace := ["math/bits.Add64"], unfollowed := true, recurses := true, named := ["sawtooth/epoch.tens", "math/bits.divideError", "math/bits.overflowError"], apart := false, laid := [("sawtooth/epoch.tens", laid_sawtooth_epoch_tens)] }
def GuideChecksSaid : Prop := guideChecksRow.holds Tryd.pinned (OpenSpec.ofChange guideChecksSpec)

/-- ITS FALSE NEIGHBOUR: 'it returns false'. Refute it at one input. -/
def guideChecksWrong : ChangeSpec := { name := "guideChecks", fn := fun _ => fun
  | [d1, d2, d3] => { results := [.lit (.bool false)], args := [d1, d2, d3] }
  | _ => none }
def GuideChecksWrongFalsely : Prop := guideChecksRow.holds Tryd.pinned (OpenSpec.ofChange guideChecksWrong)

/-- 'sawtoothlaw19.GuideParts': WHATEVER THE INPUT: true; the input reads as it did. -/
def guidePartsSpec : ChangeSpec := { name := "guideParts", fn := fun _ => fun
  | [d] => { results := [.lit (.bool true)], args := [d] }
  | _ => none }
def guidePartsRow : OpenClaim := { program := "ytdbikeehoildlaadoor", sum := "751f9f74d1be4a61e03adddc6aa8132c4b3e3fadd1ad702ab1ef425f6c0bf295", func := "sawtooth/sawtoothlaw19.GuideParts", spec := "guideParts", inPlace := ["math/bits.Add64"], unfollowed := true, recurses := true, named := ["sawtooth/epoch.tens", "math/bits.divideError", "math/bits.overflowError"], apart := false, laid := [("sawtooth/epoch.tens", laid_sawtooth_epoch_tens)] }
def GuidePartsSaid : Prop := guidePartsRow.holds Tryd.pinned (OpenSpec.ofChange guidePartsSpec)

/-- ITS FALSE NEIGHBOUR: 'it returns false'. Refute it at one input. -/
def guidePartsWrong : ChangeSpec := { name := "guideParts", fn := fun _ => fun
  | [d] => { results := [.lit (.bool false)], args := [d] }
  | _ => none }
def GuidePartsWrongFalsely : Prop := guidePartsRow.holds Tryd.pinned (OpenSpec.ofChange guidePartsWrong)

/- THE SECOND FORM. 'bulk': how many values and letters a reading holds, each counted each time it is reached (what is shared counts as often as it is met; a slice's spare places count too). A statement '..UptoSaid' is the law's where the arguments, and the package variables that the reading takes, are together of bulk at most 1048576: NARROWER than '..Said'. Prove '..Said' where nothing that the law and all that it calls make is longer than what came in: it says more and counts as full. Else prove '..UptoSaid'. A law counts once. -/
mutual
def uptoBulk {H : Type} : DataW H → Nat
  | .lit (.string bytes) => bytes.length + 1
  | .lit _ => 1
  | .nil => 1
  | .ptr d => uptoBulk d + 1
  | .slice elems spare => uptoBulkAll elems + uptoBulkAll spare + 1
  | .agg parts => uptoBulkAll parts + 1
  | .iface _ d => uptoBulk d + 1
  | .map entries => uptoBulkEntries entries + 1
  | .held _ => 1
def uptoBulkAll {H : Type} : List (DataW H) → Nat
  | [] => 0
  | d :: r => uptoBulk d + uptoBulkAll r
def uptoBulkEntries {H : Type} : List (Lit × DataW H) → Nat
  | [] => 0
  | x :: r => uptoBulkEntry x + uptoBulkEntries r
def uptoBulkEntry {H : Type} : Lit × DataW H → Nat
  | (.string bytes, d) => bytes.length + uptoBulk d + 1
  | (_, d) => uptoBulk d + 1
 end
def uptoSmall : (H : Type) → List (DataW H) → Bool := fun _ ds => decide (uptoBulkAll ds ≤ 1048576)
def OpenSpec.upto (s : _root_.Go.ChangeSpec) : _root_.Go.OpenSpec := { _root_.Go.OpenSpec.ofChange s with cond := some uptoSmall }

/-- 'sawtoothlaw19.GuideTells', WHERE WHAT IT READS IS OF BULK AT MOST 1048576: true; the input reads as it did. -/
def guideTellsUptoRow : OpenClaim := { program := "ytdbikeehoildlaadoor", sum := "751f9f74d1be4a61e03adddc6aa8132c4b3e3fadd1ad702ab1ef425f6c0bf295", func := "sawtooth/sawtoothlaw19.GuideTells", spec := "guideTells", inPlace := ["math/bits.Add64"], unfollowed := true, recurses := true, named := ["sawtooth/epoch.tens", "math/bits.divideError", "math/bits.overflowError"], apart := false, laid := [("sawtooth/epoch.tens", laid_sawtooth_epoch_tens)], narrowed := true }
def GuideTellsUptoSaid : Prop := guideTellsUptoRow.holds Tryd.pinned (OpenSpec.upto guideTellsSpec)

/-- 'sawtoothlaw19.GuideIdle', WHERE WHAT IT READS IS OF BULK AT MOST 1048576: true; the input reads as it did. -/
def guideIdleUptoRow : OpenClaim := { program := "ytdbikeehoildlaadoor", sum := "751f9f74d1be4a61e03adddc6aa8132c4b3e3fadd1ad702ab1ef425f6c0bf295", func := "sawtooth/sawtoothlaw19.GuideIdle", spec := "guideIdle", inPlace := ["math/bits.Add64"], unfollowed := true, recurses := true, named := ["sawtooth/epoch.tens", "math/bits.divideError", "math/bits.overflowError"], apart := false, laid := [("sawtooth/epoch.tens", laid_sawtooth_epoch_tens)], narrowed := true }
def GuideIdleUptoSaid : Prop := guideIdleUptoRow.holds Tryd.pinned (OpenSpec.upto guideIdleSpec)

/-- 'sawtoothlaw19.GuidePause', WHERE WHAT IT READS IS OF BULK AT MOST 1048576: true; the input reads as it did. -/
def guidePauseUptoRow : OpenClaim := { program := "ytdbikeehoildlaadoor", sum := "751f9f74d1be4a61e03adddc6aa8132c4b3e3fadd1ad702ab1ef425f6c0bf295", func := "sawtooth/sawtoothlaw19.GuidePause", spec := "guidePause", inPlace := ["math/bits.Add64"], unfollowed := true, recurses := true, named := ["sawtooth/epoch.tens", "math/bits.divideError", "math/bits.overflowError"], apart := false, laid := [("sawtooth/epoch.tens", laid_sawtooth_epoch_tens)], narrowed := true }
def GuidePauseUptoSaid : Prop := guidePauseUptoRow.holds Tryd.pinned (OpenSpec.upto guidePauseSpec)

/-- 'sawtoothlaw19.GuideUsed', WHERE WHAT IT READS IS OF BULK AT MOST 1048576: true; the input reads as it did. -/
def guideUsedUptoRow : OpenClaim := { program := "ytdbikeehoildlaadoor", sum := "751f9f74d1be4a61e03adddc6aa8132c4b3e3fadd1ad702ab1ef425f6c0bf295", func := "sawtooth/sawtoothlaw19.GuideUsed", spec := "guideUsed", inPlace := ["math/bits.Add64"], unfollowed := true, recurses := true, named := ["sawtooth/epoch.tens", "math/bits.divideError", "math/bits.overflowError"], apart := false, laid := [("sawtooth/epoch.tens", laid_sawtooth_epoch_tens)], narrowed := true }
def GuideUsedUptoSaid : Prop := guideUsedUptoRow.holds Tryd.pinned (OpenSpec.upto guideUsedSpec)

/-- 'sawtoothlaw19.GuideChecks', WHERE WHAT IT READS IS OF BULK AT MOST 1048576: true; the input reads as it did. -/
def guideChecksUptoRow : OpenClaim := { program := "ytdbikeehoildlaadoor", sum := "751f9f74d1be4a61e03adddc6aa8132c4b3e3fadd1ad702ab1ef425f6c0bf295", func := "sawtooth/sawtoothlaw19.GuideChecks", spec := "guideChecks", inPlace := ["math/bits.Add64"], unfollowed := true, recurses := true, named := ["sawtooth/epoch.tens", "math/bits.divideError", "math/bits.overflowError"], apart := false, laid := [("sawtooth/epoch.tens", laid_sawtooth_epoch_tens)], narrowed := true }
def GuideChecksUptoSaid : Prop := guideChecksUptoRow.holds Tryd.pinned (OpenSpec.upto guideChecksSpec)

/-- 'sawtoothlaw19.GuideParts', WHERE WHAT IT READS IS OF BULK AT MOST 1048576: true; the input reads as it did. -/
def guidePartsUptoRow : OpenClaim := { program := "ytdbikeehoildlaadoor", sum := "751f9f74d1be4a61e03adddc6aa8132c4b3e3fadd1ad702ab1ef425f6c0bf295", func := "sawtooth/sawtoothlaw19.GuideParts", spec := "guideParts", inPlace := ["math/bits.Add64"], unfollowed := true, recurses := true, named := ["sawtooth/epoch.tens", "math/bits.divideError", "math/bits.overflowError"], apart := false, laid := [("sawtooth/epoch.tens", laid_sawtooth_epoch_tens)], narrowed := true }
def GuidePartsUptoSaid : Prop := guidePartsUptoRow.holds Tryd.pinned (OpenSpec.upto guidePartsSpec)

end Rows
end Go.Proofs.YtdbikeehoildlaaDoor
