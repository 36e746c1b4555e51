/-
  No cell of these rows narrows 'for every input' (looked for: loops, veiled, ifaces, maps, wideKeys, modest, calm, conditions, laid).
  DERIVED. THE GIVEN ROWS OF THIS SEAT. 6 by the template 'for every input the law returns true; each argument reads behind the call as it read before'; 0 by the template 'total and deterministic' (their statements: YtpbchcpbjflnoaaTotals.lean).
  GIVEN WITH THE SEED: the statements are not yours to turn. If you find one false, say at which input.
  Laid BY PROGRAM, IN A SANDBOX (cutbox-rows.mjs): the forced cells as the released guide's own fill.sh prints them over the translation d44d4dbc556720fe… (all of the seat's roots in one cut). By AI agents, Wed Nov 11 2026. No macro, syntax, notation, axiom, sorry.
-/
import Derived.Test.YtpbchcpbjflnoaaChecked
import GoSem.Claim
import GoSem.ClaimJoined
import GoSem.ClaimMapViews
import Derived.JoinedTies
import Derived.KernelRfl
namespace Go.Proofs.Ytpbchcpbjflnoaa
/- THE CELL 'sum', in the pinned program and in every row, IS THE sha256 OF THE DUMP (.gsa) THAT YtpbchcpbjflnoaaProg.lean LOADS. Nothing in Lean hashes anything: it is a label: what it is worth is what the hold of that sum in a sandbox is worth. -/
noncomputable def Try.pinned : Pinned := { name := "ytpbchcpbjflnoaa", sum := "d44d4dbc556720fe0200443bea8d126382bfb235e0f31f2fad36255299c22e85", checked := Try.checked }
namespace Rows
def none {H : Type} : Left H := { results := [], args := [] }

/-- 'sawtoothlaw08.LeastTells': WHATEVER THE INPUT: true; the input reads as it did. -/
def leastTellsSpec : ChangeSpec := { name := "leastTells", fn := fun _ => fun
  | [d1, d2, d3, d4] => { results := [.lit (.bool true)], args := [d1, d2, d3, d4] }
  | _ => none }
def leastTellsRow : OpenClaim := { program := "ytpbchcpbjflnoaa", sum := "d44d4dbc556720fe0200443bea8d126382bfb235e0f31f2fad36255299c22e85", func := "sawtooth/sawtoothlaw08.LeastTells", spec := "leastTells", unfollowed := true, recurses := true, apart := false }
def LeastTellsSaid : Prop := leastTellsRow.holds Try.pinned (OpenSpec.ofChange leastTellsSpec)

/-- ITS FALSE NEIGHBOUR: 'it returns false'. Refute it at one input. -/
def leastTellsWrong : ChangeSpec := { name := "leastTells", fn := fun _ => fun
  | [d1, d2, d3, d4] => { results := [.lit (.bool false)], args := [d1, d2, d3, d4] }
  | _ => none }
def LeastTellsWrongFalsely : Prop := leastTellsRow.holds Try.pinned (OpenSpec.ofChange leastTellsWrong)

/-- 'sawtoothlaw08.LeastTrue': WHATEVER THE INPUT: true; the input reads as it did. -/
def leastTrueSpec : ChangeSpec := { name := "leastTrue", fn := fun _ => fun
  | [d1, d2] => { results := [.lit (.bool true)], args := [d1, d2] }
  | _ => none }
def leastTrueRow : OpenClaim := { program := "ytpbchcpbjflnoaa", sum := "d44d4dbc556720fe0200443bea8d126382bfb235e0f31f2fad36255299c22e85", func := "sawtooth/sawtoothlaw08.LeastTrue", spec := "leastTrue", unfollowed := true, recurses := true, apart := false }
def LeastTrueSaid : Prop := leastTrueRow.holds Try.pinned (OpenSpec.ofChange leastTrueSpec)

/-- ITS FALSE NEIGHBOUR: 'it returns false'. Refute it at one input. -/
def leastTrueWrong : ChangeSpec := { name := "leastTrue", fn := fun _ => fun
  | [d1, d2] => { results := [.lit (.bool false)], args := [d1, d2] }
  | _ => none }
def LeastTrueWrongFalsely : Prop := leastTrueRow.holds Try.pinned (OpenSpec.ofChange leastTrueWrong)

/-- 'sawtoothlaw08.LeastSince': WHATEVER THE INPUT: true; the input reads as it did. -/
def leastSinceSpec : ChangeSpec := { name := "leastSince", fn := fun _ => fun
  | [d1, d2, d3, d4] => { results := [.lit (.bool true)], args := [d1, d2, d3, d4] }
  | _ => none }
def leastSinceRow : OpenClaim := { program := "ytpbchcpbjflnoaa", sum := "d44d4dbc556720fe0200443bea8d126382bfb235e0f31f2fad36255299c22e85", func := "sawtooth/sawtoothlaw08.LeastSince", spec := "leastSince", unfollowed := true, recurses := true, apart := false }
def LeastSinceSaid : Prop := leastSinceRow.holds Try.pinned (OpenSpec.ofChange leastSinceSpec)

/-- ITS FALSE NEIGHBOUR: 'it returns false'. Refute it at one input. -/
def leastSinceWrong : ChangeSpec := { name := "leastSince", fn := fun _ => fun
  | [d1, d2, d3, d4] => { results := [.lit (.bool false)], args := [d1, d2, d3, d4] }
  | _ => none }
def LeastSinceWrongFalsely : Prop := leastSinceRow.holds Try.pinned (OpenSpec.ofChange leastSinceWrong)

/-- 'sawtoothlaw08.LeastRises': WHATEVER THE INPUT: true; the input reads as it did. -/
def leastRisesSpec : ChangeSpec := { name := "leastRises", fn := fun _ => fun
  | [d1, d2, d3, d4] => { results := [.lit (.bool true)], args := [d1, d2, d3, d4] }
  | _ => none }
def leastRisesRow : OpenClaim := { program := "ytpbchcpbjflnoaa", sum := "d44d4dbc556720fe0200443bea8d126382bfb235e0f31f2fad36255299c22e85", func := "sawtooth/sawtoothlaw08.LeastRises", spec := "leastRises", unfollowed := true, recurses := true, apart := false }
def LeastRisesSaid : Prop := leastRisesRow.holds Try.pinned (OpenSpec.ofChange leastRisesSpec)

/-- ITS FALSE NEIGHBOUR: 'it returns false'. Refute it at one input. -/
def leastRisesWrong : ChangeSpec := { name := "leastRises", fn := fun _ => fun
  | [d1, d2, d3, d4] => { results := [.lit (.bool false)], args := [d1, d2, d3, d4] }
  | _ => none }
def LeastRisesWrongFalsely : Prop := leastRisesRow.holds Try.pinned (OpenSpec.ofChange leastRisesWrong)

/-- 'sawtoothlaw08.LeastAlone': WHATEVER THE INPUT: true; the input reads as it did. -/
def leastAloneSpec : ChangeSpec := { name := "leastAlone", fn := fun _ => fun
  | [d] => { results := [.lit (.bool true)], args := [d] }
  | _ => none }
def leastAloneRow : OpenClaim := { program := "ytpbchcpbjflnoaa", sum := "d44d4dbc556720fe0200443bea8d126382bfb235e0f31f2fad36255299c22e85", func := "sawtooth/sawtoothlaw08.LeastAlone", spec := "leastAlone", unfollowed := true, recurses := true, apart := false }
def LeastAloneSaid : Prop := leastAloneRow.holds Try.pinned (OpenSpec.ofChange leastAloneSpec)

/-- ITS FALSE NEIGHBOUR: 'it returns false'. Refute it at one input. -/
def leastAloneWrong : ChangeSpec := { name := "leastAlone", fn := fun _ => fun
  | [d] => { results := [.lit (.bool false)], args := [d] }
  | _ => none }
def LeastAloneWrongFalsely : Prop := leastAloneRow.holds Try.pinned (OpenSpec.ofChange leastAloneWrong)

/-- 'sawtoothlaw08.LeastLater': WHATEVER THE INPUT: true; the input reads as it did. -/
def leastLaterSpec : ChangeSpec := { name := "leastLater", fn := fun _ => fun
  | [d1, d2, d3] => { results := [.lit (.bool true)], args := [d1, d2, d3] }
  | _ => none }
def leastLaterRow : OpenClaim := { program := "ytpbchcpbjflnoaa", sum := "d44d4dbc556720fe0200443bea8d126382bfb235e0f31f2fad36255299c22e85", func := "sawtooth/sawtoothlaw08.LeastLater", spec := "leastLater", unfollowed := true, recurses := true, apart := false }
def LeastLaterSaid : Prop := leastLaterRow.holds Try.pinned (OpenSpec.ofChange leastLaterSpec)

/-- ITS FALSE NEIGHBOUR: 'it returns false'. Refute it at one input. -/
def leastLaterWrong : ChangeSpec := { name := "leastLater", fn := fun _ => fun
  | [d1, d2, d3] => { results := [.lit (.bool false)], args := [d1, d2, d3] }
  | _ => none }
def LeastLaterWrongFalsely : Prop := leastLaterRow.holds Try.pinned (OpenSpec.ofChange leastLaterWrong)

/- THE SECOND FORM. 'bulk': how many values and letters a reading holds, each counted each time it is reached (what is shared counts as often as it is met; a slice's spare places count too). A statement '..UptoSaid' is the law's where the arguments, and the package variables that the reading takes, are together of bulk at most 1048576: NARROWER than '..Said'. Prove '..Said' where nothing that the law and all that it calls make is longer than what came in: it says more and counts as full. Else prove '..UptoSaid'. A law counts once. -/
mutual
def uptoBulk {H : Type} : DataW H → Nat
  | .lit (.string bytes) => bytes.length + 1
  | .lit _ => 1
  | .nil => 1
  | .ptr d => uptoBulk d + 1
  | .slice elems spare => uptoBulkAll elems + uptoBulkAll spare + 1
  | .agg parts => uptoBulkAll parts + 1
  | .iface _ d => uptoBulk d + 1
  | .map entries => uptoBulkEntries entries + 1
  | .held _ => 1
def uptoBulkAll {H : Type} : List (DataW H) → Nat
  | [] => 0
  | d :: r => uptoBulk d + uptoBulkAll r
def uptoBulkEntries {H : Type} : List (Lit × DataW H) → Nat
  | [] => 0
  | x :: r => uptoBulkEntry x + uptoBulkEntries r
def uptoBulkEntry {H : Type} : Lit × DataW H → Nat
  | (.string bytes, d) => bytes.length + uptoBulk d + 1
  | (_, d) => uptoBulk d + 1
 end
def uptoSmall : (H : Type) → List (DataW H) → Bool := fun _ ds => decide (uptoBulkAll ds ≤ 1048576)
def OpenSpec.upto (s : _root_.Go.ChangeSpec) : _root_.Go.OpenSpec := { _root_.Go.OpenSpec.ofChange s with cond := some uptoSmall }

/-- 'sawtoothlaw08.LeastTells', WHERE WHAT IT READS IS OF BULK AT MOST 1048576: true; the input reads as it did. -/
def leastTellsUptoRow : OpenClaim := { program := "ytpbchcpbjflnoaa", sum := "d44d4dbc556720fe0200443bea8d126382bfb235e0f31f2fad36255299c22e85", func := "sawtooth/sawtoothlaw08.LeastTells", spec := "leastTells", unfollowed := true, recurses := true, apart := false, narrowed := true }
def LeastTellsUptoSaid : Prop := leastTellsUptoRow.holds Try.pinned (OpenSpec.upto leastTellsSpec)

/-- 'sawtoothlaw08.LeastTrue', WHERE WHAT IT READS IS OF BULK AT MOST 1048576: true; the input reads as it did. -/
def leastTrueUptoRow : OpenClaim := { program := "ytpbchcpbjflnoaa", sum := "d44d4dbc556720fe0200443bea8d126382bfb235e0f31f2fad36255299c22e85", func := "sawtooth/sawtoothlaw08.LeastTrue", spec := "leastTrue", unfollowed := true, recurses := true, apart := false, narrowed := true }
def LeastTrueUptoSaid : Prop := leastTrueUptoRow.holds Try.pinned (OpenSpec.upto leastTrueSpec)

/-- 'sawtoothlaw08.LeastSince', WHERE WHAT IT READS IS OF BULK AT MOST 1048576: true; the input reads as it did. -/
def leastSinceUptoRow : OpenClaim := { program := "ytpbchcpbjflnoaa", sum := "d44d4dbc556720fe0200443bea8d126382bfb235e0f31f2fad36255299c22e85", func := "sawtooth/sawtoothlaw08.LeastSince", spec := "leastSince", unfollowed := true, recurses := true, apart := false, narrowed := true }
def LeastSinceUptoSaid : Prop := leastSinceUptoRow.holds Try.pinned (OpenSpec.upto leastSinceSpec)

/-- 'sawtoothlaw08.LeastRises', WHERE WHAT IT READS IS OF BULK AT MOST 1048576: true; the input reads as it did. -/
def leastRisesUptoRow : OpenClaim := { program := "ytpbchcpbjflnoaa", sum := "d44d4dbc556720fe0200443bea8d126382bfb235e0f31f2fad36255299c22e85", func := "sawtooth/sawtoothlaw08.LeastRises", spec := "leastRises", unfollowed := true, recurses := true, apart := false, narrowed := true }
def LeastRisesUptoSaid : Prop := leastRisesUptoRow.holds Try.pinned (OpenSpec.upto leastRisesSpec)

/-- 'sawtoothlaw08.LeastAlone', WHERE WHAT IT READS IS OF BULK AT MOST 1048576: true; the input reads as it did. -/
def leastAloneUptoRow : OpenClaim := { program := "ytpbchcpbjflnoaa", sum := "d44d4dbc556720fe0200443bea8d126382bfb235e0f31f2fad36255299c22e85", func := "sawtooth/sawtoothlaw08.LeastAlone", spec := "leastAlone", unfollowed := true, recurses := true, apart := false, narrowed := true }
def LeastAloneUptoSaid : Prop := leastAloneUptoRow.holds Try.pinned (OpenSpec.upto leastAloneSpec)

/-- 'sawtoothlaw08.LeastLater', WHERE WHAT IT READS IS OF BULK AT MOST 1048576: true; the input reads as it did. -/
def leastLaterUptoRow : OpenClaim := { program := "ytpbchcpbjflnoaa", sum := "d44d4dbc556720fe0200443bea8d126382bfb235e0f31f2fad36255299c22e85", func := "sawtooth/sawtoothlaw08.LeastLater", spec := "leastLater", unfollowed := true, recurses := true, apart := false, narrowed := true }
def LeastLaterUptoSaid : Prop := leastLaterUptoRow.holds Try.pinned (OpenSpec.upto leastLaterSpec)

end Rows
end Go.Proofs.Ytpbchcpbjflnoaa
