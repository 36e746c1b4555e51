/-
  No cell of these rows narrows 'for every input' (looked for: loops, veiled, ifaces, maps, wideKeys, modest, calm, conditions, laid).
  DERIVED. THE GIVEN ROWS OF THIS SEAT. 6 by the template 'for every input the law returns true; each argument reads behind the call as it read before'; 0 by the template 'total and deterministic' (their statements: YtbaifhgjalaphaaTotals.lean).
  GIVEN WITH THE SEED: the statements are not yours to turn. If you find one false, say at which input.
  Laid BY PROGRAM, IN A SANDBOX (cutbox-rows.mjs): the forced cells as the released guide's own fill.sh prints them over the translation 96327ab2759c18df… (all of the seat's roots in one cut). By AI agents, Wed Nov 11 2026. No macro, syntax, notation, axiom, sorry.
-/
import Derived.Test.YtbaifhgjalaphaaChecked
import GoSem.Claim
import GoSem.ClaimJoined
import GoSem.ClaimMapViews
import Derived.JoinedTies
import Derived.KernelRfl
namespace Go.Proofs.Ytbaifhgjalaphaa
/- THE CELL 'sum', in the pinned program and in every row, IS THE sha256 OF THE DUMP (.gsa) THAT YtbaifhgjalaphaaProg.lean LOADS. Nothing in Lean hashes anything: it is a label: what it is worth is what the hold of that sum in a sandbox is worth. -/
noncomputable def Try.pinned : Pinned := { name := "ytbaifhgjalaphaa", sum := "96327ab2759c18df01349f416cbc8c446fe52e6b7e2c39d367c229d2779e6fab", checked := Try.checked }
namespace Rows
def none {H : Type} : Left H := { results := [], args := [] }

/-- 'sawtoothlaw16.FlightTells': WHATEVER THE INPUT: true; the input reads as it did. -/
def flightTellsSpec : ChangeSpec := { name := "flightTells", fn := fun _ => fun
  | [d1, d2, d3, d4] => { results := [.lit (.bool true)], args := [d1, d2, d3, d4] }
  | _ => none }
def flightTellsRow : OpenClaim := { program := "ytbaifhgjalaphaa", sum := "96327ab2759c18df01349f416cbc8c446fe52e6b7e2c39d367c229d2779e6fab", func := "sawtooth/sawtoothlaw16.FlightTells", spec := "flightTells", unfollowed := true, recurses := true, apart := false }
def FlightTellsSaid : Prop := flightTellsRow.holds Try.pinned (OpenSpec.ofChange flightTellsSpec)

/-- ITS FALSE NEIGHBOUR: 'it returns false'. Refute it at one input. -/
def flightTellsWrong : ChangeSpec := { name := "flightTells", fn := fun _ => fun
  | [d1, d2, d3, d4] => { results := [.lit (.bool false)], args := [d1, d2, d3, d4] }
  | _ => none }
def FlightTellsWrongFalsely : Prop := flightTellsRow.holds Try.pinned (OpenSpec.ofChange flightTellsWrong)

/-- 'sawtoothlaw16.FlightSums': WHATEVER THE INPUT: true; the input reads as it did. -/
def flightSumsSpec : ChangeSpec := { name := "flightSums", fn := fun _ => fun
  | [d] => { results := [.lit (.bool true)], args := [d] }
  | _ => none }
def flightSumsRow : OpenClaim := { program := "ytbaifhgjalaphaa", sum := "96327ab2759c18df01349f416cbc8c446fe52e6b7e2c39d367c229d2779e6fab", func := "sawtooth/sawtoothlaw16.FlightSums", spec := "flightSums", unfollowed := true, recurses := true, apart := false }
def FlightSumsSaid : Prop := flightSumsRow.holds Try.pinned (OpenSpec.ofChange flightSumsSpec)

/-- ITS FALSE NEIGHBOUR: 'it returns false'. Refute it at one input. -/
def flightSumsWrong : ChangeSpec := { name := "flightSums", fn := fun _ => fun
  | [d] => { results := [.lit (.bool false)], args := [d] }
  | _ => none }
def FlightSumsWrongFalsely : Prop := flightSumsRow.holds Try.pinned (OpenSpec.ofChange flightSumsWrong)

/-- 'sawtoothlaw16.FlightRoom': WHATEVER THE INPUT: true; the input reads as it did. -/
def flightRoomSpec : ChangeSpec := { name := "flightRoom", fn := fun _ => fun
  | [d1, d2, d3] => { results := [.lit (.bool true)], args := [d1, d2, d3] }
  | _ => none }
def flightRoomRow : OpenClaim := { program := "ytbaifhgjalaphaa", sum := "96327ab2759c18df01349f416cbc8c446fe52e6b7e2c39d367c229d2779e6fab", func := "sawtooth/sawtoothlaw16.FlightRoom", spec := "flightRoom", unfollowed := true, recurses := true, apart := false }
def FlightRoomSaid : Prop := flightRoomRow.holds Try.pinned (OpenSpec.ofChange flightRoomSpec)

/-- ITS FALSE NEIGHBOUR: 'it returns false'. Refute it at one input. -/
def flightRoomWrong : ChangeSpec := { name := "flightRoom", fn := fun _ => fun
  | [d1, d2, d3] => { results := [.lit (.bool false)], args := [d1, d2, d3] }
  | _ => none }
def FlightRoomWrongFalsely : Prop := flightRoomRow.holds Try.pinned (OpenSpec.ofChange flightRoomWrong)

/-- 'sawtoothlaw16.FlightBack': WHATEVER THE INPUT: true; the input reads as it did. -/
def flightBackSpec : ChangeSpec := { name := "flightBack", fn := fun _ => fun
  | [d1, d2, d3] => { results := [.lit (.bool true)], args := [d1, d2, d3] }
  | _ => none }
def flightBackRow : OpenClaim := { program := "ytbaifhgjalaphaa", sum := "96327ab2759c18df01349f416cbc8c446fe52e6b7e2c39d367c229d2779e6fab", func := "sawtooth/sawtoothlaw16.FlightBack", spec := "flightBack", unfollowed := true, recurses := true, apart := false }
def FlightBackSaid : Prop := flightBackRow.holds Try.pinned (OpenSpec.ofChange flightBackSpec)

/-- ITS FALSE NEIGHBOUR: 'it returns false'. Refute it at one input. -/
def flightBackWrong : ChangeSpec := { name := "flightBack", fn := fun _ => fun
  | [d1, d2, d3] => { results := [.lit (.bool false)], args := [d1, d2, d3] }
  | _ => none }
def FlightBackWrongFalsely : Prop := flightBackRow.holds Try.pinned (OpenSpec.ofChange flightBackWrong)

/-- 'sawtoothlaw16.FlightAlike': WHATEVER THE INPUT: true; the input reads as it did. -/
def flightAlikeSpec : ChangeSpec := { name := "flightAlike", fn := fun _ => fun
  | [d1, d2, d3, d4] => { results := [.lit (.bool true)], args := [d1, d2, d3, d4] }
  | _ => none }
def flightAlikeRow : OpenClaim := { program := "ytbaifhgjalaphaa", sum := "96327ab2759c18df01349f416cbc8c446fe52e6b7e2c39d367c229d2779e6fab", func := "sawtooth/sawtoothlaw16.FlightAlike", spec := "flightAlike", unfollowed := true, recurses := true, apart := false }
def FlightAlikeSaid : Prop := flightAlikeRow.holds Try.pinned (OpenSpec.ofChange flightAlikeSpec)

/-- ITS FALSE NEIGHBOUR: 'it returns false'. Refute it at one input. -/
def flightAlikeWrong : ChangeSpec := { name := "flightAlike", fn := fun _ => fun
  | [d1, d2, d3, d4] => { results := [.lit (.bool false)], args := [d1, d2, d3, d4] }
  | _ => none }
def FlightAlikeWrongFalsely : Prop := flightAlikeRow.holds Try.pinned (OpenSpec.ofChange flightAlikeWrong)

/-- 'sawtoothlaw16.FlightTurns': WHATEVER THE INPUT: true; the input reads as it did. -/
def flightTurnsSpec : ChangeSpec := { name := "flightTurns", fn := fun _ => fun
  | [d1, d2, d3] => { results := [.lit (.bool true)], args := [d1, d2, d3] }
  | _ => none }
def flightTurnsRow : OpenClaim := { program := "ytbaifhgjalaphaa", sum := "96327ab2759c18df01349f416cbc8c446fe52e6b7e2c39d367c229d2779e6fab", func := "sawtooth/sawtoothlaw16.FlightTurns", spec := "flightTurns", unfollowed := true, recurses := true, apart := false }
def FlightTurnsSaid : Prop := flightTurnsRow.holds Try.pinned (OpenSpec.ofChange flightTurnsSpec)

/-- ITS FALSE NEIGHBOUR: 'it returns false'. Refute it at one input. -/
def flightTurnsWrong : ChangeSpec := { name := "flightTurns", fn := fun _ => fun
  | [d1, d2, d3] => { results := [.lit (.bool false)], args := [d1, d2, d3] }
  | _ => none }
def FlightTurnsWrongFalsely : Prop := flightTurnsRow.holds Try.pinned (OpenSpec.ofChange flightTurnsWrong)

/- THE SECOND FORM. 'bulk': how many values and letters a reading holds, each counted each time it is reached (what is shared counts as often as it is met; a slice's spare places count too). A statement '..UptoSaid' is the law's where the arguments, and the package variables that the reading takes, are together of bulk at most 1048576: NARROWER than '..Said'. Prove '..Said' where nothing that the law and all that it calls make is longer than what came in: it says more and counts as full. Else prove '..UptoSaid'. A law counts once. -/
mutual
def uptoBulk {H : Type} : DataW H → Nat
  | .lit (.string bytes) => bytes.length + 1
  | .lit _ => 1
  | .nil => 1
  | .ptr d => uptoBulk d + 1
  | .slice elems spare => uptoBulkAll elems + uptoBulkAll spare + 1
  | .agg parts => uptoBulkAll parts + 1
  | .iface _ d => uptoBulk d + 1
  | .map entries => uptoBulkEntries entries + 1
  | .held _ => 1
def uptoBulkAll {H : Type} : List (DataW H) → Nat
  | [] => 0
  | d :: r => uptoBulk d + uptoBulkAll r
def uptoBulkEntries {H : Type} : List (Lit × DataW H) → Nat
  | [] => 0
  | x :: r => uptoBulkEntry x + uptoBulkEntries r
def uptoBulkEntry {H : Type} : Lit × DataW H → Nat
  | (.string bytes, d) => bytes.length + uptoBulk d + 1
  | (_, d) => uptoBulk d + 1
 end
def uptoSmall : (H : Type) → List (DataW H) → Bool := fun _ ds => decide (uptoBulkAll ds ≤ 1048576)
def OpenSpec.upto (s : _root_.Go.ChangeSpec) : _root_.Go.OpenSpec := { _root_.Go.OpenSpec.ofChange s with cond := some uptoSmall }

/-- 'sawtoothlaw16.FlightTells', WHERE WHAT IT READS IS OF BULK AT MOST 1048576: true; the input reads as it did. -/
def flightTellsUptoRow : OpenClaim := { program := "ytbaifhgjalaphaa", sum := "96327ab2759c18df01349f416cbc8c446fe52e6b7e2c39d367c229d2779e6fab", func := "sawtooth/sawtoothlaw16.FlightTells", spec := "flightTells", unfollowed := true, recurses := true, apart := false, narrowed := true }
def FlightTellsUptoSaid : Prop := flightTellsUptoRow.holds Try.pinned (OpenSpec.upto flightTellsSpec)

/-- 'sawtoothlaw16.FlightSums', WHERE WHAT IT READS IS OF BULK AT MOST 1048576: true; the input reads as it did. -/
def flightSumsUptoRow : OpenClaim := { program := "ytbaifhgjalaphaa", sum := "96327ab2759c18df01349f416cbc8c446fe52e6b7e2c39d367c229d2779e6fab", func := "sawtooth/sawtoothlaw16.FlightSums", spec := "flightSums", unfollowed := true, recurses := true, apart := false, narrowed := true }
def FlightSumsUptoSaid : Prop := flightSumsUptoRow.holds Try.pinned (OpenSpec.upto flightSumsSpec)

/-- 'sawtoothlaw16.FlightRoom', WHERE WHAT IT READS IS OF BULK AT MOST 1048576: true; the input reads as it did. -/
def flightRoomUptoRow : OpenClaim := { program := "ytbaifhgjalaphaa", sum := "96327ab2759c18df01349f416cbc8c446fe52e6b7e2c39d367c229d2779e6fab", func := "sawtooth/sawtoothlaw16.FlightRoom", spec := "flightRoom", unfollowed := true, recurses := true, apart := false, narrowed := true }
def FlightRoomUptoSaid : Prop := flightRoomUptoRow.holds Try.pinned (OpenSpec.upto flightRoomSpec)

/-- 'sawtoothlaw16.FlightBack', WHERE WHAT IT READS IS OF BULK AT MOST 1048576: true; the input reads as it did. -/
def flightBackUptoRow : OpenClaim := { program := "ytbaifhgjalaphaa", sum := "96327ab2759c18df01349f416cbc8c446fe52e6b7e2c39d367c229d2779e6fab", func := "sawtooth/sawtoothlaw16.FlightBack", spec := "flightBack", unfollowed := true, recurses := true, apart := false, narrowed := true }
def FlightBackUptoSaid : Prop := flightBackUptoRow.holds Try.pinned (OpenSpec.upto flightBackSpec)

/-- 'sawtoothlaw16.FlightAlike', WHERE WHAT IT READS IS OF BULK AT MOST 1048576: true; the input reads as it did. -/
def flightAlikeUptoRow : OpenClaim := { program := "ytbaifhgjalaphaa", sum := "96327ab2759c18df01349f416cbc8c446fe52e6b7e2c39d367c229d2779e6fab", func := "sawtooth/sawtoothlaw16.FlightAlike", spec := "flightAlike", unfollowed := true, recurses := true, apart := false, narrowed := true }
def FlightAlikeUptoSaid : Prop := flightAlikeUptoRow.holds Try.pinned (OpenSpec.upto flightAlikeSpec)

/-- 'sawtoothlaw16.FlightTurns', WHERE WHAT IT READS IS OF BULK AT MOST 1048576: true; the input reads as it did. -/
def flightTurnsUptoRow : OpenClaim := { program := "ytbaifhgjalaphaa", sum := "96327ab2759c18df01349f416cbc8c446fe52e6b7e2c39d367c229d2779e6fab", func := "sawtooth/sawtoothlaw16.FlightTurns", spec := "flightTurns", unfollowed := true, recurses := true, apart := false, narrowed := true }
def FlightTurnsUptoSaid : Prop := flightTurnsUptoRow.holds Try.pinned (OpenSpec.upto flightTurnsSpec)

end Rows
end Go.Proofs.Ytbaifhgjalaphaa
