/-
  No cell of these rows narrows 'for every input' (looked for: loops, veiled, ifaces, maps, wideKeys, modest, calm, conditions, laid).
  DERIVED. THE GIVEN ROWS OF THIS SEAT. 3 by the template 'for every input the law returns true; each argument reads behind the call as it read before'; 0 by the template 'total and deterministic' (their statements: YtchlllgdbkmdaaaTotals.lean).
  GIVEN WITH THE SEED: the statements are not yours to turn. If you find one false, say at which input.
  Laid BY PROGRAM, IN A SANDBOX (cutbox-rows.mjs): the forced cells as the released guide's own fill.sh prints them over the translation 881107af831c38c1… (all of the seat's roots in one cut). By AI agents, Wed Nov 11 2026. No macro, syntax, notation, axiom, sorry.
-/
import Derived.Test.YtchlllgdbkmdaaaChecked
import GoSem.Claim
import GoSem.ClaimJoined
import GoSem.ClaimMapViews
import Derived.JoinedTies
import Derived.KernelRfl
namespace Go.Proofs.Ytchlllgdbkmdaaa
/- THE CELL 'sum', in the pinned program and in every row, IS THE sha256 OF THE DUMP (.gsa) THAT YtchlllgdbkmdaaaProg.lean LOADS. Nothing in Lean hashes anything: it is a label: what it is worth is what the hold of that sum in a sandbox is worth. -/
noncomputable def Try.pinned : Pinned := { name := "ytchlllgdbkmdaaa", sum := "881107af831c38c1e22ed4f47e19fff4a7629083cf0392501a804fdc99f03eda", checked := Try.checked }
namespace Rows
def none {H : Type} : Left H := { results := [], args := [] }

/-- 'sawtoothlaw09.RoundLong': WHATEVER THE INPUT: true; the input reads as it did. -/
def roundLongSpec : ChangeSpec := { name := "roundLong", fn := fun _ => fun
  | [d] => { results := [.lit (.bool true)], args := [d] }
  | _ => none }
def roundLongRow : OpenClaim := { program := "ytchlllgdbkmdaaa", sum := "881107af831c38c1e22ed4f47e19fff4a7629083cf0392501a804fdc99f03eda", func := "sawtooth/sawtoothlaw09.RoundLong", spec := "roundLong", unfollowed := true, recurses := true, apart := false }
def RoundLongSaid : Prop := roundLongRow.holds Try.pinned (OpenSpec.ofChange roundLongSpec)

/-- ITS FALSE NEIGHBOUR: 'it returns false'. Refute it at one input. -/
def roundLongWrong : ChangeSpec := { name := "roundLong", fn := fun _ => fun
  | [d] => { results := [.lit (.bool false)], args := [d] }
  | _ => none }
def RoundLongWrongFalsely : Prop := roundLongRow.holds Try.pinned (OpenSpec.ofChange roundLongWrong)

/-- 'sawtoothlaw09.RoundEnds': WHATEVER THE INPUT: true; the input reads as it did. -/
def roundEndsSpec : ChangeSpec := { name := "roundEnds", fn := fun _ => fun
  | [d1, d2, d3, d4] => { results := [.lit (.bool true)], args := [d1, d2, d3, d4] }
  | _ => none }
def roundEndsRow : OpenClaim := { program := "ytchlllgdbkmdaaa", sum := "881107af831c38c1e22ed4f47e19fff4a7629083cf0392501a804fdc99f03eda", func := "sawtooth/sawtoothlaw09.RoundEnds", spec := "roundEnds", unfollowed := true, recurses := true, apart := false }
def RoundEndsSaid : Prop := roundEndsRow.holds Try.pinned (OpenSpec.ofChange roundEndsSpec)

/-- ITS FALSE NEIGHBOUR: 'it returns false'. Refute it at one input. -/
def roundEndsWrong : ChangeSpec := { name := "roundEnds", fn := fun _ => fun
  | [d1, d2, d3, d4] => { results := [.lit (.bool false)], args := [d1, d2, d3, d4] }
  | _ => none }
def RoundEndsWrongFalsely : Prop := roundEndsRow.holds Try.pinned (OpenSpec.ofChange roundEndsWrong)

/-- 'sawtoothlaw09.RoundCounts': WHATEVER THE INPUT: true; the input reads as it did. -/
def roundCountsSpec : ChangeSpec := { name := "roundCounts", fn := fun _ => fun
  | [d1, d2] => { results := [.lit (.bool true)], args := [d1, d2] }
  | _ => none }
def roundCountsRow : OpenClaim := { program := "ytchlllgdbkmdaaa", sum := "881107af831c38c1e22ed4f47e19fff4a7629083cf0392501a804fdc99f03eda", func := "sawtooth/sawtoothlaw09.RoundCounts", spec := "roundCounts", unfollowed := true, recurses := true, apart := false }
def RoundCountsSaid : Prop := roundCountsRow.holds Try.pinned (OpenSpec.ofChange roundCountsSpec)

/-- ITS FALSE NEIGHBOUR: 'it returns false'. Refute it at one input. -/
def roundCountsWrong : ChangeSpec := { name := "roundCounts", fn := fun _ => fun
  | [d1, d2] => { results := [.lit (.bool false)], args := [d1, d2] }
  | _ => none }
def RoundCountsWrongFalsely : Prop := roundCountsRow.holds Try.pinned (OpenSpec.ofChange roundCountsWrong)

/- THE SECOND FORM. 'bulk': how many values and letters a reading holds, each counted each time it is reached (what is shared counts as often as it is met; a slice's spare places count too). A statement '..UptoSaid' is the law's where the arguments, and the package variables that the reading takes, are together of bulk at most 1048576: NARROWER than '..Said'. Prove '..Said' where nothing that the law and all that it calls make is longer than what came in: it says more and counts as full. Else prove '..UptoSaid'. A law counts once. -/
mutual
def uptoBulk {H : Type} : DataW H → Nat
  | .lit (.string bytes) => bytes.length + 1
  | .lit _ => 1
  | .nil => 1
  | .ptr d => uptoBulk d + 1
  | .slice elems spare => uptoBulkAll elems + uptoBulkAll spare + 1
  | .agg parts => uptoBulkAll parts + 1
  | .iface _ d => uptoBulk d + 1
  | .map entries => uptoBulkEntries entries + 1
  | .held _ => 1
def uptoBulkAll {H : Type} : List (DataW H) → Nat
  | [] => 0
  | d :: r => uptoBulk d + uptoBulkAll r
def uptoBulkEntries {H : Type} : List (Lit × DataW H) → Nat
  | [] => 0
  | x :: r => uptoBulkEntry x + uptoBulkEntries r
def uptoBulkEntry {H : Type} : Lit × DataW H → Nat
  | (.string bytes, d) => bytes.length + uptoBulk d + 1
  | (_, d) => uptoBulk d + 1
 end
def uptoSmall : (H : Type) → List (DataW H) → Bool := fun _ ds => decide (uptoBulkAll ds ≤ 1048576)
def OpenSpec.upto (s : _root_.Go.ChangeSpec) : _root_.Go.OpenSpec := { _root_.Go.OpenSpec.ofChange s with cond := some uptoSmall }

/-- 'sawtoothlaw09.RoundLong', WHERE WHAT IT READS IS OF BULK AT MOST 1048576: true; the input reads as it did. -/
def roundLongUptoRow : OpenClaim := { program := "ytchlllgdbkmdaaa", sum := "881107af831c38c1e22ed4f47e19fff4a7629083cf0392501a804fdc99f03eda", func := "sawtooth/sawtoothlaw09.RoundLong", spec := "roundLong", unfollowed := true, recurses := true, apart := false, narrowed := true }
def RoundLongUptoSaid : Prop := roundLongUptoRow.holds Try.pinned (OpenSpec.upto roundLongSpec)

/-- 'sawtoothlaw09.RoundEnds', WHERE WHAT IT READS IS OF BULK AT MOST 1048576: true; the input reads as it did. -/
def roundEndsUptoRow : OpenClaim := { program := "ytchlllgdbkmdaaa", sum := "881107af831c38c1e22ed4f47e19fff4a7629083cf0392501a804fdc99f03eda", func := "sawtooth/sawtoothlaw09.RoundEnds", spec := "roundEnds", unfollowed := true, recurses := true, apart := false, narrowed := true }
def RoundEndsUptoSaid : Prop := roundEndsUptoRow.holds Try.pinned (OpenSpec.upto roundEndsSpec)

/-- 'sawtoothlaw09.RoundCounts', WHERE WHAT IT READS IS OF BULK AT MOST 1048576: true; the input reads as it did. -/
def roundCountsUptoRow : OpenClaim := { program := "ytchlllgdbkmdaaa", sum := "881107af831c38c1e22ed4f47e19fff4a7629083cf0392501a804fdc99f03eda", func := "sawtooth/sawtoothlaw09.RoundCounts", spec := "roundCounts", unfollowed := true, recurses := true, apart := false, narrowed := true }
def RoundCountsUptoSaid : Prop := roundCountsUptoRow.holds Try.pinned (OpenSpec.upto roundCountsSpec)

end Rows
end Go.Proofs.Ytchlllgdbkmdaaa
