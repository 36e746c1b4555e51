/-
  No cell of these rows narrows 'for every input' (looked for: loops, veiled, ifaces, maps, wideKeys, modest, calm, conditions, laid).
  DERIVED. THE GIVEN ROWS OF THIS SEAT. 6 by the template 'for every input the law returns true; each argument reads behind the call as it read before'; 0 by the template 'total and deterministic' (their statements: YtbpdimogigcacaaTotals.lean).
  GIVEN WITH THE SEED: the statements are not yours to turn. If you find one false, say at which input.
  Laid BY PROGRAM, IN A SANDBOX (cutbox-rows.mjs): the forced cells as the released guide's own fill.sh prints them over the translation e359cf7a00f326ef… (all of the seat's roots in one cut). By AI agents, Wed Nov 11 2026. No macro, syntax, notation, axiom, sorry.
-/
import Derived.Test.YtbpdimogigcacaaChecked
import GoSem.Claim
import GoSem.ClaimJoined
import GoSem.ClaimMapViews
import Derived.JoinedTies
import Derived.KernelRfl
namespace Go.Proofs.Ytbpdimogigcacaa
/- THE CELL 'sum', in the pinned program and in every row, IS THE sha256 OF THE DUMP (.gsa) THAT YtbpdimogigcacaaProg.lean LOADS. Nothing in Lean hashes anything: it is a label: what it is worth is what the hold of that sum in a sandbox is worth. -/
noncomputable def Try.pinned : Pinned := { name := "ytbpdimogigcacaa", sum := "e359cf7a00f326ef736d12221e9b6616a0f5f25a0db66ecb02095c4418f4a79d", checked := Try.checked }
namespace Rows
def none {H : Type} : Left H := { results := [], args := [] }

/-- 'sawtoothlaw20.EventTells': WHATEVER THE INPUT: true; the input reads as it did. -/
def eventTellsSpec : ChangeSpec := { name := "eventTells", fn := fun _ => fun
  | [d1, d2, d3] => { results := [.lit (.bool true)], args := [d1, d2, d3] }
  | _ => none }
def eventTellsRow : OpenClaim := { program := "ytbpdimogigcacaa", sum := "e359cf7a00f326ef736d12221e9b6616a0f5f25a0db66ecb02095c4418f4a79d", func := "sawtooth/sawtoothlaw20.EventTells", spec := "eventTells", unfollowed := true, recurses := true, apart := false }
def EventTellsSaid : Prop := eventTellsRow.holds Try.pinned (OpenSpec.ofChange eventTellsSpec)

/-- ITS FALSE NEIGHBOUR: 'it returns false'. Refute it at one input. -/
def eventTellsWrong : ChangeSpec := { name := "eventTells", fn := fun _ => fun
  | [d1, d2, d3] => { results := [.lit (.bool false)], args := [d1, d2, d3] }
  | _ => none }
def EventTellsWrongFalsely : Prop := eventTellsRow.holds Try.pinned (OpenSpec.ofChange eventTellsWrong)

/-- 'sawtoothlaw20.EventBack': WHATEVER THE INPUT: true; the input reads as it did. -/
def eventBackSpec : ChangeSpec := { name := "eventBack", fn := fun _ => fun
  | [d1, d2] => { results := [.lit (.bool true)], args := [d1, d2] }
  | _ => none }
def eventBackRow : OpenClaim := { program := "ytbpdimogigcacaa", sum := "e359cf7a00f326ef736d12221e9b6616a0f5f25a0db66ecb02095c4418f4a79d", func := "sawtooth/sawtoothlaw20.EventBack", spec := "eventBack", unfollowed := true, recurses := true, apart := false }
def EventBackSaid : Prop := eventBackRow.holds Try.pinned (OpenSpec.ofChange eventBackSpec)

/-- ITS FALSE NEIGHBOUR: 'it returns false'. Refute it at one input. -/
def eventBackWrong : ChangeSpec := { name := "eventBack", fn := fun _ => fun
  | [d1, d2] => { results := [.lit (.bool false)], args := [d1, d2] }
  | _ => none }
def EventBackWrongFalsely : Prop := eventBackRow.holds Try.pinned (OpenSpec.ofChange eventBackWrong)

/-- 'sawtoothlaw20.EventRises': WHATEVER THE INPUT: true; the input reads as it did. -/
def eventRisesSpec : ChangeSpec := { name := "eventRises", fn := fun _ => fun
  | [d] => { results := [.lit (.bool true)], args := [d] }
  | _ => none }
def eventRisesRow : OpenClaim := { program := "ytbpdimogigcacaa", sum := "e359cf7a00f326ef736d12221e9b6616a0f5f25a0db66ecb02095c4418f4a79d", func := "sawtooth/sawtoothlaw20.EventRises", spec := "eventRises", unfollowed := true, recurses := true, apart := false }
def EventRisesSaid : Prop := eventRisesRow.holds Try.pinned (OpenSpec.ofChange eventRisesSpec)

/-- ITS FALSE NEIGHBOUR: 'it returns false'. Refute it at one input. -/
def eventRisesWrong : ChangeSpec := { name := "eventRises", fn := fun _ => fun
  | [d] => { results := [.lit (.bool false)], args := [d] }
  | _ => none }
def EventRisesWrongFalsely : Prop := eventRisesRow.holds Try.pinned (OpenSpec.ofChange eventRisesWrong)

/-- 'sawtoothlaw20.EventKinds': WHATEVER THE INPUT: true; the input reads as it did. -/
def eventKindsSpec : ChangeSpec := { name := "eventKinds", fn := fun _ => fun
  | [d1, d2, d3] => { results := [.lit (.bool true)], args := [d1, d2, d3] }
  | _ => none }
def eventKindsRow : OpenClaim := { program := "ytbpdimogigcacaa", sum := "e359cf7a00f326ef736d12221e9b6616a0f5f25a0db66ecb02095c4418f4a79d", func := "sawtooth/sawtoothlaw20.EventKinds", spec := "eventKinds", unfollowed := true, recurses := true, apart := false }
def EventKindsSaid : Prop := eventKindsRow.holds Try.pinned (OpenSpec.ofChange eventKindsSpec)

/-- ITS FALSE NEIGHBOUR: 'it returns false'. Refute it at one input. -/
def eventKindsWrong : ChangeSpec := { name := "eventKinds", fn := fun _ => fun
  | [d1, d2, d3] => { results := [.lit (.bool false)], args := [d1, d2, d3] }
  | _ => none }
def EventKindsWrongFalsely : Prop := eventKindsRow.holds Try.pinned (OpenSpec.ofChange eventKindsWrong)

/-- 'sawtoothlaw20.EventParts': WHATEVER THE INPUT: true; the input reads as it did. -/
def eventPartsSpec : ChangeSpec := { name := "eventParts", fn := fun _ => fun
  | [d1, d2] => { results := [.lit (.bool true)], args := [d1, d2] }
  | _ => none }
def eventPartsRow : OpenClaim := { program := "ytbpdimogigcacaa", sum := "e359cf7a00f326ef736d12221e9b6616a0f5f25a0db66ecb02095c4418f4a79d", func := "sawtooth/sawtoothlaw20.EventParts", spec := "eventParts", unfollowed := true, recurses := true, apart := false }
def EventPartsSaid : Prop := eventPartsRow.holds Try.pinned (OpenSpec.ofChange eventPartsSpec)

/-- ITS FALSE NEIGHBOUR: 'it returns false'. Refute it at one input. -/
def eventPartsWrong : ChangeSpec := { name := "eventParts", fn := fun _ => fun
  | [d1, d2] => { results := [.lit (.bool false)], args := [d1, d2] }
  | _ => none }
def EventPartsWrongFalsely : Prop := eventPartsRow.holds Try.pinned (OpenSpec.ofChange eventPartsWrong)

/-- 'sawtoothlaw20.EventLater': WHATEVER THE INPUT: true; the input reads as it did. -/
def eventLaterSpec : ChangeSpec := { name := "eventLater", fn := fun _ => fun
  | [d1, d2] => { results := [.lit (.bool true)], args := [d1, d2] }
  | _ => none }
def eventLaterRow : OpenClaim := { program := "ytbpdimogigcacaa", sum := "e359cf7a00f326ef736d12221e9b6616a0f5f25a0db66ecb02095c4418f4a79d", func := "sawtooth/sawtoothlaw20.EventLater", spec := "eventLater", unfollowed := true, recurses := true, apart := false }
def EventLaterSaid : Prop := eventLaterRow.holds Try.pinned (OpenSpec.ofChange eventLaterSpec)

/-- ITS FALSE NEIGHBOUR: 'it returns false'. Refute it at one input. -/
def eventLaterWrong : ChangeSpec := { name := "eventLater", fn := fun _ => fun
  | [d1, d2] => { results := [.lit (.bool false)], args := [d1, d2] }
  | _ => none }
def EventLaterWrongFalsely : Prop := eventLaterRow.holds Try.pinned (OpenSpec.ofChange eventLaterWrong)

/- THE SECOND FORM. 'bulk': how many values and letters a reading holds, each counted each time it is reached (what is shared counts as often as it is met; a slice's spare places count too). A statement '..UptoSaid' is the law's where the arguments, and the package variables that the reading takes, are together of bulk at most 1048576: NARROWER than '..Said'. Prove '..Said' where nothing that the law and all that it calls make is longer than what came in: it says more and counts as full. Else prove '..UptoSaid'. A law counts once. -/
mutual
def uptoBulk {H : Type} : DataW H → Nat
  | .lit (.string bytes) => bytes.length + 1
  | .lit _ => 1
  | .nil => 1
  | .ptr d => uptoBulk d + 1
  | .slice elems spare => uptoBulkAll elems + uptoBulkAll spare + 1
  | .agg parts => uptoBulkAll parts + 1
  | .iface _ d => uptoBulk d + 1
  | .map entries => uptoBulkEntries entries + 1
  | .held _ => 1
def uptoBulkAll {H : Type} : List (DataW H) → Nat
  | [] => 0
  | d :: r => uptoBulk d + uptoBulkAll r
def uptoBulkEntries {H : Type} : List (Lit × DataW H) → Nat
  | [] => 0
  | x :: r => uptoBulkEntry x + uptoBulkEntries r
def uptoBulkEntry {H : Type} : Lit × DataW H → Nat
  | (.string bytes, d) => bytes.length + uptoBulk d + 1
  | (_, d) => uptoBulk d + 1
 end
def uptoSmall : (H : Type) → List (DataW H) → Bool := fun _ ds => decide (uptoBulkAll ds ≤ 1048576)
def OpenSpec.upto (s : _root_.Go.ChangeSpec) : _root_.Go.OpenSpec := { _root_.Go.OpenSpec.ofChange s with cond := some uptoSmall }

/-- 'sawtoothlaw20.EventTells', WHERE WHAT IT READS IS OF BULK AT MOST 1048576: true; the input reads as it did. -/
def eventTellsUptoRow : OpenClaim := { program := "ytbpdimogigcacaa", sum := "e359cf7a00f326ef736d12221e9b6616a0f5f25a0db66ecb02095c4418f4a79d", func := "sawtooth/sawtoothlaw20.EventTells", spec := "eventTells", unfollowed := true, recurses := true, apart := false, narrowed := true }
def EventTellsUptoSaid : Prop := eventTellsUptoRow.holds Try.pinned (OpenSpec.upto eventTellsSpec)

/-- 'sawtoothlaw20.EventBack', WHERE WHAT IT READS IS OF BULK AT MOST 1048576: true; the input reads as it did. -/
def eventBackUptoRow : OpenClaim := { program := "ytbpdimogigcacaa", sum := "e359cf7a00f326ef736d12221e9b6616a0f5f25a0db66ecb02095c4418f4a79d", func := "sawtooth/sawtoothlaw20.EventBack", spec := "eventBack", unfollowed := true, recurses := true, apart := false, narrowed := true }
def EventBackUptoSaid : Prop := eventBackUptoRow.holds Try.pinned (OpenSpec.upto eventBackSpec)

/-- 'sawtoothlaw20.EventRises', WHERE WHAT IT READS IS OF BULK AT MOST 1048576: true; the input reads as it did. -/
def eventRisesUptoRow : OpenClaim := { program := "ytbpdimogigcacaa", sum := "e359cf7a00f326ef736d12221e9b6616a0f5f25a0db66ecb02095c4418f4a79d", func := "sawtooth/sawtoothlaw20.EventRises", spec := "eventRises", unfollowed := true, recurses := true, apart := false, narrowed := true }
def EventRisesUptoSaid : Prop := eventRisesUptoRow.holds Try.pinned (OpenSpec.upto eventRisesSpec)

/-- 'sawtoothlaw20.EventKinds', WHERE WHAT IT READS IS OF BULK AT MOST 1048576: true; the input reads as it did. -/
def eventKindsUptoRow : OpenClaim := { program := "ytbpdimogigcacaa", sum := "e359cf7a00f326ef736d12221e9b6616a0f5f25a0db66ecb02095c4418f4a79d", func := "sawtooth/sawtoothlaw20.EventKinds", spec := "eventKinds", unfollowed := true, recurses := true, apart := false, narrowed := true }
def EventKindsUptoSaid : Prop := eventKindsUptoRow.holds Try.pinned (OpenSpec.upto eventKindsSpec)

/-- 'sawtoothlaw20.EventParts', WHERE WHAT IT READS IS OF BULK AT MOST 1048576: true; the input reads as it did. -/
def eventPartsUptoRow : OpenClaim := { program := "ytbpdimogigcacaa", sum := "e359cf7a00f326ef736d12221e9b6616a0f5f25a0db66ecb02095c4418f4a79d", func := "sawtooth/sawtoothlaw20.EventParts", spec := "eventParts", unfollowed := true, recurses := true, apart := false, narrowed := true }
def EventPartsUptoSaid : Prop := eventPartsUptoRow.holds Try.pinned (OpenSpec.upto eventPartsSpec)

/-- 'sawtoothlaw20.EventLater', WHERE WHAT IT READS IS OF BULK AT MOST 1048576: true; the input reads as it did. -/
def eventLaterUptoRow : OpenClaim := { program := "ytbpdimogigcacaa", sum := "e359cf7a00f326ef736d12221e9b6616a0f5f25a0db66ecb02095c4418f4a79d", func := "sawtooth/sawtoothlaw20.EventLater", spec := "eventLater", unfollowed := true, recurses := true, apart := false, narrowed := true }
def EventLaterUptoSaid : Prop := eventLaterUptoRow.holds Try.pinned (OpenSpec.upto eventLaterSpec)

end Rows
end Go.Proofs.Ytbpdimogigcacaa
