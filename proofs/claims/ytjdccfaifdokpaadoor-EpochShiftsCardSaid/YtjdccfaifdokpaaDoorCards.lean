/-
  DERIVED. GIVEN WITH THE SEED: THE CARDS: each row of YtjdccfaifdokpaaDoorRows.lean that lists a variable, with what it lists TIED to the program's text (the seventh form; the later family's looks); each row that meets fmt, with fmt's text TOLD by the authors' own Lean function (tested against real Go, not proved from fmt's source: count such statements apart). THE CARD IS WHAT COUNTS. Prove the row's statement (the work); the ties are given (YtjdccfaifdokpaaDoorTie.lean); close each card by the builder's one call (the guide's Derived/Test/ToyasCard.lean, 'card_holds'). Laid BY PROGRAM, IN A SANDBOX (cutbox-door.mjs). By AI agents, Wed Nov 11 2026. No macro, syntax, notation, axiom, sorry.
-/
import Derived.Test.YtjdccfaifdokpaaDoorRows
import GoSem.ClaimSeven
namespace Go.Proofs.YtjdccfaifdokpaaDoor
namespace Rows

/-- THE TIED CARD OF 'sawtoothlaw11.EpochTells'. -/
def epochTellsCard : Claim7 := { stood := { row := epochTellsRow, standIns := [], harness := (true, "d29d15adfa100e0e07b2c0ab14f2eaf18431f0519b79be8efc0fcc4d6d6c3cbb"), looks := false }, kinds := [], alts := [], laidByText := true, laidKinds := [.data], laidTests := true, laidLooks := .later }
def EpochTellsCardSaid : Prop := Claim7.holds Tryd.pinned (.plain (OpenSpec.ofChange epochTellsSpec)) epochTellsCard

/-- THE TIED CARD OF 'sawtoothlaw11.EpochRoot'. -/
def epochRootCard : Claim7 := { stood := { row := epochRootRow, standIns := [], harness := (true, "d29d15adfa100e0e07b2c0ab14f2eaf18431f0519b79be8efc0fcc4d6d6c3cbb"), looks := false }, kinds := [], alts := [], laidByText := true, laidKinds := [.data], laidTests := true, laidLooks := .later }
def EpochRootCardSaid : Prop := Claim7.holds Tryd.pinned (.plain (OpenSpec.ofChange epochRootSpec)) epochRootCard

/-- THE TIED CARD OF 'sawtoothlaw11.EpochRises'. -/
def epochRisesCard : Claim7 := { stood := { row := epochRisesRow, standIns := [], harness := (true, "d29d15adfa100e0e07b2c0ab14f2eaf18431f0519b79be8efc0fcc4d6d6c3cbb"), looks := false }, kinds := [], alts := [], laidByText := true, laidKinds := [.data], laidTests := true, laidLooks := .later }
def EpochRisesCardSaid : Prop := Claim7.holds Tryd.pinned (.plain (OpenSpec.ofChange epochRisesSpec)) epochRisesCard

/-- THE TIED CARD OF 'sawtoothlaw11.EpochBegins'. -/
def epochBeginsCard : Claim7 := { stood := { row := epochBeginsRow, standIns := [], harness := (true, "d29d15adfa100e0e07b2c0ab14f2eaf18431f0519b79be8efc0fcc4d6d6c3cbb"), looks := false }, kinds := [], alts := [], laidByText := true, laidKinds := [.data], laidTests := true, laidLooks := .later }
def EpochBeginsCardSaid : Prop := Claim7.holds Tryd.pinned (.plain (OpenSpec.ofChange epochBeginsSpec)) epochBeginsCard

/-- THE TIED CARD OF 'sawtoothlaw11.EpochFast'. -/
def epochFastCard : Claim7 := { stood := { row := epochFastRow, standIns := [], harness := (true, "d29d15adfa100e0e07b2c0ab14f2eaf18431f0519b79be8efc0fcc4d6d6c3cbb"), looks := false }, kinds := [], alts := [], laidByText := true, laidKinds := [.data], laidTests := true, laidLooks := .later }
def EpochFastCardSaid : Prop := Claim7.holds Tryd.pinned (.plain (OpenSpec.ofChange epochFastSpec)) epochFastCard

/-- THE TIED CARD OF 'sawtoothlaw11.EpochShifts'. -/
def epochShiftsCard : Claim7 := { stood := { row := epochShiftsRow, standIns := [], harness := (true, "d29d15adfa100e0e07b2c0ab14f2eaf18431f0519b79be8efc0fcc4d6d6c3cbb"), looks := false }, kinds := [], alts := [], laidByText := true, laidKinds := [.data], laidTests := true, laidLooks := .later }
def EpochShiftsCardSaid : Prop := Claim7.holds Tryd.pinned (.plain (OpenSpec.ofChange epochShiftsSpec)) epochShiftsCard

/-- THE TIED CARD OF 'sawtoothlaw11.EpochEight'. -/
def epochEightCard : Claim7 := { stood := { row := epochEightRow, standIns := [], harness := (true, "d29d15adfa100e0e07b2c0ab14f2eaf18431f0519b79be8efc0fcc4d6d6c3cbb"), looks := false }, kinds := [], alts := [], laidByText := true, laidKinds := [.data], laidTests := true, laidLooks := .later }
def EpochEightCardSaid : Prop := Claim7.holds Tryd.pinned (.plain (OpenSpec.ofChange epochEightSpec)) epochEightCard

/-- THE SECOND FORM's CARD OF 'sawtoothlaw11.EpochTells'. -/
def epochTellsUptoCard : Claim7 := { stood := { row := epochTellsUptoRow, standIns := [], harness := (true, "d29d15adfa100e0e07b2c0ab14f2eaf18431f0519b79be8efc0fcc4d6d6c3cbb"), looks := false }, kinds := [], alts := [], laidByText := true, laidKinds := [.data], laidTests := true, laidLooks := .later }
def EpochTellsUptoCardSaid : Prop := Claim7.holds Tryd.pinned (.plain (OpenSpec.upto epochTellsSpec)) epochTellsUptoCard

/-- THE SECOND FORM's CARD OF 'sawtoothlaw11.EpochRoot'. -/
def epochRootUptoCard : Claim7 := { stood := { row := epochRootUptoRow, standIns := [], harness := (true, "d29d15adfa100e0e07b2c0ab14f2eaf18431f0519b79be8efc0fcc4d6d6c3cbb"), looks := false }, kinds := [], alts := [], laidByText := true, laidKinds := [.data], laidTests := true, laidLooks := .later }
def EpochRootUptoCardSaid : Prop := Claim7.holds Tryd.pinned (.plain (OpenSpec.upto epochRootSpec)) epochRootUptoCard

/-- THE SECOND FORM's CARD OF 'sawtoothlaw11.EpochRises'. -/
def epochRisesUptoCard : Claim7 := { stood := { row := epochRisesUptoRow, standIns := [], harness := (true, "d29d15adfa100e0e07b2c0ab14f2eaf18431f0519b79be8efc0fcc4d6d6c3cbb"), looks := false }, kinds := [], alts := [], laidByText := true, laidKinds := [.data], laidTests := true, laidLooks := .later }
def EpochRisesUptoCardSaid : Prop := Claim7.holds Tryd.pinned (.plain (OpenSpec.upto epochRisesSpec)) epochRisesUptoCard

/-- THE SECOND FORM's CARD OF 'sawtoothlaw11.EpochBegins'. -/
def epochBeginsUptoCard : Claim7 := { stood := { row := epochBeginsUptoRow, standIns := [], harness := (true, "d29d15adfa100e0e07b2c0ab14f2eaf18431f0519b79be8efc0fcc4d6d6c3cbb"), looks := false }, kinds := [], alts := [], laidByText := true, laidKinds := [.data], laidTests := true, laidLooks := .later }
def EpochBeginsUptoCardSaid : Prop := Claim7.holds Tryd.pinned (.plain (OpenSpec.upto epochBeginsSpec)) epochBeginsUptoCard

/-- THE SECOND FORM's CARD OF 'sawtoothlaw11.EpochFast'. -/
def epochFastUptoCard : Claim7 := { stood := { row := epochFastUptoRow, standIns := [], harness := (true, "d29d15adfa100e0e07b2c0ab14f2eaf18431f0519b79be8efc0fcc4d6d6c3cbb"), looks := false }, kinds := [], alts := [], laidByText := true, laidKinds := [.data], laidTests := true, laidLooks := .later }
def EpochFastUptoCardSaid : Prop := Claim7.holds Tryd.pinned (.plain (OpenSpec.upto epochFastSpec)) epochFastUptoCard

/-- THE SECOND FORM's CARD OF 'sawtoothlaw11.EpochShifts'. -/
def epochShiftsUptoCard : Claim7 := { stood := { row := epochShiftsUptoRow, standIns := [], harness := (true, "d29d15adfa100e0e07b2c0ab14f2eaf18431f0519b79be8efc0fcc4d6d6c3cbb"), looks := false }, kinds := [], alts := [], laidByText := true, laidKinds := [.data], laidTests := true, laidLooks := .later }
def EpochShiftsUptoCardSaid : Prop := Claim7.holds Tryd.pinned (.plain (OpenSpec.upto epochShiftsSpec)) epochShiftsUptoCard

/-- THE SECOND FORM's CARD OF 'sawtoothlaw11.EpochEight'. -/
def epochEightUptoCard : Claim7 := { stood := { row := epochEightUptoRow, standIns := [], harness := (true, "d29d15adfa100e0e07b2c0ab14f2eaf18431f0519b79be8efc0fcc4d6d6c3cbb"), looks := false }, kinds := [], alts := [], laidByText := true, laidKinds := [.data], laidTests := true, laidLooks := .later }
def EpochEightUptoCardSaid : Prop := Claim7.holds Tryd.pinned (.plain (OpenSpec.upto epochEightSpec)) epochEightUptoCard
end Rows
end Go.Proofs.YtjdccfaifdokpaaDoor
