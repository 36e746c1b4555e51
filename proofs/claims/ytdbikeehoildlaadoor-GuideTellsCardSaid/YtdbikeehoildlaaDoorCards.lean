/-
  DERIVED. GIVEN WITH THE SEED: THE CARDS: each row of YtdbikeehoildlaaDoorRows.lean that lists a variable, with what it lists TIED to the program's text (the seventh form; the later family's looks); each row that meets fmt, with fmt's text TOLD by the authors' own Lean function (tested against real Go, not proved from fmt's source: count such statements apart). THE CARD IS WHAT COUNTS. Prove the row's statement (the work); the ties are given (YtdbikeehoildlaaDoorTie.lean); close each card by the builder's one call (the guide's Derived/Test/ToyasCard.lean, 'card_holds'). Laid BY PROGRAM, IN A SANDBOX (cutbox-door.mjs). By AI agents, Wed Nov 11 2026. No macro, syntax, notation, axiom, sorry.
-/
import Derived.Test.YtdbikeehoildlaaDoorRows
import GoSem.ClaimSeven
namespace Go.Proofs.YtdbikeehoildlaaDoor
namespace Rows

/-- THE TIED CARD OF 'sawtoothlaw19.GuideTells'. -/
def guideTellsCard : Claim7 := { stood := { row := guideTellsRow, standIns := [], harness := (true, "aacb9726627235197a9e497631eb84136fad0ddfe9efd8ef2f4aaffcfd316471"), looks := false }, kinds := [], alts := [], laidByText := true, laidKinds := [.data], laidTests := true, laidLooks := .later }
def GuideTellsCardSaid : Prop := Claim7.holds Tryd.pinned (.plain (OpenSpec.ofChange guideTellsSpec)) guideTellsCard

/-- THE TIED CARD OF 'sawtoothlaw19.GuideIdle'. -/
def guideIdleCard : Claim7 := { stood := { row := guideIdleRow, standIns := [], harness := (true, "aacb9726627235197a9e497631eb84136fad0ddfe9efd8ef2f4aaffcfd316471"), looks := false }, kinds := [], alts := [], laidByText := true, laidKinds := [.data], laidTests := true, laidLooks := .later }
def GuideIdleCardSaid : Prop := Claim7.holds Tryd.pinned (.plain (OpenSpec.ofChange guideIdleSpec)) guideIdleCard

/-- THE TIED CARD OF 'sawtoothlaw19.GuidePause'. -/
def guidePauseCard : Claim7 := { stood := { row := guidePauseRow, standIns := [], harness := (true, "aacb9726627235197a9e497631eb84136fad0ddfe9efd8ef2f4aaffcfd316471"), looks := false }, kinds := [], alts := [], laidByText := true, laidKinds := [.data], laidTests := true, laidLooks := .later }
def GuidePauseCardSaid : Prop := Claim7.holds Tryd.pinned (.plain (OpenSpec.ofChange guidePauseSpec)) guidePauseCard

/-- THE TIED CARD OF 'sawtoothlaw19.GuideUsed'. -/
def guideUsedCard : Claim7 := { stood := { row := guideUsedRow, standIns := [], harness := (true, "aacb9726627235197a9e497631eb84136fad0ddfe9efd8ef2f4aaffcfd316471"), looks := false }, kinds := [], alts := [], laidByText := true, laidKinds := [.data], laidTests := true, laidLooks := .later }
def GuideUsedCardSaid : Prop := Claim7.holds Tryd.pinned (.plain (OpenSpec.ofChange guideUsedSpec)) guideUsedCard

/-- THE TIED CARD OF 'sawtoothlaw19.GuideChecks'. -/
def guideChecksCard : Claim7 := { stood := { row := guideChecksRow, standIns := [], harness := (true, "aacb9726627235197a9e497631eb84136fad0ddfe9efd8ef2f4aaffcfd316471"), looks := false }, kinds := [], alts := [], laidByText := true, laidKinds := [.data], laidTests := true, laidLooks := .later }
def GuideChecksCardSaid : Prop := Claim7.holds Tryd.pinned (.plain (OpenSpec.ofChange guideChecksSpec)) guideChecksCard

/-- THE TIED CARD OF 'sawtoothlaw19.GuideParts'. -/
def guidePartsCard : Claim7 := { stood := { row := guidePartsRow, standIns := [], harness := (true, "aacb9726627235197a9e497631eb84136fad0ddfe9efd8ef2f4aaffcfd316471"), looks := false }, kinds := [], alts := [], laidByText := true, laidKinds := [.data], laidTests := true, laidLooks := .later }
def GuidePartsCardSaid : Prop := Claim7.holds Tryd.pinned (.plain (OpenSpec.ofChange guidePartsSpec)) guidePartsCard

/-- THE SECOND FORM's CARD OF 'sawtoothlaw19.GuideTells'. -/
def guideTellsUptoCard : Claim7 := { stood := { row := guideTellsUptoRow, standIns := [], harness := (true, "aacb9726627235197a9e497631eb84136fad0ddfe9efd8ef2f4aaffcfd316471"), looks := false }, kinds := [], alts := [], laidByText := true, laidKinds := [.data], laidTests := true, laidLooks := .later }
def GuideTellsUptoCardSaid : Prop := Claim7.holds Tryd.pinned (.plain (OpenSpec.upto guideTellsSpec)) guideTellsUptoCard

/-- THE SECOND FORM's CARD OF 'sawtoothlaw19.GuideIdle'. -/
def guideIdleUptoCard : Claim7 := { stood := { row := guideIdleUptoRow, standIns := [], harness := (true, "aacb9726627235197a9e497631eb84136fad0ddfe9efd8ef2f4aaffcfd316471"), looks := false }, kinds := [], alts := [], laidByText := true, laidKinds := [.data], laidTests := true, laidLooks := .later }
def GuideIdleUptoCardSaid : Prop := Claim7.holds Tryd.pinned (.plain (OpenSpec.upto guideIdleSpec)) guideIdleUptoCard

/-- THE SECOND FORM's CARD OF 'sawtoothlaw19.GuidePause'. -/
def guidePauseUptoCard : Claim7 := { stood := { row := guidePauseUptoRow, standIns := [], harness := (true, "aacb9726627235197a9e497631eb84136fad0ddfe9efd8ef2f4aaffcfd316471"), looks := false }, kinds := [], alts := [], laidByText := true, laidKinds := [.data], laidTests := true, laidLooks := .later }
def GuidePauseUptoCardSaid : Prop := Claim7.holds Tryd.pinned (.plain (OpenSpec.upto guidePauseSpec)) guidePauseUptoCard

/-- THE SECOND FORM's CARD OF 'sawtoothlaw19.GuideUsed'. -/
def guideUsedUptoCard : Claim7 := { stood := { row := guideUsedUptoRow, standIns := [], harness := (true, "aacb9726627235197a9e497631eb84136fad0ddfe9efd8ef2f4aaffcfd316471"), looks := false }, kinds := [], alts := [], laidByText := true, laidKinds := [.data], laidTests := true, laidLooks := .later }
def GuideUsedUptoCardSaid : Prop := Claim7.holds Tryd.pinned (.plain (OpenSpec.upto guideUsedSpec)) guideUsedUptoCard

/-- THE SECOND FORM's CARD OF 'sawtoothlaw19.GuideChecks'. -/
def guideChecksUptoCard : Claim7 := { stood := { row := guideChecksUptoRow, standIns := [], harness := (true, "aacb9726627235197a9e497631eb84136fad0ddfe9efd8ef2f4aaffcfd316471"), looks := false }, kinds := [], alts := [], laidByText := true, laidKinds := [.data], laidTests := true, laidLooks := .later }
def GuideChecksUptoCardSaid : Prop := Claim7.holds Tryd.pinned (.plain (OpenSpec.upto guideChecksSpec)) guideChecksUptoCard

/-- THE SECOND FORM's CARD OF 'sawtoothlaw19.GuideParts'. -/
def guidePartsUptoCard : Claim7 := { stood := { row := guidePartsUptoRow, standIns := [], harness := (true, "aacb9726627235197a9e497631eb84136fad0ddfe9efd8ef2f4aaffcfd316471"), looks := false }, kinds := [], alts := [], laidByText := true, laidKinds := [.data], laidTests := true, laidLooks := .later }
def GuidePartsUptoCardSaid : Prop := Claim7.holds Tryd.pinned (.plain (OpenSpec.upto guidePartsSpec)) guidePartsUptoCard
end Rows
end Go.Proofs.YtdbikeehoildlaaDoor
