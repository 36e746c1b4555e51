/-
  DERIVED. GIVEN WITH THE SEED: THE CARDS: each row of YtlonfobeblnbbaaDoorRows.lean that lists a variable, with what it lists TIED to the program's text (the seventh form; the later family's looks); each row that meets fmt, with fmt's text TOLD by the authors' own Lean function (tested against real Go, not proved from fmt's source: count such statements apart). THE CARD IS WHAT COUNTS. Prove the row's statement (the work); the ties are given (YtlonfobeblnbbaaDoorTie.lean); close each card by the builder's one call (the guide's Derived/Test/ToyasCard.lean, 'card_holds'). Laid BY PROGRAM, IN A SANDBOX (cutbox-door.mjs). By AI agents, Wed Nov 11 2026. No macro, syntax, notation, axiom, sorry.
-/
import Derived.Test.YtlonfobeblnbbaaDoorRows
import GoSem.ClaimSeven
namespace Go.Proofs.YtlonfobeblnbbaaDoor
namespace Rows

/-- THE TIED CARD OF 'sawtoothlaw12.CubicTells'. -/
def cubicTellsCard : Claim7 := { stood := { row := cubicTellsRow, standIns := [], harness := (true, "1ee12aad77cbe1e420e58c9d34b88808c340539b5ed62a019c7f13743fdf7acc"), looks := false }, kinds := [], alts := [], laidByText := true, laidKinds := [.data], laidTests := true, laidLooks := .later }
def CubicTellsCardSaid : Prop := Claim7.holds Tryd.pinned (.plain (OpenSpec.ofChange cubicTellsSpec)) cubicTellsCard

/-- THE TIED CARD OF 'sawtoothlaw12.CubicExact'. -/
def cubicExactCard : Claim7 := { stood := { row := cubicExactRow, standIns := [], harness := (true, "1ee12aad77cbe1e420e58c9d34b88808c340539b5ed62a019c7f13743fdf7acc"), looks := false }, kinds := [], alts := [], laidByText := true, laidKinds := [.data], laidTests := true, laidLooks := .later }
def CubicExactCardSaid : Prop := Claim7.holds Tryd.pinned (.plain (OpenSpec.ofChange cubicExactSpec)) cubicExactCard

/-- THE TIED CARD OF 'sawtoothlaw12.CubicRises'. -/
def cubicRisesCard : Claim7 := { stood := { row := cubicRisesRow, standIns := [], harness := (true, "1ee12aad77cbe1e420e58c9d34b88808c340539b5ed62a019c7f13743fdf7acc"), looks := false }, kinds := [], alts := [], laidByText := true, laidKinds := [.data], laidTests := true, laidLooks := .later }
def CubicRisesCardSaid : Prop := Claim7.holds Tryd.pinned (.plain (OpenSpec.ofChange cubicRisesSpec)) cubicRisesCard

/-- THE TIED CARD OF 'sawtoothlaw12.CubicEnds'. -/
def cubicEndsCard : Claim7 := { stood := { row := cubicEndsRow, standIns := [], harness := (true, "1ee12aad77cbe1e420e58c9d34b88808c340539b5ed62a019c7f13743fdf7acc"), looks := false }, kinds := [], alts := [], laidByText := true, laidKinds := [.data], laidTests := true, laidLooks := .later }
def CubicEndsCardSaid : Prop := Claim7.holds Tryd.pinned (.plain (OpenSpec.ofChange cubicEndsSpec)) cubicEndsCard

/-- THE TIED CARD OF 'sawtoothlaw12.CubicTarget'. -/
def cubicTargetCard : Claim7 := { stood := { row := cubicTargetRow, standIns := [], harness := (true, "1ee12aad77cbe1e420e58c9d34b88808c340539b5ed62a019c7f13743fdf7acc"), looks := false }, kinds := [], alts := [], laidByText := true, laidKinds := [.data], laidTests := true, laidLooks := .later }
def CubicTargetCardSaid : Prop := Claim7.holds Tryd.pinned (.plain (OpenSpec.ofChange cubicTargetSpec)) cubicTargetCard

/-- THE TIED CARD OF 'sawtoothlaw12.CubicReach'. -/
def cubicReachCard : Claim7 := { stood := { row := cubicReachRow, standIns := [], harness := (true, "1ee12aad77cbe1e420e58c9d34b88808c340539b5ed62a019c7f13743fdf7acc"), looks := false }, kinds := [], alts := [], laidByText := true, laidKinds := [.data], laidTests := true, laidLooks := .later }
def CubicReachCardSaid : Prop := Claim7.holds Tryd.pinned (.plain (OpenSpec.ofChange cubicReachSpec)) cubicReachCard

/-- THE TIED CARD OF 'sawtoothlaw12.CubicLater'. -/
def cubicLaterCard : Claim7 := { stood := { row := cubicLaterRow, standIns := [], harness := (true, "1ee12aad77cbe1e420e58c9d34b88808c340539b5ed62a019c7f13743fdf7acc"), looks := false }, kinds := [], alts := [], laidByText := true, laidKinds := [.data], laidTests := true, laidLooks := .later }
def CubicLaterCardSaid : Prop := Claim7.holds Tryd.pinned (.plain (OpenSpec.ofChange cubicLaterSpec)) cubicLaterCard

/-- THE SECOND FORM's CARD OF 'sawtoothlaw12.CubicTells'. -/
def cubicTellsUptoCard : Claim7 := { stood := { row := cubicTellsUptoRow, standIns := [], harness := (true, "1ee12aad77cbe1e420e58c9d34b88808c340539b5ed62a019c7f13743fdf7acc"), looks := false }, kinds := [], alts := [], laidByText := true, laidKinds := [.data], laidTests := true, laidLooks := .later }
def CubicTellsUptoCardSaid : Prop := Claim7.holds Tryd.pinned (.plain (OpenSpec.upto cubicTellsSpec)) cubicTellsUptoCard

/-- THE SECOND FORM's CARD OF 'sawtoothlaw12.CubicExact'. -/
def cubicExactUptoCard : Claim7 := { stood := { row := cubicExactUptoRow, standIns := [], harness := (true, "1ee12aad77cbe1e420e58c9d34b88808c340539b5ed62a019c7f13743fdf7acc"), looks := false }, kinds := [], alts := [], laidByText := true, laidKinds := [.data], laidTests := true, laidLooks := .later }
def CubicExactUptoCardSaid : Prop := Claim7.holds Tryd.pinned (.plain (OpenSpec.upto cubicExactSpec)) cubicExactUptoCard

/-- THE SECOND FORM's CARD OF 'sawtoothlaw12.CubicRises'. -/
def cubicRisesUptoCard : Claim7 := { stood := { row := cubicRisesUptoRow, standIns := [], harness := (true, "1ee12aad77cbe1e420e58c9d34b88808c340539b5ed62a019c7f13743fdf7acc"), looks := false }, kinds := [], alts := [], laidByText := true, laidKinds := [.data], laidTests := true, laidLooks := .later }
def CubicRisesUptoCardSaid : Prop := Claim7.holds Tryd.pinned (.plain (OpenSpec.upto cubicRisesSpec)) cubicRisesUptoCard

/-- THE SECOND FORM's CARD OF 'sawtoothlaw12.CubicEnds'. -/
def cubicEndsUptoCard : Claim7 := { stood := { row := cubicEndsUptoRow, standIns := [], harness := (true, "1ee12aad77cbe1e420e58c9d34b88808c340539b5ed62a019c7f13743fdf7acc"), looks := false }, kinds := [], alts := [], laidByText := true, laidKinds := [.data], laidTests := true, laidLooks := .later }
def CubicEndsUptoCardSaid : Prop := Claim7.holds Tryd.pinned (.plain (OpenSpec.upto cubicEndsSpec)) cubicEndsUptoCard

/-- THE SECOND FORM's CARD OF 'sawtoothlaw12.CubicTarget'. -/
def cubicTargetUptoCard : Claim7 := { stood := { row := cubicTargetUptoRow, standIns := [], harness := (true, "1ee12aad77cbe1e420e58c9d34b88808c340539b5ed62a019c7f13743fdf7acc"), looks := false }, kinds := [], alts := [], laidByText := true, laidKinds := [.data], laidTests := true, laidLooks := .later }
def CubicTargetUptoCardSaid : Prop := Claim7.holds Tryd.pinned (.plain (OpenSpec.upto cubicTargetSpec)) cubicTargetUptoCard

/-- THE SECOND FORM's CARD OF 'sawtoothlaw12.CubicReach'. -/
def cubicReachUptoCard : Claim7 := { stood := { row := cubicReachUptoRow, standIns := [], harness := (true, "1ee12aad77cbe1e420e58c9d34b88808c340539b5ed62a019c7f13743fdf7acc"), looks := false }, kinds := [], alts := [], laidByText := true, laidKinds := [.data], laidTests := true, laidLooks := .later }
def CubicReachUptoCardSaid : Prop := Claim7.holds Tryd.pinned (.plain (OpenSpec.upto cubicReachSpec)) cubicReachUptoCard

/-- THE SECOND FORM's CARD OF 'sawtoothlaw12.CubicLater'. -/
def cubicLaterUptoCard : Claim7 := { stood := { row := cubicLaterUptoRow, standIns := [], harness := (true, "1ee12aad77cbe1e420e58c9d34b88808c340539b5ed62a019c7f13743fdf7acc"), looks := false }, kinds := [], alts := [], laidByText := true, laidKinds := [.data], laidTests := true, laidLooks := .later }
def CubicLaterUptoCardSaid : Prop := Claim7.holds Tryd.pinned (.plain (OpenSpec.upto cubicLaterSpec)) cubicLaterUptoCard
end Rows
end Go.Proofs.YtlonfobeblnbbaaDoor
