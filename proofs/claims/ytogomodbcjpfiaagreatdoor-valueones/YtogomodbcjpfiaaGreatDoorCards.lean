/-
  DERIVED. GIVEN WITH THE SEED: THE CARDS: each row of YtogomodbcjpfiaaGreatDoorRows.lean that lists a variable, with what it lists TIED to the program's text (the seventh form; the later family's looks); each row that meets fmt, with fmt's text TOLD by the authors' own Lean function (tested against real Go, not proved from fmt's source: count such statements apart). THE CARD IS WHAT COUNTS. Prove the row's statement (the work); the ties are given (YtogomodbcjpfiaaGreatDoorTie.lean); close each card by the builder's one call (the guide's Derived/Test/ToyasCard.lean, 'card_holds'). Laid BY PROGRAM, IN A SANDBOX (cutbox-door.mjs). By AI agents, Wed Nov 11 2026. No macro, syntax, notation, axiom, sorry.
-/
import Derived.Test.YtogomodbcjpfiaaGreatDoorRows
import GoSem.ClaimSeven
namespace Go.Proofs.YtogomodbcjpfiaaGreatDoor
namespace Rows

/-- THE TIED CARD OF 'exciselaw13.ValueOps'. -/
def valueOpsCard : Claim7 := { stood := { row := valueOpsRow, standIns := [], harness := (true, "659db184b3343810e8ce6c4891cc0371e60a225b64654ef8fa027b29cfd2aad5"), looks := false }, kinds := [], alts := [], laidByText := true, laidKinds := [.data, .data, .data], laidTests := true, laidLooks := .later }
def ValueOpsCardSaid : Prop := Claim7.holds Tryz.pinned (.plain (OpenSpec.ofChange valueOpsSpec)) valueOpsCard

/-- THE TIED CARD OF 'exciselaw13.ValueOnes'. -/
def valueOnesCard : Claim7 := { stood := { row := valueOnesRow, standIns := [], harness := (true, "659db184b3343810e8ce6c4891cc0371e60a225b64654ef8fa027b29cfd2aad5"), looks := false }, kinds := [], alts := [], laidByText := true, laidKinds := [.data, .data, .data], laidTests := true, laidLooks := .later }
def ValueOnesCardSaid : Prop := Claim7.holds Tryz.pinned (.plain (OpenSpec.ofChange valueOnesSpec)) valueOnesCard

/-- THE TIED CARD OF 'exciselaw13.ValueIf'. -/
def valueIfCard : Claim7 := { stood := { row := valueIfRow, standIns := [], harness := (true, "659db184b3343810e8ce6c4891cc0371e60a225b64654ef8fa027b29cfd2aad5"), looks := false }, kinds := [], alts := [], laidByText := true, laidKinds := [.data, .data, .data], laidTests := true, laidLooks := .later }
def ValueIfCardSaid : Prop := Claim7.holds Tryz.pinned (.plain (OpenSpec.ofChange valueIfSpec)) valueIfCard

/-- THE TIED CARD OF 'exciselaw13.ValueFits'. -/
def valueFitsCard : Claim7 := { stood := { row := valueFitsRow, standIns := [], harness := (true, "659db184b3343810e8ce6c4891cc0371e60a225b64654ef8fa027b29cfd2aad5"), looks := false }, kinds := [], alts := [], laidByText := true, laidKinds := [.data, .data, .data], laidTests := true, laidLooks := .later }
def ValueFitsCardSaid : Prop := Claim7.holds Tryz.pinned (.plain (OpenSpec.ofChange valueFitsSpec)) valueFitsCard

/-- THE TIED CARD OF 'exciselaw13.ValueStays'. -/
def valueStaysCard : Claim7 := { stood := { row := valueStaysRow, standIns := [], harness := (true, "659db184b3343810e8ce6c4891cc0371e60a225b64654ef8fa027b29cfd2aad5"), looks := false }, kinds := [], alts := [], laidByText := true, laidKinds := [.data, .data, .data], laidTests := true, laidLooks := .later }
def ValueStaysCardSaid : Prop := Claim7.holds Tryz.pinned (.plain (OpenSpec.ofChange valueStaysSpec)) valueStaysCard

/-- THE TIED CARD OF 'exciselaw13.ValueErrors'. -/
def valueErrorsCard : Claim7 := { stood := { row := valueErrorsRow, standIns := [], harness := (true, "659db184b3343810e8ce6c4891cc0371e60a225b64654ef8fa027b29cfd2aad5"), looks := false }, kinds := [], alts := [], laidByText := true, laidKinds := [.data, .data, .data], laidTests := true, laidLooks := .later }
def ValueErrorsCardSaid : Prop := Claim7.holds Tryz.pinned (.plain (OpenSpec.ofChange valueErrorsSpec)) valueErrorsCard

/-- THE TIED CARD OF 'exciselaw13.ValueTurns'. -/
def valueTurnsCard : Claim7 := { stood := { row := valueTurnsRow, standIns := [], harness := (true, "659db184b3343810e8ce6c4891cc0371e60a225b64654ef8fa027b29cfd2aad5"), looks := false }, kinds := [], alts := [], laidByText := true, laidKinds := [.data, .data, .data], laidTests := true, laidLooks := .later }
def ValueTurnsCardSaid : Prop := Claim7.holds Tryz.pinned (.plain (OpenSpec.ofChange valueTurnsSpec)) valueTurnsCard

/-- THE SECOND FORM's CARD OF 'exciselaw13.ValueOps'. -/
def valueOpsUptoCard : Claim7 := { stood := { row := valueOpsUptoRow, standIns := [], harness := (true, "659db184b3343810e8ce6c4891cc0371e60a225b64654ef8fa027b29cfd2aad5"), looks := false }, kinds := [], alts := [], laidByText := true, laidKinds := [.data, .data, .data], laidTests := true, laidLooks := .later }
def ValueOpsUptoCardSaid : Prop := Claim7.holds Tryz.pinned (.plain (OpenSpec.upto valueOpsSpec)) valueOpsUptoCard

/-- THE SECOND FORM's CARD OF 'exciselaw13.ValueOnes'. -/
def valueOnesUptoCard : Claim7 := { stood := { row := valueOnesUptoRow, standIns := [], harness := (true, "659db184b3343810e8ce6c4891cc0371e60a225b64654ef8fa027b29cfd2aad5"), looks := false }, kinds := [], alts := [], laidByText := true, laidKinds := [.data, .data, .data], laidTests := true, laidLooks := .later }
def ValueOnesUptoCardSaid : Prop := Claim7.holds Tryz.pinned (.plain (OpenSpec.upto valueOnesSpec)) valueOnesUptoCard

/-- THE SECOND FORM's CARD OF 'exciselaw13.ValueIf'. -/
def valueIfUptoCard : Claim7 := { stood := { row := valueIfUptoRow, standIns := [], harness := (true, "659db184b3343810e8ce6c4891cc0371e60a225b64654ef8fa027b29cfd2aad5"), looks := false }, kinds := [], alts := [], laidByText := true, laidKinds := [.data, .data, .data], laidTests := true, laidLooks := .later }
def ValueIfUptoCardSaid : Prop := Claim7.holds Tryz.pinned (.plain (OpenSpec.upto valueIfSpec)) valueIfUptoCard

/-- THE SECOND FORM's CARD OF 'exciselaw13.ValueFits'. -/
def valueFitsUptoCard : Claim7 := { stood := { row := valueFitsUptoRow, standIns := [], harness := (true, "659db184b3343810e8ce6c4891cc0371e60a225b64654ef8fa027b29cfd2aad5"), looks := false }, kinds := [], alts := [], laidByText := true, laidKinds := [.data, .data, .data], laidTests := true, laidLooks := .later }
def ValueFitsUptoCardSaid : Prop := Claim7.holds Tryz.pinned (.plain (OpenSpec.upto valueFitsSpec)) valueFitsUptoCard

/-- THE SECOND FORM's CARD OF 'exciselaw13.ValueStays'. -/
def valueStaysUptoCard : Claim7 := { stood := { row := valueStaysUptoRow, standIns := [], harness := (true, "659db184b3343810e8ce6c4891cc0371e60a225b64654ef8fa027b29cfd2aad5"), looks := false }, kinds := [], alts := [], laidByText := true, laidKinds := [.data, .data, .data], laidTests := true, laidLooks := .later }
def ValueStaysUptoCardSaid : Prop := Claim7.holds Tryz.pinned (.plain (OpenSpec.upto valueStaysSpec)) valueStaysUptoCard

/-- THE SECOND FORM's CARD OF 'exciselaw13.ValueErrors'. -/
def valueErrorsUptoCard : Claim7 := { stood := { row := valueErrorsUptoRow, standIns := [], harness := (true, "659db184b3343810e8ce6c4891cc0371e60a225b64654ef8fa027b29cfd2aad5"), looks := false }, kinds := [], alts := [], laidByText := true, laidKinds := [.data, .data, .data], laidTests := true, laidLooks := .later }
def ValueErrorsUptoCardSaid : Prop := Claim7.holds Tryz.pinned (.plain (OpenSpec.upto valueErrorsSpec)) valueErrorsUptoCard

/-- THE SECOND FORM's CARD OF 'exciselaw13.ValueTurns'. -/
def valueTurnsUptoCard : Claim7 := { stood := { row := valueTurnsUptoRow, standIns := [], harness := (true, "659db184b3343810e8ce6c4891cc0371e60a225b64654ef8fa027b29cfd2aad5"), looks := false }, kinds := [], alts := [], laidByText := true, laidKinds := [.data, .data, .data], laidTests := true, laidLooks := .later }
def ValueTurnsUptoCardSaid : Prop := Claim7.holds Tryz.pinned (.plain (OpenSpec.upto valueTurnsSpec)) valueTurnsUptoCard
end Rows
end Go.Proofs.YtogomodbcjpfiaaGreatDoor
