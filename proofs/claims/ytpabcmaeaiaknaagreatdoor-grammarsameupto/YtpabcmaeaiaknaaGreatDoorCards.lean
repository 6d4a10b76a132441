/-
  DERIVED. GIVEN WITH THE SEED: THE CARDS: each row of YtpabcmaeaiaknaaGreatDoorRows.lean that lists a variable, with what it lists TIED to the program's text (the seventh form; the later family's looks); each row that meets fmt, with fmt's text TOLD by the authors' own Lean function (tested against real Go, not proved from fmt's source: count such statements apart). THE CARD IS WHAT COUNTS. Prove the row's statement (the work); the ties are given (YtpabcmaeaiaknaaGreatDoorTie.lean); close each card by the builder's one call (the guide's Derived/Test/ToyasCard.lean, 'card_holds'). Laid BY PROGRAM, IN A SANDBOX (cutbox-door.mjs). By AI agents, Wed Nov 11 2026. No macro, syntax, notation, axiom, sorry.
-/
import Derived.Test.YtpabcmaeaiaknaaGreatDoorRows
import GoSem.ClaimSeven
namespace Go.Proofs.YtpabcmaeaiaknaaGreatDoor
namespace Rows

/-- THE TIED CARD OF 'exciselaw08.GrammarParts'. -/
def grammarPartsCard : Claim7 := { stood := { row := grammarPartsRow, standIns := [], harness := (true, "d47767161f3d1e7d65e3da2718d7db94a0f457f75bd02237f9ae23fb5ee60a82"), looks := false }, kinds := [], alts := [], laidByText := true, laidKinds := [.data, .data, .data, .pinned], laidTests := true, laidLooks := .later }
def GrammarPartsCardSaid : Prop := Claim7.holds Tryz.pinned (.plain (OpenSpec.ofChange grammarPartsSpec)) grammarPartsCard

/-- THE TIED CARD OF 'exciselaw08.GrammarPrints'. -/
def grammarPrintsCard : Claim7 := { stood := { row := grammarPrintsRow, standIns := [], harness := (true, "d47767161f3d1e7d65e3da2718d7db94a0f457f75bd02237f9ae23fb5ee60a82"), looks := false }, kinds := [], alts := [], laidByText := true, laidKinds := [.data, .data, .data, .data, .data, .data, .pinned], laidTests := true, laidLooks := .later }
def GrammarPrintsCardSaid : Prop := Claim7.holds Tryz.pinned (.plain (OpenSpec.ofChange grammarPrintsSpec)) grammarPrintsCard

/-- THE TIED CARD OF 'exciselaw08.GrammarSame'. -/
def grammarSameCard : Claim7 := { stood := { row := grammarSameRow, standIns := [], harness := (true, "d47767161f3d1e7d65e3da2718d7db94a0f457f75bd02237f9ae23fb5ee60a82"), looks := false }, kinds := [], alts := [], laidByText := true, laidKinds := [.data, .data, .data, .pinned], laidTests := true, laidLooks := .later }
def GrammarSameCardSaid : Prop := Claim7.holds Tryz.pinned (.plain (OpenSpec.ofChange grammarSameSpec)) grammarSameCard

/-- THE TIED CARD OF 'exciselaw08.GrammarBack'. -/
def grammarBackCard : Claim7 := { stood := { row := grammarBackRow, standIns := [], harness := (true, "d47767161f3d1e7d65e3da2718d7db94a0f457f75bd02237f9ae23fb5ee60a82"), looks := false }, kinds := [], alts := [], laidByText := true, laidKinds := [.data, .data, .data, .data, .data, .data, .pinned], laidTests := true, laidLooks := .later }
def GrammarBackCardSaid : Prop := Claim7.holds Tryz.pinned (.plain (OpenSpec.ofChange grammarBackSpec)) grammarBackCard

/-- THE TIED CARD OF 'exciselaw08.GrammarBlanks'. -/
def grammarBlanksCard : Claim7 := { stood := { row := grammarBlanksRow, standIns := [], harness := (true, "d47767161f3d1e7d65e3da2718d7db94a0f457f75bd02237f9ae23fb5ee60a82"), looks := false }, kinds := [], alts := [], laidByText := true, laidKinds := [.data, .data, .data, .pinned], laidTests := true, laidLooks := .later }
def GrammarBlanksCardSaid : Prop := Claim7.holds Tryz.pinned (.plain (OpenSpec.ofChange grammarBlanksSpec)) grammarBlanksCard

/-- THE SECOND FORM's CARD OF 'exciselaw08.GrammarParts'. -/
def grammarPartsUptoCard : Claim7 := { stood := { row := grammarPartsUptoRow, standIns := [], harness := (true, "d47767161f3d1e7d65e3da2718d7db94a0f457f75bd02237f9ae23fb5ee60a82"), looks := false }, kinds := [], alts := [], laidByText := true, laidKinds := [.data, .data, .data, .pinned], laidTests := true, laidLooks := .later }
def GrammarPartsUptoCardSaid : Prop := Claim7.holds Tryz.pinned (.plain (OpenSpec.upto grammarPartsSpec)) grammarPartsUptoCard

/-- THE SECOND FORM's CARD OF 'exciselaw08.GrammarPrints'. -/
def grammarPrintsUptoCard : Claim7 := { stood := { row := grammarPrintsUptoRow, standIns := [], harness := (true, "d47767161f3d1e7d65e3da2718d7db94a0f457f75bd02237f9ae23fb5ee60a82"), looks := false }, kinds := [], alts := [], laidByText := true, laidKinds := [.data, .data, .data, .data, .data, .data, .pinned], laidTests := true, laidLooks := .later }
def GrammarPrintsUptoCardSaid : Prop := Claim7.holds Tryz.pinned (.plain (OpenSpec.upto grammarPrintsSpec)) grammarPrintsUptoCard

/-- THE SECOND FORM's CARD OF 'exciselaw08.GrammarSame'. -/
def grammarSameUptoCard : Claim7 := { stood := { row := grammarSameUptoRow, standIns := [], harness := (true, "d47767161f3d1e7d65e3da2718d7db94a0f457f75bd02237f9ae23fb5ee60a82"), looks := false }, kinds := [], alts := [], laidByText := true, laidKinds := [.data, .data, .data, .pinned], laidTests := true, laidLooks := .later }
def GrammarSameUptoCardSaid : Prop := Claim7.holds Tryz.pinned (.plain (OpenSpec.upto grammarSameSpec)) grammarSameUptoCard

/-- THE SECOND FORM's CARD OF 'exciselaw08.GrammarBack'. -/
def grammarBackUptoCard : Claim7 := { stood := { row := grammarBackUptoRow, standIns := [], harness := (true, "d47767161f3d1e7d65e3da2718d7db94a0f457f75bd02237f9ae23fb5ee60a82"), looks := false }, kinds := [], alts := [], laidByText := true, laidKinds := [.data, .data, .data, .data, .data, .data, .pinned], laidTests := true, laidLooks := .later }
def GrammarBackUptoCardSaid : Prop := Claim7.holds Tryz.pinned (.plain (OpenSpec.upto grammarBackSpec)) grammarBackUptoCard

/-- THE SECOND FORM's CARD OF 'exciselaw08.GrammarBlanks'. -/
def grammarBlanksUptoCard : Claim7 := { stood := { row := grammarBlanksUptoRow, standIns := [], harness := (true, "d47767161f3d1e7d65e3da2718d7db94a0f457f75bd02237f9ae23fb5ee60a82"), looks := false }, kinds := [], alts := [], laidByText := true, laidKinds := [.data, .data, .data, .pinned], laidTests := true, laidLooks := .later }
def GrammarBlanksUptoCardSaid : Prop := Claim7.holds Tryz.pinned (.plain (OpenSpec.upto grammarBlanksSpec)) grammarBlanksUptoCard
end Rows
end Go.Proofs.YtpabcmaeaiaknaaGreatDoor
