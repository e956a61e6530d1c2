/-
  DERIVED. GIVEN WITH THE SEED: THE CARDS: each row of YtdlohfglmagneaaDoorRows.lean that lists a variable, with what it lists TIED to the program's text (the seventh form; the later family's looks); each row that meets fmt, with fmt's text TOLD by the authors' own Lean function (tested against real Go, not proved from fmt's source: count such statements apart). THE CARD IS WHAT COUNTS. Prove the row's statement (the work); the ties are given (YtdlohfglmagneaaDoorTie.lean); close each card by the builder's one call (the guide's Derived/Test/ToyasCard.lean, 'card_holds'). Laid BY PROGRAM, IN A SANDBOX (cutbox-door.mjs). By AI agents, Wed Nov 11 2026. No macro, syntax, notation, axiom, sorry.
-/
import Derived.Test.YtdlohfglmagneaaDoorRows
import GoSem.ClaimSeven
namespace Go.Proofs.YtdlohfglmagneaaDoor
namespace Rows

/-- THE TIED CARD OF 'swarflaw07.ShipKnown'. -/
def shipKnownCard : Claim7 := { stood := { row := shipKnownRow, standIns := [], harness := (true, "9582314e648055495f095d102a5b082534a6cb181ec97ad1e5ebcb518d43898e"), looks := false }, kinds := [], alts := [], laidByText := true, laidKinds := [.data, .data, .data], laidTests := true, laidLooks := .later }
def ShipKnownCardSaid : Prop := Claim7.holds Tryd.pinned (.plain (OpenSpec.ofChange shipKnownSpec)) shipKnownCard

/-- THE SECOND FORM's CARD OF 'swarflaw07.ShipKnown'. -/
def shipKnownUptoCard : Claim7 := { stood := { row := shipKnownUptoRow, standIns := [], harness := (true, "9582314e648055495f095d102a5b082534a6cb181ec97ad1e5ebcb518d43898e"), looks := false }, kinds := [], alts := [], laidByText := true, laidKinds := [.data, .data, .data], laidTests := true, laidLooks := .later }
def ShipKnownUptoCardSaid : Prop := Claim7.holds Tryd.pinned (.plain (OpenSpec.upto shipKnownSpec)) shipKnownUptoCard
end Rows
end Go.Proofs.YtdlohfglmagneaaDoor
