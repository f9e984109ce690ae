/-
  DERIVED. GIVEN WITH THE SEED: THE CARDS: each row of YtajllkkbgpijiaaGreatDoorRows.lean that lists a variable, with what it lists TIED to the program's text (the seventh form; the later family's looks); each row that meets fmt, with fmt's text TOLD by the authors' own Lean function (tested against real Go, not proved from fmt's source: count such statements apart). THE CARD IS WHAT COUNTS. Prove the row's statement (the work); the ties are given (YtajllkkbgpijiaaGreatDoorTie.lean); close each card by the builder's one call (the guide's Derived/Test/ToyasCard.lean, 'card_holds'). Laid BY PROGRAM, IN A SANDBOX (cutbox-door.mjs). By AI agents, Wed Nov 11 2026. No macro, syntax, notation, axiom, sorry.
-/
import Derived.Test.YtajllkkbgpijiaaGreatDoorRows
import GoSem.ClaimSeven
namespace Go.Proofs.YtajllkkbgpijiaaGreatDoor
namespace Rows

/-- THE TIED CARD OF 'campanilelaw12.MappingWrites'. -/
def mappingWritesCard : Claim7 := { stood := { row := mappingWritesRow, standIns := [], harness := (true, "a452cd0736d4a37f625f4116c73501b64781b6b0010099b6f342b3ad46e831d5"), looks := false }, kinds := [], alts := [], laidByText := true, laidKinds := [.data], laidTests := true, laidLooks := .later }
def MappingWritesCardSaid : Prop := Claim7.holds Tryz.pinned (.plain (OpenSpec.ofChange mappingWritesSpec)) mappingWritesCard

/-- THE SECOND FORM's CARD OF 'campanilelaw12.MappingWrites'. -/
def mappingWritesUptoCard : Claim7 := { stood := { row := mappingWritesUptoRow, standIns := [], harness := (true, "a452cd0736d4a37f625f4116c73501b64781b6b0010099b6f342b3ad46e831d5"), looks := false }, kinds := [], alts := [], laidByText := true, laidKinds := [.data], laidTests := true, laidLooks := .later }
def MappingWritesUptoCardSaid : Prop := Claim7.holds Tryz.pinned (.plain (OpenSpec.upto mappingWritesSpec)) mappingWritesUptoCard
end Rows
end Go.Proofs.YtajllkkbgpijiaaGreatDoor
