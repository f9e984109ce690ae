/-
  DERIVED. GIVEN WITH THE SEED: THE CARDS: each row of YtajllkkbgpijiaaDoorRows.lean that lists a variable, with what it lists TIED to the program's text (the seventh form; the later family's looks); each row that meets fmt, with fmt's text TOLD by the authors' own Lean function (tested against real Go, not proved from fmt's source: count such statements apart). THE CARD IS WHAT COUNTS. Prove the row's statement (the work); the ties are given (YtajllkkbgpijiaaDoorTie.lean); close each card by the builder's one call (the guide's Derived/Test/ToyasCard.lean, 'card_holds'). Laid BY PROGRAM, IN A SANDBOX (cutbox-door.mjs). By AI agents, Wed Nov 11 2026. No macro, syntax, notation, axiom, sorry.
-/
import Derived.Test.YtajllkkbgpijiaaDoorRows
import GoSem.ClaimSeven
namespace Go.Proofs.YtajllkkbgpijiaaDoor
namespace Rows

/-- THE TIED CARD OF 'campanilelaw12.MappingPacks'. -/
def mappingPacksCard : Claim7 := { stood := { row := mappingPacksRow, standIns := [], harness := (true, "8c8eed3ff1ab6d1d6c752f024fc7ed118a5b970e3b589937bca78bdf6ce152ad"), looks := false }, kinds := [], alts := [], laidByText := true, laidKinds := [.data], laidTests := true, laidLooks := .later }
def MappingPacksCardSaid : Prop := Claim7.holds Tryd.pinned (.plain (OpenSpec.ofChange mappingPacksSpec)) mappingPacksCard

/-- THE SECOND FORM's CARD OF 'campanilelaw12.MappingPacks'. -/
def mappingPacksUptoCard : Claim7 := { stood := { row := mappingPacksUptoRow, standIns := [], harness := (true, "8c8eed3ff1ab6d1d6c752f024fc7ed118a5b970e3b589937bca78bdf6ce152ad"), looks := false }, kinds := [], alts := [], laidByText := true, laidKinds := [.data], laidTests := true, laidLooks := .later }
def MappingPacksUptoCardSaid : Prop := Claim7.holds Tryd.pinned (.plain (OpenSpec.upto mappingPacksSpec)) mappingPacksUptoCard
end Rows
end Go.Proofs.YtajllkkbgpijiaaDoor
