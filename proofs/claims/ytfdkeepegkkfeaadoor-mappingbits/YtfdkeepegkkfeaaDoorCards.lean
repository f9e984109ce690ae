/-
  DERIVED. GIVEN WITH THE SEED: THE CARDS: each row of YtfdkeepegkkfeaaDoorRows.lean that lists a variable, with what it lists TIED to the program's text (the seventh form; the later family's looks); each row that meets fmt, with fmt's text TOLD by the authors' own Lean function (tested against real Go, not proved from fmt's source: count such statements apart). THE CARD IS WHAT COUNTS. Prove the row's statement (the work); the ties are given (YtfdkeepegkkfeaaDoorTie.lean); close each card by the builder's one call (the guide's Derived/Test/ToyasCard.lean, 'card_holds'). Laid BY PROGRAM, IN A SANDBOX (cutbox-door.mjs). By AI agents, Wed Nov 11 2026. No macro, syntax, notation, axiom, sorry.
-/
import Derived.Test.YtfdkeepegkkfeaaDoorRows
import GoSem.ClaimSeven
namespace Go.Proofs.YtfdkeepegkkfeaaDoor
namespace Rows

/-- THE TIED CARD OF 'campanilelaw12.MappingBits'. -/
def mappingBitsCard : Claim7 := { stood := { row := mappingBitsRow, standIns := [], harness := (true, "f953aa7c76dd48fb2870cec1b9212561c2b8ac65373646bcbbd1116dc376a6fb"), looks := false }, kinds := [], alts := [], laidByText := true, laidKinds := [.data], laidTests := true, laidLooks := .later }
def MappingBitsCardSaid : Prop := Claim7.holds Tryd.pinned (.plain (OpenSpec.ofChange mappingBitsSpec)) mappingBitsCard

/-- THE SECOND FORM's CARD OF 'campanilelaw12.MappingBits'. -/
def mappingBitsUptoCard : Claim7 := { stood := { row := mappingBitsUptoRow, standIns := [], harness := (true, "f953aa7c76dd48fb2870cec1b9212561c2b8ac65373646bcbbd1116dc376a6fb"), looks := false }, kinds := [], alts := [], laidByText := true, laidKinds := [.data], laidTests := true, laidLooks := .later }
def MappingBitsUptoCardSaid : Prop := Claim7.holds Tryd.pinned (.plain (OpenSpec.upto mappingBitsSpec)) mappingBitsUptoCard
end Rows
end Go.Proofs.YtfdkeepegkkfeaaDoor
