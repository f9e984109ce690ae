/-
  DERIVED. GIVEN WITH THE SEED: THE CARDS: each row of YthhcilekbmbglaaDoorRows.lean that lists a variable, with what it lists TIED to the program's text (the seventh form; the later family's looks); each row that meets fmt, with fmt's text TOLD by the authors' own Lean function (tested against real Go, not proved from fmt's source: count such statements apart). THE CARD IS WHAT COUNTS. Prove the row's statement (the work); the ties are given (YthhcilekbmbglaaDoorTie.lean); close each card by the builder's one call (the guide's Derived/Test/ToyasCard.lean, 'card_holds'). Laid BY PROGRAM, IN A SANDBOX (cutbox-door.mjs). By AI agents, Wed Nov 11 2026. No macro, syntax, notation, axiom, sorry.
-/
import Derived.Test.YthhcilekbmbglaaDoorRows
import GoSem.ClaimSeven
namespace Go.Proofs.YthhcilekbmbglaaDoor
namespace Rows

/-- THE TIED CARD OF 'campanilelaw12.MappingKnown'. -/
def mappingKnownCard : Claim7 := { stood := { row := mappingKnownRow, standIns := [], harness := (true, "1634da59f600e507f32a03c8a63ce255be3b12e21839aab7465a459f777006b5"), looks := false }, kinds := [], alts := [], laidByText := true, laidKinds := [.data], laidTests := true, laidLooks := .later }
def MappingKnownCardSaid : Prop := Claim7.holds Tryd.pinned (.plain (OpenSpec.ofChange mappingKnownSpec)) mappingKnownCard

/-- THE SECOND FORM's CARD OF 'campanilelaw12.MappingKnown'. -/
def mappingKnownUptoCard : Claim7 := { stood := { row := mappingKnownUptoRow, standIns := [], harness := (true, "1634da59f600e507f32a03c8a63ce255be3b12e21839aab7465a459f777006b5"), looks := false }, kinds := [], alts := [], laidByText := true, laidKinds := [.data], laidTests := true, laidLooks := .later }
def MappingKnownUptoCardSaid : Prop := Claim7.holds Tryd.pinned (.plain (OpenSpec.upto mappingKnownSpec)) mappingKnownUptoCard
end Rows
end Go.Proofs.YthhcilekbmbglaaDoor
