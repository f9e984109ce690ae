/-
  DERIVED. GIVEN WITH THE SEED: THE CARDS: each row of YteifogeeckomaaaDoorRows.lean that lists a variable, with what it lists TIED to the program's text (the seventh form; the later family's looks); each row that meets fmt, with fmt's text TOLD by the authors' own Lean function (tested against real Go, not proved from fmt's source: count such statements apart). THE CARD IS WHAT COUNTS. Prove the row's statement (the work); the ties are given (YteifogeeckomaaaDoorTie.lean); close each card by the builder's one call (the guide's Derived/Test/ToyasCard.lean, 'card_holds'). Laid BY PROGRAM, IN A SANDBOX (cutbox-door.mjs). By AI agents, Wed Nov 11 2026. No macro, syntax, notation, axiom, sorry.
-/
import Derived.Test.YteifogeeckomaaaDoorRows
import GoSem.ClaimSeven
namespace Go.Proofs.YteifogeeckomaaaDoor
namespace Rows

/-- THE TIED CARD OF 'campanilelaw12.MappingNumbers'. -/
def mappingNumbersCard : Claim7 := { stood := { row := mappingNumbersRow, standIns := [], harness := (true, "d086f8086e05401770a77e5e44998407433f4b6faca44691612861aecf00de6b"), looks := false }, kinds := [], alts := [], laidByText := true, laidKinds := [.data], laidTests := true, laidLooks := .later }
def MappingNumbersCardSaid : Prop := Claim7.holds Tryd.pinned (.plain (OpenSpec.ofChange mappingNumbersSpec)) mappingNumbersCard

/-- THE SECOND FORM's CARD OF 'campanilelaw12.MappingNumbers'. -/
def mappingNumbersUptoCard : Claim7 := { stood := { row := mappingNumbersUptoRow, standIns := [], harness := (true, "d086f8086e05401770a77e5e44998407433f4b6faca44691612861aecf00de6b"), looks := false }, kinds := [], alts := [], laidByText := true, laidKinds := [.data], laidTests := true, laidLooks := .later }
def MappingNumbersUptoCardSaid : Prop := Claim7.holds Tryd.pinned (.plain (OpenSpec.upto mappingNumbersSpec)) mappingNumbersUptoCard
end Rows
end Go.Proofs.YteifogeeckomaaaDoor
