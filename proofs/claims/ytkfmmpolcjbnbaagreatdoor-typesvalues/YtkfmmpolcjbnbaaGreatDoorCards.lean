/-
  DERIVED. GIVEN WITH THE SEED: THE CARDS: each row of YtkfmmpolcjbnbaaGreatDoorRows.lean that lists a variable, with what it lists TIED to the program's text (the seventh form; the later family's looks); each row that meets fmt, with fmt's text TOLD by the authors' own Lean function (tested against real Go, not proved from fmt's source: count such statements apart). THE CARD IS WHAT COUNTS. Prove the row's statement (the work); the ties are given (YtkfmmpolcjbnbaaGreatDoorTie.lean); close each card by the builder's one call (the guide's Derived/Test/ToyasCard.lean, 'card_holds'). Laid BY PROGRAM, IN A SANDBOX (cutbox-door.mjs). By AI agents, Wed Nov 11 2026. No macro, syntax, notation, axiom, sorry.
-/
import Derived.Test.YtkfmmpolcjbnbaaGreatDoorRows
import GoSem.ClaimSeven
namespace Go.Proofs.YtkfmmpolcjbnbaaGreatDoor
namespace Rows

/-- THE TIED CARD OF 'campanilelaw01.TypesValues'. -/
def typesValuesCard : Claim7 := { stood := { row := typesValuesRow, standIns := [], harness := (true, "30135c176ce30ae57b2777fe38e6796b1b4c2870146ae157cddfcba64c10a438"), looks := false }, kinds := [], alts := [], laidByText := true, laidKinds := [.data, .data, .data], laidTests := true, laidLooks := .later }
def TypesValuesCardSaid : Prop := Claim7.holds Tryz.pinned (.plain (OpenSpec.ofChange typesValuesSpec)) typesValuesCard

/-- THE SECOND FORM's CARD OF 'campanilelaw01.TypesValues'. -/
def typesValuesUptoCard : Claim7 := { stood := { row := typesValuesUptoRow, standIns := [], harness := (true, "30135c176ce30ae57b2777fe38e6796b1b4c2870146ae157cddfcba64c10a438"), looks := false }, kinds := [], alts := [], laidByText := true, laidKinds := [.data, .data, .data], laidTests := true, laidLooks := .later }
def TypesValuesUptoCardSaid : Prop := Claim7.holds Tryz.pinned (.plain (OpenSpec.upto typesValuesSpec)) typesValuesUptoCard
end Rows
end Go.Proofs.YtkfmmpolcjbnbaaGreatDoor
