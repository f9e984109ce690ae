/-
  DERIVED. GIVEN WITH THE SEED: THE CARDS: each row of YthoaandafmmojaaDoorRows.lean that lists a variable, with what it lists TIED to the program's text (the seventh form; the later family's looks); each row that meets fmt, with fmt's text TOLD by the authors' own Lean function (tested against real Go, not proved from fmt's source: count such statements apart). THE CARD IS WHAT COUNTS. Prove the row's statement (the work); the ties are given (YthoaandafmmojaaDoorTie.lean); close each card by the builder's one call (the guide's Derived/Test/ToyasCard.lean, 'card_holds'). Laid BY PROGRAM, IN A SANDBOX (cutbox-door.mjs). By AI agents, Wed Nov 11 2026. No macro, syntax, notation, axiom, sorry.
-/
import Derived.Test.YthoaandafmmojaaDoorRows
import GoSem.ClaimSeven
namespace Go.Proofs.YthoaandafmmojaaDoor
namespace Rows

/-- THE TIED CARD OF 'campanilelaw01.TypesFloats'. -/
def typesFloatsCard : Claim7 := { stood := { row := typesFloatsRow, standIns := [], harness := (true, "918cb87f36789ab8f71093bddcdc13ea525e3993e8840344979eb0da7e576378"), looks := false }, kinds := [], alts := [], laidByText := true, laidKinds := [.data, .data, .data], laidTests := true, laidLooks := .later }
def TypesFloatsCardSaid : Prop := Claim7.holds Tryd.pinned (.plain (OpenSpec.ofChange typesFloatsSpec)) typesFloatsCard

/-- THE SECOND FORM's CARD OF 'campanilelaw01.TypesFloats'. -/
def typesFloatsUptoCard : Claim7 := { stood := { row := typesFloatsUptoRow, standIns := [], harness := (true, "918cb87f36789ab8f71093bddcdc13ea525e3993e8840344979eb0da7e576378"), looks := false }, kinds := [], alts := [], laidByText := true, laidKinds := [.data, .data, .data], laidTests := true, laidLooks := .later }
def TypesFloatsUptoCardSaid : Prop := Claim7.holds Tryd.pinned (.plain (OpenSpec.upto typesFloatsSpec)) typesFloatsUptoCard
end Rows
end Go.Proofs.YthoaandafmmojaaDoor
