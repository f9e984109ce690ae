/-
  DERIVED. GIVEN WITH THE SEED: THE CARDS: each row of YtdmpmihhkfmdiaaGreatDoorRows.lean that lists a variable, with what it lists TIED to the program's text (the seventh form; the later family's looks); each row that meets fmt, with fmt's text TOLD by the authors' own Lean function (tested against real Go, not proved from fmt's source: count such statements apart). THE CARD IS WHAT COUNTS. Prove the row's statement (the work); the ties are given (YtdmpmihhkfmdiaaGreatDoorTie.lean); close each card by the builder's one call (the guide's Derived/Test/ToyasCard.lean, 'card_holds'). Laid BY PROGRAM, IN A SANDBOX (cutbox-door.mjs). By AI agents, Wed Nov 11 2026. No macro, syntax, notation, axiom, sorry.
-/
import Derived.Test.YtdmpmihhkfmdiaaGreatDoorRows
import GoSem.ClaimSeven
namespace Go.Proofs.YtdmpmihhkfmdiaaGreatDoor
namespace Rows

/-- THE TIED CARD OF 'campanilelaw01.TypesCheck'. -/
def typesCheckCard : Claim7 := { stood := { row := typesCheckRow, standIns := [], harness := (true, "6deb543eb940ef4832547df8f96c7fd9b4699f64375a9cb821c7f9d069a8850e"), looks := false }, kinds := [], alts := [], laidByText := true, laidKinds := [.data, .data, .data], laidTests := true, laidLooks := .later }
def TypesCheckCardSaid : Prop := Claim7.holds Tryz.pinned (.plain (OpenSpec.ofChange typesCheckSpec)) typesCheckCard

/-- THE SECOND FORM's CARD OF 'campanilelaw01.TypesCheck'. -/
def typesCheckUptoCard : Claim7 := { stood := { row := typesCheckUptoRow, standIns := [], harness := (true, "6deb543eb940ef4832547df8f96c7fd9b4699f64375a9cb821c7f9d069a8850e"), looks := false }, kinds := [], alts := [], laidByText := true, laidKinds := [.data, .data, .data], laidTests := true, laidLooks := .later }
def TypesCheckUptoCardSaid : Prop := Claim7.holds Tryz.pinned (.plain (OpenSpec.upto typesCheckSpec)) typesCheckUptoCard
end Rows
end Go.Proofs.YtdmpmihhkfmdiaaGreatDoor
