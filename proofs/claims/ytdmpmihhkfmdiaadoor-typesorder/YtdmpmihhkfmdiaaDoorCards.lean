/-
  DERIVED. GIVEN WITH THE SEED: THE CARDS: each row of YtdmpmihhkfmdiaaDoorRows.lean that lists a variable, with what it lists TIED to the program's text (the seventh form; the later family's looks); each row that meets fmt, with fmt's text TOLD by the authors' own Lean function (tested against real Go, not proved from fmt's source: count such statements apart). THE CARD IS WHAT COUNTS. Prove the row's statement (the work); the ties are given (YtdmpmihhkfmdiaaDoorTie.lean); close each card by the builder's one call (the guide's Derived/Test/ToyasCard.lean, 'card_holds'). Laid BY PROGRAM, IN A SANDBOX (cutbox-door.mjs). By AI agents, Wed Nov 11 2026. No macro, syntax, notation, axiom, sorry.
-/
import Derived.Test.YtdmpmihhkfmdiaaDoorRows
import GoSem.ClaimSeven
namespace Go.Proofs.YtdmpmihhkfmdiaaDoor
namespace Rows

/-- THE TIED CARD OF 'campanilelaw01.TypesOrder'. -/
def typesOrderCard : Claim7 := { stood := { row := typesOrderRow, standIns := [], harness := (true, "fee820c1c562ada35b7214a1f385976ac3ebe3f4690d3f705a68348008bfedb1"), looks := false }, kinds := [], alts := [], laidByText := true, laidKinds := [.data, .data, .data], laidTests := true, laidLooks := .later }
def TypesOrderCardSaid : Prop := Claim7.holds Tryd.pinned (.plain (OpenSpec.ofChange typesOrderSpec)) typesOrderCard

/-- THE TIED CARD OF 'campanilelaw01.TypesBounds'. -/
def typesBoundsCard : Claim7 := { stood := { row := typesBoundsRow, standIns := [], harness := (true, "fee820c1c562ada35b7214a1f385976ac3ebe3f4690d3f705a68348008bfedb1"), looks := false }, kinds := [], alts := [], laidByText := true, laidKinds := [.data, .data, .data], laidTests := true, laidLooks := .later }
def TypesBoundsCardSaid : Prop := Claim7.holds Tryd.pinned (.plain (OpenSpec.ofChange typesBoundsSpec)) typesBoundsCard

/-- THE SECOND FORM's CARD OF 'campanilelaw01.TypesOrder'. -/
def typesOrderUptoCard : Claim7 := { stood := { row := typesOrderUptoRow, standIns := [], harness := (true, "fee820c1c562ada35b7214a1f385976ac3ebe3f4690d3f705a68348008bfedb1"), looks := false }, kinds := [], alts := [], laidByText := true, laidKinds := [.data, .data, .data], laidTests := true, laidLooks := .later }
def TypesOrderUptoCardSaid : Prop := Claim7.holds Tryd.pinned (.plain (OpenSpec.upto typesOrderSpec)) typesOrderUptoCard

/-- THE SECOND FORM's CARD OF 'campanilelaw01.TypesBounds'. -/
def typesBoundsUptoCard : Claim7 := { stood := { row := typesBoundsUptoRow, standIns := [], harness := (true, "fee820c1c562ada35b7214a1f385976ac3ebe3f4690d3f705a68348008bfedb1"), looks := false }, kinds := [], alts := [], laidByText := true, laidKinds := [.data, .data, .data], laidTests := true, laidLooks := .later }
def TypesBoundsUptoCardSaid : Prop := Claim7.holds Tryd.pinned (.plain (OpenSpec.upto typesBoundsSpec)) typesBoundsUptoCard
end Rows
end Go.Proofs.YtdmpmihhkfmdiaaDoor
