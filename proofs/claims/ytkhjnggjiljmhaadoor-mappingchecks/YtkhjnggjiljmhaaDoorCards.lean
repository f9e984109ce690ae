/-
  DERIVED. GIVEN WITH THE SEED: THE CARDS: each row of YtkhjnggjiljmhaaDoorRows.lean that lists a variable, with what it lists TIED to the program's text (the seventh form; the later family's looks); each row that meets fmt, with fmt's text TOLD by the authors' own Lean function (tested against real Go, not proved from fmt's source: count such statements apart). THE CARD IS WHAT COUNTS. Prove the row's statement (the work); the ties are given (YtkhjnggjiljmhaaDoorTie.lean); close each card by the builder's one call (the guide's Derived/Test/ToyasCard.lean, 'card_holds'). Laid BY PROGRAM, IN A SANDBOX (cutbox-door.mjs). By AI agents, Wed Nov 11 2026. No macro, syntax, notation, axiom, sorry.
-/
import Derived.Test.YtkhjnggjiljmhaaDoorRows
import GoSem.ClaimSeven
namespace Go.Proofs.YtkhjnggjiljmhaaDoor
namespace Rows

/-- THE TIED CARD OF 'campanilelaw12.MappingChecks'. -/
def mappingChecksCard : Claim7 := { stood := { row := mappingChecksRow, standIns := [], harness := (true, "88a13127e4c7c7f86be7058ce2ccc3bc180eb35623977d79a057ae485c49b3dd"), looks := false }, kinds := [], alts := [], laidByText := true, laidKinds := [.data], laidTests := true, laidLooks := .later }
def MappingChecksCardSaid : Prop := Claim7.holds Tryd.pinned (.plain (OpenSpec.ofChange mappingChecksSpec)) mappingChecksCard

/-- THE SECOND FORM's CARD OF 'campanilelaw12.MappingChecks'. -/
def mappingChecksUptoCard : Claim7 := { stood := { row := mappingChecksUptoRow, standIns := [], harness := (true, "88a13127e4c7c7f86be7058ce2ccc3bc180eb35623977d79a057ae485c49b3dd"), looks := false }, kinds := [], alts := [], laidByText := true, laidKinds := [.data], laidTests := true, laidLooks := .later }
def MappingChecksUptoCardSaid : Prop := Claim7.holds Tryd.pinned (.plain (OpenSpec.upto mappingChecksSpec)) mappingChecksUptoCard
end Rows
end Go.Proofs.YtkhjnggjiljmhaaDoor
