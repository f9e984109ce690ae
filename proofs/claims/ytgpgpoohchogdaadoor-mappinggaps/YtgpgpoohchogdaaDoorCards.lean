/-
  DERIVED. GIVEN WITH THE SEED: THE CARDS: each row of YtgpgpoohchogdaaDoorRows.lean that lists a variable, with what it lists TIED to the program's text (the seventh form; the later family's looks); each row that meets fmt, with fmt's text TOLD by the authors' own Lean function (tested against real Go, not proved from fmt's source: count such statements apart). THE CARD IS WHAT COUNTS. Prove the row's statement (the work); the ties are given (YtgpgpoohchogdaaDoorTie.lean); close each card by the builder's one call (the guide's Derived/Test/ToyasCard.lean, 'card_holds'). Laid BY PROGRAM, IN A SANDBOX (cutbox-door.mjs). By AI agents, Wed Nov 11 2026. No macro, syntax, notation, axiom, sorry.
-/
import Derived.Test.YtgpgpoohchogdaaDoorRows
import GoSem.ClaimSeven
namespace Go.Proofs.YtgpgpoohchogdaaDoor
namespace Rows

/-- THE TIED CARD OF 'campanilelaw12.MappingGaps'. -/
def mappingGapsCard : Claim7 := { stood := { row := mappingGapsRow, standIns := [], harness := (true, "4d4f1361742d8d18ec64fc89d06df0eba6d2b951815ef0446c55dfc92fc3834a"), looks := false }, kinds := [], alts := [], laidByText := true, laidKinds := [.data], laidTests := true, laidLooks := .later }
def MappingGapsCardSaid : Prop := Claim7.holds Tryd.pinned (.plain (OpenSpec.ofChange mappingGapsSpec)) mappingGapsCard

/-- THE TIED CARD OF 'campanilelaw12.MappingBack'. -/
def mappingBackCard : Claim7 := { stood := { row := mappingBackRow, standIns := [], harness := (true, "4d4f1361742d8d18ec64fc89d06df0eba6d2b951815ef0446c55dfc92fc3834a"), looks := false }, kinds := [], alts := [], laidByText := true, laidKinds := [.data], laidTests := true, laidLooks := .later }
def MappingBackCardSaid : Prop := Claim7.holds Tryd.pinned (.plain (OpenSpec.ofChange mappingBackSpec)) mappingBackCard

/-- THE SECOND FORM's CARD OF 'campanilelaw12.MappingGaps'. -/
def mappingGapsUptoCard : Claim7 := { stood := { row := mappingGapsUptoRow, standIns := [], harness := (true, "4d4f1361742d8d18ec64fc89d06df0eba6d2b951815ef0446c55dfc92fc3834a"), looks := false }, kinds := [], alts := [], laidByText := true, laidKinds := [.data], laidTests := true, laidLooks := .later }
def MappingGapsUptoCardSaid : Prop := Claim7.holds Tryd.pinned (.plain (OpenSpec.upto mappingGapsSpec)) mappingGapsUptoCard

/-- THE SECOND FORM's CARD OF 'campanilelaw12.MappingBack'. -/
def mappingBackUptoCard : Claim7 := { stood := { row := mappingBackUptoRow, standIns := [], harness := (true, "4d4f1361742d8d18ec64fc89d06df0eba6d2b951815ef0446c55dfc92fc3834a"), looks := false }, kinds := [], alts := [], laidByText := true, laidKinds := [.data], laidTests := true, laidLooks := .later }
def MappingBackUptoCardSaid : Prop := Claim7.holds Tryd.pinned (.plain (OpenSpec.upto mappingBackSpec)) mappingBackUptoCard
end Rows
end Go.Proofs.YtgpgpoohchogdaaDoor
