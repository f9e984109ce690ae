/-
  DERIVED. GIVEN WITH THE SEED: THE CARDS: each row of YtjgficnkllmilaaGreatDoorRows.lean that lists a variable, with what it lists TIED to the program's text (the seventh form; the later family's looks); each row that meets fmt, with fmt's text TOLD by the authors' own Lean function (tested against real Go, not proved from fmt's source: count such statements apart). THE CARD IS WHAT COUNTS. Prove the row's statement (the work); the ties are given (YtjgficnkllmilaaGreatDoorTie.lean); close each card by the builder's one call (the guide's Derived/Test/ToyasCard.lean, 'card_holds'). Laid BY PROGRAM, IN A SANDBOX (cutbox-door.mjs). By AI agents, Wed Nov 11 2026. No macro, syntax, notation, axiom, sorry.
-/
import Derived.Test.YtjgficnkllmilaaGreatDoorRows
import GoSem.ClaimSeven
namespace Go.Proofs.YtjgficnkllmilaaGreatDoor
namespace Rows

/-- THE TIED CARD OF 'campanilelaw01.TypesSizes'. -/
def typesSizesCard : Claim7 := { stood := { row := typesSizesRow, standIns := [], harness := (true, "3c1d273c6bfd1cddee97d39c588484d9fb278373195a5dd6cb602ec2f3e28928"), looks := false }, kinds := [], alts := [], laidByText := true, laidKinds := [.data, .data, .data], laidTests := true, laidLooks := .later }
def TypesSizesCardSaid : Prop := Claim7.holds Tryz.pinned (.plain (OpenSpec.ofChange typesSizesSpec)) typesSizesCard

/-- THE TIED CARD OF 'campanilelaw01.TypesCheck'. -/
def typesCheckCard : Claim7 := { stood := { row := typesCheckRow, standIns := [], harness := (true, "3c1d273c6bfd1cddee97d39c588484d9fb278373195a5dd6cb602ec2f3e28928"), looks := false }, kinds := [], alts := [], laidByText := true, laidKinds := [.data, .data, .data], laidTests := true, laidLooks := .later }
def TypesCheckCardSaid : Prop := Claim7.holds Tryz.pinned (.plain (OpenSpec.ofChange typesCheckSpec)) typesCheckCard

/-- THE TIED CARD OF 'campanilelaw01.TypesCompare'. -/
def typesCompareCard : Claim7 := { stood := { row := typesCompareRow, standIns := [], harness := (true, "3c1d273c6bfd1cddee97d39c588484d9fb278373195a5dd6cb602ec2f3e28928"), looks := false }, kinds := [], alts := [], laidByText := true, laidKinds := [.data, .data, .data], laidTests := true, laidLooks := .later }
def TypesCompareCardSaid : Prop := Claim7.holds Tryz.pinned (.plain (OpenSpec.ofChange typesCompareSpec)) typesCompareCard

/-- THE TIED CARD OF 'campanilelaw01.TypesTexts'. -/
def typesTextsCard : Claim7 := { stood := { row := typesTextsRow, standIns := [], harness := (true, "3c1d273c6bfd1cddee97d39c588484d9fb278373195a5dd6cb602ec2f3e28928"), looks := false }, kinds := [], alts := [], laidByText := true, laidKinds := [.data, .data, .data], laidTests := true, laidLooks := .later }
def TypesTextsCardSaid : Prop := Claim7.holds Tryz.pinned (.plain (OpenSpec.ofChange typesTextsSpec)) typesTextsCard

/-- THE TIED CARD OF 'campanilelaw01.TypesValues'. -/
def typesValuesCard : Claim7 := { stood := { row := typesValuesRow, standIns := [], harness := (true, "3c1d273c6bfd1cddee97d39c588484d9fb278373195a5dd6cb602ec2f3e28928"), looks := false }, kinds := [], alts := [], laidByText := true, laidKinds := [.data, .data, .data], laidTests := true, laidLooks := .later }
def TypesValuesCardSaid : Prop := Claim7.holds Tryz.pinned (.plain (OpenSpec.ofChange typesValuesSpec)) typesValuesCard

/-- THE SECOND FORM's CARD OF 'campanilelaw01.TypesSizes'. -/
def typesSizesUptoCard : Claim7 := { stood := { row := typesSizesUptoRow, standIns := [], harness := (true, "3c1d273c6bfd1cddee97d39c588484d9fb278373195a5dd6cb602ec2f3e28928"), looks := false }, kinds := [], alts := [], laidByText := true, laidKinds := [.data, .data, .data], laidTests := true, laidLooks := .later }
def TypesSizesUptoCardSaid : Prop := Claim7.holds Tryz.pinned (.plain (OpenSpec.upto typesSizesSpec)) typesSizesUptoCard

/-- THE SECOND FORM's CARD OF 'campanilelaw01.TypesCheck'. -/
def typesCheckUptoCard : Claim7 := { stood := { row := typesCheckUptoRow, standIns := [], harness := (true, "3c1d273c6bfd1cddee97d39c588484d9fb278373195a5dd6cb602ec2f3e28928"), looks := false }, kinds := [], alts := [], laidByText := true, laidKinds := [.data, .data, .data], laidTests := true, laidLooks := .later }
def TypesCheckUptoCardSaid : Prop := Claim7.holds Tryz.pinned (.plain (OpenSpec.upto typesCheckSpec)) typesCheckUptoCard

/-- THE SECOND FORM's CARD OF 'campanilelaw01.TypesCompare'. -/
def typesCompareUptoCard : Claim7 := { stood := { row := typesCompareUptoRow, standIns := [], harness := (true, "3c1d273c6bfd1cddee97d39c588484d9fb278373195a5dd6cb602ec2f3e28928"), looks := false }, kinds := [], alts := [], laidByText := true, laidKinds := [.data, .data, .data], laidTests := true, laidLooks := .later }
def TypesCompareUptoCardSaid : Prop := Claim7.holds Tryz.pinned (.plain (OpenSpec.upto typesCompareSpec)) typesCompareUptoCard

/-- THE SECOND FORM's CARD OF 'campanilelaw01.TypesTexts'. -/
def typesTextsUptoCard : Claim7 := { stood := { row := typesTextsUptoRow, standIns := [], harness := (true, "3c1d273c6bfd1cddee97d39c588484d9fb278373195a5dd6cb602ec2f3e28928"), looks := false }, kinds := [], alts := [], laidByText := true, laidKinds := [.data, .data, .data], laidTests := true, laidLooks := .later }
def TypesTextsUptoCardSaid : Prop := Claim7.holds Tryz.pinned (.plain (OpenSpec.upto typesTextsSpec)) typesTextsUptoCard

/-- THE SECOND FORM's CARD OF 'campanilelaw01.TypesValues'. -/
def typesValuesUptoCard : Claim7 := { stood := { row := typesValuesUptoRow, standIns := [], harness := (true, "3c1d273c6bfd1cddee97d39c588484d9fb278373195a5dd6cb602ec2f3e28928"), looks := false }, kinds := [], alts := [], laidByText := true, laidKinds := [.data, .data, .data], laidTests := true, laidLooks := .later }
def TypesValuesUptoCardSaid : Prop := Claim7.holds Tryz.pinned (.plain (OpenSpec.upto typesValuesSpec)) typesValuesUptoCard
end Rows
end Go.Proofs.YtjgficnkllmilaaGreatDoor
