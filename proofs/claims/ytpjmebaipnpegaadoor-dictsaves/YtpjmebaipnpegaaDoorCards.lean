/-
  DERIVED. GIVEN WITH THE SEED: THE CARDS: each row of YtpjmebaipnpegaaDoorRows.lean that lists a variable, with what it lists TIED to the program's text (the seventh form; the later family's looks); each row that meets fmt, with fmt's text TOLD by the authors' own Lean function (tested against real Go, not proved from fmt's source: count such statements apart). THE CARD IS WHAT COUNTS. Prove the row's statement (the work); the ties are given (YtpjmebaipnpegaaDoorTie.lean); close each card by the builder's one call (the guide's Derived/Test/ToyasCard.lean, 'card_holds'). Laid BY PROGRAM, IN A SANDBOX (cutbox-door.mjs). By AI agents, Wed Nov 11 2026. No macro, syntax, notation, axiom, sorry.
-/
import Derived.Test.YtpjmebaipnpegaaDoorRows
import GoSem.ClaimSeven
namespace Go.Proofs.YtpjmebaipnpegaaDoor
namespace Rows

/-- THE TIED CARD OF 'campanilelaw08.DictSaves'. -/
def dictSavesCard : Claim7 := { stood := { row := dictSavesRow, standIns := [], harness := (true, "c8ee3d68eba7cbbfeac5f3100072eb3cee54772b49ef1577d4e5ec37dbcbeef4"), looks := false }, kinds := [], alts := [], laidByText := true, laidKinds := [.data], laidTests := true, laidLooks := .later }
def DictSavesCardSaid : Prop := Claim7.holds Tryd.pinned (.plain (OpenSpec.ofChange dictSavesSpec)) dictSavesCard

/-- THE SECOND FORM's CARD OF 'campanilelaw08.DictSaves'. -/
def dictSavesUptoCard : Claim7 := { stood := { row := dictSavesUptoRow, standIns := [], harness := (true, "c8ee3d68eba7cbbfeac5f3100072eb3cee54772b49ef1577d4e5ec37dbcbeef4"), looks := false }, kinds := [], alts := [], laidByText := true, laidKinds := [.data], laidTests := true, laidLooks := .later }
def DictSavesUptoCardSaid : Prop := Claim7.holds Tryd.pinned (.plain (OpenSpec.upto dictSavesSpec)) dictSavesUptoCard
end Rows
end Go.Proofs.YtpjmebaipnpegaaDoor
