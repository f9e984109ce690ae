/-
  The walks of the document's Compare and Check.
-/
import Derived.Test.YtajllkkbgpijiaaGreatDoorRef2
import Derived.Test.YtajllkkbgpijiaaGreatDoorChkW
namespace Go.Proofs.YtajllkkbgpijiaaGreatDoor.Ty
open Pl Go.RowKit

theorem cmp_keys (t : Int) (a b : List Int) (ha : placeB t a = true) (hb : placeB t b = true) : (keyN t a < keyN t b ↔ ordK t a < ordK t b) ∧ (keyN t b < keyN t a ↔ ordK t b < ordK t a) := by
  obtain ⟨_, _, _, _, _, _, la, _, _⟩ := place_facts t a ha
  obtain ⟨_, _, _, _, _, _, lb, _, _⟩ := place_facts t b hb
  have : a.length = b.length := by omega
  unfold keyN
  rw [this]
  omega

end Go.Proofs.YtajllkkbgpijiaaGreatDoor.Ty
