/-
  The walk of TypesTexts: true of any row of bytes of any type.
-/
import Derived.Test.YthoaandafmmojaaGreatDoorRTx
import Derived.Test.YthoaandafmmojaaGreatDoorIsR
namespace Go.Proofs.YthoaandafmmojaaGreatDoor
open Pl Go.RowKit

set_option maxHeartbeats 2000000 in
set_option maxRecDepth 100000 in
theorem typesTexts_any (t : Int) (a : Option Addr) (la ca : Nat) (za : List Int) (w : World) (ra : Row w a la za) (hT : Tabs w) (hla : la ≤ ca) (hca : ca ≤ maxLen) :
    Calls Tryz.prog 3 #[.int .u8 t, .slice a la ca] w fun e w' => e = .returned (.bool true) ∧ Below w.heap.size w w' := by
  by_cases h1 : (5000 : Int) < (la : Int)
  · go_enter Tryz.func3, Tryz.ntmps3
    go_wp2_with fail
    refine (works_any _ hT).mono ?_
    rintro e w1 ⟨rfl, hb1⟩
    go_wp2_with fail
    go_ret
    exact ⟨rfl, hb1⟩
  obtain ⟨s, HS⟩ : ∃ s, Hid (str (txS t za) = s) := ⟨_, rfl⟩
  obtain ⟨c, HC⟩ : ∃ c, Hid (txE t za = c) := ⟨_, rfl⟩
  go_enter Tryz.func3, Tryz.ntmps3
  go_wp2_with fail
  refine (lent_any a la ca za _ ra (by omega)).mono ?_
  rintro e w1 ⟨x, cx, rfl, lx, mx, rx, hb1⟩
  go_wp2_with fail
  refine (text_any t x la cx za _ rx (hT.next hb1) lx mx).mono ?_
  rw [HS.out, HC.out]
  rintro e w2 ⟨rfl, hb2⟩
  have B2 : Below w.heap.size w w2 := Below.andThen hb1 hb2
  have rx2 := rx.next hb2
  clear rx hb1 hb2
  go_wp2_with fail
  refine (refText_any t a la ca za _ (ra.next B2) hla hca).mono ?_
  rw [HS.out, HC.out]
  rintro e w3 ⟨rfl, hb3⟩
  have B3 : Below w.heap.size w w3 := Below.andThen B2 hb3
  have s1 := (rx2.next hb3).str' cx
  have s2 := (ra.next B3).str' ca
  have T3 := hT.next B3
  clear rx2 hb3 B2 HS HC
  go_wp2_with fail
  refine (works_any _ T3).mono ?_
  rintro e w4 ⟨rfl, hb4⟩
  go_wp2_with fail
  go_ret
  exact ⟨rfl, Below.andThen B3 hb4⟩
#print axioms typesTexts_any
end Go.Proofs.YthoaandafmmojaaGreatDoor
