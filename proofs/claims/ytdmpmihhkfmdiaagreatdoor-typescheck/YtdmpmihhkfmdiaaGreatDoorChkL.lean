/-
  The walk of TypesCheck: true of any three rows of bytes of any type.
-/
import Derived.Test.YtdmpmihhkfmdiaaGreatDoorRef4
import Derived.Test.YtdmpmihhkfmdiaaGreatDoorLent
import Derived.Test.YtdmpmihhkfmdiaaGreatDoorIsR
namespace Go.Proofs.YtdmpmihhkfmdiaaGreatDoor
open Pl Go.RowKit

set_option maxHeartbeats 2000000 in
set_option maxRecDepth 100000 in
theorem typesCheck_any (t : Int) (a lo hi : Option Addr) (la ca ll cl lh ch : Nat) (za zl zh : List Int) (w : World) (ra : Row w a la za) (rl : Row w lo ll zl) (rh : Row w hi lh zh) (hT : Tabs w)
    (hla : la ≤ ca) (hca : ca ≤ maxLen) (hll : ll ≤ cl) (hcl : cl ≤ maxLen) (hlh : lh ≤ ch) (hch : ch ≤ maxLen) :
    Calls Tryz.prog 3 #[.int .u8 t, .slice a la ca, .slice lo ll cl, .slice hi lh ch] w fun e w' => e = .returned (.bool true) ∧ Below w.heap.size w w' := by
  by_cases h1 : (5000 : Int) < (la : Int)
  · go_enter Tryz.func3, Tryz.ntmps3
    go_wp2_with fail
    refine (works_any _ hT).mono ?_
    rintro e w1 ⟨rfl, hb1⟩
    go_wp2_with fail
    go_ret
    exact ⟨rfl, hb1⟩
  by_cases h2 : (5000 : Int) < (ll : Int)
  · go_enter Tryz.func3, Tryz.ntmps3
    go_wp2_with fail
    refine (works_any _ hT).mono ?_
    rintro e w1 ⟨rfl, hb1⟩
    go_wp2_with fail
    go_ret
    exact ⟨rfl, hb1⟩
  by_cases h3 : (5000 : Int) < (lh : Int)
  · go_enter Tryz.func3, Tryz.ntmps3
    go_wp2_with fail
    refine (works_any _ hT).mono ?_
    rintro e w1 ⟨rfl, hb1⟩
    go_wp2_with fail
    go_ret
    exact ⟨rfl, hb1⟩
  obtain ⟨c, HC⟩ : ∃ c, Hid (chkN t za zl zh = c) := ⟨_, rfl⟩
  go_enter Tryz.func3, Tryz.ntmps3
  go_wp2_with fail
  refine (lent_any a la ca za _ ra (by omega)).mono ?_
  rintro e w1 ⟨x, cx, rfl, lx, mx, rx, hb1⟩
  go_wp2_with fail
  refine (lent_any lo ll cl zl _ (rl.next hb1) (by omega)).mono ?_
  rintro e w2 ⟨y, cy, rfl, ly, my, ry, hb2⟩
  have B2 : Below w.heap.size w w2 := Below.andThen hb1 hb2
  go_wp2_with fail
  refine (lent_any hi lh ch zh _ (rh.next B2) (by omega)).mono ?_
  rintro e w3 ⟨z, cz, rfl, lz, mz, rz, hb3⟩
  have B3 : Below w.heap.size w w3 := Below.andThen B2 hb3
  have rx3 : Row w3 x la za := (rx.next hb2).next hb3
  have ry3 : Row w3 y ll zl := ry.next hb3
  clear rx ry hb1 hb2 hb3 B2
  go_wp2_with fail
  refine (check_any t x y z la cx ll cy lh cz za zl zh _ rx3 ry3 rz (hT.next B3).t64 lx mx ly my lz mz).mono ?_
  rw [HC.out]
  rintro e w4 ⟨rfl, hb4⟩
  have B4 : Below w.heap.size w w4 := Below.andThen B3 hb4
  have rx4 := rx3.next hb4
  have ry4 := ry3.next hb4
  have rz4 := rz.next hb4
  clear rx3 ry3 rz hb4 B3
  go_wp2_with fail
  refine (refCheck_any t a lo hi la ca ll cl lh ch za zl zh _ (ra.next B4) (rl.next B4) (rh.next B4) hla hca hll hcl hlh hch).mono ?_
  rw [HC.out]
  rintro e w5 ⟨rfl, hb5⟩
  have B5 : Below w.heap.size w w5 := Below.andThen B4 hb5
  have s1 := (rx4.next hb5).str' cx
  have s2 := (ry4.next hb5).str' cy
  have s3 := (rz4.next hb5).str' cz
  have s4 := (ra.next B5).str' ca
  have s5 := (rl.next B5).str' cl
  have s6 := (rh.next B5).str' ch
  have T5 := hT.next B5
  clear rx4 ry4 rz4 hb5 B4 HC
  go_wp2_with fail
  refine (works_any _ T5).mono ?_
  rintro e w6 ⟨rfl, hb6⟩
  go_wp2_with fail
  go_ret
  exact ⟨rfl, Below.andThen B5 hb6⟩
#print axioms typesCheck_any
end Go.Proofs.YtdmpmihhkfmdiaaGreatDoor
