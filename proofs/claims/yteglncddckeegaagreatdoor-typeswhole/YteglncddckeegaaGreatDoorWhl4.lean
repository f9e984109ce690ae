/-
  A plain fact for TypesWhole at the types of numbers without a sign.
-/
import Derived.Test.YteglncddckeegaaGreatDoorWhl3
import Derived.Test.YteglncddckeegaaGreatDoorWhl2
namespace Go.Proofs.YteglncddckeegaaGreatDoor
open Pl Go.RowKit

theorem and15v (x : Int) (h0 : 0 ≤ x) (h1 : x < 18446744073709551616) : bits .and .u64 x 15 = x % 16 := by
  obtain ⟨m, rfl⟩ := Int.eq_ofNat_of_zero_le h0
  have h := u64_and_nat m 15 (by omega) (by decide)
  rw [show ((15 : Nat) : Int) = (15 : Int) from rfl] at h
  rw [h, show m &&& 15 = m % 16 from Nat.and_two_pow_sub_one_eq_mod m 4]; omega
end Go.Proofs.YteglncddckeegaaGreatDoor
