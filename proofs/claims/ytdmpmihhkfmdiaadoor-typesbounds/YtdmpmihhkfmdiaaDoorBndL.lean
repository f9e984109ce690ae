/-
  The walk of TypesBounds: true of any three rows of bytes of any type.
-/
import Derived.Test.YtdmpmihhkfmdiaaDoorOrdF
import Derived.Test.YtdmpmihhkfmdiaaDoorLent
import Derived.Test.YtdmpmihhkfmdiaaDoorIsR
namespace Go.Proofs.YtdmpmihhkfmdiaaDoor
open Pl Go.RowKit

set_option maxHeartbeats 4000000 in
set_option maxRecDepth 100000 in
theorem typesBounds_any (t : Int) (a lo hi : Option Addr) (la ca ll cl lh ch : Nat) (za zl zh : List Int) (w : World) (ra : Row w a la za) (rl : Row w lo ll zl) (rh : Row w hi lh zh) (hT : Tabs w)
    (hla : la ≤ ca) (hca : ca ≤ maxLen) (hll : ll ≤ cl) (hcl : cl ≤ maxLen) (hlh : lh ≤ ch) (hch : ch ≤ maxLen) :
    Calls Tryd.prog 4 #[.int .u8 t, .slice a la ca, .slice lo ll cl, .slice hi lh ch] w fun e w' => e = .returned (.bool true) ∧ Below w.heap.size w w' := by
  by_cases h1 : (8 : Int) < (la : Int)
  · go_enter Tryd.func4, Tryd.ntmps4
    go_wp2_with fail
    refine (works_any _ hT).mono ?_
    rintro e w1 ⟨rfl, hb1⟩
    go_wp2_with fail
    go_ret
    exact ⟨rfl, hb1⟩
  by_cases h2 : (8 : Int) < (ll : Int)
  · go_enter Tryd.func4, Tryd.ntmps4
    go_wp2_with fail
    refine (works_any _ hT).mono ?_
    rintro e w1 ⟨rfl, hb1⟩
    go_wp2_with fail
    go_ret
    exact ⟨rfl, hb1⟩
  by_cases h3 : (8 : Int) < (lh : Int)
  · go_enter Tryd.func4, Tryd.ntmps4
    go_wp2_with fail
    refine (works_any _ hT).mono ?_
    rintro e w1 ⟨rfl, hb1⟩
    go_wp2_with fail
    go_ret
    exact ⟨rfl, hb1⟩
  have VX := compR_vals t za zl ra.oct rl.oct
  have VY := compR_vals t za zh ra.oct rh.oct
  have CK := chk_both t za zl zh
  have PP : compB t za zl = true → compB t za zh = true → placeB t za = true ∧ placeB t zl = true ∧ placeB t zh = true := fun h k => ⟨(compB_parts h).1, (compB_parts h).2, (compB_parts k).2⟩
  obtain ⟨x, HX⟩ : ∃ x, Hid (compR t za zl = x) := ⟨_, rfl⟩
  obtain ⟨ok, HO⟩ : ∃ x, Hid (compB t za zl = x) := ⟨_, rfl⟩
  obtain ⟨y, HY⟩ : ∃ x, Hid (compR t za zh = x) := ⟨_, rfl⟩
  obtain ⟨is, HI⟩ : ∃ x, Hid (compB t za zh = x) := ⟨_, rfl⟩
  obtain ⟨c1, HC1⟩ : ∃ x, Hid (chkN t za zl zh = x) := ⟨_, rfl⟩
  obtain ⟨c2, HC2⟩ : ∃ x, Hid (chkN t za [] zh = x) := ⟨_, rfl⟩
  obtain ⟨c3, HC3⟩ : ∃ x, Hid (chkN t za zl [] = x) := ⟨_, rfl⟩
  rw [HX.out, HO.out] at VX
  rw [HY.out, HI.out] at VY
  rw [HO.out, HI.out] at PP
  rw [HX.out, HY.out, HC1.out, HC2.out, HC3.out] at CK
  have K : Hid (ok = true → is = true → (x = -1 ∨ x = 0 ∨ x = 1) ∧ (y = -1 ∨ y = 0 ∨ y = 1) ∧ c1 = (if 0 < y then 101253169 else if x < 0 then 101253170 else 0) ∧ c2 = (if 0 < y then 101253169 else 0) ∧ c3 = (if x < 0 then 101253170 else 0)) := by
    intro h k
    obtain ⟨p1, p2, p3⟩ := PP h k
    have vx := VX h
    have vy := VY k
    exact ⟨by omega, by omega, CK p1 p2 p3⟩
  clear VX VY CK PP
  go_enter Tryd.func4, Tryd.ntmps4
  go_wp2_with fail
  refine (compare_any t a lo la ca ll cl za zl _ ra rl hT.t64 hla hca hll hcl).mono ?_
  rw [HX.out, HO.out]
  rintro e w1 ⟨rfl, hb1⟩
  go_wp2_with fail
  refine (compare_any t a hi la ca lh ch za zh _ (ra.next hb1) (rh.next hb1) (hT.next hb1).t64 hla hca hlh hch).mono ?_
  rw [HY.out, HI.out]
  rintro e w2 ⟨rfl, hb2⟩
  have B2 : Below w.heap.size w w2 := Below.andThen hb1 hb2
  have T2 : Hid (Tabs w2) := hT.next B2
  have R1 : Hid (Row w2 a la za) := ra.next B2
  have R2 : Hid (Row w2 lo ll zl) := rl.next B2
  have R3 : Hid (Row w2 hi lh zh) := rh.next B2
  clear hb1 hb2 ra rl rh hT HX HO HY HI
  cases ok
  · go_wp2_with fail
    refine (works_any _ T2.out).mono ?_
    rintro e w5 ⟨rfl, hb5⟩
    go_wp2_with fail
    go_ret
    exact ⟨rfl, Below.andThen B2 hb5⟩
  cases is
  · go_wp2_with fail
    refine (works_any _ T2.out).mono ?_
    rintro e w5 ⟨rfl, hb5⟩
    go_wp2_with fail
    go_ret
    exact ⟨rfl, Below.andThen B2 hb5⟩
  obtain ⟨vx, vy, e1, e2, e3⟩ := K.out rfl rfl
  clear K
  go_wp2_with fail
  refine (check_any t a lo hi la ca ll cl lh ch za zl zh _ R1.out R2.out R3.out T2.out.t64 hla hca hll hcl hlh hch).mono ?_
  rw [HC1.out]
  rintro e w3 ⟨rfl, hb3⟩
  have B3 : Below w.heap.size w w3 := Below.andThen B2 hb3
  have T3 : Hid (Tabs w3) := T2.out.next hb3
  have S1 : Hid (Row w3 a la za) := R1.out.next hb3
  have S2 : Hid (Row w3 lo ll zl) := R2.out.next hb3
  have S3 : Hid (Row w3 hi lh zh) := R3.out.next hb3
  clear R1 R2 R3 T2 hb3 B2 HC1
  rcases vx with rfl | rfl | rfl
  all_goals rcases vy with rfl | rfl | rfl
  all_goals
    simp only [Int.reduceLT, Int.reduceNeg, if_true, if_false] at e1 e2 e3
    subst e1
    subst e2
    subst e3
    go_wp2_with fail
    refine (check_any t a none hi la ca 0 0 lh ch za [] zh _ S1.out (row_nil _) S3.out T3.out.t64 hla hca (Nat.le_refl _) (by decide) hlh hch).mono ?_
    rw [HC2.out]
    rintro e w4 ⟨rfl, hb4⟩
    go_wp2_with fail
    refine (check_any t a lo none la ca ll cl 0 0 za zl [] _ (S1.out.next hb4) (S2.out.next hb4) (row_nil _) (T3.out.next hb4).t64 hla hca hll hcl (Nat.le_refl _) (by decide)).mono ?_
    rw [HC3.out]
    rintro e w5 ⟨rfl, hb5⟩
    go_wp2_with fail
    refine (works_any _ ((T3.out.next hb4).next hb5)).mono ?_
    rintro e w6 ⟨rfl, hb6⟩
    go_wp2_with fail
    go_ret
    exact ⟨rfl, Below.andThen (Below.andThen (Below.andThen B3 hb4) hb5) hb6⟩
#print axioms typesBounds_any
end Go.Proofs.YtdmpmihhkfmdiaaDoor
