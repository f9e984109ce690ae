/-
  The walk of TypesWhole: true of any type and any number.
-/
import Derived.Test.YteglncddckeegaaGreatDoorWhI
import Derived.Test.YteglncddckeegaaGreatDoorWhU
import Derived.Test.YteglncddckeegaaGreatDoorIsR
namespace Go.Proofs.YteglncddckeegaaGreatDoor
open Pl Go.RowKit

theorem wf_u64 {n : Int} (h : (Lit.int .u64 n).wf = true) : 0 ≤ n ∧ n < 18446744073709551616 := by
  simp [Lit.wf, IntKind.min, IntKind.max, IntKind.signed, IntKind.bits] at h
  omega

set_option maxHeartbeats 1000000 in
set_option maxRecDepth 100000 in
theorem whole_sized (t n s l : Int) (w : World) (hs : sizeN t = s) (hp : decide ((0 : Int) < s) = true) (hl : letN t = l) (h1 : (l != 117) = true) (h2 : (l != 105) = true) (hT : Tabs w) :
    Calls Tryz.prog 4 #[.int .u8 t, .int .u64 n] w fun e w' => e = .returned (.bool true) ∧ Below w.heap.size w w' := by
  have HS : Hid (sizeN t = s) := hs
  have HP : Hid (decide ((0 : Int) < s) = true) := hp
  have HL : Hid (letN t = l) := hl
  clear hs hp hl
  go_enter Tryz.func4, Tryz.ntmps4
  go_wp2_with fail
  refine (refSize_any _ _).mono ?_
  rw [HS.out, HP.out]
  rintro e w ⟨rfl, rfl⟩
  go_wp2_with fail
  refine (refKind_any _ _).mono ?_
  rw [HL.out]
  rintro e w ⟨rfl, rfl⟩
  go_wp2_with fail
  refine (works_any _ hT).mono ?_
  rintro e w1 ⟨rfl, hb1⟩
  go_wp2_with fail
  go_ret
  exact ⟨rfl, hb1⟩
set_option maxHeartbeats 1000000 in
set_option maxRecDepth 100000 in
theorem whole_none (t n : Int) (w : World) (hs : sizeN t = 0) (hT : Tabs w) :
    Calls Tryz.prog 4 #[.int .u8 t, .int .u64 n] w fun e w' => e = .returned (.bool true) ∧ Below w.heap.size w w' := by
  have HS : Hid (sizeN t = 0) := hs
  have hd : decide ((0 : Int) < 0) = false := by decide
  clear hs
  go_enter Tryz.func4, Tryz.ntmps4
  go_wp2_with fail
  refine (refSize_any _ _).mono ?_
  rw [HS.out, hd]
  rintro e w ⟨rfl, rfl⟩
  go_wp2_with fail
  refine (refKind_any _ _).mono ?_
  rintro e w ⟨rfl, rfl⟩
  go_wp2_with fail
  refine (works_any _ hT).mono ?_
  rintro e w1 ⟨rfl, hb1⟩
  go_wp2_with fail
  go_ret
  exact ⟨rfl, hb1⟩

theorem typesWhole_any (t n : Int) (w : World) (h0 : 0 ≤ n) (h1 : n < 18446744073709551616) (hT : Tabs w) :
    Calls Tryz.prog 4 #[.int .u8 t, .int .u64 n] w fun e w' => e = .returned (.bool true) ∧ Below w.heap.size w w' := by
  rcases type_cases t with rfl | rfl | rfl | rfl | rfl | rfl | rfl | rfl | rfl | rfl | rfl | rfl | rfl | rfl | rfl | rfl | rfl | rfl | ⟨_, h⟩
  · exact whole_sized 1 n 1 98 w (by decide) (by decide) (by decide) (by decide) (by decide) hT
  · exact whole_2 n w h0 h1 hT
  · exact whole_3 n w h0 h1 hT
  · exact whole_16 n w h0 h1 hT
  · exact whole_4 n w h0 h1 hT
  · exact whole_21 n w h0 h1 hT
  · exact whole_5 n w h0 h1 hT
  · exact whole_6 n w h0 h1 hT
  · exact whole_22 n w h0 h1 hT
  · exact whole_7 n w h0 h1 hT
  · exact whole_27 n w h0 h1 hT
  · exact whole_sized 8 n 4 102 w (by decide) (by decide) (by decide) (by decide) (by decide) hT
  · exact whole_sized 17 n 8 102 w (by decide) (by decide) (by decide) (by decide) (by decide) hT
  · exact whole_sized 12 n 6 116 w (by decide) (by decide) (by decide) (by decide) (by decide) hT
  · exact whole_sized 13 n 6 116 w (by decide) (by decide) (by decide) (by decide) (by decide) hT
  · exact whole_none 9 n w (by decide) hT
  · exact whole_none 10 n w (by decide) hT
  · exact whole_none 15 n w (by decide) hT
  · exact whole_none t n w h hT
#print axioms typesWhole_any
end Go.Proofs.YteglncddckeegaaGreatDoor
