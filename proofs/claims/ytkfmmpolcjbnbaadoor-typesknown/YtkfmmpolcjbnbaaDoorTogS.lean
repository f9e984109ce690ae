/-
  The walks of together in the layout of the floats of 4 bytes.
-/
import Derived.Test.YtkfmmpolcjbnbaaDoorTog
namespace Go.Proofs.YtkfmmpolcjbnbaaDoor
open Pl Go.RowKit


theorem together0_32 (e : Int) (w : World) : Calls Tryd.prog 68 #[.agg #[.int .i64 23, .int .i64 127], .int .u64 0, .int .i64 e] w fun r w' => r = .returned (.tuple #[.int .u64 0, .bool true]) ∧ Below w.heap.size w w' := by
  go_enter Tryd.func68, Tryd.ntmps68
  go_wp2
  go_ret2
  exact ⟨rfl, (Below.refl _ _).alloc (Nat.le_refl _) _⟩

theorem low_bits32 (M k : Nat) (h : M * 2 ^ k < 8388608) : IntKind.u64.wrap ((M : Int) * 2 ^ k) = ((M * 2 ^ k : Nat) : Int) := by
  have e : (M : Int) * 2 ^ k = ((M * 2 ^ k : Nat) : Int) := by push_cast; rfl
  rw [e]
  exact u64_wrap_id _ (by omega) (by omega)
theorem high_bits32 (M L k : Nat) (h1 : 8388608 ≤ M * 2 ^ (24 - L)) (h2 : M * 2 ^ (24 - L) < 16777216) (hhigh : 24 ≤ k + L) (htop : k + L ≤ 277) :
    bits .or .u64 (((k : Int) - 149 + (L : Int) - 1 + 127) * 8388608) (IntKind.u64.wrap (IntKind.u64.wrap ((M : Int) * 2 ^ (24 - L)) - 8388608)) = (((k + L - 23) * 8388608 + (M * 2 ^ (24 - L) - 8388608) : Nat) : Int) := by
  have e : (M : Int) * 2 ^ (24 - L) = ((M * 2 ^ (24 - L) : Nat) : Int) := by push_cast; rfl
  rw [e]
  generalize M * 2 ^ (24 - L) = X at *
  rw [u64_wrap_id (X : Int) (by omega) (by omega), u64_wrap_id ((X : Int) - 8388608) (by omega) (by omega)]
  have hp : (2 : Int) ^ 64 = 18446744073709551616 := rfl
  rw [bits_join .u64 64 (by decide) wraps_u64 23 _ _ (by omega) (by show _ % 8388608 = 0; omega) (by rw [hp]; omega) (by omega) (by show _ < 8388608; omega) (by rw [hp]; omega)]
  omega

/-- What the walk of together is told. -/
structure Tog32 (m : Nat) (e : Int) (M z L : Nat) : Prop where
  m0 : m ≠ 0
  m1 : m < 18446744073709551616
  e0 : -10000 ≤ e
  e1 : e ≤ 10000
  hz : Lib.ctz 64 m = z
  hM : m / 2 ^ z = M
  hL : Lib.bitLen M = L

set_option maxHeartbeats 2000000 in
set_option maxRecDepth 100000 in
theorem togetherLow32 (m : Nat) (e : Int) (M z L k : Nat) (w : World) (hg : Tog32 m e M z L) (hT : Tab64 w) (hk : e + (z : Int) = (k : Int) - 149) (_hz : z < 64) (hL : L ≤ 24) (hlow : k + L ≤ 23) (hM0 : M < 18446744073709551616) (hMk : M * 2 ^ k < 8388608) :
    Calls Tryd.prog 68 #[.agg #[.int .i64 23, .int .i64 127], .int .u64 m, .int .i64 e] w fun r w' => r = .returned (.tuple #[.int .u64 ((M * 2 ^ k : Nat) : Int), .bool true]) ∧ Below w.heap.size w w' := by
  obtain ⟨m0, m1, e0, e1, z', M', L'⟩ := hg
  have b0 : ((m : Int) == 0) = false := by simp; omega
  have HZ : Hid (Lib.ctz 64 m = z) := z'
  have HM : Hid (m / 2 ^ z = M) := M'
  have HL : Hid (Lib.bitLen M = L) := L'
  have HK : Hid (e + (z : Int) = (k : Int) - 149) := hk
  clear z' M' L' hk
  have old := hT.old
  have HW : Hid (M * 2 ^ k < 8388608) := hMk
  clear hMk
  go_enter Tryd.func68, Tryd.ntmps68
  go_wp2_with fail
  refine (odd_any m e _ m0 m1 (by omega) (by omega) (hT.below ((Below.refl w.heap.size _).alloc (Nat.le_refl _) _) old)).mono ?_
  rw [HZ.out, HM.out, HK.out]
  rintro r w' ⟨rfl, rfl⟩
  go_wp2_with fail
  refine (Tryd.bits_Len64 (M : Int) _ (by omega) (by omega)).mono ?_
  rw [Int.toNat_natCast, HL.out]
  rintro r w' ⟨rfl, rfl⟩
  go_wp2_with fail
  refine (least32 _).mono ?_
  rintro r w' ⟨rfl, rfl⟩
  go_wp2_with fail
  refine (least32 _).mono ?_
  rintro r w' ⟨rfl, rfl⟩
  go_wp2_with fail
  go_ret2
  refine ⟨ret_ub rfl rfl (low_bits32 M k HW.out) rfl, ?_⟩
  repeat (first | exact Below.refl _ _ | refine Below.al ?_ _ | refine Below.drew ?_ | refine below_drewN ?_ _)

set_option maxHeartbeats 4000000 in
set_option maxRecDepth 100000 in
theorem togetherHigh32 (m : Nat) (e : Int) (M z L k : Nat) (w : World) (hg : Tog32 m e M z L) (hT : Tab64 w) (hk : e + (z : Int) = (k : Int) - 149) (_hz : z < 64) (hL : L ≤ 24) (hhigh : 24 ≤ k + L) (htop : k + L ≤ 277) (hM0 : M < 18446744073709551616) (hX : 8388608 ≤ M * 2 ^ (24 - L) ∧ M * 2 ^ (24 - L) < 16777216) :
    Calls Tryd.prog 68 #[.agg #[.int .i64 23, .int .i64 127], .int .u64 m, .int .i64 e] w fun r w' => r = .returned (.tuple #[.int .u64 (((k + L - 23) * 8388608 + (M * 2 ^ (24 - L) - 8388608) : Nat) : Int), .bool true]) ∧ Below w.heap.size w w' := by
  obtain ⟨m0, m1, e0, e1, z', M', L'⟩ := hg
  have b0 : ((m : Int) == 0) = false := by simp; omega
  have HZ : Hid (Lib.ctz 64 m = z) := z'
  have HM : Hid (m / 2 ^ z = M) := M'
  have HL : Hid (Lib.bitLen M = L) := L'
  have HK : Hid (e + (z : Int) = (k : Int) - 149) := hk
  have HX : Hid (8388608 ≤ M * 2 ^ (24 - L) ∧ M * 2 ^ (24 - L) < 16777216) := hX
  clear z' M' L' hk hX
  have old := hT.old
  go_enter Tryd.func68, Tryd.ntmps68
  go_wp2_with fail
  refine (odd_any m e _ m0 m1 (by omega) (by omega) (hT.below ((Below.refl w.heap.size _).alloc (Nat.le_refl _) _) old)).mono ?_
  rw [HZ.out, HM.out, HK.out]
  rintro r w' ⟨rfl, rfl⟩
  go_wp2_with fail
  refine (Tryd.bits_Len64 (M : Int) _ (by omega) (by omega)).mono ?_
  rw [Int.toNat_natCast, HL.out]
  rintro r w' ⟨rfl, rfl⟩
  go_wp2_with fail
  refine (least32 _).mono ?_
  rintro r w' ⟨rfl, rfl⟩
  go_wp2_with fail
  go_quiet (fail)
  go_wp2_with fail
  go_ret2
  refine ⟨ret_ub rfl rfl (high_bits32 M L k HX.out.1 HX.out.2 hhigh htop) rfl, ?_⟩
  repeat (first | exact Below.refl _ _ | refine Below.al ?_ _ | refine Below.drew ?_ | refine below_drewN ?_ _)

set_option maxHeartbeats 4000000 in
set_option maxRecDepth 100000 in
theorem togetherBad32 (m : Nat) (e : Int) (M z L : Nat) (E : Int) (w : World) (hg : Tog32 m e M z L) (hT : Tab64 w) (hk : e + (z : Int) = E) (_hz : z < 64) (hL64 : L ≤ 64) (hM0 : M < 18446744073709551616) (hbad : E < -149 ∨ 127 < E + L - 1 ∨ 24 < L) :
    Calls Tryd.prog 68 #[.agg #[.int .i64 23, .int .i64 127], .int .u64 m, .int .i64 e] w fun r w' => r = .returned (.tuple #[.int .u64 0, .bool false]) ∧ Below w.heap.size w w' := by
  obtain ⟨m0, m1, e0, e1, z', M', L'⟩ := hg
  have b0 : ((m : Int) == 0) = false := by simp; omega
  have HZ : Hid (Lib.ctz 64 m = z) := z'
  have HM : Hid (m / 2 ^ z = M) := M'
  have HL : Hid (Lib.bitLen M = L) := L'
  have HK : Hid (e + (z : Int) = E) := hk
  have hE0 : -20000 ≤ E := by omega
  have hE1 : E ≤ 20000 := by omega
  clear z' M' L' hk
  have old := hT.old
  by_cases c1 : E < -149
  all_goals by_cases c2 : 127 < E + (L : Int) - 1
  all_goals by_cases c3 : 24 < (L : Int)
  all_goals first | (exfalso; omega) | skip
  all_goals clear hbad
  all_goals
    go_enter Tryd.func68, Tryd.ntmps68
    go_wp2_with fail
    refine (odd_any m e _ m0 m1 (by omega) (by omega) (hT.below ((Below.refl w.heap.size _).alloc (Nat.le_refl _) _) old)).mono ?_
    rw [HZ.out, HM.out, HK.out]
    rintro r w' ⟨rfl, rfl⟩
    go_wp2_with fail
    refine (Tryd.bits_Len64 (M : Int) _ (by omega) (by omega)).mono ?_
    rw [Int.toNat_natCast, HL.out]
    rintro r w' ⟨rfl, rfl⟩
    go_wp2_with fail
    refine (least32 _).mono ?_
    rintro r w' ⟨rfl, rfl⟩
    go_wp2_with fail
    go_ret2
    refine ⟨rfl, ?_⟩
    repeat (first | exact Below.refl _ _ | refine Below.al ?_ _ | refine Below.drew ?_ | refine below_drewN ?_ _)
end Go.Proofs.YtkfmmpolcjbnbaaDoor
