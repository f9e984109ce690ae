/-
  The walks of odd and together: the bits of m times 2^e.
-/
import Derived.Test.YtajllkkbgpijiaaGreatDoorLay
import Derived.Test.YtajllkkbgpijiaaGreatDoorShelf
namespace Go.Proofs.YtajllkkbgpijiaaGreatDoor.Ty
open Pl Go.RowKit

/-- The table that TrailingZeros64 reads. -/
abbrev Tab64 (w : World) : Prop := TabAt 1 Lib.deBruijn64tab w
theorem Tab64.below {B : Nat} {w w' : World} (h : Tab64 w) (hb : Below B w w') (hB : 1 < B) : Tab64 w' := fun j hj => by rw [hb.cell (by exact hB)]; exact h j hj
theorem Tab64.old {w : World} (h : Tab64 w) : 1 < w.heap.size := block_lt_of_cell (h 0 (by decide))

theorem Below.al {a w : World} (h : Below a.heap.size a w) (o : Obj) : Below a.heap.size a (w.alloc o) := h.alloc h.size o

theorem bitLen_spec : ∀ (f x : Nat), x < 2 ^ f → f ≤ 64 → x < 2 ^ Lib.bitLen x ∧ (x ≠ 0 → 1 ≤ Lib.bitLen x ∧ 2 ^ (Lib.bitLen x - 1) ≤ x)
  | 0, x, h, _ => by
    obtain rfl : x = 0 := by simp at h; exact h
    exact ⟨by decide, fun h => absurd rfl h⟩
  | f + 1, x, h, hf => by
    by_cases h0 : x = 0
    · subst h0; exact ⟨by decide, fun h => absurd rfl h⟩
    · have hx : x < 2 ^ 64 := Nat.lt_of_lt_of_le h (Nat.pow_le_pow_right (by omega) hf)
      have e := Lib.bitLen_half x h0 hx
      have hp : 2 ^ (f + 1) = 2 * 2 ^ f := by rw [Nat.pow_succ, Nat.mul_comm]
      have ih := bitLen_spec f (x / 2) (by omega) (by omega)
      rw [e, Nat.add_comm 1, Nat.pow_succ, Nat.add_sub_cancel]
      refine ⟨by omega, fun _ => ⟨by omega, ?_⟩⟩
      by_cases h1 : x / 2 = 0
      · rw [h1, show Lib.bitLen 0 = 0 from by decide]; simp; omega
      · obtain ⟨g, hg⟩ := ih.2 h1
        obtain ⟨b, hb⟩ : ∃ b, Lib.bitLen (x / 2) = b + 1 := ⟨Lib.bitLen (x / 2) - 1, by omega⟩
        rw [hb] at hg ⊢
        rw [Nat.pow_succ]
        simp at hg
        omega

theorem ret_ub {k : IntKind} {v v' : Value} {a b : Int} {c d : Bool} (hv : v = .int k a) (hv' : v' = .bool c) (h : a = b) (h' : c = d) : Ending.returned (.tuple #[v, v']) = .returned (.tuple #[.int k b, .bool d]) := by rw [hv, hv', h, h']

theorem odd_any (m : Nat) (e : Int) (w : World) (hm : m ≠ 0) (hm1 : m < 18446744073709551616) (he0 : -20000 ≤ e) (he1 : e ≤ 20000) (hT : Tab64 w) :
    Calls Tryz.prog 97 #[.int .u64 m, .int .i64 e] w fun r w' => r = .returned (.tuple #[.int .u64 ((m / 2 ^ Lib.ctz 64 m : Nat) : Int), .int .i64 (e + (Lib.ctz 64 m : Int))]) ∧ w' = w := by
  obtain ⟨_, hk⟩ := Lib.lowest_bit 64 m hm hm1
  obtain ⟨z, hz⟩ : ∃ z, Lib.ctz 64 m = z := ⟨_, rfl⟩
  have H : Hid (Lib.ctz 64 m = z) := hz
  rw [hz] at hk ⊢
  clear hz
  have hz0 : (0 : Int) ≤ (z : Int) := by omega
  have hz1 : (z : Int) < 64 := by omega
  go_enter Tryz.func97, Tryz.ntmps97
  go_wp2_with (go_at_call 100; refine (Tryz.bits_TrailingZeros64 m hm1 _ (fun _ => hT)).mono ?_; rw [H.out]; rintro r w' ⟨rfl, rfl⟩)
  go_ret2
  exact ⟨ret_ii (by simp) rfl, rfl⟩

theorem together0_64 (e : Int) (w : World) : Calls Tryz.prog 94 #[.agg #[.int .i64 52, .int .i64 1023], .int .u64 0, .int .i64 e] w fun r w' => r = .returned (.tuple #[.int .u64 0, .bool true]) ∧ Below w.heap.size w w' := by
  go_enter Tryz.func94, Tryz.ntmps94
  go_wp2
  go_ret2
  exact ⟨rfl, (Below.refl _ _).alloc (Nat.le_refl _) _⟩

theorem low_bits64 (M k : Nat) (h : M * 2 ^ k < 4503599627370496) : IntKind.u64.wrap ((M : Int) * 2 ^ k) = ((M * 2 ^ k : Nat) : Int) := by
  have e : (M : Int) * 2 ^ k = ((M * 2 ^ k : Nat) : Int) := by push_cast; rfl
  rw [e]
  exact u64_wrap_id _ (by omega) (by omega)
theorem high_bits64 (M L k : Nat) (h1 : 4503599627370496 ≤ M * 2 ^ (53 - L)) (h2 : M * 2 ^ (53 - L) < 9007199254740992) (hhigh : 53 ≤ k + L) (htop : k + L ≤ 2098) :
    bits .or .u64 (((k : Int) - 1074 + (L : Int) - 1 + 1023) * 4503599627370496) (IntKind.u64.wrap (IntKind.u64.wrap ((M : Int) * 2 ^ (53 - L)) - 4503599627370496)) = (((k + L - 52) * 4503599627370496 + (M * 2 ^ (53 - L) - 4503599627370496) : Nat) : Int) := by
  have e : (M : Int) * 2 ^ (53 - L) = ((M * 2 ^ (53 - L) : Nat) : Int) := by push_cast; rfl
  rw [e]
  generalize M * 2 ^ (53 - L) = X at *
  rw [u64_wrap_id (X : Int) (by omega) (by omega), u64_wrap_id ((X : Int) - 4503599627370496) (by omega) (by omega)]
  have hp : (2 : Int) ^ 64 = 18446744073709551616 := rfl
  rw [bits_join .u64 64 (by decide) wraps_u64 52 _ _ (by omega) (by show _ % 4503599627370496 = 0; omega) (by rw [hp]; omega) (by omega) (by show _ < 4503599627370496; omega) (by rw [hp]; omega)]
  omega

/-- What the walk of together is told. -/
structure Tog64 (m : Nat) (e : Int) (M z L : Nat) : Prop where
  m0 : m ≠ 0
  m1 : m < 18446744073709551616
  e0 : -10000 ≤ e
  e1 : e ≤ 10000
  hz : Lib.ctz 64 m = z
  hM : m / 2 ^ z = M
  hL : Lib.bitLen M = L

set_option maxHeartbeats 2000000 in
set_option maxRecDepth 100000 in
theorem togetherLow64 (m : Nat) (e : Int) (M z L k : Nat) (w : World) (hg : Tog64 m e M z L) (hT : Tab64 w) (hk : e + (z : Int) = (k : Int) - 1074) (_hz : z < 64) (hL : L ≤ 53) (hlow : k + L ≤ 52) (hM0 : M < 18446744073709551616) (hMk : M * 2 ^ k < 4503599627370496) :
    Calls Tryz.prog 94 #[.agg #[.int .i64 52, .int .i64 1023], .int .u64 m, .int .i64 e] w fun r w' => r = .returned (.tuple #[.int .u64 ((M * 2 ^ k : Nat) : Int), .bool true]) ∧ Below w.heap.size w w' := by
  obtain ⟨m0, m1, e0, e1, z', M', L'⟩ := hg
  have b0 : ((m : Int) == 0) = false := by simp; omega
  have HZ : Hid (Lib.ctz 64 m = z) := z'
  have HM : Hid (m / 2 ^ z = M) := M'
  have HL : Hid (Lib.bitLen M = L) := L'
  have HK : Hid (e + (z : Int) = (k : Int) - 1074) := hk
  clear z' M' L' hk
  have old := hT.old
  have HW : Hid (M * 2 ^ k < 4503599627370496) := hMk
  clear hMk
  go_enter Tryz.func94, Tryz.ntmps94
  go_wp2_with fail
  refine (odd_any m e _ m0 m1 (by omega) (by omega) (hT.below ((Below.refl w.heap.size _).alloc (Nat.le_refl _) _) old)).mono ?_
  rw [HZ.out, HM.out, HK.out]
  rintro r w' ⟨rfl, rfl⟩
  go_wp2_with fail
  refine (Tryz.bits_Len64 (M : Int) _ (by omega) (by omega)).mono ?_
  rw [Int.toNat_natCast, HL.out]
  rintro r w' ⟨rfl, rfl⟩
  go_wp2_with fail
  refine (least64 _).mono ?_
  rintro r w' ⟨rfl, rfl⟩
  go_wp2_with fail
  refine (least64 _).mono ?_
  rintro r w' ⟨rfl, rfl⟩
  go_wp2_with fail
  go_ret2
  refine ⟨ret_ub rfl rfl (low_bits64 M k HW.out) rfl, ?_⟩
  repeat (first | exact Below.refl _ _ | refine Below.al ?_ _ | refine Below.drew ?_ | refine below_drewN ?_ _)

set_option maxHeartbeats 4000000 in
set_option maxRecDepth 100000 in
theorem togetherHigh64 (m : Nat) (e : Int) (M z L k : Nat) (w : World) (hg : Tog64 m e M z L) (hT : Tab64 w) (hk : e + (z : Int) = (k : Int) - 1074) (_hz : z < 64) (hL : L ≤ 53) (hhigh : 53 ≤ k + L) (htop : k + L ≤ 2098) (hM0 : M < 18446744073709551616) (hX : 4503599627370496 ≤ M * 2 ^ (53 - L) ∧ M * 2 ^ (53 - L) < 9007199254740992) :
    Calls Tryz.prog 94 #[.agg #[.int .i64 52, .int .i64 1023], .int .u64 m, .int .i64 e] w fun r w' => r = .returned (.tuple #[.int .u64 (((k + L - 52) * 4503599627370496 + (M * 2 ^ (53 - L) - 4503599627370496) : Nat) : Int), .bool true]) ∧ Below w.heap.size w w' := by
  obtain ⟨m0, m1, e0, e1, z', M', L'⟩ := hg
  have b0 : ((m : Int) == 0) = false := by simp; omega
  have HZ : Hid (Lib.ctz 64 m = z) := z'
  have HM : Hid (m / 2 ^ z = M) := M'
  have HL : Hid (Lib.bitLen M = L) := L'
  have HK : Hid (e + (z : Int) = (k : Int) - 1074) := hk
  have HX : Hid (4503599627370496 ≤ M * 2 ^ (53 - L) ∧ M * 2 ^ (53 - L) < 9007199254740992) := hX
  clear z' M' L' hk hX
  have old := hT.old
  go_enter Tryz.func94, Tryz.ntmps94
  go_wp2_with fail
  refine (odd_any m e _ m0 m1 (by omega) (by omega) (hT.below ((Below.refl w.heap.size _).alloc (Nat.le_refl _) _) old)).mono ?_
  rw [HZ.out, HM.out, HK.out]
  rintro r w' ⟨rfl, rfl⟩
  go_wp2_with fail
  refine (Tryz.bits_Len64 (M : Int) _ (by omega) (by omega)).mono ?_
  rw [Int.toNat_natCast, HL.out]
  rintro r w' ⟨rfl, rfl⟩
  go_wp2_with fail
  refine (least64 _).mono ?_
  rintro r w' ⟨rfl, rfl⟩
  go_wp2_with fail
  go_quiet (fail)
  go_wp2_with fail
  go_ret2
  refine ⟨ret_ub rfl rfl (high_bits64 M L k HX.out.1 HX.out.2 hhigh htop) rfl, ?_⟩
  repeat (first | exact Below.refl _ _ | refine Below.al ?_ _ | refine Below.drew ?_ | refine below_drewN ?_ _)

set_option maxHeartbeats 4000000 in
set_option maxRecDepth 100000 in
theorem togetherBad64 (m : Nat) (e : Int) (M z L : Nat) (E : Int) (w : World) (hg : Tog64 m e M z L) (hT : Tab64 w) (hk : e + (z : Int) = E) (_hz : z < 64) (hL64 : L ≤ 64) (hM0 : M < 18446744073709551616) (hbad : E < -1074 ∨ 1023 < E + L - 1 ∨ 53 < L) :
    Calls Tryz.prog 94 #[.agg #[.int .i64 52, .int .i64 1023], .int .u64 m, .int .i64 e] w fun r w' => r = .returned (.tuple #[.int .u64 0, .bool false]) ∧ Below w.heap.size w w' := by
  obtain ⟨m0, m1, e0, e1, z', M', L'⟩ := hg
  have b0 : ((m : Int) == 0) = false := by simp; omega
  have HZ : Hid (Lib.ctz 64 m = z) := z'
  have HM : Hid (m / 2 ^ z = M) := M'
  have HL : Hid (Lib.bitLen M = L) := L'
  have HK : Hid (e + (z : Int) = E) := hk
  have hE0 : -20000 ≤ E := by omega
  have hE1 : E ≤ 20000 := by omega
  clear z' M' L' hk
  have old := hT.old
  by_cases c1 : E < -1074
  all_goals by_cases c2 : 1023 < E + (L : Int) - 1
  all_goals by_cases c3 : 53 < (L : Int)
  all_goals first | (exfalso; omega) | skip
  all_goals clear hbad
  all_goals
    go_enter Tryz.func94, Tryz.ntmps94
    go_wp2_with fail
    refine (odd_any m e _ m0 m1 (by omega) (by omega) (hT.below ((Below.refl w.heap.size _).alloc (Nat.le_refl _) _) old)).mono ?_
    rw [HZ.out, HM.out, HK.out]
    rintro r w' ⟨rfl, rfl⟩
    go_wp2_with fail
    refine (Tryz.bits_Len64 (M : Int) _ (by omega) (by omega)).mono ?_
    rw [Int.toNat_natCast, HL.out]
    rintro r w' ⟨rfl, rfl⟩
    go_wp2_with fail
    refine (least64 _).mono ?_
    rintro r w' ⟨rfl, rfl⟩
    go_wp2_with fail
    go_ret2
    refine ⟨rfl, ?_⟩
    repeat (first | exact Below.refl _ _ | refine Below.al ?_ _ | refine Below.drew ?_ | refine below_drewN ?_ _)
end Go.Proofs.YtajllkkbgpijiaaGreatDoor.Ty
