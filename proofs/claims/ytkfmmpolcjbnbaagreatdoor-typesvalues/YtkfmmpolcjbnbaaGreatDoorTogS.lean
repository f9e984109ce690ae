/-
  The walks of together in the layout of the floats of 4 bytes.
  The walks of reading the text 3p-1 as a float of 4 bytes, further.
  Slices that are made: the walks of Zero and bytesOf.
-/
import Derived.Test.YtkfmmpolcjbnbaaGreatDoorTog
import Derived.Test.YtkfmmpolcjbnbaaGreatDoorCompW
import Derived.Defers
import Derived.Recover
import Derived.Test.YtkfmmpolcjbnbaaGreatDoorFOf
import Derived.Deep.OwnRows
namespace Go.Proofs.YtkfmmpolcjbnbaaGreatDoor
open Pl Go.RowKit


theorem together0_32 (e : Int) (w : World) : Calls Tryz.prog 82 #[.agg #[.int .i64 23, .int .i64 127], .int .u64 0, .int .i64 e] w fun r w' => r = .returned (.tuple #[.int .u64 0, .bool true]) ∧ Below w.heap.size w w' := by
  go_enter Tryz.func82, Tryz.ntmps82
  go_wp2
  go_ret2
  exact ⟨rfl, (Below.refl _ _).alloc (Nat.le_refl _) _⟩

theorem low_bits32 (M k : Nat) (h : M * 2 ^ k < 8388608) : IntKind.u64.wrap ((M : Int) * 2 ^ k) = ((M * 2 ^ k : Nat) : Int) := by
  have e : (M : Int) * 2 ^ k = ((M * 2 ^ k : Nat) : Int) := by push_cast; rfl
  rw [e]
  exact u64_wrap_id _ (by omega) (by omega)
theorem high_bits32 (M L k : Nat) (h1 : 8388608 ≤ M * 2 ^ (24 - L)) (h2 : M * 2 ^ (24 - L) < 16777216) (hhigh : 24 ≤ k + L) (htop : k + L ≤ 277) :
    bits .or .u64 (((k : Int) - 149 + (L : Int) - 1 + 127) * 8388608) (IntKind.u64.wrap (IntKind.u64.wrap ((M : Int) * 2 ^ (24 - L)) - 8388608)) = (((k + L - 23) * 8388608 + (M * 2 ^ (24 - L) - 8388608) : Nat) : Int) := by
  have e : (M : Int) * 2 ^ (24 - L) = ((M * 2 ^ (24 - L) : Nat) : Int) := by push_cast; rfl
  rw [e]
  generalize M * 2 ^ (24 - L) = X at *
  rw [u64_wrap_id (X : Int) (by omega) (by omega), u64_wrap_id ((X : Int) - 8388608) (by omega) (by omega)]
  have hp : (2 : Int) ^ 64 = 18446744073709551616 := rfl
  rw [bits_join .u64 64 (by decide) wraps_u64 23 _ _ (by omega) (by show _ % 8388608 = 0; omega) (by rw [hp]; omega) (by omega) (by show _ < 8388608; omega) (by rw [hp]; omega)]
  omega

/-- What the walk of together is told. -/
structure Tog32 (m : Nat) (e : Int) (M z L : Nat) : Prop where
  m0 : m ≠ 0
  m1 : m < 18446744073709551616
  e0 : -10000 ≤ e
  e1 : e ≤ 10000
  hz : Lib.ctz 64 m = z
  hM : m / 2 ^ z = M
  hL : Lib.bitLen M = L

set_option maxHeartbeats 2000000 in
set_option maxRecDepth 100000 in
theorem togetherLow32 (m : Nat) (e : Int) (M z L k : Nat) (w : World) (hg : Tog32 m e M z L) (hT : Tab64 w) (hk : e + (z : Int) = (k : Int) - 149) (_hz : z < 64) (hL : L ≤ 24) (hlow : k + L ≤ 23) (hM0 : M < 18446744073709551616) (hMk : M * 2 ^ k < 8388608) :
    Calls Tryz.prog 82 #[.agg #[.int .i64 23, .int .i64 127], .int .u64 m, .int .i64 e] w fun r w' => r = .returned (.tuple #[.int .u64 ((M * 2 ^ k : Nat) : Int), .bool true]) ∧ Below w.heap.size w w' := by
  obtain ⟨m0, m1, e0, e1, z', M', L'⟩ := hg
  have b0 : ((m : Int) == 0) = false := by simp; omega
  have HZ : Hid (Lib.ctz 64 m = z) := z'
  have HM : Hid (m / 2 ^ z = M) := M'
  have HL : Hid (Lib.bitLen M = L) := L'
  have HK : Hid (e + (z : Int) = (k : Int) - 149) := hk
  clear z' M' L' hk
  have old := hT.old
  have HW : Hid (M * 2 ^ k < 8388608) := hMk
  clear hMk
  go_enter Tryz.func82, Tryz.ntmps82
  go_wp2_with fail
  refine (odd_any m e _ m0 m1 (by omega) (by omega) (hT.below ((Below.refl w.heap.size _).alloc (Nat.le_refl _) _) old)).mono ?_
  rw [HZ.out, HM.out, HK.out]
  rintro r w' ⟨rfl, rfl⟩
  go_wp2_with fail
  refine (Tryz.bits_Len64 (M : Int) _ (by omega) (by omega)).mono ?_
  rw [Int.toNat_natCast, HL.out]
  rintro r w' ⟨rfl, rfl⟩
  go_wp2_with fail
  refine (least32 _).mono ?_
  rintro r w' ⟨rfl, rfl⟩
  go_wp2_with fail
  refine (least32 _).mono ?_
  rintro r w' ⟨rfl, rfl⟩
  go_wp2_with fail
  go_ret2
  refine ⟨ret_ub rfl rfl (low_bits32 M k HW.out) rfl, ?_⟩
  repeat (first | exact Below.refl _ _ | refine Below.al ?_ _ | refine Below.drew ?_ | refine below_drewN ?_ _)

set_option maxHeartbeats 4000000 in
set_option maxRecDepth 100000 in
theorem togetherHigh32 (m : Nat) (e : Int) (M z L k : Nat) (w : World) (hg : Tog32 m e M z L) (hT : Tab64 w) (hk : e + (z : Int) = (k : Int) - 149) (_hz : z < 64) (hL : L ≤ 24) (hhigh : 24 ≤ k + L) (htop : k + L ≤ 277) (hM0 : M < 18446744073709551616) (hX : 8388608 ≤ M * 2 ^ (24 - L) ∧ M * 2 ^ (24 - L) < 16777216) :
    Calls Tryz.prog 82 #[.agg #[.int .i64 23, .int .i64 127], .int .u64 m, .int .i64 e] w fun r w' => r = .returned (.tuple #[.int .u64 (((k + L - 23) * 8388608 + (M * 2 ^ (24 - L) - 8388608) : Nat) : Int), .bool true]) ∧ Below w.heap.size w w' := by
  obtain ⟨m0, m1, e0, e1, z', M', L'⟩ := hg
  have b0 : ((m : Int) == 0) = false := by simp; omega
  have HZ : Hid (Lib.ctz 64 m = z) := z'
  have HM : Hid (m / 2 ^ z = M) := M'
  have HL : Hid (Lib.bitLen M = L) := L'
  have HK : Hid (e + (z : Int) = (k : Int) - 149) := hk
  have HX : Hid (8388608 ≤ M * 2 ^ (24 - L) ∧ M * 2 ^ (24 - L) < 16777216) := hX
  clear z' M' L' hk hX
  have old := hT.old
  go_enter Tryz.func82, Tryz.ntmps82
  go_wp2_with fail
  refine (odd_any m e _ m0 m1 (by omega) (by omega) (hT.below ((Below.refl w.heap.size _).alloc (Nat.le_refl _) _) old)).mono ?_
  rw [HZ.out, HM.out, HK.out]
  rintro r w' ⟨rfl, rfl⟩
  go_wp2_with fail
  refine (Tryz.bits_Len64 (M : Int) _ (by omega) (by omega)).mono ?_
  rw [Int.toNat_natCast, HL.out]
  rintro r w' ⟨rfl, rfl⟩
  go_wp2_with fail
  refine (least32 _).mono ?_
  rintro r w' ⟨rfl, rfl⟩
  go_wp2_with fail
  go_quiet (fail)
  go_wp2_with fail
  go_ret2
  refine ⟨ret_ub rfl rfl (high_bits32 M L k HX.out.1 HX.out.2 hhigh htop) rfl, ?_⟩
  repeat (first | exact Below.refl _ _ | refine Below.al ?_ _ | refine Below.drew ?_ | refine below_drewN ?_ _)

set_option maxHeartbeats 4000000 in
set_option maxRecDepth 100000 in
theorem togetherBad32 (m : Nat) (e : Int) (M z L : Nat) (E : Int) (w : World) (hg : Tog32 m e M z L) (hT : Tab64 w) (hk : e + (z : Int) = E) (_hz : z < 64) (hL64 : L ≤ 64) (hM0 : M < 18446744073709551616) (hbad : E < -149 ∨ 127 < E + L - 1 ∨ 24 < L) :
    Calls Tryz.prog 82 #[.agg #[.int .i64 23, .int .i64 127], .int .u64 m, .int .i64 e] w fun r w' => r = .returned (.tuple #[.int .u64 0, .bool false]) ∧ Below w.heap.size w w' := by
  obtain ⟨m0, m1, e0, e1, z', M', L'⟩ := hg
  have b0 : ((m : Int) == 0) = false := by simp; omega
  have HZ : Hid (Lib.ctz 64 m = z) := z'
  have HM : Hid (m / 2 ^ z = M) := M'
  have HL : Hid (Lib.bitLen M = L) := L'
  have HK : Hid (e + (z : Int) = E) := hk
  have hE0 : -20000 ≤ E := by omega
  have hE1 : E ≤ 20000 := by omega
  clear z' M' L' hk
  have old := hT.old
  by_cases c1 : E < -149
  all_goals by_cases c2 : 127 < E + (L : Int) - 1
  all_goals by_cases c3 : 24 < (L : Int)
  all_goals first | (exfalso; omega) | skip
  all_goals clear hbad
  all_goals
    go_enter Tryz.func82, Tryz.ntmps82
    go_wp2_with fail
    refine (odd_any m e _ m0 m1 (by omega) (by omega) (hT.below ((Below.refl w.heap.size _).alloc (Nat.le_refl _) _) old)).mono ?_
    rw [HZ.out, HM.out, HK.out]
    rintro r w' ⟨rfl, rfl⟩
    go_wp2_with fail
    refine (Tryz.bits_Len64 (M : Int) _ (by omega) (by omega)).mono ?_
    rw [Int.toNat_natCast, HL.out]
    rintro r w' ⟨rfl, rfl⟩
    go_wp2_with fail
    refine (least32 _).mono ?_
    rintro r w' ⟨rfl, rfl⟩
    go_wp2_with fail
    go_ret2
    refine ⟨rfl, ?_⟩
    repeat (first | exact Below.refl _ _ | refine Below.al ?_ _ | refine Below.drew ?_ | refine below_drewN ?_ _)
end Go.Proofs.YtkfmmpolcjbnbaaGreatDoor
namespace Go.Proofs.YtkfmmpolcjbnbaaGreatDoor
open Pl Go.RowKit

theorem cutPrefix_minus (w : World) : Calls Tryz.prog 54 #[.string ⟨#[45, 49]⟩, .string ⟨#[45]⟩] w fun e w' => e = .returned (.tuple #[.string ⟨#[49]⟩, .bool true]) ∧ w' = w :=
  Tryz.strings_CutPrefix ⟨#[45, 49]⟩ ⟨#[45]⟩ w
theorem cutPrefix_nan (w : World) : Calls Tryz.prog 54 #[.string ⟨#[51, 112, 45, 49]⟩, .string ⟨#[110, 97, 110, 58]⟩] w fun e w' => e = .returned (.tuple #[.string ⟨#[51, 112, 45, 49]⟩, .bool false]) ∧ w' = w :=
  Tryz.strings_CutPrefix ⟨#[51, 112, 45, 49]⟩ ⟨#[110, 97, 110, 58]⟩ w
theorem cutPrefix_none (w : World) : Calls Tryz.prog 54 #[.string ⟨#[51, 112, 45, 49]⟩, .string ⟨#[45]⟩] w fun e w' => e = .returned (.tuple #[.string ⟨#[51, 112, 45, 49]⟩, .bool false]) ∧ w' = w :=
  Tryz.strings_CutPrefix ⟨#[51, 112, 45, 49]⟩ ⟨#[45]⟩ w
theorem index_p (w : World) : Calls Tryz.prog 102 #[.string ⟨#[51, 112, 45, 49]⟩, .string ⟨#[112]⟩] w fun e w' => e = .returned (.int .i64 1) ∧ w' = w :=
  Tryz.stringslite_Index_one ⟨#[51, 112, 45, 49]⟩ 112 w

theorem cut_p (w : World) : Calls Tryz.prog 86 #[.string ⟨#[51, 112, 45, 49]⟩, .string ⟨#[112]⟩] w fun e w' => e = .returned (.tuple #[.string ⟨#[51]⟩, .string ⟨#[45, 49]⟩, .bool true]) ∧ Below w.heap.size w w' := by
  go_enter Tryz.func86, Tryz.ntmps86
  go_wp2_with fail
  refine (index_p _).mono ?_
  rintro e w' ⟨rfl, rfl⟩
  go_wp2_with fail
  go_quiet (fail)
  go_wp2_with fail
  go_ret3
  exact ⟨rfl, below_drewN (Below.refl _ _) _⟩
theorem strCut_p (w : World) : Calls Tryz.prog 60 #[.string ⟨#[51, 112, 45, 49]⟩, .string ⟨#[112]⟩] w fun e w' => e = .returned (.tuple #[.string ⟨#[51]⟩, .string ⟨#[45, 49]⟩, .bool true]) ∧ Below w.heap.size w w' := by
  go_enter Tryz.func60, Tryz.ntmps60
  go_wp2_with fail
  refine (cut_p _).mono ?_
  rintro e w' ⟨rfl, hb⟩
  go_wp2_with fail
  go_ret3
  exact ⟨rfl, hb⟩

theorem signed_minus1 (w : World) : Calls Tryz.prog 27 #[.string ⟨#[45, 49]⟩, .int .u64 9999, .int .u64 9999] w fun e w' => e = .returned (.int .u64 18446744073709551615) ∧ w' = w := by
  go_enter Tryz.func27, Tryz.ntmps27
  go_wp2_with fail
  refine (cutPrefix_minus _).mono ?_
  rintro e w' ⟨rfl, rfl⟩
  go_wp2_with fail
  refine (decimal_49 _).mono ?_
  rintro e w' ⟨rfl, rfl⟩
  go_wp2_with fail
  refine (must_true _).mono ?_
  rintro e w' ⟨rfl, rfl⟩
  go_wp2_with fail
  go_ret
  exact ⟨rfl, rfl⟩

/-- 3 times 2^-1 as a float of 4 bytes: 1069547520, that is 0 0 192 63. -/
theorem together_3 (w : World) (hT : Tab64 w) : Calls Tryz.prog 82 #[.agg #[.int .i64 23, .int .i64 127], .int .u64 3, .int .i64 (-1)] w fun r w' => r = .returned (.tuple #[.int .u64 1069547520, .bool true]) ∧ Below w.heap.size w w' := by
  refine (togetherHigh32 3 (-1) 3 0 2 148 w ⟨by decide, by decide, by decide, by decide, by decide, by decide, by decide⟩ hT (by decide) (by decide) (by decide) (by decide) (by decide) (by decide) (by decide)).mono ?_
  rintro r w' ⟨rfl, hb⟩
  exact ⟨rfl, hb⟩
end Go.Proofs.YtkfmmpolcjbnbaaGreatDoor
namespace Go.Proofs.YtkfmmpolcjbnbaaGreatDoor
open Pl Go.RowKit

theorem make_run (n : Nat) (h : n ≤ 16777216) (w : World) : (Instr.makeSlice 23 (.int .i64 (n : Int)) (.int .i64 (n : Int))).run Tryz.prog w = .ok (.slice (some ⟨w.heap.size, 0, none⟩) n n) (w.alloc (.cells (madeCells #[.int .u8 0] n) 5)) :=
  Go.run_make_row' 23 5 (.int .u8 0) 1 Tryz.underlying23 (by kernel_rfl) rfl .i64 .i64 n (by omega) (by omega) w

theorem made_at (n i : Nat) (h : i < n) : (madeCells #[Value.int .u8 0] n)[i]? = some (.int .u8 0) := by
  simp [madeCells, h, Nat.mod_one]

/-- So many of a number's bytes. -/
def bytesL (n : Int) (size : Nat) : List Int := (List.range size).map fun i => n / 2 ^ (8 * i) % 256

theorem bytesL_oct (n : Int) (size : Nat) : Oct (bytesL n size) := by
  intro x hx
  simp [bytesL] at hx
  obtain ⟨i, _, rfl⟩ := hx
  omega
theorem bytesL_length (n : Int) (size : Nat) : (bytesL n size).length = size := by simp [bytesL]
theorem bytesL_getD (n : Int) (size i : Nat) (h : i < size) : (bytesL n size).getD i 0 = n / 2 ^ (8 * i) % 256 := by
  simp [bytesL, List.getD_eq_getElem?_getD, h]

/-- A new slice of bytes, all its own. -/
structure Fresh (w w' : World) (v : Value) (len : Nat) (zs : List Int) : Prop where
  row : Row w' (some ⟨w.heap.size, 0, none⟩) len zs
  val : v = .slice (some ⟨w.heap.size, 0, none⟩) len len
  free : ∀ i, i < len → w'.frozen? ⟨w.heap.size, i, none⟩ = false
  bel : Below w.heap.size w w'

/-- One byte more of a slice that is being filled. -/
theorem fill_step {w wr : World} {B k size : Nat} {x : Nat → Int} (hb : Below w.heap.size w wr) (hB : w.heap.size ≤ B) (hlt : k < size)
    (hc : ∀ j, j < k → wr.cell? ⟨B, j, none⟩ = some (.int .u8 (x j))) (hs : ∀ j, j < size → (∃ v, wr.cell? ⟨B, j, none⟩ = some v) ∧ wr.frozen? ⟨B, j, none⟩ = false) :
    Below w.heap.size w (wr.setCell ⟨B, k, none⟩ (.int .u8 (x k))) ∧
    (∀ j, j < k + 1 → (wr.setCell ⟨B, k, none⟩ (.int .u8 (x k))).cell? ⟨B, j, none⟩ = some (.int .u8 (x j))) ∧
    (∀ j, j < size → (∃ v, (wr.setCell ⟨B, k, none⟩ (.int .u8 (x k))).cell? ⟨B, j, none⟩ = some v) ∧ (wr.setCell ⟨B, k, none⟩ (.int .u8 (x k))).frozen? ⟨B, j, none⟩ = false) := by
  obtain ⟨⟨v, hv⟩, _⟩ := hs k hlt
  have hne : ∀ j, j ≠ k → (⟨B, k, none⟩ : Addr) ≠ ⟨B, j, none⟩ := fun j hj h => hj (congrArg Addr.off h).symm
  refine ⟨hb.setCell (by exact hB) _, fun j hj => ?_, fun j hj => ⟨?_, ?_⟩⟩
  · by_cases h : j = k
    · subst h; exact World.cell?_setCell_same _ _ _ hv
    · rw [World.cell?_setCell_other _ _ _ _ (hne j h)]; exact hc j (by omega)
  · by_cases h : j = k
    · subst h; exact ⟨_, World.cell?_setCell_same _ _ _ hv⟩
    · rw [World.cell?_setCell_other _ _ _ _ (hne j h)]; exact (hs j hj).1
  · rw [World.frozen?_setCell]; exact (hs j hj).2

set_option maxHeartbeats 2000000 in
set_option maxRecDepth 100000 in
theorem bytesOf_any (n : Int) (size : Nat) (w : World) (_h0 : 0 ≤ n) (h8 : size ≤ 8) :
    Calls Tryz.prog 26 #[.int .u64 n, .int .i64 (size : Int)] w fun e w' => ∃ v, e = .returned v ∧ Fresh w w' v size (bytesL n size) := by
  have hmk := make_run size (by omega) w
  have hs8 : (size : Int) ≤ 8 := by omega
  go_enter Tryz.func26, Tryz.ntmps26
  go_wp2_with fail
  clear hmk
  go_loopw [11] (fun i wr => ∃ k : Nat, k ≤ size ∧ i = .int .i64 (k : Int) ∧ Below w.heap.size w wr ∧ (∀ j, j < k → wr.cell? ⟨w.heap.size, j, none⟩ = some (.int .u8 (n / 2 ^ (8 * j) % 256))) ∧ (∀ j, j < size → (∃ v, wr.cell? ⟨w.heap.size, j, none⟩ = some v) ∧ wr.frozen? ⟨w.heap.size, j, none⟩ = false))
    (fun i _ => size - (intOf i).toNat)
  case atStart =>
    exact ⟨0, Nat.zero_le _, rfl, Below.al (Below.refl _ _) _, fun j hj => absurd hj (Nat.not_lt_zero _), fun j hj => ⟨⟨_, by rw [World.cell?_alloc_new, made_at size j hj]⟩, by simp [go_sem]⟩⟩
  case round =>
    obtain ⟨k, hk, rfl, hb, hc, hs⟩ := hrel
    by_cases hlt : k < size
    · obtain ⟨⟨v, hv⟩, hz⟩ := hs k hlt
      have HC : Hid (∀ j, j < k → wr.cell? ⟨w.heap.size, j, none⟩ = some (.int .u8 (n / 2 ^ (8 * j) % 256))) := hc
      have HS : Hid (∀ j, j < size → (∃ v, wr.cell? ⟨w.heap.size, j, none⟩ = some v) ∧ wr.frozen? ⟨w.heap.size, j, none⟩ = false) := hs
      clear hc hs
      have hlt' : (k : Int) < (size : Int) := by omega
      go_wp2_with fail
      have st := fill_step (x := fun j => n / 2 ^ (8 * j) % 256) hb (Nat.le_refl _) hlt HC.out HS.out
      exact ⟨⟨k + 1, by omega, by go_num, st.1, st.2.1, st.2.2⟩, by simp [intOf]; omega⟩
    · obtain rfl : k = size := by omega
      have HC : Hid (∀ j, j < k → wr.cell? ⟨w.heap.size, j, none⟩ = some (.int .u8 (n / 2 ^ (8 * j) % 256))) := hc
      have HS : Hid (∀ j, j < k → (∃ v, wr.cell? ⟨w.heap.size, j, none⟩ = some v) ∧ wr.frozen? ⟨w.heap.size, j, none⟩ = false) := hs
      clear hc hs
      go_wp2_with fail
      go_ret
      refine ⟨_, rfl, ⟨⟨bytesL_length _ _, bytesL_oct _ _, fun hp => ⟨_, 0, rfl, fun i hi => ?_⟩⟩, rfl, fun i hi => (HS.out i hi).2, hb⟩⟩
      rw [bytesL_getD _ _ _ hi, Nat.zero_add]
      exact HC.out i hi
end Go.Proofs.YtkfmmpolcjbnbaaGreatDoor
