/-
  The walk of hexText: each byte as two small digits to the base 16.
-/
import Derived.Test.YtkfmmpolcjbnbaaDoorBld
namespace Go.Proofs.YtkfmmpolcjbnbaaDoor
open Pl Go.RowKit

/-- A digit's byte. -/
def hexZ (x : Int) : Int := if x < 10 then 48 + x else 87 + x
/-- The digits of bytes, as numbers. -/
def hexL : List Int → List Int
  | [] => []
  | z :: zs => hexZ (z / 16) :: hexZ (z % 16) :: hexL zs

theorem hexL_length : ∀ zs : List Int, (hexL zs).length = 2 * zs.length
  | [] => rfl
  | z :: zs => by simp [hexL, hexL_length zs]; omega
theorem hexL_snoc : ∀ (zs : List Int) (z : Int), hexL (zs ++ [z]) = hexL zs ++ [hexZ (z / 16), hexZ (z % 16)]
  | [], z => rfl
  | y :: zs, z => by simp [hexL, hexL_snoc zs z]
theorem hexZ_bd (x : Int) (h0 : 0 ≤ x) (h1 : x < 16) : 0 ≤ hexZ x ∧ hexZ x < 256 := by unfold hexZ; split <;> omega
theorem hexL_oct : ∀ zs : List Int, Oct zs → Oct (hexL zs)
  | [], _ => fun n hn => by simp [hexL] at hn
  | z :: zs, h => fun n hn => by
    have hz := h z (by simp)
    simp only [hexL, List.mem_cons] at hn
    rcases hn with rfl | rfl | hn
    · exact hexZ_bd _ (by omega) (by omega)
    · exact hexZ_bd _ (by omega) (by omega)
    · exact hexL_oct zs (fun n hn => h n (by simp [hn])) n hn

/-- A list of numbers as the cells of a builder. -/
theorem cells_nums (zs : List Int) (h : Oct zs) : zs.map (Value.int .u8) = Lib.byteCells (zs.map fun n => UInt8.ofNat n.toNat) := by
  unfold Lib.byteCells
  rw [List.map_map]
  refine List.map_congr_left fun n hn => ?_
  have := h n hn
  have e : ((UInt8.ofNat n.toNat).toNat : Int) = n := by simp; omega
  simp only [Function.comp_apply, e]

theorem digit_at (x : Int) (h0 : 0 ≤ x) (h1 : x < 16) (w : World) : (Instr.index 9 (.string ⟨#[48, 49, 50, 51, 52, 53, 54, 55, 56, 57, 97, 98, 99, 100, 101, 102]⟩) (.int .u8 x)).run Tryd.prog w = .ok (.int .u8 (hexZ x)) w := by
  have : x = 0 ∨ x = 1 ∨ x = 2 ∨ x = 3 ∨ x = 4 ∨ x = 5 ∨ x = 6 ∨ x = 7 ∨ x = 8 ∨ x = 9 ∨ x = 10 ∨ x = 11 ∨ x = 12 ∨ x = 13 ∨ x = 14 ∨ x = 15 := by omega
  rcases this with rfl | rfl | rfl | rfl | rfl | rfl | rfl | rfl | rfl | rfl | rfl | rfl | rfl | rfl | rfl | rfl <;> (simp [go_sem, hexZ]; rfl)

theorem and15 (x : Int) (h0 : 0 ≤ x) (h1 : x < 256) : bits .and .u8 x 15 = x % 16 := by
  obtain ⟨m, rfl⟩ := Int.eq_ofNat_of_zero_le h0
  have h := u8_and_nat m 15 (by omega) (by decide)
  rw [show ((15 : Nat) : Int) = (15 : Int) from rfl] at h
  rw [h, show m &&& 15 = m % 16 from Nat.and_two_pow_sub_one_eq_mod m 4]; omega

set_option maxHeartbeats 4000000 in
set_option maxRecDepth 100000 in
theorem hexText_any (a : Option Addr) (len cap : Nat) (zs : List Int) (w : World) (hr : Row w a len zs) (hl : len ≤ 1048576) :
    Calls Tryd.prog 30 #[.slice a len cap] w fun e w' => e = .returned (.string (strOfNums (hexL zs))) ∧ Below w.heap.size w w' := by
  have hs := hr.size
  go_enter Tryd.func30, Tryd.ntmps30
  go_wp2_with fail
  have hb0 := builder_new w
  have hw0 : Below w.heap.size w (w.alloc (.cells #[.pointer none, .slice none 0 0] 77)) := Below.al (Below.refl _ _) _
  go_loopw [8] (fun i wr => ∃ k : Nat, k ≤ len ∧ i = .int .i64 (k : Int) ∧ Below w.heap.size w wr ∧ Lib.IsBuilder 77 5 w.heap.size w.heap.size ((hexL (zs.take k)).map (Value.int .u8)) wr)
    (fun i _ => len - (intOf i).toNat)
  case atStart => exact ⟨0, Nat.zero_le _, rfl, hw0, hb0⟩
  case round =>
    obtain ⟨k, hk, rfl, hb, hB⟩ := hrel
    by_cases hlt : k < len
    · obtain ⟨b, off, rfl, hc⟩ := (hr.next hb).at_ (by omega)
      have hck := hc k hlt
      have ho := hr.oct.getD k
      have hx : zs.take (k + 1) = zs.take k ++ [zs.getD k 0] := by
        rw [List.take_succ_eq_append_getElem (by omega)]
        simp [List.getD_eq_getElem?_getD, show k < zs.length by omega]
      have hlt' : (k : Int) < (len : Int) := by omega
      have hn : ((hexL (zs.take k)).map (Value.int .u8)).length ≤ 2097152 := by
        rw [List.length_map, hexL_length, List.length_take]; omega
      have X : Hid (zs.take (k + 1) = zs.take k ++ [zs.getD k 0]) := hx
      generalize zs.getD k 0 = z at *
      have d1 := digit_at (z / 16) (by omega) (by omega)
      have d2 := digit_at (z % 16) (by omega) (by omega)
      have a15 := and15 z ho.1 ho.2
      clear hc hx hw0 hb0
      go_wp2_with fail
      refine (writeByte_any _ _ _ _ _ hB (by omega) hb.size).mono ?_
      rintro e w1 ⟨rfl, hB1, hb1⟩
      go_wp2_with fail
      refine (writeByte_any _ _ _ _ _ hB1 (by rw [List.length_append]; simp only [List.length_singleton]; omega) (Nat.le_trans hb.size hb1.size)).mono ?_
      rintro e w2 ⟨rfl, hB2, hb2⟩
      go_wp2_with fail
      refine ⟨⟨k + 1, by omega, by go_num, (hb.trans hb1).trans hb2, ?_⟩, by simp [intOf]; omega⟩
      rw [X.out, hexL_snoc, List.map_append]
      simpa [List.append_assoc] using hB2
    · obtain rfl : k = len := by omega
      have hlt' : ¬ (k : Int) < (k : Int) := by omega
      rw [List.take_of_length_le (by omega), cells_nums _ (hexL_oct _ hr.oct)] at hB
      clear hw0 hb0
      go_wp2_with fail
      refine (Tryd.Builder_String_any _ _ _ _ hB hb.size).mono ?_
      rintro e w1 ⟨rfl, hb1⟩
      go_wp2_with fail
      go_ret
      exact ⟨rfl, hb.trans hb1⟩
#print axioms hexText_any
end Go.Proofs.YtkfmmpolcjbnbaaDoor
