/-
  The walk of number: digits to the base 16.
-/
import Derived.Test.YtbjbnfhmehkkpaaDg
import Derived.Test.YtbjbnfhmehkkpaaShelf
import Derived.Lib.EndianBits
namespace Go.Proofs.Ytbjbnfhmehkkpaa
open Go.RowKit

/-- Digits as a number, behind another one. -/
def numV : Int → List Int → Int
  | n, [] => n
  | n, c :: l => numV (16 * n + valZ c) l
theorem numV_snoc : ∀ (l : List Int) (n c : Int), numV n (l ++ [c]) = 16 * numV n l + valZ c
  | [], n, c => rfl
  | _ :: l, n, c => by simp only [List.cons_append, numV, numV_snoc l]
/-- Are they so many digits? -/
def nuB (zs : List Int) (L : Nat) : Bool := decide (zs.length = L) && zs.all fun c => decide (0 ≤ valZ c)
/-- Their number; 0, if they are not. -/
def nuV (zs : List Int) (L : Nat) : Int := if nuB zs L then numV 0 zs else 0

theorem nuB_no (zs : List Int) (L : Nat) (h : zs.length ≠ L) : nuB zs L = false := by simp [nuB, h]
theorem nuB_bad (zs : List Int) (L k : Nat) (hk : k < zs.length) (h : valZ (zb zs k) < 0) : nuB zs L = false := by
  have e : zb zs k = zs[k] := by simp [zb, List.getD_eq_getElem?_getD, hk]
  simp only [nuB, Bool.and_eq_false_iff]
  refine .inr ?_
  rw [List.all_eq_false]
  exact ⟨zs[k], List.getElem_mem hk, by rw [← e]; simp; omega⟩
theorem take_zb0 (ds : List Int) (k : Nat) (h : k < ds.length) : ds.take (k + 1) = ds.take k ++ [zb ds k] := by
  rw [List.take_succ_eq_append_getElem h]
  simp [zb, List.getD_eq_getElem?_getD, h]

/-- What looking the digits through finds. -/
theorem idx_all : ((List.range 256).all fun c => Lib.indexByte [48, 49, 50, 51, 52, 53, 54, 55, 56, 57, 65, 66, 67, 68, 69, 70] c.toUInt8 == valZ (c : Int)) = true := by decide +kernel
theorem idx_is (c : Int) (h0 : 0 ≤ c) (h : c < 256) : Lib.indexByte [48, 49, 50, 51, 52, 53, 54, 55, 56, 57, 65, 66, 67, 68, 69, 70] c.toNat.toUInt8 = valZ c := by
  obtain ⟨m, rfl⟩ := Int.eq_ofNat_of_zero_le h0
  have := List.all_eq_true.1 idx_all m (List.mem_range.2 (by omega))
  simpa using this
theorem index_any (c : Int) (w : World) (h0 : 0 ≤ c) (h : c < 256) : Calls Try.prog 31 #[.string hexS, .int .u8 c] w fun e w' => e = .returned (.int .i64 (valZ c)) ∧ w' = w := by
  have := Try.strings_IndexByte hexS c w
  rw [show hexS.data.toList = [48, 49, 50, 51, 52, 53, 54, 55, 56, 57, 65, 66, 67, 68, 69, 70] from rfl, idx_is c h0 h] at this
  exact this

theorem or4 (n d : Int) (h0 : 0 ≤ n) (hn : n < 4096) (hd0 : 0 ≤ d) (hd : d < 16) : bits .or .u16 (n * 16) d = 16 * n + d := by
  have hk := bits_join .u16 16 (by decide) wraps_u16 4 (n * 16) d (by omega) (by show n * 16 % 16 = 0; omega)
    (by have : (2:Int)^16 = 65536 := rfl; rw [this]; omega) (by omega) (by omega)
    (by have : (2:Int)^16 = 65536 := rfl; rw [this]; omega)
  rw [hk]; omega

set_option maxHeartbeats 4000000 in
set_option maxRecDepth 100000 in
theorem number_any (zs : List Int) (L : Nat) (w : World) (ho : Oct zs) (hL : L ≤ 4) :
    Calls Try.prog 27 #[.string (strOfNums zs), .int .i64 (L : Int)] w fun e w' => e = .returned (.tuple #[.int .u16 (nuV zs L), .bool (nuB zs L)]) ∧ w' = w := by
  obtain ⟨s, HS, hsz, hix⟩ := str_facts zs ho
  have HX : Hid (∀ (k : Nat) (_ : k < zs.length) (w : World), (Instr.index 9 (.string s) (.int .i64 (k : Int))).run Try.prog w = .ok (.int .u8 (zb zs k)) w) := hix
  rw [HS.out]
  clear hix HS
  by_cases hl : zs.length = L
  · have hl' : ((zs.length : Nat) : Int) = (L : Int) := by omega
    go_enter Try.func27, Try.ntmps27
    go_wp2_with fail
    go_loop [6, 15] (fun n i => ∃ k : Nat, k ≤ L ∧ i = .int .i64 (k : Int) ∧ n = .int .u16 (numV 0 (zs.take k)) ∧ 0 ≤ numV 0 (zs.take k) ∧ numV 0 (zs.take k) < 16 ^ k ∧ ∀ j, j < k → 0 ≤ valZ (zb zs j)) (fun _ i => L - (intOf i).toNat)
    case atStart => exact ⟨0, Nat.zero_le _, rfl, rfl, Int.le_refl _, by simp [numV], fun j hj => absurd hj (Nat.not_lt_zero _)⟩
    case round =>
      obtain ⟨k, hk, rfl, rfl, hn0, hn1, hall⟩ := hrel
      have HA : Hid (∀ j, j < k → 0 ≤ valZ (zb zs j)) := hall
      clear hall
      by_cases hlt : k < L
      · have hlt' : (k : Int) < (L : Int) := by omega
        have hix := HX.out k (by omega)
        have hzb : 0 ≤ zb zs k ∧ zb zs k < 256 := ho.getD k
        have TK : Hid (numV 0 (zs.take (k + 1)) = 16 * numV 0 (zs.take k) + valZ (zb zs k)) := by show _ = _; rw [take_zb0 zs k (by omega), numV_snoc]
        have hcall := fun w => index_any (zb zs k) w hzb.1 hzb.2
        have hvb := valZ_bd (zb zs k)
        have hn : numV 0 (zs.take k) < 4096 := by
          have h9 : k = 0 ∨ k = 1 ∨ k = 2 ∨ k = 3 := by omega
          rcases h9 with rfl | rfl | rfl | rfl
          all_goals
            simp only [Int.reducePow] at hn1
            omega
        by_cases hv : valZ (zb zs k) < 0
        · have B : Hid (nuB zs L = false) := nuB_bad zs L k (by omega) hv
          have V : Hid (nuV zs L = 0) := by show _ = _; simp [nuV, B.out]
          generalize zb zs k = c at *
          generalize valZ c = d at *
          go_wp2_with fail
          refine (hcall _).mono ?_
          rintro e w ⟨rfl, rfl⟩
          go_wp2_with fail
          go_ret2
          rw [V.out, B.out]
          exact ⟨rfl, rfl⟩
        · have NX : Hid (∀ j, j < k + 1 → 0 ≤ valZ (zb zs j)) := fun j hj => by
            by_cases e : j = k
            · subst e; omega
            · exact HA.out j (by omega)
          have hor := or4 (numV 0 (zs.take k)) (valZ (zb zs k)) hn0 hn (by omega) (by omega)
          have PW : Hid (16 * numV 0 (zs.take k) + valZ (zb zs k) < 16 ^ (k + 1)) := by show _ < _; rw [Int.pow_succ]; omega
          have hd : ¬ valZ (zb zs k) < 0 := hv
          generalize zb zs k = c at *
          generalize valZ c = d at *
          generalize numV 0 (zs.take k) = q at *
          go_wp2_with fail
          refine (hcall _).mono ?_
          rintro e w ⟨rfl, rfl⟩
          go_wp2_with fail
          exact ⟨⟨k + 1, by omega, by go_num, by rw [TK.out], by rw [TK.out]; omega, by rw [TK.out]; exact PW.out, NX.out⟩, by simp [intOf]; omega⟩
      · obtain rfl : k = L := by omega
        have B : Hid (nuB zs k = true) := by
          show _ = _
          simp only [nuB, hl, decide_true, Bool.true_and, List.all_eq_true]
          intro c hc
          obtain ⟨j, hj, rfl⟩ := List.getElem_of_mem hc
          have := HA.out j (by omega)
          simp [zb, List.getD_eq_getElem?_getD, hj] at this
          simpa using this
        have V : Hid (nuV zs k = numV 0 (zs.take k)) := by show _ = _; rw [List.take_of_length_le (by omega)]; simp [nuV, B.out]
        generalize numV 0 (zs.take k) = q at *
        go_wp2_with fail
        go_ret2
        rw [V.out, B.out]
        exact ⟨rfl, rfl⟩
  · have hl' : (((zs.length : Nat) : Int) == (L : Int)) = false := by simp; omega
    have B : Hid (nuB zs L = false) := nuB_no zs L hl
    have V : Hid (nuV zs L = 0) := by show _ = _; simp [nuV, B.out]
    go_enter Try.func27, Try.ntmps27
    go_wp2_with fail
    go_ret2
    rw [V.out, B.out]
    exact ⟨rfl, rfl⟩
#print axioms number_any
end Go.Proofs.Ytbjbnfhmehkkpaa
