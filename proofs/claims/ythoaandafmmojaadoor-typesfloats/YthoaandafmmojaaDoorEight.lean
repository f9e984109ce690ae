/-
  The walks of eight and of Text at a float of 8 bytes.
-/
import Derived.Test.YthoaandafmmojaaDoorFl2
namespace Go.Proofs.YthoaandafmmojaaDoor
open Pl Go.RowKit

theorem bytesL_succ (n : Int) (k : Nat) : bytesL n (k + 1) = bytesL n k ++ [n / 2 ^ (8 * k) % 256] := by
  simp [bytesL, List.range_succ]

theorem num_bytesL (n : Nat) : ∀ k, num (bytesL (n : Int) k) = ((n % 2 ^ (8 * k) : Nat) : Int)
  | 0 => by simp [bytesL, num, Nat.mod_one]
  | k + 1 => by
    rw [bytesL_succ, num_snoc, num_bytesL n k, bytesL_length]
    have e : (2 : Int) ^ (8 * k) = ((2 ^ (8 * k) : Nat) : Int) := (Int.natCast_pow 2 (8 * k)).symm
    rw [e, Nat.mul_add, Nat.pow_add, Nat.mod_mul]
    generalize 2 ^ (8 * k) = P
    rw [show (2 : Nat) ^ (8 * 1) = 256 from rfl, show ((n : Int) / (P : Int)) % 256 = ((n / P % 256 : Nat) : Int) from by rw [Int.natCast_emod, Int.natCast_ediv]; rfl]
    generalize n / P % 256 = q
    rw [Int.natCast_add, Int.natCast_mul, Int.mul_comm (P : Int)]

theorem num_eight (n : Int) (h0 : 0 ≤ n) (h1 : n < 18446744073709551616) : num (bytesL n 8) = n := by
  obtain ⟨m, rfl⟩ := Int.eq_ofNat_of_zero_le h0
  rw [num_bytesL, Nat.mod_eq_of_lt (by show m < 18446744073709551616; omega)]

theorem own_row {w : World} {B : Nat} {v : Value} {k : Nat} {xs : List Value} {zs : List Int} (h : w.ownsRow B 5 1 v k xs) (hz : xs = zs.map (Value.int .u8)) (ho : Oct zs) (hl : zs.length = k) :
    ∃ a cap, v = .slice a k cap ∧ k ≤ cap ∧ cap ≤ maxLen ∧ Row w a k zs := by
  rcases h.2 with ⟨rfl, rfl⟩ | ⟨g, cap, cur, rfl, hg, hc, hn, hm, hs, ht⟩
  · have : zs = [] := List.eq_nil_of_length_eq_zero hl
    subst this
    exact ⟨none, 0, rfl, Nat.le_refl _, by decide, row_nil w⟩
  · refine ⟨_, cap, rfl, hn, hm, ⟨hl, ho, fun _ => ⟨g, 0, rfl, fun i hi => ?_⟩⟩⟩
    have := h.cellAt i (by omega)
    rw [Nat.zero_add, this, hz]
    simp [List.getD_eq_getElem?_getD, hl, hi]

set_option maxHeartbeats 2000000 in
set_option maxRecDepth 100000 in
theorem eight_any (n : Int) (w : World) (_h0 : 0 ≤ n) (_h1 : n < 18446744073709551616) :
    Calls Tryd.prog 4 #[.int .u64 n] w fun e w' => ∃ a cap, e = .returned (.slice a 8 cap) ∧ 8 ≤ cap ∧ cap ≤ maxLen ∧ Row w' a 8 (bytesL n 8) ∧ Below w.heap.size w w' := by
  obtain ⟨i0, hi, hz0, hz1, hz2⟩ := info_parts infoByte
  go_enter Tryd.func4, Tryd.ntmps4
  go_wp2_with fail
  go_loopw [3, 4] (fun v i wr => ∃ k : Nat, k ≤ 8 ∧ i = .int .i64 (k : Int) ∧ Below w.heap.size w wr ∧ wr.ownsRow w.heap.size 5 1 v k ((bytesL n k).map (Value.int .u8)))
    (fun _ i _ => 8 - (intOf i).toNat)
  case atStart => exact ⟨0, Nat.zero_le _, rfl, Below.refl _ _, World.ownsRow_nil _ _ _ _⟩
  case round =>
    obtain ⟨k, hk, rfl, hb, hown⟩ := hrel
    by_cases hlt : k < 8
    · have hlt' : (k : Int) < 8 := by omega
      have hk0 : (0 : Int) ≤ (k : Int) := by omega
      have BS : Hid (bytesL n (k + 1) = bytesL n k ++ [n / 2 ^ (8 * k) % 256]) := bytesL_succ n k
      go_wp2_with (at_builtin; refine wpList_append_own _ rfl _ _ 23 rfl w.heap.size 5 i0 (.int .u8 0) 1 1 Tryd.underlying23 hi hz0 hz1 hz2 rfl (by decide) _ _ _ rfl (hown.alloc _) ⟨wr.heap.size, 0, none⟩ 1 1 [.int .u8 (n / 2 ^ (8 * k) % 256)] rfl rfl ?c1 ?c2 ?c3 ?c4 ?c5 ?_)
      case c1 =>
        intro j u hj
        match j, hj with
        | 0, hj => simp at hj; subst hj; simp [Addr.add]
      case c2 => intro u hu; simp at hu; subst hu; rfl
      case c3 => unfold maxLen; omega
      case c4 => omega
      case c5 => have := hb.size; simp; omega
      intro v' w2 hown' hgrow _
      go_wp2_with fail
      refine ⟨⟨k + 1, by omega, by go_num, (Below.al hb _).grown hgrow (by have := hb.size; simp; omega) (fun j hj => (hown.lt j hj).1), ?_⟩, by simp [intOf]; omega⟩
      rw [BS.out, List.map_append]
      exact hown'
    · obtain rfl : k = 8 := by omega
      obtain ⟨a, cap, rfl, c1, c2, r⟩ := own_row hown rfl (bytesL_oct n 8) (bytesL_length n 8)
      go_wp2_with fail
      go_ret
      exact ⟨_, _, rfl, c1, c2, r, hb⟩

theorem cb17 (zs : List Int) (h : zs.length = 8) : cbN 17 zs = 0 := by
  unfold cbN
  rw [h, show kindN 17 = 4 from by decide, show sizeN 17 = 8 from by decide]
  simp

set_option maxRecDepth 100000 in
theorem text17_any (a : Option Addr) (cap : Nat) (zs : List Int) (w : World) (hr : Row w a 8 zs) (hT : Tabs w) (hc : 8 ≤ cap) (hm : cap ≤ maxLen) :
    Calls Tryd.prog 5 #[.int .u8 17, .slice a 8 cap] w fun e w' => e = .returned (.tuple #[.string (str (fltS zs (num zs).toNat)), .int .i64 0]) ∧ Below w.heap.size w w' := by
  have hcb := cb17 zs hr.size
  have ht : Calls Tryd.prog 10 #[.int .u8 4, .slice a 8 cap] w fun e w' => e = .returned (.string (str (fltS zs (num zs).toNat))) ∧ Below w.heap.size w w' := by
    clear hcb
    go_enter Tryd.func10, Tryd.ntmps10
    go_wp2_with fail
    refine (floatText_any _ _ _ zs _ hr hT (.inr rfl)).mono ?_
    rintro e w1 ⟨X, hX, rfl, hb⟩
    obtain rfl : X = (num zs).toNat := by
      rcases hX with ⟨_, h⟩ | ⟨h, _⟩
      · exact h
      · have := hr.size; omega
    go_wp2_with fail
    go_ret
    exact ⟨rfl, hb⟩
  go_enter Tryd.func5, Tryd.ntmps5
  go_wp2_with fail
  refine (kindOf_any _ _).mono ?_
  rw [show kindN 17 = 4 from by decide, show sizeN 17 = 8 from by decide]
  rintro e x ⟨rfl, rfl⟩
  go_wp2_with fail
  refine (checkBytes_any _ _ _ _ _ _ hr hc hm).mono ?_
  rw [hcb]
  rintro e x ⟨rfl, rfl⟩
  go_wp2_with fail
  refine ht.mono ?_
  rintro e w1 ⟨rfl, hb⟩
  go_wp2_with fail
  go_ret2
  exact ⟨rfl, hb⟩
#print axioms eight_any
#print axioms text17_any
end Go.Proofs.YthoaandafmmojaaDoor
