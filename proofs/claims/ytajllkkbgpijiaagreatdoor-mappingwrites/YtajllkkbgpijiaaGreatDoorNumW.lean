/-
  The walks of number (the program's and the document's): bytes, at most 8, as a number.
-/
import Derived.Test.YtajllkkbgpijiaaGreatDoorNum
import Derived.Test.YtajllkkbgpijiaaGreatDoorKinds
namespace Go.Proofs.YtajllkkbgpijiaaGreatDoor.Ty
open Pl Go.RowKit

/-- A slice of bytes in memory, its bytes as numbers. -/
structure Row (w : World) (a : Option Addr) (len : Nat) (zs : List Int) : Prop where
  size : zs.length = len
  oct : Oct zs
  at_ : 0 < len → ∃ b off, a = some ⟨b, off, none⟩ ∧ ∀ i, i < len → w.cell? ⟨b, off + i, none⟩ = some (.int .u8 (zs.getD i 0))

set_option maxHeartbeats 400000 in
theorem number_any (a : Option Addr) (len cap : Nat) (zs : List Int) (w : World) (hr : Row w a len zs) (h8 : len ≤ 8) :
    Calls Tryz.prog 80 #[.slice a len cap] w fun e w' => e = .returned (.int .u64 (num zs)) ∧ w' = w := by
  obtain ⟨hs, ho, hat⟩ := hr
  go_enter Tryz.func80, Tryz.ntmps80
  go_wp2
  go_loop [3, 8] (fun n i => ∃ k : Nat, k ≤ len ∧ i = .int .i64 k ∧ n = .int .u64 (num (zs.take k))) (fun _ i => len - (intOf i).toNat)
  case atStart => exact ⟨0, Nat.zero_le _, rfl, rfl⟩
  case round =>
    obtain ⟨k, hk, rfl, rfl⟩ := hrel
    by_cases hlt : k < len
    · obtain ⟨b, off, rfl, hc⟩ := hat (by omega)
      have hck := hc k hlt
      clear hc hat
      go_wp2
      exact ⟨⟨k + 1, by omega, by go_num, congrArg (Value.int .u64) (or_step_walk zs ho k (by omega) (by omega))⟩, by simp [intOf]; omega⟩
    · go_wp2
      go_ret
      exact ⟨ret_int (by rw [List.take_of_length_le (by omega)]), rfl⟩

set_option maxHeartbeats 400000 in
theorem refNumber_any (a : Option Addr) (len cap : Nat) (zs : List Int) (w : World) (hr : Row w a len zs) (h8 : len ≤ 8) :
    Calls Tryz.prog 79 #[.slice a len cap] w fun e w' => e = .returned (.int .u64 (num zs)) ∧ w' = w := by
  obtain ⟨hs, ho, hat⟩ := hr
  go_enter Tryz.func79, Tryz.ntmps79
  go_wp2
  go_loop [3, 4] (fun n i => ∃ k : Nat, k ≤ len ∧ i = .int .i64 ((k : Int) - 1) ∧ n = .int .u64 (num (zs.drop k))) (fun _ i => (intOf i + 1).toNat)
  case atStart => exact ⟨len, Nat.le_refl _, rfl, by rw [List.drop_of_length_le (by omega)]; rfl⟩
  case round =>
    obtain ⟨k, hk, rfl, rfl⟩ := hrel
    by_cases hlt : 0 < k
    · obtain ⟨j, rfl⟩ : ∃ j, k = j + 1 := ⟨k - 1, by omega⟩
      obtain ⟨b, off, rfl, hc⟩ := hat (by omega)
      have hck := hc j (by omega)
      clear hc hat
      rw [show (((j + 1 : Nat) : Int) - 1) = (j : Int) from by omega]
      go_wp2
      have e : zs[j]?.getD 0 = zs[j] := by simp [show j < zs.length by omega]
      exact ⟨⟨j, by omega, rfl, congrArg (Value.int .u64) (by rw [e]; exact or_step_down_walk zs ho j (by omega) (by omega))⟩, by simp [intOf]⟩
    · obtain rfl : k = 0 := by omega
      go_wp2
      go_ret
      exact ⟨rfl, rfl⟩

theorem Row.nil {w : World} {a : Option Addr} {zs : List Int} (h : Row w a 0 zs) : zs = [] := List.eq_nil_of_length_eq_zero h.size

/-- What the first of its bytes are. -/
theorem Row.head {w : World} {a : Option Addr} {len : Nat} {zs : List Int} (h : Row w a len zs) (k : Nat) (hk : k ≤ len) : Row w a k (zs.take k) where
  size := by rw [List.length_take, h.size]; omega
  oct := h.oct.take k
  at_ := fun hp => by
    obtain ⟨b, off, e, hc⟩ := h.at_ (by omega)
    refine ⟨b, off, e, fun i hi => ?_⟩
    rw [hc i (by omega)]
    simp [List.getD_eq_getElem?_getD, hi]

/-- It stands where nothing old has turned. -/
theorem Row.below {B : Nat} {w w' : World} {a : Option Addr} {len : Nat} {zs : List Int} (h : Row w a len zs) (hb : Below B w w') (hB : ∀ b off, a = some ⟨b, off, none⟩ → b < B) : Row w' a len zs where
  size := h.size
  oct := h.oct
  at_ := fun hp => by
    obtain ⟨b, off, e, hc⟩ := h.at_ hp
    exact ⟨b, off, e, fun i hi => by rw [hb.cell (hB b off e)]; exact hc i hi⟩

/-- Its block is one of the world's. -/
theorem Row.old {w : World} {a : Option Addr} {len : Nat} {zs : List Int} (h : Row w a len zs) (hp : 0 < len) (b off : Nat) (e : a = some ⟨b, off, none⟩) : b < w.heap.size := by
  obtain ⟨b', off', e', hc⟩ := h.at_ hp
  rw [e] at e'; cases e'
  exact block_lt_of_cell (hc 0 hp)
end Go.Proofs.YtajllkkbgpijiaaGreatDoor.Ty
