/-
  A client's first commands; a command's frame.
-/
import Derived.Test.YtimnpdegoehblaaGreatDoorUb
import Derived.Deep.RegionHeld3
namespace Go.Proofs.YtimnpdegoehblaaGreatDoor
open Go.RowKit

/-- The time that a now counts as. -/
def tmN (n : Int) : Int := if n < 0 then 0 else if 1099511627776 < n then 1099511627776 else n






theorem row8 (W : World) (B : Nat) (b0 b1 b2 b3 b4 b5 b6 b7 : Int) (ho : Oct [b0, b1, b2, b3, b4, b5, b6, b7]) (h : W.heap[B]? = some (.cells (ar8 b0 b1 b2 b3 b4 b5 b6 b7) 23 (0, 0))) : Row W (some ⟨B, 0, none⟩) 8 [b0, b1, b2, b3, b4, b5, b6, b7] where
  size := rfl
  oct := ho
  at_ := fun _ => ⟨B, 0, rfl, fun i hi => by
    have h9 : i = 0 ∨ i = 1 ∨ i = 2 ∨ i = 3 ∨ i = 4 ∨ i = 5 ∨ i = 6 ∨ i = 7 := by omega
    rw [Nat.zero_add, cell_of_row W B i _ _ _ h]
    rcases h9 with rfl | rfl | rfl | rfl | rfl | rfl | rfl | rfl <;> rfl⟩
theorem loadF (w : World) (B : Nat) (id n d0 d1 d2 d3 d4 d5 d6 d7 : Int) (r : Bool) (T : TypeId) (h : w.heap[B]? = some (.cells (frC id n d0 d1 d2 d3 d4 d5 d6 d7 r) T (0, 0))) : (loadVar 25 ⟨B, 0, none⟩).run Tryz.prog w = .ok (frV id n d0 d1 d2 d3 d4 d5 d6 d7 r) w :=
  load_part 25 11 sizeF aggF w B 0 [.int .u16 id, .int .i64 n, .int .u8 d0, .int .u8 d1, .int .u8 d2, .int .u8 d3, .int .u8 d4, .int .u8 d5, .int .u8 d6, .int .u8 d7, .bool r] T h (by simp)
theorem storeF (w : World) (B : Nat) (C : Array Value) (id n d0 d1 d2 d3 d4 d5 d6 d7 : Int) (r : Bool) (T : TypeId) (h : w.heap[B]? = some (.cells C T (0, 0))) (hC : C.size = 11) : (storeVar 25 ⟨B, 0, none⟩ (frV id n d0 d1 d2 d3 d4 d5 d6 d7 r)).run Tryz.prog w = .ok () (w.setRow B (frC id n d0 d1 d2 d3 d4 d5 d6 d7 r)) :=
  run_storeVar_row w B T 25 C (frC id n d0 d1 d2 d3 d4 d5 d6 d7 r) h sizeF hC (frC_one _ _ _ _ _ _ _ _ _ _ _)

end Go.Proofs.YtimnpdegoehblaaGreatDoor
