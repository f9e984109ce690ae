/-
  Zero, as layer 1's texts have it.
-/
import Derived.Test.YtajllkkbgpijiaaGreatDoorChkW
import Derived.Test.YtajllkkbgpijiaaGreatDoorMade
namespace Go.Proofs.YtajllkkbgpijiaaGreatDoor.Ty
open Pl Go.RowKit

def zeros (n : Nat) : List Int := List.replicate n 0
theorem zeros_oct (n : Nat) : Oct (zeros n) := fun x hx => by simp [zeros] at hx; omega
theorem zeros_getD (n i : Nat) : (zeros n).getD i 0 = 0 := by simp [zeros, List.getD_eq_getElem?_getD, List.getElem?_replicate]; split <;> simp
theorem row_made (w : World) (n : Nat) (T : TypeId) : Row (w.alloc (.cells (madeCells #[.int .u8 0] n) T)) (some ⟨w.heap.size, 0, none⟩) n (zeros n) where
  size := by simp [zeros]
  oct := zeros_oct n
  at_ := fun _ => ⟨_, 0, rfl, fun i hi => by rw [Nat.zero_add, World.cell?_alloc_new, made_at n i hi, zeros_getD]⟩

theorem zero_none (t : Int) (w : World) (h : sizeN t = 0) : Calls Tryz.prog 59 #[.int .u8 t] w fun e w' => e = .returned (.slice none 0 0) ∧ w' = w := by
  have H : Hid (sizeN t = 0) := h
  clear h
  go_enter Tryz.func59, Tryz.ntmps59
  go_wp2_with fail
  refine (size_any _ _).mono ?_
  rw [H.out]
  rintro e x ⟨rfl, rfl⟩
  go_wp2_with fail
  go_ret
  exact ⟨rfl, rfl⟩
theorem zero_some (t : Int) (n : Nat) (w : World) (h : sizeN t = n) (h0 : 0 < n) : Calls Tryz.prog 59 #[.int .u8 t] w fun e w' => e = .returned (.slice (some ⟨w.heap.size, 0, none⟩) n n) ∧ w.alloc (.cells (madeCells #[.int .u8 0] n) 5) = w' := by
  have hb := size_bd t
  have hmk := make_run n (by omega) w
  have H : Hid (sizeN t = n) := h
  have hd : decide ((0 : Int) < (n : Int)) = true := by simp; omega
  clear h hb
  go_enter Tryz.func59, Tryz.ntmps59
  go_wp2_with fail
  refine (size_any _ _).mono ?_
  rw [H.out]
  rintro e x ⟨rfl, rfl⟩
  go_wp2_with fail
  go_ret
  exact ⟨rfl, rfl⟩
end Go.Proofs.YtajllkkbgpijiaaGreatDoor.Ty
