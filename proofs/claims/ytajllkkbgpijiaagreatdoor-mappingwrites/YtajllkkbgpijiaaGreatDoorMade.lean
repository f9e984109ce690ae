/-
  Slices that are made: the walks of Zero and bytesOf.
-/
import Derived.Test.YtajllkkbgpijiaaGreatDoorPlace
import Derived.Deep.OwnRows
namespace Go.Proofs.YtajllkkbgpijiaaGreatDoor.Ty
open Pl Go.RowKit

theorem make_run (n : Nat) (h : n ≤ 16777216) (w : World) : (Instr.makeSlice 24 (.int .i64 (n : Int)) (.int .i64 (n : Int))).run Tryz.prog w = .ok (.slice (some ⟨w.heap.size, 0, none⟩) n n) (w.alloc (.cells (madeCells #[.int .u8 0] n) 5)) :=
  Go.run_make_row' 24 5 (.int .u8 0) 1 Tryz.underlying24 (by kernel_rfl) rfl .i64 .i64 n (by omega) (by omega) w

theorem made_at (n i : Nat) (h : i < n) : (madeCells #[Value.int .u8 0] n)[i]? = some (.int .u8 0) := by
  simp [madeCells, h, Nat.mod_one]

/-- So many of a number's bytes. -/
def bytesL (n : Int) (size : Nat) : List Int := (List.range size).map fun i => n / 2 ^ (8 * i) % 256

theorem bytesL_oct (n : Int) (size : Nat) : Oct (bytesL n size) := by
  intro x hx
  simp [bytesL] at hx
  obtain ⟨i, _, rfl⟩ := hx
  omega
theorem bytesL_length (n : Int) (size : Nat) : (bytesL n size).length = size := by simp [bytesL]
theorem bytesL_getD (n : Int) (size i : Nat) (h : i < size) : (bytesL n size).getD i 0 = n / 2 ^ (8 * i) % 256 := by
  simp [bytesL, List.getD_eq_getElem?_getD, h]

/-- A new slice of bytes, all its own. -/
structure Fresh (w w' : World) (v : Value) (len : Nat) (zs : List Int) : Prop where
  row : Row w' (some ⟨w.heap.size, 0, none⟩) len zs
  val : v = .slice (some ⟨w.heap.size, 0, none⟩) len len
  free : ∀ i, i < len → w'.frozen? ⟨w.heap.size, i, none⟩ = false
  bel : Below w.heap.size w w'

/-- One byte more of a slice that is being filled. -/
theorem fill_step {w wr : World} {B k size : Nat} {x : Nat → Int} (hb : Below w.heap.size w wr) (hB : w.heap.size ≤ B) (hlt : k < size)
    (hc : ∀ j, j < k → wr.cell? ⟨B, j, none⟩ = some (.int .u8 (x j))) (hs : ∀ j, j < size → (∃ v, wr.cell? ⟨B, j, none⟩ = some v) ∧ wr.frozen? ⟨B, j, none⟩ = false) :
    Below w.heap.size w (wr.setCell ⟨B, k, none⟩ (.int .u8 (x k))) ∧
    (∀ j, j < k + 1 → (wr.setCell ⟨B, k, none⟩ (.int .u8 (x k))).cell? ⟨B, j, none⟩ = some (.int .u8 (x j))) ∧
    (∀ j, j < size → (∃ v, (wr.setCell ⟨B, k, none⟩ (.int .u8 (x k))).cell? ⟨B, j, none⟩ = some v) ∧ (wr.setCell ⟨B, k, none⟩ (.int .u8 (x k))).frozen? ⟨B, j, none⟩ = false) := by
  obtain ⟨⟨v, hv⟩, _⟩ := hs k hlt
  have hne : ∀ j, j ≠ k → (⟨B, k, none⟩ : Addr) ≠ ⟨B, j, none⟩ := fun j hj h => hj (congrArg Addr.off h).symm
  refine ⟨hb.setCell (by exact hB) _, fun j hj => ?_, fun j hj => ⟨?_, ?_⟩⟩
  · by_cases h : j = k
    · subst h; exact World.cell?_setCell_same _ _ _ hv
    · rw [World.cell?_setCell_other _ _ _ _ (hne j h)]; exact hc j (by omega)
  · by_cases h : j = k
    · subst h; exact ⟨_, World.cell?_setCell_same _ _ _ hv⟩
    · rw [World.cell?_setCell_other _ _ _ _ (hne j h)]; exact (hs j hj).1
  · rw [World.frozen?_setCell]; exact (hs j hj).2

end Go.Proofs.YtajllkkbgpijiaaGreatDoor.Ty
