/-
  The walks of the writing of what is bare, of a place, of a toggle, of a stop, of a size, of an end, of a block, of an ack.
-/
import Derived.Test.YtimnpdegoehblaaGreatDoorSc
import Derived.Deep.RegionWith
namespace Go.Proofs.YtimnpdegoehblaaGreatDoor
open Go.RowKit

/-- How a writing ends. -/
def WPost (w : World) : Option B8 → Ending → World → Prop
  | some b, r, w' => r = .returned b.v ∧ Below w.heap.size w w'
  | none, r, w' => r = .panicked bad ∧ Below w.heap.size w w'

set_option linter.unusedSimpArgs false in
set_option maxHeartbeats 4000000 in
set_option maxRecDepth 100000 in
theorem writeBare_any (f k i s : Int) (z : Bool) (n : Int) (q : Bool) (a : Option Addr) (len cap : Nat) (t l c : Bool) (b e u m o : Int) (w : World) :
    Calls Tryz.prog 76 #[arr8 f 0 0 0 0 0 0 0, cmV k i s z n q a len cap t l c b e u m o] w (WPost w (if onlyN i s z n q len t l c b e u m o 0 then some ⟨f, 0, 0, 0, 0, 0, 0, 0⟩ else none)) := by
  obtain ⟨R, hR⟩ : ∃ R, onlyN i s z n q len t l c b e u m o 0 = R := ⟨_, rfl⟩
  cases R
  · rw [hR]
    have ho := fun w => only_no k i s z n q a len cap t l c b e u m o 0 (by decide) 0 rfl hR w
    clear hR
    go_enter Tryz.func76, Tryz.ntmps76
    go_wp2_with fail
    with_reducible refine (ho _).mono ?_
    rintro r w1 ⟨rfl, o1, o2, o3, rfl⟩
    clear ho
    go_wp2_with fail
    exact ⟨rfl, rfl, (by repeat (first | exact Below.refl _ _ | apply Below.drew | apply Below.al))⟩
  have ho := fun w => only_yes k i s z n q a len cap t l c b e u m o 0 (by decide) 0 rfl hR w
  rw [hR]
  clear hR
  · go_enter Tryz.func76, Tryz.ntmps76
    go_wp2_with fail
    with_reducible refine (ho _).mono ?_
    rintro r w1 ⟨rfl, o1, o2, o3, rfl⟩
    clear ho
    go_wp2_with fail
    exact bodyPost_ret (v := arr8 f 0 0 0 0 0 0 0) (by simp [results, Tryz.results76, go_sem]) rfl ⟨rfl, (by repeat (first | exact Below.refl _ _ | apply Below.drew | apply Below.al))⟩

set_option linter.unusedSimpArgs false in
set_option maxHeartbeats 4000000 in
set_option maxRecDepth 100000 in
theorem writePlace_any (f k i s : Int) (z : Bool) (n : Int) (q : Bool) (a : Option Addr) (len cap : Nat) (t l c : Bool) (b e u m o : Int) (hi : 0 ≤ i ∧ i < 65536) (w : World) :
    Calls Tryz.prog 64 #[arr8 f 0 0 0 0 0 0 0, cmV k i s z n q a len cap t l c b e u m o] w (WPost w (if onlyN i s z n q len t l c b e u m o 1 then some ⟨f, i % 256, i / 256, s, 0, 0, 0, 0⟩ else none)) := by
  obtain ⟨R, hR⟩ : ∃ R, onlyN i s z n q len t l c b e u m o 1 = R := ⟨_, rfl⟩
  cases R
  · rw [hR]
    have ho := fun w => only_no k i s z n q a len cap t l c b e u m o 1 (by decide) 1 rfl hR w
    clear hR
    go_enter Tryz.func64, Tryz.ntmps64
    go_wp2_with fail
    with_reducible refine (ho _).mono ?_
    rintro r w1 ⟨rfl, o1, o2, o3, rfl⟩
    clear ho
    go_wp2_with fail
    exact ⟨rfl, rfl, (by repeat (first | exact Below.refl _ _ | apply Below.drew | apply Below.al))⟩
  have ho := fun w => only_yes k i s z n q a len cap t l c b e u m o 1 (by decide) 1 rfl hR w
  rw [hR]
  clear hR
  · go_enter Tryz.func64, Tryz.ntmps64
    go_wp2_with fail
    with_reducible refine (ho _).mono ?_
    rintro r w1 ⟨rfl, o1, o2, o3, rfl⟩
    clear ho
    go_wp2_with fail
    with_reducible refine (withPlace_any _ _ _ _ _ _ _ _ _ _ hi _).mono ?_
    rintro r w1 ⟨rfl, p1, p2, p3, rfl⟩
    go_wp2_with fail
    exact bodyPost_ret (v := arr8 f (i % 256) (i / 256) s 0 0 0 0) (by simp [results, Tryz.results64, go_sem]) rfl ⟨rfl, (by repeat (first | exact Below.refl _ _ | apply Below.drew | apply Below.al))⟩

set_option linter.unusedSimpArgs false in
set_option maxHeartbeats 4000000 in
set_option maxRecDepth 100000 in
theorem writeToggle_any (f k i s : Int) (z : Bool) (n : Int) (q : Bool) (a : Option Addr) (len cap : Nat) (t l c : Bool) (b e u m o : Int) (w : World) :
    Calls Tryz.prog 66 #[arr8 f 0 0 0 0 0 0 0, cmV k i s z n q a len cap t l c b e u m o] w (WPost w (if onlyN i s z n q len t l c b e u m o 32 then some ⟨bits .or .u8 f (bitv t 16), 0, 0, 0, 0, 0, 0, 0⟩ else none)) := by
  obtain ⟨R, hR⟩ : ∃ R, onlyN i s z n q len t l c b e u m o 32 = R := ⟨_, rfl⟩
  cases R
  · rw [hR]
    have ho := fun w => only_no k i s z n q a len cap t l c b e u m o 32 (by decide) 32 rfl hR w
    clear hR
    go_enter Tryz.func66, Tryz.ntmps66
    go_wp2_with fail
    with_reducible refine (ho _).mono ?_
    rintro r w1 ⟨rfl, o1, o2, o3, rfl⟩
    clear ho
    go_wp2_with fail
    exact ⟨rfl, rfl, (by repeat (first | exact Below.refl _ _ | apply Below.drew | apply Below.al))⟩
  have ho := fun w => only_yes k i s z n q a len cap t l c b e u m o 32 (by decide) 32 rfl hR w
  rw [hR]
  clear hR
  · go_enter Tryz.func66, Tryz.ntmps66
    go_wp2_with fail
    with_reducible refine (ho _).mono ?_
    rintro r w1 ⟨rfl, o1, o2, o3, rfl⟩
    clear ho
    go_wp2_with fail
    go_region_with (go_at_call 100; refine (bit_any _ _ _).mono ?_; rintro r w1 ⟨rfl, rfl⟩)
    all_goals
      go_wp2_with fail
      exact bodyPost_ret (v := arr8 (bits .or .u8 f (bitv t 16)) 0 0 0 0 0 0 0) (by simp [results, Tryz.results66, go_sem]) rfl ⟨rfl, (by repeat (first | exact Below.refl _ _ | apply Below.drew | apply Below.al))⟩

#print axioms writeToggle_any
end Go.Proofs.YtimnpdegoehblaaGreatDoor
