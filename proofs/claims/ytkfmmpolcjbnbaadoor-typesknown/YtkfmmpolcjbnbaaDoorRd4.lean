/-
  The walk of readTruth.
-/
import Derived.Test.YtkfmmpolcjbnbaaDoorVal
namespace Go.Proofs.YtkfmmpolcjbnbaaDoor
open Pl Go.RowKit

/-- The byte that a word tells. -/
def truV (l : List UInt8) : Option (List Int) := if l = [116, 114, 117, 101] then some [1] else if l = [102, 97, 108, 115, 101] then some [0] else none

theorem told_lit (w : World) (c : Int) (h : 0 ≤ c ∧ c < 256) : ReadsTo w (some [c]) (.returned (.slice (some ⟨w.heap.size, 0, none⟩) 1 1)) (w.alloc (.cells #[.int .u8 c] 5)) :=
  ⟨⟨_, _, _, rfl, ⟨row_lit w _ _ [c] 1 rfl (fun n hn => by simp at hn; omega) rfl, Nat.le_refl _, by decide, fun _ => ⟨_, rfl, Nat.le_refl _, fun i _ => World.frozen?_alloc_new _ _ _ i⟩⟩⟩, Below.al (Below.refl _ _) _⟩

set_option maxHeartbeats 1000000 in
set_option maxRecDepth 100000 in
theorem truth_any (l : List UInt8) (w : World) : Calls Tryd.prog 32 #[.string (str l)] w (ReadsTo w (truV l)) := by
  obtain ⟨s, HS, htl, _, _⟩ := str_facts l
  rw [HS.out]
  by_cases h1 : l = [116, 114, 117, 101]
  · have HV : Hid (truV l = some [1]) := by show _ = _; unfold truV; rw [if_pos h1]
    rw [HV.out]
    subst h1
    have TL := told_lit w 1 (by decide)
    have HT : Hid (ReadsTo w (some [1]) (.returned (.slice (some ⟨w.heap.size, 0, none⟩) 1 1)) (w.alloc (.cells #[.int .u8 1] 5))) := TL
    clear TL
    go_enter Tryd.func32, Tryd.ntmps32
    go_wp2_with fail
    refine (must_true _).mono ?_
    rintro e w ⟨rfl, rfl⟩
    go_wp2_with fail
    go_ret
    exact HT.out
  by_cases h2 : l = [102, 97, 108, 115, 101]
  · have HV : Hid (truV l = some [0]) := by show _ = _; unfold truV; rw [if_neg h1, if_pos h2]
    rw [HV.out]
    subst h2
    have HT : Hid (ReadsTo w (some [0]) (.returned (.slice (some ⟨w.heap.size, 0, none⟩) 1 1)) (w.alloc (.cells #[.int .u8 0] 5))) := told_lit w 0 (by decide)
    clear h1
    go_enter Tryd.func32, Tryd.ntmps32
    go_wp2_with fail
    refine (must_true _).mono ?_
    rintro e w ⟨rfl, rfl⟩
    go_wp2_with fail
    go_ret
    exact HT.out
  · have HV : Hid (truV l = none) := by show _ = _; unfold truV; rw [if_neg h1, if_neg h2]
    rw [HV.out]
    have b : (l == [102, 97, 108, 115, 101] || l == [116, 114, 117, 101]) = false := by simp [h1, h2]
    go_enter Tryd.func32, Tryd.ntmps32
    go_wp2_with fail
    first
      | refine (must_false _).mono ?_
      | (rw [show (l == [102, 97, 108, 115, 101] || l == [116, 114, 117, 101]) = false from by simp [h1, h2]]; refine (must_false _).mono ?_)
    rintro e w ⟨rfl, rfl⟩
    go_wp2_with fail
    exact ⟨rfl, rfl, Below.refl _ _⟩
#print axioms truth_any
end Go.Proofs.YtkfmmpolcjbnbaaDoor
