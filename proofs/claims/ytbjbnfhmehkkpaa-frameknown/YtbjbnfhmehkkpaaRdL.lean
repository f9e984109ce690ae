/-
  The walk of FrameReads: true of any text.
-/
import Derived.Test.YtbjbnfhmehkkpaaRs
import Derived.Test.YtbjbnfhmehkkpaaWk
namespace Go.Proofs.Ytbjbnfhmehkkpaa
open Go.RowKit

set_option maxHeartbeats 4000000 in
set_option maxRecDepth 100000 in
theorem frameReads_any (zs : List Int) (w : World) (ho : Oct zs) :
    Calls Try.prog 4 #[.string (strOfNums zs)] w fun e w' => e = .returned (.bool true) ∧ Below w.heap.size w w' := by
  have hsz : (strOfNums zs).size = zs.length := strOfNums_size zs
  by_cases h1 : (1000 : Int) < (zs.length : Int)
  · generalize strOfNums zs = s at *
    go_enter Try.func4, Try.ntmps4
    go_wp2_with fail
    go_ret
    exact ⟨rfl, Below.refl _ _⟩
  have hr1 := fun w => read_any zs w ho (by omega)
  have hr2 := fun w => refRead_any zs w ho
  rw [← rdR_rrR] at hr2
  obtain ⟨q, HQ⟩ : ∃ q, Hid (rdR zs = q) := ⟨_, rfl⟩
  rw [HQ.out] at hr1 hr2
  clear HQ
  generalize strOfNums zs = s at *
  obtain ⟨i, n, d0, d1, d2, d3, d4, d5, d6, d7, r, c⟩ := q
  dsimp only [FrR.tup] at hr1 hr2
  have he := fun w => eqlF w i n d0 d1 d2 d3 d4 d5 d6 d7 r i n d0 d1 d2 d3 d4 d5 d6 d7 r
  rw [sameF_self] at he
  go_enter Try.func4, Try.ntmps4
  go_wp2_with fail
  refine (hr1 _).mono ?_
  rintro e w1 ⟨rfl, hb1⟩
  go_wp2_with fail
  refine (hr2 _).mono ?_
  rintro e w2 ⟨rfl, hb2⟩
  have HX := hold_next (boxed w1 i n d0 d1 d2 d3 d4 d5 d6 d7 r) hb2
  clear hb2 hr1 hr2
  obtain ⟨B2, c0, c1, c2, c3, c4, c5, c6, c7, c8, c9, c10⟩ := HX
  have L2 : w1.heap.size < w2.heap.size := block_lt_of_cell c0
  go_wp2_with fail
  refine (works_any _).mono ?_
  rintro e w3 ⟨rfl, hb3⟩
  go_wp2_with fail
  go_ret
  exact ⟨rfl, Below.andThen (Below.andThen hb1 B2) (Below.andThen (Below.al (Below.refl _ _) _) hb3)⟩
/-- Any text is one of numbers. -/
def nums (s : ByteArray) : List Int := s.data.toList.map fun x => (x.toNat : Int)
theorem nums_oct (s : ByteArray) : Oct (nums s) := fun n hn => by
  obtain ⟨x, _, rfl⟩ := List.mem_map.1 hn
  have := x.toNat_lt
  omega
theorem nums_str (s : ByteArray) : strOfNums (nums s) = s := by
  apply ByteArray.ext
  apply Array.toList_inj.1
  rw [strOfNums_data, nums, List.map_map]
  conv => rhs; rw [← List.map_id s.data.toList]
  refine List.map_congr_left fun x _ => ?_
  simp
theorem frameReads_str (s : ByteArray) (w : World) :
    Calls Try.prog 4 #[.string s] w fun e w' => e = .returned (.bool true) ∧ Below w.heap.size w w' := by
  have := frameReads_any (nums s) w (nums_oct s)
  rwa [nums_str] at this
#print axioms frameReads_str
end Go.Proofs.Ytbjbnfhmehkkpaa
