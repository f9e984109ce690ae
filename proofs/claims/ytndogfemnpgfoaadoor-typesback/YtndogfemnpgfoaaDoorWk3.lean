/-
  The walk of Value at the text 3p-1 as a float of 4 bytes, and of Text at -2: what works asks.
-/
import Derived.Test.YtndogfemnpgfoaaDoorWk2
import Derived.Test.YtndogfemnpgfoaaDoorMade
namespace Go.Proofs.YtndogfemnpgfoaaDoor
open Pl Go.RowKit

set_option maxHeartbeats 2000000 in
set_option maxRecDepth 100000 in
theorem readSize_3 (w : World) (hT : Tab64 w) : Calls Tryd.prog 61 #[.string ⟨#[51, 112, 45, 49]⟩, .agg #[.int .i64 23, .int .i64 127]] w fun r w' => r = .returned (.int .u64 1069547520) ∧ Below w.heap.size w w' := by
  have old := hT.old
  go_enter Tryd.func61, Tryd.ntmps61
  go_wp2_with fail
  refine (strCut_p _).mono ?_
  rintro e w1 ⟨rfl, hb1⟩
  have B1 : Below w.heap.size w w1 := Below.andThen (Below.al (Below.refl _ _) _) hb1
  have c0 : w1.cell? ⟨w.heap.size, 0, none⟩ = some (.int .i64 23) := (hb1.cell (by simp)).trans (by simp [go_sem])
  have c1 : w1.cell? ⟨w.heap.size, 1, none⟩ = some (.int .i64 127) := (hb1.cell (by simp)).trans (by simp [go_sem])
  clear hb1
  go_wp2_with fail
  refine (must_true _).mono ?_
  rintro e w' ⟨rfl, rfl⟩
  go_wp2_with fail
  refine (signed_minus1 _).mono ?_
  rintro e w' ⟨rfl, rfl⟩
  go_wp2_with fail
  rw [show wrap64 18446744073709551615 = -1 from by simp [wrap64]]
  go_region_held3 (fun x => x.cell? ⟨w.heap.size, 0, none⟩ = some (.int .i64 23) ∧ x.cell? ⟨w.heap.size, 1, none⟩ = some (.int .i64 127))
    (first | exact ⟨c0, c1⟩ | exact ⟨(hb2.cell (block_lt_of_cell c0)).trans c0, (hb2.cell (block_lt_of_cell c1)).trans c1⟩)
    (first | ((go_at_call 58; refine (decimal_51 _).mono ?_; rintro e x ⟨rfl, rfl⟩)) | ((go_at_call 68; refine (together_3 _ (hT.below (Below.drew B1) old)).mono ?_; rintro e w2 ⟨rfl, hb2⟩)))
  all_goals go_wp2_with fail
  all_goals
    refine (must_true _).mono ?_
    rintro e x ⟨rfl, rfl⟩
    go_wp2_with fail
    go_ret
    exact ⟨rfl, Below.andThen (Below.drew B1) hb2⟩

set_option maxHeartbeats 2000000 in
set_option maxRecDepth 100000 in
theorem readFloat_3 (w : World) (hT : Tab64 w) : Calls Tryd.prog 36 #[.string ⟨#[51, 112, 45, 49]⟩, .int .i64 4] w fun r w' => r = .returned (.int .u64 1069547520) ∧ Below w.heap.size w w' := by
  have old := hT.old
  go_enter Tryd.func36, Tryd.ntmps36
  go_wp2_with fail
  refine (cutPrefix_nan _).mono ?_
  rintro e x ⟨rfl, rfl⟩
  go_wp2_with fail
  refine (cutPrefix_none _).mono ?_
  rintro e x ⟨rfl, rfl⟩
  go_wp2_with fail
  refine (layoutOf32 _).mono ?_
  rintro e w1 ⟨rfl, rfl⟩
  go_wp2_with fail
  refine (readSize_3 _ (hT.below (Below.al (Below.refl _ _) _) old)).mono ?_
  rintro e w2 ⟨rfl, hb⟩
  go_wp2_with fail
  go_ret
  exact ⟨rfl, Below.andThen (Below.al (Below.refl _ _) _) hb⟩

set_option maxHeartbeats 2000000 in
set_option maxRecDepth 100000 in
theorem readValue_3 (w : World) (hT : Tab64 w) : Calls Tryd.prog 18 #[.int .u8 4, .int .i64 4, .string ⟨#[51, 112, 45, 49]⟩] w fun r w' => ∃ g : Nat, r = .returned (.slice (some ⟨g, 0, none⟩) 4 4) ∧ w.heap.size ≤ g ∧ Row w' (some ⟨g, 0, none⟩) 4 [0, 0, 192, 63] ∧ Below w.heap.size w w' := by
  go_enter Tryd.func18, Tryd.ntmps18
  go_wp2_with fail
  refine (readFloat_3 _ hT).mono ?_
  rintro e w1 ⟨rfl, hb⟩
  go_wp2_with fail
  refine (bytesOf_any 1069547520 4 _ (by decide) (by decide)).mono ?_
  rintro e w2 ⟨v, rfl, hf⟩
  obtain ⟨hr, rfl, _, hb2⟩ := hf
  go_wp2_with fail
  go_ret
  exact ⟨w1.heap.size, rfl, hb.size, hr, Below.andThen hb hb2⟩
end Go.Proofs.YtndogfemnpgfoaaDoor
