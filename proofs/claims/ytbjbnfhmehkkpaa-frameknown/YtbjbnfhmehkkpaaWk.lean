/-
  The walk of works: true, whatever the world.
-/
import Derived.Test.YtbjbnfhmehkkpaaRg
import Derived.Test.YtbjbnfhmehkkpaaWf
namespace Go.Proofs.Ytbjbnfhmehkkpaa
open Go.RowKit

theorem oct_of (zs : List Int) (h : (zs.all fun n => decide (0 ≤ n) && decide (n < 256)) = true) : Oct zs := fun n hn => by
  have := List.all_eq_true.1 h n hn
  simp at this
  exact this

theorem wk_mk : mkR 385 [1, 2, 255] = ⟨385, 3, 1, 2, 255, 0, 0, 0, 0, 0, false, 0⟩ := by kernel_rfl
theorem wk_wrS : wrS 385 3 [1, 2, 255, 0, 0, 0, 0, 0] false = [49, 56, 49, 35, 48, 49, 48, 50, 70, 70] := by decide +kernel
theorem wk_wrE : wrE 385 3 [1, 2, 255, 0, 0, 0, 0, 0] false = 0 := by decide +kernel
theorem wk_rd : rdR [48, 48, 53, 35, 82, 52] = ⟨5, 4, 0, 0, 0, 0, 0, 0, 0, 0, true, 0⟩ := by kernel_rfl
theorem wk_right : rightB 385 3 [1, 2, 255, 0, 0, 0, 0, 0] false = true := by decide +kernel

theorem wk_make (w : World) : Calls Try.prog 7 #[.int .u16 385, .slice (some ⟨w.heap.size, 0, none⟩) 3 3] (w.alloc (.cells #[.int .u8 1, .int .u8 2, .int .u8 255] 5)) fun e w' => e = .returned (.tuple #[frV 385 3 1 2 255 0 0 0 0 0 false, .int .i64 0]) ∧ Below (w.alloc (.cells #[.int .u8 1, .int .u8 2, .int .u8 255] 5)).heap.size (w.alloc (.cells #[.int .u8 1, .int .u8 2, .int .u8 255] 5)) w' := by
  have := make_any 385 _ 3 3 [1, 2, 255] _ (row_lit w #[.int .u8 1, .int .u8 2, .int .u8 255] 5 [1, 2, 255] 3 rfl (oct_of _ (by decide)) rfl)
  rw [wk_mk] at this
  exact this
theorem wk_write (w : World) : Calls Try.prog 12 #[frV 385 3 1 2 255 0 0 0 0 0 false] w fun e w' => e = .returned (.tuple #[.string ⟨#[49, 56, 49, 35, 48, 49, 48, 50, 70, 70]⟩, .int .i64 0]) ∧ Below w.heap.size w w' := by
  have := write_any 385 3 1 2 255 0 0 0 0 0 false w (oct_of _ (by decide)) (by decide)
  rw [wk_wrS, wk_wrE] at this
  exact this
theorem wk_read (w : World) : Calls Try.prog 19 #[.string ⟨#[48, 48, 53, 35, 82, 52]⟩] w fun e w' => e = .returned (.tuple #[frV 5 4 0 0 0 0 0 0 0 0 true, .int .i64 0]) ∧ Below w.heap.size w w' := by
  have := read_any [48, 48, 53, 35, 82, 52] w (oct_of _ (by decide)) (by decide)
  rw [wk_rd] at this
  exact this
theorem wk_rightc (w : World) : Calls Try.prog 15 #[frV 385 3 1 2 255 0 0 0 0 0 false] w fun e w' => e = .returned (.bool true) ∧ Below w.heap.size w w' := by
  have := right_any 385 3 1 2 255 0 0 0 0 0 false w (oct_of _ (by decide))
  rw [wk_right] at this
  exact this
theorem wk_bef1 (w : World) : Calls Try.prog 21 #[frV 5 4 0 0 0 0 0 0 0 0 true, frV 385 3 1 2 255 0 0 0 0 0 false] w fun e w' => e = .returned (.bool true) ∧ Below w.heap.size w w' :=
  before_any 5 4 0 0 0 0 0 0 0 0 true 385 3 1 2 255 0 0 0 0 0 false w
theorem wk_bef2 (w : World) : Calls Try.prog 21 #[frV 385 3 1 2 255 0 0 0 0 0 false, frV 5 4 0 0 0 0 0 0 0 0 true] w fun e w' => e = .returned (.bool false) ∧ Below w.heap.size w w' :=
  before_any 385 3 1 2 255 0 0 0 0 0 false 5 4 0 0 0 0 0 0 0 0 true w

set_option maxHeartbeats 4000000 in
set_option maxRecDepth 100000 in
theorem works_any (w : World) : Calls Try.prog 18 #[] w fun e w' => e = .returned (.bool true) ∧ Below w.heap.size w w' := by
  go_enter Try.func18, Try.ntmps18
  go_wp2_with fail
  refine (wk_make w).mono ?_
  rintro e w1 ⟨rfl, hb1⟩
  have B1 : Below w.heap.size w w1 := Below.andThen (Below.al (Below.refl _ _) _) hb1
  clear hb1
  go_wp2_with fail
  refine (wk_write _).mono ?_
  rintro e w2 ⟨rfl, hb2⟩
  have h2 := hold_next (boxed w1 385 3 1 2 255 0 0 0 0 0 false) hb2
  have H2 : Hid (_) := h2
  obtain ⟨B2, c0, c1, c2, c3, c4, c5, c6, c7, c8, c9, c10⟩ := h2
  clear hb2
  go_wp2_with fail
  refine (wk_read _).mono ?_
  rintro e w3 ⟨rfl, hb3⟩
  have h3 := hold_next H2.out hb3
  clear c0 c1 c2 c3 c4 c5 c6 c7 c8 c9 c10 B2 H2 hb3
  have H3 : Hid (_) := h3
  obtain ⟨B3, c0, c1, c2, c3, c4, c5, c6, c7, c8, c9, c10⟩ := h3
  have L3 : w1.heap.size < w3.heap.size := block_lt_of_cell c0
  go_wp2_with fail
  refine (wk_rightc _).mono ?_
  rintro e w4 ⟨rfl, hb4⟩
  have g4 := hold_next (boxed w3 5 4 0 0 0 0 0 0 0 0 true) hb4
  have h4 := hold_next H3.out g4.1
  have G4 : Hid (_) := g4
  have H4 : Hid (_) := h4
  clear c0 c1 c2 c3 c4 c5 c6 c7 c8 c9 c10 B3 H3 hb4
  obtain ⟨B4, c0, c1, c2, c3, c4, c5, c6, c7, c8, c9, c10⟩ := h4
  obtain ⟨C4, e0, e1, e2, e3, e4, e5, e6, e7, e8, e9, e10⟩ := g4
  go_wp2_with fail
  refine (wk_bef1 _).mono ?_
  rintro e w5 ⟨rfl, hb5⟩
  clear c0 c1 c2 c3 c4 c5 c6 c7 c8 c9 c10 B4
  clear e0 e1 e2 e3 e4 e5 e6 e7 e8 e9 e10 C4
  obtain ⟨B4, c0, c1, c2, c3, c4, c5, c6, c7, c8, c9, c10⟩ := hold_next H4.out hb5
  obtain ⟨C4, e0, e1, e2, e3, e4, e5, e6, e7, e8, e9, e10⟩ := hold_next G4.out hb5
  go_wp2_with fail
  refine (wk_bef2 _).mono ?_
  rintro e w6 ⟨rfl, hb6⟩
  go_wp2_with fail
  go_ret
  exact ⟨rfl, Below.andThen B1 (Below.andThen B4 hb6)⟩
#print axioms works_any
end Go.Proofs.Ytbjbnfhmehkkpaa
