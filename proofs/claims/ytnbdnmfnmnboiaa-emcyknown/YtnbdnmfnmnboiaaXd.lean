/-
  EmcyReads of any frame.
-/
import Derived.Test.YtnbdnmfnmnboiaaXc
namespace Go.Proofs.Ytnbdnmfnmnboiaa
open Go.RowKit

theorem eqIn5 (d : Nat) (w : World) (a0 a1 a2 a3 a4 b0 b1 b2 b3 b4 : Int) :
    (Op.equalIn (d + 2) 33 (arr5 a0 a1 a2 a3 a4) (arr5 b0 b1 b2 b3 b4)).run Try.prog w = .ok (a0 == b0 && (a1 == b1 && (a2 == b2 && (a3 == b3 && (a4 == b4 && true))))) w := by
  obtain ⟨i, hi, hz0, hz1, hz2⟩ := info_parts info8
  rw [run_equalIn_array w (d + 1) _ _ Try.underlying33 hi]
  rw [show List.range 5 = [0, 1, 2, 3, 4] from rfl, show Try.prog.cellsOf 5 = 1 from by kernel_rfl]
  refine item8 d w _ _ _ _ _ _ _ rfl rfl ?_
  refine item8 d w _ _ _ _ _ _ _ rfl rfl ?_
  refine item8 d w _ _ _ _ _ _ _ rfl rfl ?_
  refine item8 d w _ _ _ _ _ _ _ rfl rfl ?_
  refine item8 d w _ _ _ _ _ _ _ rfl rfl ?_
  rfl
theorem eql5 (w : World) (a0 a1 a2 a3 a4 : Int) : (binOp .eql 33 (arr5 a0 a1 a2 a3 a4) (arr5 a0 a1 a2 a3 a4)).run Try.prog w = .ok (.bool true) w := by
  rw [run_eql_struct, eqIn5 9998]
  simp
theorem neq5 (w : World) (a0 a1 a2 a3 a4 : Int) : (binOp .neq 33 (arr5 a0 a1 a2 a3 a4) (arr5 a0 a1 a2 a3 a4)).run Try.prog w = .ok (.bool false) w := by
  rw [run_neq_struct, eqIn5 9998]
  simp
/-- What both Reads tell. -/
theorem read_two (i n d0 d1 d2 d3 d4 d5 d6 d7 : Int) (r : Bool) (ho : Oct [d0, d1, d2, d3, d4, d5, d6, d7]) (hi : 0 ≤ i) : ∃ A C G j0 j1 j2 j3 j4 B,
    (∀ w, Calls Try.prog 13 #[frV i n d0 d1 d2 d3 d4 d5 d6 d7 r] w fun e w' => e = .returned (rdV A C G j0 j1 j2 j3 j4 B) ∧ Below w.heap.size w w') ∧
    (∀ w, Calls Try.prog 14 #[frV i n d0 d1 d2 d3 d4 d5 d6 d7 r] w fun e w' => e = .returned (rdV A C G j0 j1 j2 j3 j4 B) ∧ Below w.heap.size w w') := by
  have h1 := fun w => read_any i n d0 d1 d2 d3 d4 d5 d6 d7 r ho hi w
  have h2 := fun w => rread_any i n d0 d1 d2 d3 d4 d5 d6 d7 r ho w
  cases hb : rdB i n r with
  | true =>
    rw [hb, if_pos rfl] at h1 h2
    exact ⟨_, _, _, _, _, _, _, _, _, h1, h2⟩
  | false =>
    rw [hb, if_neg (by decide)] at h1 h2
    exact ⟨_, _, _, _, _, _, _, _, _, h1, h2⟩
set_option linter.unusedSimpArgs false in
set_option maxHeartbeats 4000000 in
set_option maxRecDepth 100000 in
theorem emcyReads_any (i n d0 d1 d2 d3 d4 d5 d6 d7 : Int) (r : Bool) (ho : Oct [d0, d1, d2, d3, d4, d5, d6, d7]) (hi : 0 ≤ i) (w : World) : Calls Try.prog 4 #[frV i n d0 d1 d2 d3 d4 d5 d6 d7 r] w fun e w' => e = .returned (.bool true) ∧ Below w.heap.size w w' := by
  obtain ⟨A, C, G, j0, j1, j2, j3, j4, B, R1, R2⟩ := read_two i n d0 d1 d2 d3 d4 d5 d6 d7 r ho hi
  have Q : ∀ W, (binOp .eql 33 (arr5 j0 j1 j2 j3 j4) (arr5 j0 j1 j2 j3 j4)).run Try.prog W = .ok (.bool true) W := fun W => eql5 W j0 j1 j2 j3 j4
  have f0 := at11 w (.cells (frC i n d0 d1 d2 d3 d4 d5 d6 d7 r) 40) w.heap.size rfl
  clear ho hi
  go_enter Try.func4, Try.ntmps4
  go_wp2_with fail
  refine (R1 _).mono ?_
  rintro e w1 ⟨rfl, b1⟩
  have f1 := blk11 b1 f0
  obtain ⟨c0, c1, c2, c3, c4, c5, c6, c7, c8, c9, c10⟩ := frC_at f1
  have l1 := lt_of_heap f1
  have B1 : Below w.heap.size w w1 := Below.andThen (by repeat (first | exact Below.refl _ _ | apply Below.drew | apply Below.al)) b1
  have g1 := at11 w1 (.cells #[.int .u8 j0, .int .u8 j1, .int .u8 j2, .int .u8 j3, .int .u8 j4] 33) w1.heap.size rfl
  clear f0 b1 R1
  go_wp2_with fail
  refine (R2 _).mono ?_
  rintro e w2 ⟨rfl, b2⟩
  have g2 := blk11 b2 g1
  have h0 : w2.cell? ⟨w1.heap.size, 0, none⟩ = some (.int .u8 j0) := by rw [cell_of_row w2 _ 0 _ _ _ g2]; rfl
  have h1 : w2.cell? ⟨w1.heap.size, 1, none⟩ = some (.int .u8 j1) := by rw [cell_of_row w2 _ 1 _ _ _ g2]; rfl
  have h2 : w2.cell? ⟨w1.heap.size, 2, none⟩ = some (.int .u8 j2) := by rw [cell_of_row w2 _ 2 _ _ _ g2]; rfl
  have h3 : w2.cell? ⟨w1.heap.size, 3, none⟩ = some (.int .u8 j3) := by rw [cell_of_row w2 _ 3 _ _ _ g2]; rfl
  have h4 : w2.cell? ⟨w1.heap.size, 4, none⟩ = some (.int .u8 j4) := by rw [cell_of_row w2 _ 4 _ _ _ g2]; rfl
  have l2 := lt_of_heap g2
  have B2 : Below w.heap.size w w2 := Below.trans (Below.al B1 _) (b2.mono (Below.al B1 _).size)
  clear c0 c1 c2 c3 c4 c5 c6 c7 c8 c9 c10 f1 g1 g2 b2 R2 B1
  go_wp2_with fail
  refine (works_any _).mono ?_
  rintro e w3 ⟨rfl, b3⟩
  have B3 : Hid (Below w.heap.size w w3) := Below.trans (Below.al B2 _) (b3.mono (Below.al B2 _).size)
  clear h0 h1 h2 h3 h4 B2 b3
  go_wp2_with fail
  go_ret
  exact ⟨by cases B <;> rfl, B3.out⟩
#print axioms emcyReads_any
end Go.Proofs.Ytnbdnmfnmnboiaa
