/-
  The law StateCommands.
-/
import Derived.Test.YtjfjfohabpjemaaHh
namespace Go.Proofs.Ytjfjfohabpjemaa
open Go.RowKit

theorem cdB_made (c a : Int) (h : mayC c a = true) : cdB 0 2 c a 0 0 0 0 0 0 false = true := by simp [cdB, sameF_self, h]
theorem oct_made {c a : Int} (hc : 0 ≤ c ∧ c < 256) (h0 : 0 ≤ a ∧ a < 256) : Oct [c, a, 0, 0, 0, 0, 0, 0] := by
  intro x hx
  simp only [List.mem_cons, List.not_mem_nil, or_false] at hx
  rcases hx with rfl | rfl | rfl | rfl | rfl | rfl | rfl | rfl <;> first | assumption | decide

set_option linter.unusedSimpArgs false in
set_option maxHeartbeats 4000000 in
set_option maxRecDepth 100000 in
theorem stateCommands_nn (c a : Int) (i n d0 d1 d2 d3 d4 d5 d6 d7 : Int) (r : Bool) (ho : Oct [d0, d1, d2, d3, d4, d5, d6, d7]) (hm : mayC c a = false) (hk : cdB i n d0 d1 d2 d3 d4 d5 d6 d7 r = false) (w : World) : Calls Try.prog 4 #[.int .u8 c, .int .u8 a, frV i n d0 d1 d2 d3 d4 d5 d6 d7 r] w fun e w' => e = .returned (.bool true) ∧ Below w.heap.size w w' := by
  have CM : ∀ W, Calls Try.prog 15 #[.int .u8 c, .int .u8 a] W fun e w' => e = .returned (.tuple #[zeroF, .int .i64 2]) ∧ Below W.heap.size W w' := fun W => command_no c a hm W
  have RC : ∀ W, Calls Try.prog 16 #[.int .u8 c, .int .u8 a] W fun e w' => e = .returned (.tuple #[zeroF, .int .i64 2]) ∧ Below W.heap.size W w' := fun W => rcommand_no c a hm W
  have CD : ∀ W, Calls Try.prog 17 #[frV i n d0 d1 d2 d3 d4 d5 d6 d7 r] W fun e w' => e = .returned (.tuple #[.int .u8 0, .int .u8 0, .bool false]) ∧ Below W.heap.size W w' := fun W => commanded_no i n d0 d1 d2 d3 d4 d5 d6 d7 r ho hk W
  have RD : ∀ W, Calls Try.prog 18 #[frV i n d0 d1 d2 d3 d4 d5 d6 d7 r] W fun e w' => e = .returned (.tuple #[.int .u8 0, .int .u8 0, .bool false]) ∧ Below W.heap.size W w' := fun W => rcommanded_no i n d0 d1 d2 d3 d4 d5 d6 d7 r hk W
  have WK := fun W => works_any W
  have hq : ∀ W : World, (binOp .eql 36 (zeroF) (zeroF)).run Try.prog W = .ok (.bool true) W := fun W => by rw [eqlF, sameF_self]
  clear hm hk ho
  go_enter Try.func4, Try.ntmps4
  go_wp2_with fail
  have F0 := heap_new w (.cells (frC i n d0 d1 d2 d3 d4 d5 d6 d7 r) 36)
  have B0 : Below w.heap.size w (w.alloc (.cells (frC i n d0 d1 d2 d3 d4 d5 d6 d7 r) 36)) := (by repeat (first | exact Below.refl _ _ | apply Below.drew | apply Below.al))
  generalize hx : (w.alloc (.cells (frC i n d0 d1 d2 d3 d4 d5 d6 d7 r) 36) : World) = w0 at F0 B0 ⊢
  clear hx
  refine (CM _).mono ?_
  rintro e w1 ⟨rfl, hb⟩
  have F1 := blk11 hb F0
  have B1 := Below.andThen B0 hb
  clear hb CM F0 B0
  go_wp2_with fail
  have F1 := ext11 (o := .cells (frC 0 0 0 0 0 0 0 0 0 0 false) 36) F1
  have G1 := at11 w1 (.cells (frC 0 0 0 0 0 0 0 0 0 0 false) 36) w1.heap.size rfl
  have B1 := Below.al B1 (.cells (frC 0 0 0 0 0 0 0 0 0 0 false) 36)
  obtain ⟨b1, e1⟩ : ∃ b, Hid (b = w1.heap.size) := ⟨_, rfl⟩
  rw [← e1.out] at G1 ⊢
  clear e1
  refine (RC _).mono ?_
  rintro e w2 ⟨rfl, hb⟩
  have F2 := blk11 hb F1
  have G2 := blk11 hb G1
  have B2 := Below.andThen B1 hb
  clear hb RC F1 G1 B1
  have y0 := frC_at F2
  have l2 := lt_of_heap F2
  obtain ⟨f0, f1, f2, f3, f4, f5, f6, f7, f8, f9, f10⟩ := y0
  go_wp2_with fail
  clear f0 f1 f2 f3 f4 f5 f6 f7 f8 f9 f10 l2
  have F2 := ext11 (o := .cells (frC 0 0 0 0 0 0 0 0 0 0 false) 36) F2
  have G2 := ext11 (o := .cells (frC 0 0 0 0 0 0 0 0 0 0 false) 36) G2
  have K2 := at11 w2 (.cells (frC 0 0 0 0 0 0 0 0 0 0 false) 36) w2.heap.size rfl
  have B2 := Below.al B2 (.cells (frC 0 0 0 0 0 0 0 0 0 0 false) 36)
  obtain ⟨b2, e2⟩ : ∃ b, Hid (b = w2.heap.size) := ⟨_, rfl⟩
  rw [← e2.out] at K2 ⊢
  clear e2
  refine (CD _).mono ?_
  rintro e w3 ⟨rfl, hb⟩
  have F3 := blk11 hb F2
  have G3 := blk11 hb G2
  have K3 := blk11 hb K2
  have B3 := Below.andThen B2 hb
  clear hb CD F2 G2 K2 B2
  obtain ⟨f0, f1, f2, f3, f4, f5, f6, f7, f8, f9, f10⟩ := frC_at F3
  go_wp2_with fail
  clear f0 f1 f2 f3 f4 f5 f6 f7 f8 f9 f10
  refine (RD _).mono ?_
  rintro e w4 ⟨rfl, hb⟩
  have G4 := blk11 hb G3
  have K4 := blk11 hb K3
  have B4 := Below.andThen B3 hb
  clear hb RD F3 G3 K3 B3
  obtain ⟨g0, g1, g2, g3, g4, g5, g6, g7, g8, g9, g10⟩ := frC_at G4
  obtain ⟨k0, k1, k2, k3, k4, k5, k6, k7, k8, k9, k10⟩ := frC_at K4
  clear G4 K4
  go_wp2_with fail
  refine (WK _).mono ?_
  rintro e w6 ⟨rfl, hb⟩
  have B4 := Below.andThen B4 hb
  clear hb WK
  go_wp2_with fail
  go_ret
  exact ⟨rfl, B4⟩

set_option linter.unusedSimpArgs false in
set_option maxHeartbeats 4000000 in
set_option maxRecDepth 100000 in
theorem stateCommands_ny (c a : Int) (i n d0 d1 d2 d3 d4 d5 d6 d7 : Int) (r : Bool) (ho : Oct [d0, d1, d2, d3, d4, d5, d6, d7]) (hm : mayC c a = false) (hk : cdB i n d0 d1 d2 d3 d4 d5 d6 d7 r = true) (w : World) : Calls Try.prog 4 #[.int .u8 c, .int .u8 a, frV i n d0 d1 d2 d3 d4 d5 d6 d7 r] w fun e w' => e = .returned (.bool true) ∧ Below w.heap.size w w' := by
  have CM : ∀ W, Calls Try.prog 15 #[.int .u8 c, .int .u8 a] W fun e w' => e = .returned (.tuple #[zeroF, .int .i64 2]) ∧ Below W.heap.size W w' := fun W => command_no c a hm W
  have RC : ∀ W, Calls Try.prog 16 #[.int .u8 c, .int .u8 a] W fun e w' => e = .returned (.tuple #[zeroF, .int .i64 2]) ∧ Below W.heap.size W w' := fun W => rcommand_no c a hm W
  have CD : ∀ W, Calls Try.prog 17 #[frV i n d0 d1 d2 d3 d4 d5 d6 d7 r] W fun e w' => e = .returned (.tuple #[.int .u8 d0, .int .u8 d1, .bool true]) ∧ Below W.heap.size W w' := fun W => commanded_yes i n d0 d1 d2 d3 d4 d5 d6 d7 r ho hk W
  have RD : ∀ W, Calls Try.prog 18 #[frV i n d0 d1 d2 d3 d4 d5 d6 d7 r] W fun e w' => e = .returned (.tuple #[.int .u8 d0, .int .u8 d1, .bool true]) ∧ Below W.heap.size W w' := fun W => rcommanded_yes i n d0 d1 d2 d3 d4 d5 d6 d7 r hk W
  have WK := fun W => works_any W
  have hq : ∀ W : World, (binOp .eql 36 (zeroF) (zeroF)).run Try.prog W = .ok (.bool true) W := fun W => by rw [eqlF, sameF_self]
  clear hm hk ho
  go_enter Try.func4, Try.ntmps4
  go_wp2_with fail
  have F0 := heap_new w (.cells (frC i n d0 d1 d2 d3 d4 d5 d6 d7 r) 36)
  have B0 : Below w.heap.size w (w.alloc (.cells (frC i n d0 d1 d2 d3 d4 d5 d6 d7 r) 36)) := (by repeat (first | exact Below.refl _ _ | apply Below.drew | apply Below.al))
  generalize hx : (w.alloc (.cells (frC i n d0 d1 d2 d3 d4 d5 d6 d7 r) 36) : World) = w0 at F0 B0 ⊢
  clear hx
  refine (CM _).mono ?_
  rintro e w1 ⟨rfl, hb⟩
  have F1 := blk11 hb F0
  have B1 := Below.andThen B0 hb
  clear hb CM F0 B0
  go_wp2_with fail
  have F1 := ext11 (o := .cells (frC 0 0 0 0 0 0 0 0 0 0 false) 36) F1
  have G1 := at11 w1 (.cells (frC 0 0 0 0 0 0 0 0 0 0 false) 36) w1.heap.size rfl
  have B1 := Below.al B1 (.cells (frC 0 0 0 0 0 0 0 0 0 0 false) 36)
  obtain ⟨b1, e1⟩ : ∃ b, Hid (b = w1.heap.size) := ⟨_, rfl⟩
  rw [← e1.out] at G1 ⊢
  clear e1
  refine (RC _).mono ?_
  rintro e w2 ⟨rfl, hb⟩
  have F2 := blk11 hb F1
  have G2 := blk11 hb G1
  have B2 := Below.andThen B1 hb
  clear hb RC F1 G1 B1
  have y0 := frC_at F2
  have l2 := lt_of_heap F2
  obtain ⟨f0, f1, f2, f3, f4, f5, f6, f7, f8, f9, f10⟩ := y0
  go_wp2_with fail
  clear f0 f1 f2 f3 f4 f5 f6 f7 f8 f9 f10 l2
  have F2 := ext11 (o := .cells (frC 0 0 0 0 0 0 0 0 0 0 false) 36) F2
  have G2 := ext11 (o := .cells (frC 0 0 0 0 0 0 0 0 0 0 false) 36) G2
  have K2 := at11 w2 (.cells (frC 0 0 0 0 0 0 0 0 0 0 false) 36) w2.heap.size rfl
  have B2 := Below.al B2 (.cells (frC 0 0 0 0 0 0 0 0 0 0 false) 36)
  obtain ⟨b2, e2⟩ : ∃ b, Hid (b = w2.heap.size) := ⟨_, rfl⟩
  rw [← e2.out] at K2 ⊢
  clear e2
  refine (CD _).mono ?_
  rintro e w3 ⟨rfl, hb⟩
  have F3 := blk11 hb F2
  have G3 := blk11 hb G2
  have K3 := blk11 hb K2
  have B3 := Below.andThen B2 hb
  clear hb CD F2 G2 K2 B2
  obtain ⟨f0, f1, f2, f3, f4, f5, f6, f7, f8, f9, f10⟩ := frC_at F3
  go_wp2_with fail
  clear f0 f1 f2 f3 f4 f5 f6 f7 f8 f9 f10
  refine (RD _).mono ?_
  rintro e w4 ⟨rfl, hb⟩
  have G4 := blk11 hb G3
  have K4 := blk11 hb K3
  have B4 := Below.andThen B3 hb
  clear hb RD F3 G3 K3 B3
  obtain ⟨g0, g1, g2, g3, g4, g5, g6, g7, g8, g9, g10⟩ := frC_at G4
  obtain ⟨k0, k1, k2, k3, k4, k5, k6, k7, k8, k9, k10⟩ := frC_at K4
  clear G4 K4
  go_wp2_with fail
  refine (WK _).mono ?_
  rintro e w6 ⟨rfl, hb⟩
  have B4 := Below.andThen B4 hb
  clear hb WK
  go_wp2_with fail
  go_ret
  exact ⟨rfl, B4⟩

set_option linter.unusedSimpArgs false in
set_option maxHeartbeats 4000000 in
set_option maxRecDepth 100000 in
theorem stateCommands_yn (c a : Int) (hc : 0 ≤ c ∧ c < 256) (h0 : 0 ≤ a ∧ a < 256) (i n d0 d1 d2 d3 d4 d5 d6 d7 : Int) (r : Bool) (ho : Oct [d0, d1, d2, d3, d4, d5, d6, d7]) (hm : mayC c a = true) (hk : cdB i n d0 d1 d2 d3 d4 d5 d6 d7 r = false) (w : World) : Calls Try.prog 4 #[.int .u8 c, .int .u8 a, frV i n d0 d1 d2 d3 d4 d5 d6 d7 r] w fun e w' => e = .returned (.bool true) ∧ Below w.heap.size w w' := by
  have CM : ∀ W, Calls Try.prog 15 #[.int .u8 c, .int .u8 a] W fun e w' => e = .returned (.tuple #[frV 0 2 c a 0 0 0 0 0 0 false, .int .i64 0]) ∧ Below W.heap.size W w' := fun W => command_ok c a hm hc h0 W
  have RC : ∀ W, Calls Try.prog 16 #[.int .u8 c, .int .u8 a] W fun e w' => e = .returned (.tuple #[frV 0 2 c a 0 0 0 0 0 0 false, .int .i64 0]) ∧ Below W.heap.size W w' := fun W => rcommand_ok c a hm hc h0 W
  have CD : ∀ W, Calls Try.prog 17 #[frV i n d0 d1 d2 d3 d4 d5 d6 d7 r] W fun e w' => e = .returned (.tuple #[.int .u8 0, .int .u8 0, .bool false]) ∧ Below W.heap.size W w' := fun W => commanded_no i n d0 d1 d2 d3 d4 d5 d6 d7 r ho hk W
  have RD : ∀ W, Calls Try.prog 18 #[frV i n d0 d1 d2 d3 d4 d5 d6 d7 r] W fun e w' => e = .returned (.tuple #[.int .u8 0, .int .u8 0, .bool false]) ∧ Below W.heap.size W w' := fun W => rcommanded_no i n d0 d1 d2 d3 d4 d5 d6 d7 r hk W
  have C2 : ∀ W, Calls Try.prog 17 #[frV 0 2 c a 0 0 0 0 0 0 false] W fun e w' => e = .returned (.tuple #[.int .u8 c, .int .u8 a, .bool true]) ∧ Below W.heap.size W w' := fun W => commanded_yes 0 2 c a 0 0 0 0 0 0 false (oct_made hc h0) (cdB_made c a hm) W
  have WK := fun W => works_any W
  have hq : ∀ W : World, (binOp .eql 36 (frV 0 2 c a 0 0 0 0 0 0 false) (frV 0 2 c a 0 0 0 0 0 0 false)).run Try.prog W = .ok (.bool true) W := fun W => by rw [eqlF, sameF_self]
  clear hm hk hc h0 ho
  go_enter Try.func4, Try.ntmps4
  go_wp2_with fail
  have F0 := heap_new w (.cells (frC i n d0 d1 d2 d3 d4 d5 d6 d7 r) 36)
  have B0 : Below w.heap.size w (w.alloc (.cells (frC i n d0 d1 d2 d3 d4 d5 d6 d7 r) 36)) := (by repeat (first | exact Below.refl _ _ | apply Below.drew | apply Below.al))
  generalize hx : (w.alloc (.cells (frC i n d0 d1 d2 d3 d4 d5 d6 d7 r) 36) : World) = w0 at F0 B0 ⊢
  clear hx
  refine (CM _).mono ?_
  rintro e w1 ⟨rfl, hb⟩
  have F1 := blk11 hb F0
  have B1 := Below.andThen B0 hb
  clear hb CM F0 B0
  go_wp2_with fail
  have F1 := ext11 (o := .cells (frC 0 2 c a 0 0 0 0 0 0 false) 36) F1
  have G1 := at11 w1 (.cells (frC 0 2 c a 0 0 0 0 0 0 false) 36) w1.heap.size rfl
  have B1 := Below.al B1 (.cells (frC 0 2 c a 0 0 0 0 0 0 false) 36)
  obtain ⟨b1, e1⟩ : ∃ b, Hid (b = w1.heap.size) := ⟨_, rfl⟩
  rw [← e1.out] at G1 ⊢
  clear e1
  refine (RC _).mono ?_
  rintro e w2 ⟨rfl, hb⟩
  have F2 := blk11 hb F1
  have G2 := blk11 hb G1
  have B2 := Below.andThen B1 hb
  clear hb RC F1 G1 B1
  have y0 := frC_at F2
  have l2 := lt_of_heap F2
  obtain ⟨f0, f1, f2, f3, f4, f5, f6, f7, f8, f9, f10⟩ := y0
  go_wp2_with fail
  clear f0 f1 f2 f3 f4 f5 f6 f7 f8 f9 f10 l2
  have F2 := ext11 (o := .cells (frC 0 2 c a 0 0 0 0 0 0 false) 36) F2
  have G2 := ext11 (o := .cells (frC 0 2 c a 0 0 0 0 0 0 false) 36) G2
  have K2 := at11 w2 (.cells (frC 0 2 c a 0 0 0 0 0 0 false) 36) w2.heap.size rfl
  have B2 := Below.al B2 (.cells (frC 0 2 c a 0 0 0 0 0 0 false) 36)
  obtain ⟨b2, e2⟩ : ∃ b, Hid (b = w2.heap.size) := ⟨_, rfl⟩
  rw [← e2.out] at K2 ⊢
  clear e2
  refine (CD _).mono ?_
  rintro e w3 ⟨rfl, hb⟩
  have F3 := blk11 hb F2
  have G3 := blk11 hb G2
  have K3 := blk11 hb K2
  have B3 := Below.andThen B2 hb
  clear hb CD F2 G2 K2 B2
  obtain ⟨f0, f1, f2, f3, f4, f5, f6, f7, f8, f9, f10⟩ := frC_at F3
  go_wp2_with fail
  clear f0 f1 f2 f3 f4 f5 f6 f7 f8 f9 f10
  refine (RD _).mono ?_
  rintro e w4 ⟨rfl, hb⟩
  have G4 := blk11 hb G3
  have K4 := blk11 hb K3
  have B4 := Below.andThen B3 hb
  clear hb RD F3 G3 K3 B3
  obtain ⟨g0, g1, g2, g3, g4, g5, g6, g7, g8, g9, g10⟩ := frC_at G4
  go_wp2_with fail
  clear g0 g1 g2 g3 g4 g5 g6 g7 g8 g9 g10
  refine (C2 _).mono ?_
  rintro e w5 ⟨rfl, hb⟩
  have G4 := blk11 hb G4
  have K4 := blk11 hb K4
  have B4 := Below.andThen B4 hb
  clear hb C2
  obtain ⟨g0, g1, g2, g3, g4, g5, g6, g7, g8, g9, g10⟩ := frC_at G4
  obtain ⟨k0, k1, k2, k3, k4, k5, k6, k7, k8, k9, k10⟩ := frC_at K4
  clear G4 K4
  go_wp2_with fail
  refine (WK _).mono ?_
  rintro e w6 ⟨rfl, hb⟩
  have B4 := Below.andThen B4 hb
  clear hb WK
  go_wp2_with fail
  go_ret
  exact ⟨rfl, B4⟩

set_option linter.unusedSimpArgs false in
set_option maxHeartbeats 4000000 in
set_option maxRecDepth 100000 in
theorem stateCommands_yy (c a : Int) (hc : 0 ≤ c ∧ c < 256) (h0 : 0 ≤ a ∧ a < 256) (i n d0 d1 d2 d3 d4 d5 d6 d7 : Int) (r : Bool) (ho : Oct [d0, d1, d2, d3, d4, d5, d6, d7]) (hm : mayC c a = true) (hk : cdB i n d0 d1 d2 d3 d4 d5 d6 d7 r = true) (w : World) : Calls Try.prog 4 #[.int .u8 c, .int .u8 a, frV i n d0 d1 d2 d3 d4 d5 d6 d7 r] w fun e w' => e = .returned (.bool true) ∧ Below w.heap.size w w' := by
  have CM : ∀ W, Calls Try.prog 15 #[.int .u8 c, .int .u8 a] W fun e w' => e = .returned (.tuple #[frV 0 2 c a 0 0 0 0 0 0 false, .int .i64 0]) ∧ Below W.heap.size W w' := fun W => command_ok c a hm hc h0 W
  have RC : ∀ W, Calls Try.prog 16 #[.int .u8 c, .int .u8 a] W fun e w' => e = .returned (.tuple #[frV 0 2 c a 0 0 0 0 0 0 false, .int .i64 0]) ∧ Below W.heap.size W w' := fun W => rcommand_ok c a hm hc h0 W
  have CD : ∀ W, Calls Try.prog 17 #[frV i n d0 d1 d2 d3 d4 d5 d6 d7 r] W fun e w' => e = .returned (.tuple #[.int .u8 d0, .int .u8 d1, .bool true]) ∧ Below W.heap.size W w' := fun W => commanded_yes i n d0 d1 d2 d3 d4 d5 d6 d7 r ho hk W
  have RD : ∀ W, Calls Try.prog 18 #[frV i n d0 d1 d2 d3 d4 d5 d6 d7 r] W fun e w' => e = .returned (.tuple #[.int .u8 d0, .int .u8 d1, .bool true]) ∧ Below W.heap.size W w' := fun W => rcommanded_yes i n d0 d1 d2 d3 d4 d5 d6 d7 r hk W
  have C2 : ∀ W, Calls Try.prog 17 #[frV 0 2 c a 0 0 0 0 0 0 false] W fun e w' => e = .returned (.tuple #[.int .u8 c, .int .u8 a, .bool true]) ∧ Below W.heap.size W w' := fun W => commanded_yes 0 2 c a 0 0 0 0 0 0 false (oct_made hc h0) (cdB_made c a hm) W
  have WK := fun W => works_any W
  have hq : ∀ W : World, (binOp .eql 36 (frV 0 2 c a 0 0 0 0 0 0 false) (frV 0 2 c a 0 0 0 0 0 0 false)).run Try.prog W = .ok (.bool true) W := fun W => by rw [eqlF, sameF_self]
  clear hm hk hc h0 ho
  go_enter Try.func4, Try.ntmps4
  go_wp2_with fail
  have F0 := heap_new w (.cells (frC i n d0 d1 d2 d3 d4 d5 d6 d7 r) 36)
  have B0 : Below w.heap.size w (w.alloc (.cells (frC i n d0 d1 d2 d3 d4 d5 d6 d7 r) 36)) := (by repeat (first | exact Below.refl _ _ | apply Below.drew | apply Below.al))
  generalize hx : (w.alloc (.cells (frC i n d0 d1 d2 d3 d4 d5 d6 d7 r) 36) : World) = w0 at F0 B0 ⊢
  clear hx
  refine (CM _).mono ?_
  rintro e w1 ⟨rfl, hb⟩
  have F1 := blk11 hb F0
  have B1 := Below.andThen B0 hb
  clear hb CM F0 B0
  go_wp2_with fail
  have F1 := ext11 (o := .cells (frC 0 2 c a 0 0 0 0 0 0 false) 36) F1
  have G1 := at11 w1 (.cells (frC 0 2 c a 0 0 0 0 0 0 false) 36) w1.heap.size rfl
  have B1 := Below.al B1 (.cells (frC 0 2 c a 0 0 0 0 0 0 false) 36)
  obtain ⟨b1, e1⟩ : ∃ b, Hid (b = w1.heap.size) := ⟨_, rfl⟩
  rw [← e1.out] at G1 ⊢
  clear e1
  refine (RC _).mono ?_
  rintro e w2 ⟨rfl, hb⟩
  have F2 := blk11 hb F1
  have G2 := blk11 hb G1
  have B2 := Below.andThen B1 hb
  clear hb RC F1 G1 B1
  have y0 := frC_at F2
  have l2 := lt_of_heap F2
  obtain ⟨f0, f1, f2, f3, f4, f5, f6, f7, f8, f9, f10⟩ := y0
  go_wp2_with fail
  clear f0 f1 f2 f3 f4 f5 f6 f7 f8 f9 f10 l2
  have F2 := ext11 (o := .cells (frC 0 2 c a 0 0 0 0 0 0 false) 36) F2
  have G2 := ext11 (o := .cells (frC 0 2 c a 0 0 0 0 0 0 false) 36) G2
  have K2 := at11 w2 (.cells (frC 0 2 c a 0 0 0 0 0 0 false) 36) w2.heap.size rfl
  have B2 := Below.al B2 (.cells (frC 0 2 c a 0 0 0 0 0 0 false) 36)
  obtain ⟨b2, e2⟩ : ∃ b, Hid (b = w2.heap.size) := ⟨_, rfl⟩
  rw [← e2.out] at K2 ⊢
  clear e2
  refine (CD _).mono ?_
  rintro e w3 ⟨rfl, hb⟩
  have F3 := blk11 hb F2
  have G3 := blk11 hb G2
  have K3 := blk11 hb K2
  have B3 := Below.andThen B2 hb
  clear hb CD F2 G2 K2 B2
  obtain ⟨f0, f1, f2, f3, f4, f5, f6, f7, f8, f9, f10⟩ := frC_at F3
  go_wp2_with fail
  clear f0 f1 f2 f3 f4 f5 f6 f7 f8 f9 f10
  refine (RD _).mono ?_
  rintro e w4 ⟨rfl, hb⟩
  have G4 := blk11 hb G3
  have K4 := blk11 hb K3
  have B4 := Below.andThen B3 hb
  clear hb RD F3 G3 K3 B3
  obtain ⟨g0, g1, g2, g3, g4, g5, g6, g7, g8, g9, g10⟩ := frC_at G4
  go_wp2_with fail
  clear g0 g1 g2 g3 g4 g5 g6 g7 g8 g9 g10
  refine (C2 _).mono ?_
  rintro e w5 ⟨rfl, hb⟩
  have G4 := blk11 hb G4
  have K4 := blk11 hb K4
  have B4 := Below.andThen B4 hb
  clear hb C2
  obtain ⟨g0, g1, g2, g3, g4, g5, g6, g7, g8, g9, g10⟩ := frC_at G4
  obtain ⟨k0, k1, k2, k3, k4, k5, k6, k7, k8, k9, k10⟩ := frC_at K4
  clear G4 K4
  go_wp2_with fail
  refine (WK _).mono ?_
  rintro e w6 ⟨rfl, hb⟩
  have B4 := Below.andThen B4 hb
  clear hb WK
  go_wp2_with fail
  go_ret
  exact ⟨rfl, B4⟩

theorem stateCommands_any (c a : Int) (hc : 0 ≤ c ∧ c < 256) (h0 : 0 ≤ a ∧ a < 256) (i n d0 d1 d2 d3 d4 d5 d6 d7 : Int) (r : Bool) (ho : Oct [d0, d1, d2, d3, d4, d5, d6, d7]) (w : World) : Calls Try.prog 4 #[.int .u8 c, .int .u8 a, frV i n d0 d1 d2 d3 d4 d5 d6 d7 r] w fun e w' => e = .returned (.bool true) ∧ Below w.heap.size w w' := by
  cases hm : mayC c a <;> cases hk : cdB i n d0 d1 d2 d3 d4 d5 d6 d7 r
  · exact stateCommands_nn c a i n d0 d1 d2 d3 d4 d5 d6 d7 r ho hm hk w
  · exact stateCommands_ny c a i n d0 d1 d2 d3 d4 d5 d6 d7 r ho hm hk w
  · exact stateCommands_yn c a hc h0 i n d0 d1 d2 d3 d4 d5 d6 d7 r ho hm hk w
  · exact stateCommands_yy c a hc h0 i n d0 d1 d2 d3 d4 d5 d6 d7 r ho hm hk w
#print axioms stateCommands_any
end Go.Proofs.Ytjfjfohabpjemaa
