/-
  The walks of works and of BusNone.
-/
import Derived.Test.YtndlpjfofjikeaaBs4
import Derived.Test.YtndlpjfofjikeaaBt4
namespace Go.Proofs.Ytndlpjfofjikeaa
open Go.RowKit

/-- The two frames of works. -/
def y1 : Sn := ⟨1, 385, 0, 0, 0, 0, 0, 0, 0, 0, 0, false, 0⟩
def y2 : Sn := ⟨2, 128, 0, 0, 0, 0, 0, 0, 0, 0, 0, false, 1⟩

set_option linter.unusedSimpArgs false in
set_option maxHeartbeats 4000000 in
set_option maxRecDepth 100000 in
theorem works_any (w : World) : Calls Try.prog 8 #[] w fun e w' => e = .returned (.bool true) ∧ Below w.heap.size w w' := by
  have NW : Calls Try.prog 9 #[] w fun e w' => e = .returned (.pointer (some ⟨w.heap.size, 0, none⟩)) ∧ IsB w' (w.heap.size + 1) w.heap.size (.slice none 0 0) [] 0 ∧ Below w.heap.size w w' ∧ w'.heap.size = w.heap.size + 1 := by
    go_enter Try.func9, Try.ntmps9
    go_wp2_with fail
    go_ret
    exact ⟨rfl, ⟨heap_alloc_last w _, ⟨by simp [flat], .inl ⟨rfl, rfl⟩⟩, trivial⟩, Below.al (Below.refl _ _) _, by simp⟩
  have S1 : Hid (∀ (base p : Nat) (z : World) (v : Value), IsB z base p v [] 0 → base ≤ z.heap.size → Calls Try.prog 15 #[.pointer (some ⟨p, 0, none⟩), .int .i64 1, .agg #[.int .u16 385, .int .i64 0, .int .u8 0, .int .u8 0, .int .u8 0, .int .u8 0, .int .u8 0, .int .u8 0, .int .u8 0, .int .u8 0, .bool false]] z fun e w' => e = .returned (.int .i64 0) ∧ (∃ v', IsB w' base p v' [y1] 1) ∧ Ko p base z w') := fun base p z v h hb =>
    send_of (y := y1) (fun z v h hb => heapPush0 h hb) h hb (by decide) (by unfold Oct; decide) (by decide) (by decide) (by decide) (by decide)
  have S2 : Hid (∀ (base p : Nat) (z : World) (v : Value), IsB z base p v [y1] 1 → base ≤ z.heap.size → Calls Try.prog 15 #[.pointer (some ⟨p, 0, none⟩), .int .i64 2, .agg #[.int .u16 128, .int .i64 0, .int .u8 0, .int .u8 0, .int .u8 0, .int .u8 0, .int .u8 0, .int .u8 0, .int .u8 0, .int .u8 0, .bool false]] z fun e w' => e = .returned (.int .i64 0) ∧ (∃ v', IsB w' base p v' [y2, y1] 2) ∧ Ko p base z w') := fun base p z v h hb =>
    send_of (y := y2) (fun z v h hb => heapPush1 h hb (by decide)) h hb (by decide) (by unfold Oct; decide) (by decide) (by decide) (by decide) (by decide)
  have N2 : Hid (∀ (base p g cap : Nat) (z : World), IsB z base p (.slice (some ⟨g, 0, none⟩) 2 cap) [y2, y1] 2 → Calls Try.prog 14 #[.pointer (some ⟨p, 0, none⟩)] z fun e w' => e = .returned (.tuple #[.agg #[.int .i64 2, .int .u16 128, .int .i64 0, .int .u8 0, .int .u8 0, .int .u8 0, .int .u8 0, .int .u8 0, .int .u8 0, .int .u8 0, .int .u8 0, .bool false, .int .i64 1], .bool true]) ∧ IsB w' base p (.slice (some ⟨g, 0, none⟩) 1 cap) [y1] 2 ∧ Kp [p, g] z w') := fun base p g cap z h => next2 h
  have W1 : Hid (∀ (base p g cap : Nat) (z : World), IsB z base p (.slice (some ⟨g, 0, none⟩) 1 cap) [y1] 2 → Calls Try.prog 17 #[.pointer (some ⟨p, 0, none⟩)] z fun e w' => (∃ a c, e = .returned (.slice a 1 c)) ∧ Below z.heap.size z w') := fun base p g cap z h => waits1 h
  go_enter Try.func8, Try.ntmps8
  go_wp2_with fail
  refine NW.mono ?_
  rintro e w1 ⟨rfl, H1, b1, sz1⟩
  clear NW
  have C1 := S1.out _ _ _ _ H1 (by omega)
  clear S1 H1
  go_wp2_with fail
  refine C1.mono ?_
  rintro e w2 ⟨rfl, ⟨v1, H2⟩, k2⟩
  have b2 : Below w.heap.size w w2 := Ko.below b1 k2 b1.size (Nat.le_refl _) (by omega)
  have C2 := S2.out _ _ _ _ H2 (by have := k2.size; omega)
  have sz2 := k2.size
  clear S2 H2 C1 k2 b1
  go_wp2_with fail
  refine C2.mono ?_
  rintro e w3 ⟨rfl, ⟨v2, H3⟩, k3⟩
  have b3 : Below w.heap.size w w3 := Ko.below b2 k3 b2.size (Nat.le_refl _) (by omega)
  obtain ⟨g, cap, rfl⟩ := H3.own.some (by simp)
  have hg : w.heap.size + 1 ≤ g ∧ g < w3.heap.size := H3.old
  have C3 := N2.out _ _ g cap _ H3
  clear N2 H3 C2 k3 b2
  go_wp2_with fail
  refine C3.mono ?_
  rintro e w4 ⟨rfl, H4, k4⟩
  have b4 : Below w.heap.size w w4 := Kp.below b3 k4 b3.size (by intro i hi; simp at hi; omega)
  have C4 := fun o => W1.out _ _ g cap _ (H4.next (Below.al (Below.refl w4.heap.size w4) o))
  clear W1 H4 C3 k4 b3
  go_wp2_with fail
  refine (C4 _).mono ?_
  rintro e w5 ⟨⟨a5, c5, rfl⟩, b5⟩
  clear C4
  go_wp2_with fail
  go_ret
  exact ⟨rfl, Below.andThen (Below.al b4 _) b5⟩
#print axioms works_any

set_option linter.unusedSimpArgs false in
set_option maxHeartbeats 4000000 in
set_option maxRecDepth 100000 in
theorem next_nil (w : World) : Calls Try.prog 14 #[.pointer none] w fun e w' => e = .returned (.tuple #[.agg #[.int .i64 0, .int .u16 0, .int .i64 0, .int .u8 0, .int .u8 0, .int .u8 0, .int .u8 0, .int .u8 0, .int .u8 0, .int .u8 0, .int .u8 0, .bool false, .int .i64 0], .bool false]) ∧ Below w.heap.size w w' := by
  go_enter Try.func14, Try.ntmps14
  go_wp2_with fail
  exact bodyPost_ret (v := .tuple #[.agg #[.int .i64 0, .int .u16 0, .int .i64 0, .int .u8 0, .int .u8 0, .int .u8 0, .int .u8 0, .int .u8 0, .int .u8 0, .int .u8 0, .int .u8 0, .bool false, .int .i64 0], .bool false]) (by simp [results, Try.results14, go_sem]) rfl ⟨rfl, Below.al (Below.refl _ _) _⟩

set_option linter.unusedSimpArgs false in
set_option maxHeartbeats 4000000 in
set_option maxRecDepth 100000 in
theorem send_nil (k i n d0 d1 d2 d3 d4 d5 d6 d7 : Int) (r : Bool) (w : World) : Calls Try.prog 15 #[.pointer none, .int .i64 k, frV i n d0 d1 d2 d3 d4 d5 d6 d7 r] w fun e w' => e = .returned (.int .i64 1) ∧ Below w.heap.size w w' := by
  go_enter Try.func15, Try.ntmps15
  go_wp2_with fail
  go_ret
  exact ⟨rfl, Below.al (Below.refl _ _) _⟩

set_option linter.unusedSimpArgs false in
set_option maxHeartbeats 4000000 in
set_option maxRecDepth 100000 in
theorem gone_nil (k : Int) (w : World) : Calls Try.prog 16 #[.pointer none, .int .i64 k] w fun e w' => e = .returned (.int .i64 0) ∧ w' = w := by
  go_enter Try.func16, Try.ntmps16
  go_wp2_with fail
  go_ret
  exact ⟨rfl, rfl⟩

set_option linter.unusedSimpArgs false in
set_option maxHeartbeats 4000000 in
set_option maxRecDepth 100000 in
theorem waits_nil (w : World) : Calls Try.prog 17 #[.pointer none] w fun e w' => e = .returned (.slice none 0 0) ∧ w' = w := by
  go_enter Try.func17, Try.ntmps17
  go_wp2_with fail
  go_ret
  exact ⟨rfl, rfl⟩

set_option linter.unusedSimpArgs false in
set_option maxHeartbeats 4000000 in
set_option maxRecDepth 100000 in
theorem count_nil (w : World) : Calls Try.prog 18 #[.pointer none] w fun e w' => e = .returned (.int .i64 0) ∧ w' = w := by
  go_enter Try.func18, Try.ntmps18
  go_wp2_with fail
  go_ret
  exact ⟨rfl, rfl⟩

set_option linter.unusedSimpArgs false in
set_option maxHeartbeats 4000000 in
set_option maxRecDepth 100000 in
theorem copy_nil (w : World) : Calls Try.prog 10 #[.pointer none] w fun e w' => e = .returned (.pointer none) ∧ w' = w := by
  go_enter Try.func10, Try.ntmps10
  go_wp2_with fail
  go_ret
  exact ⟨rfl, rfl⟩

set_option linter.unusedSimpArgs false in
set_option maxHeartbeats 4000000 in
set_option maxRecDepth 100000 in
theorem busNone_any (k i n d0 d1 d2 d3 d4 d5 d6 d7 : Int) (r : Bool) (w : World) : Calls Try.prog 4 #[.int .i64 k, frV i n d0 d1 d2 d3 d4 d5 d6 d7 r] w fun e w' => e = .returned (.bool true) ∧ Below w.heap.size w w' := by
  have EQ : ∀ w, (binOp .eql 42 (.agg #[.int .i64 0, .int .u16 0, .int .i64 0, .int .u8 0, .int .u8 0, .int .u8 0, .int .u8 0, .int .u8 0, .int .u8 0, .int .u8 0, .int .u8 0, .bool false, .int .i64 0]) (.agg #[.int .i64 0, .int .u16 0, .int .i64 0, .int .u8 0, .int .u8 0, .int .u8 0, .int .u8 0, .int .u8 0, .int .u8 0, .int .u8 0, .int .u8 0, .bool false, .int .i64 0])).run Try.prog w = .ok (.bool true) w := fun w => by kernel_rfl
  have SN := fun w => send_nil k i n d0 d1 d2 d3 d4 d5 d6 d7 r w
  go_enter Try.func4, Try.ntmps4
  go_wp2_with fail
  refine (next_nil _).mono ?_
  rintro e w1 ⟨rfl, b1⟩
  have kz : Kp [] _ w1 := Kp.of b1
  have f0 := kz.cell (b := w.heap.size) (o := 0) (v := .int .u16 i) (by simp [go_sem]) (by simp)
  have f1 := kz.cell (b := w.heap.size) (o := 1) (v := .int .i64 n) (by simp [go_sem]) (by simp)
  have f2 := kz.cell (b := w.heap.size) (o := 2) (v := .int .u8 d0) (by simp [go_sem]) (by simp)
  have f3 := kz.cell (b := w.heap.size) (o := 3) (v := .int .u8 d1) (by simp [go_sem]) (by simp)
  have f4 := kz.cell (b := w.heap.size) (o := 4) (v := .int .u8 d2) (by simp [go_sem]) (by simp)
  have f5 := kz.cell (b := w.heap.size) (o := 5) (v := .int .u8 d3) (by simp [go_sem]) (by simp)
  have f6 := kz.cell (b := w.heap.size) (o := 6) (v := .int .u8 d4) (by simp [go_sem]) (by simp)
  have f7 := kz.cell (b := w.heap.size) (o := 7) (v := .int .u8 d5) (by simp [go_sem]) (by simp)
  have f8 := kz.cell (b := w.heap.size) (o := 8) (v := .int .u8 d6) (by simp [go_sem]) (by simp)
  have f9 := kz.cell (b := w.heap.size) (o := 9) (v := .int .u8 d7) (by simp [go_sem]) (by simp)
  have f10 := kz.cell (b := w.heap.size) (o := 10) (v := .bool r) (by simp [go_sem]) (by simp)
  have B1 : Below w.heap.size w w1 := Below.andThen (Below.al (Below.refl _ _) _) b1
  have k3 : ∀ o, Kp [] w1 (w1.alloc o) := fun o => Kp.al (Kp.refl _ _) o
  have g0 : ∀ o, (w1.alloc o).cell? ⟨w.heap.size, 0, none⟩ = some (.int .u16 i) := fun o => (k3 o).cell f0 (by simp)
  have g1 : ∀ o, (w1.alloc o).cell? ⟨w.heap.size, 1, none⟩ = some (.int .i64 n) := fun o => (k3 o).cell f1 (by simp)
  have g2 : ∀ o, (w1.alloc o).cell? ⟨w.heap.size, 2, none⟩ = some (.int .u8 d0) := fun o => (k3 o).cell f2 (by simp)
  have g3 : ∀ o, (w1.alloc o).cell? ⟨w.heap.size, 3, none⟩ = some (.int .u8 d1) := fun o => (k3 o).cell f3 (by simp)
  have g4 : ∀ o, (w1.alloc o).cell? ⟨w.heap.size, 4, none⟩ = some (.int .u8 d2) := fun o => (k3 o).cell f4 (by simp)
  have g5 : ∀ o, (w1.alloc o).cell? ⟨w.heap.size, 5, none⟩ = some (.int .u8 d3) := fun o => (k3 o).cell f5 (by simp)
  have g6 : ∀ o, (w1.alloc o).cell? ⟨w.heap.size, 6, none⟩ = some (.int .u8 d4) := fun o => (k3 o).cell f6 (by simp)
  have g7 : ∀ o, (w1.alloc o).cell? ⟨w.heap.size, 7, none⟩ = some (.int .u8 d5) := fun o => (k3 o).cell f7 (by simp)
  have g8 : ∀ o, (w1.alloc o).cell? ⟨w.heap.size, 8, none⟩ = some (.int .u8 d6) := fun o => (k3 o).cell f8 (by simp)
  have g9 : ∀ o, (w1.alloc o).cell? ⟨w.heap.size, 9, none⟩ = some (.int .u8 d7) := fun o => (k3 o).cell f9 (by simp)
  have g10 : ∀ o, (w1.alloc o).cell? ⟨w.heap.size, 10, none⟩ = some (.bool r) := fun o => (k3 o).cell f10 (by simp)
  clear kz b1 k3 f0 f1 f2 f3 f4 f5 f6 f7 f8 f9 f10
  go_wp2_with fail
  refine (SN _).mono ?_
  rintro e w2 ⟨rfl, b2⟩
  have kz : Kp [] _ w2 := Kp.of b2
  have s0 := kz.cell (b := w1.heap.size) (o := 0) (v := .int .i64 0) (by simp [go_sem]) (by simp)
  have s1 := kz.cell (b := w1.heap.size) (o := 1) (v := .int .u16 0) (by simp [go_sem]) (by simp)
  have s2 := kz.cell (b := w1.heap.size) (o := 2) (v := .int .i64 0) (by simp [go_sem]) (by simp)
  have s3 := kz.cell (b := w1.heap.size) (o := 3) (v := .int .u8 0) (by simp [go_sem]) (by simp)
  have s4 := kz.cell (b := w1.heap.size) (o := 4) (v := .int .u8 0) (by simp [go_sem]) (by simp)
  have s5 := kz.cell (b := w1.heap.size) (o := 5) (v := .int .u8 0) (by simp [go_sem]) (by simp)
  have s6 := kz.cell (b := w1.heap.size) (o := 6) (v := .int .u8 0) (by simp [go_sem]) (by simp)
  have s7 := kz.cell (b := w1.heap.size) (o := 7) (v := .int .u8 0) (by simp [go_sem]) (by simp)
  have s8 := kz.cell (b := w1.heap.size) (o := 8) (v := .int .u8 0) (by simp [go_sem]) (by simp)
  have s9 := kz.cell (b := w1.heap.size) (o := 9) (v := .int .u8 0) (by simp [go_sem]) (by simp)
  have s10 := kz.cell (b := w1.heap.size) (o := 10) (v := .int .u8 0) (by simp [go_sem]) (by simp)
  have s11 := kz.cell (b := w1.heap.size) (o := 11) (v := .bool false) (by simp [go_sem]) (by simp)
  have s12 := kz.cell (b := w1.heap.size) (o := 12) (v := .int .i64 0) (by simp [go_sem]) (by simp)
  have B2 : Below w.heap.size w w2 := Below.andThen (Below.al B1 _) b2
  clear kz b2 g0 g1 g2 g3 g4 g5 g6 g7 g8 g9 g10
  go_wp2_with fail
  refine (gone_nil k _).mono ?_
  rintro e w2 ⟨rfl, rfl⟩
  go_wp2_with fail
  refine (waits_nil _).mono ?_
  rintro e w2 ⟨rfl, rfl⟩
  go_wp2_with fail
  refine (count_nil _).mono ?_
  rintro e w2 ⟨rfl, rfl⟩
  go_wp2_with fail
  refine (copy_nil _).mono ?_
  rintro e w2 ⟨rfl, rfl⟩
  go_wp2_with fail
  refine (works_any _).mono ?_
  rintro e w3 ⟨rfl, b3⟩
  go_wp2_with fail
  go_ret
  exact ⟨rfl, Below.andThen B2 b3⟩
#print axioms busNone_any
end Go.Proofs.Ytndlpjfofjikeaa
