/-
  Errors of our own, side by side with the document's; the law's works.
-/
import Derived.Test.YtnbdnmfnmnboiaaZr
namespace Go.Proofs.Ytnbdnmfnmnboiaa
open Go.RowKit

/-- Errors that are our own since a world, in none of some blocks. -/
def Ez (w0 w : World) (p m : Nat) (S : ES) (A : List Nat) : Prop := ∃ v, IsE w p m v S ∧ (∀ k ∈ fpE p m v, w0.heap.size ≤ k ∧ k ∉ A) ∧ (∀ a ∈ A, a < w.heap.size) ∧ Below w0.heap.size w0 w
theorem Ez.next {w0 w w' : World} {p m : Nat} {S : ES} {A : List Nat} (h : Ez w0 w p m S A) (hb : Below w.heap.size w w') : Ez w0 w' p m S A := by
  obtain ⟨v, h1, h2, h3, h4⟩ := h
  exact ⟨v, h1.next hb, h2, fun a ha => Nat.lt_of_lt_of_le (h3 a ha) hb.size, Below.trans h4 (hb.mono h4.size)⟩
theorem Ez.bel {w0 w : World} {p m : Nat} {S : ES} {A : List Nat} (h : Ez w0 w p m S A) : Below w0.heap.size w0 w := by
  obtain ⟨v, h1, h2, h3, h4⟩ := h
  exact h4
/-- One block more, a new one. -/
theorem Ez.add {w0 w w' : World} {p m : Nat} {S : ES} {A : List Nat} (h : Ez w0 w p m S A) (hb : Below w.heap.size w w') (B : Nat) (h0 : w.heap.size ≤ B) (h1 : B < w'.heap.size) : Ez w0 w' p m S (B :: A) := by
  obtain ⟨v, e, h2, h3, h4⟩ := h
  refine ⟨v, e.next hb, fun k hk => ⟨(h2 k hk).1, fun hm => ?_⟩, fun a ha => ?_, Below.trans h4 (hb.mono h4.size)⟩
  · rcases List.mem_cons.1 hm with rfl | hm
    · have := e.inh _ hk; omega
    · exact (h2 k hk).2 hm
  · rcases List.mem_cons.1 ha with rfl | ha
    · exact h1
    · exact Nat.lt_of_lt_of_le (h3 a ha) hb.size
/-- A call of the program's. -/
theorem Ez.call {w0 w : World} {p m : Nat} {S S' : ES} {A : List Nat} {f : Nat} {args : Array Value} {X : Ending} (h : Ez w0 w p m S A) (hc : ∀ v, IsE w p m v S → Calls Try.prog f args w fun e w' => e = X ∧ EPost w w' p m v S') : Calls Try.prog f args w fun e w' => e = X ∧ Ez w0 w' p m S' A ∧ ∀ a ∈ A, w'.heap[a]? = w.heap[a]? := by
  obtain ⟨v, h1, h2, h3, h4⟩ := h
  refine (hc v h1).mono ?_
  rintro e w' ⟨rfl, v', e, g, k⟩
  refine ⟨rfl, ⟨v', e, fun b hb => ?_, fun a ha => Nat.lt_of_lt_of_le (h3 a ha) k.size, Kp.below h4 k h4.size (fun b hb => (h2 b hb).1)⟩, fun a ha => k.block a (h3 a ha) (fun hm => (h2 a hm).2 ha)⟩
  simp only [List.mem_cons, Option.mem_toList] at hb
  rcases hb with rfl | rfl | hb
  · exact h2 _ (by simp)
  · exact h2 _ (by simp)
  · rcases g b hb with hh | hh
    · exact h2 b (by simp [hh])
    · exact ⟨by have := h4.size; omega, fun hm => by have := h3 b hm; omega⟩
/-- A call that reads alone. -/
theorem Ez.read {w0 w : World} {p m : Nat} {S : ES} {A : List Nat} {f : Nat} {args : Array Value} {X : Ending} (h : Ez w0 w p m S A) (hc : ∀ v, IsE w p m v S → Calls Try.prog f args w fun e w' => e = X ∧ Below w.heap.size w w') : Calls Try.prog f args w fun e w' => e = X ∧ Ez w0 w' p m S A ∧ Below w.heap.size w w' := by
  have hh := h
  obtain ⟨v, h1, h2, h3, h4⟩ := hh
  refine (hc v h1).mono ?_
  rintro e w' ⟨rfl, hb⟩
  exact ⟨rfl, h.next hb, hb⟩
theorem Ez.new {w w' : World} {p m : Nat} {S : ES} (h : IsE w' p m (.slice none 0 0) S) (hp : w.heap.size ≤ p) (hm : w.heap.size ≤ m) (hb : Below w.heap.size w w') : Ez w w' p m S [] :=
  ⟨_, h, (by intro k hk; simp [Value.ownBlock] at hk; rcases hk with rfl | rfl <;> exact ⟨by assumption, by simp⟩), by simp, hb⟩

theorem frC_at {w : World} {B : Nat} {i n d0 d1 d2 d3 d4 d5 d6 d7 : Int} {r : Bool} (h : w.heap[B]? = some (.cells (frC i n d0 d1 d2 d3 d4 d5 d6 d7 r) 40 (0, 0))) : w.cell? ⟨B, 0, none⟩ = some (.int .u16 i) ∧ w.cell? ⟨B, 1, none⟩ = some (.int .i64 n) ∧ w.cell? ⟨B, 2, none⟩ = some (.int .u8 d0) ∧ w.cell? ⟨B, 3, none⟩ = some (.int .u8 d1) ∧ w.cell? ⟨B, 4, none⟩ = some (.int .u8 d2) ∧ w.cell? ⟨B, 5, none⟩ = some (.int .u8 d3) ∧ w.cell? ⟨B, 6, none⟩ = some (.int .u8 d4) ∧ w.cell? ⟨B, 7, none⟩ = some (.int .u8 d5) ∧ w.cell? ⟨B, 8, none⟩ = some (.int .u8 d6) ∧ w.cell? ⟨B, 9, none⟩ = some (.int .u8 d7) ∧ w.cell? ⟨B, 10, none⟩ = some (.bool r) := by
  refine ⟨?_, ?_, ?_, ?_, ?_, ?_, ?_, ?_, ?_, ?_, ?_⟩ <;> (rw [cell_of_row w B _ _ _ _ h]; rfl)
def wS0 : ES := newS 5 10
def wS1 : ES := wS0.raise 4096 0 1 2 3 4 5
def wS2 : ES := wS1.raise 16897 3 0 0 0 0 0
def wS3 : ES := wS2.tick 3
def wS4 : ES := wS3.tick 12
theorem w_c1 : wS0.raiseC 4096 0 = 0 := by decide +kernel
theorem w_c2 : wS1.raiseC 16897 3 = 0 := by decide +kernel
theorem w_r2 : (wS2.reg : Int) = 9 := by decide +kernel
theorem w_m3 : wS2.may 3 = true := by decide +kernel
theorem w_m12 : wS3.may 12 = false := by decide +kernel
theorem w_m13 : wS4.may 13 = true := by decide +kernel
theorem w_s3 : wS2.said 3 = frC 133 8 0 16 1 1 2 3 4 5 false := by kernel_rfl
theorem w_s12 : wS3.said 12 = frC 0 0 0 0 0 0 0 0 0 0 false := by kernel_rfl
theorem w_s13 : wS4.said 13 = frC 133 8 1 66 9 0 0 0 0 0 false := by kernel_rfl
set_option linter.unusedSimpArgs false in
set_option maxHeartbeats 4000000 in
set_option maxRecDepth 100000 in
theorem works_any (w : World) : Calls Try.prog 8 #[] w fun e w' => e = .returned (.bool true) ∧ Below w.heap.size w w' := by
  have NW := fun W => new_ok 5 10 (by decide) (by decide) W
  have R1 : ∀ W p m, Ez w W p m wS0 [] → Calls Try.prog 15 #[.pointer (some ⟨p, 0, none⟩), .int .u16 4096, .int .u8 0, arr5 1 2 3 4 5] W fun e w' => e = .returned (.int .i64 0) ∧ Ez w w' p m wS1 [] ∧ ∀ a ∈ [], w'.heap[a]? = W.heap[a]? := fun W p m h => h.call fun v hv => by
    have := raise_any hv 4096 0 1 2 3 4 5 (by decide) (by unfold Oct; decide)
    rw [w_c1] at this
    exact this
  have R2 : ∀ W p m, Ez w W p m wS1 [] → Calls Try.prog 15 #[.pointer (some ⟨p, 0, none⟩), .int .u16 16897, .int .u8 3, arr5 0 0 0 0 0] W fun e w' => e = .returned (.int .i64 0) ∧ Ez w w' p m wS2 [] ∧ ∀ a ∈ [], w'.heap[a]? = W.heap[a]? := fun W p m h => h.call fun v hv => by
    have := raise_any hv 16897 3 0 0 0 0 0 (by decide) (by unfold Oct; decide)
    rw [w_c2] at this
    exact this
  have RG : ∀ W p m, Ez w W p m wS2 [] → Calls Try.prog 19 #[.pointer (some ⟨p, 0, none⟩)] W fun e w' => e = .returned (.int .u8 9) ∧ Ez w w' p m wS2 [] ∧ Below W.heap.size W w' := fun W p m h => h.read fun v hv => by
    have := register_any hv
    rw [w_r2] at this
    exact this
  have T1 : ∀ W p m A, Ez w W p m wS2 A → Calls Try.prog 17 #[.pointer (some ⟨p, 0, none⟩), .int .i64 3] W fun e w' => e = .returned (.tuple #[frV 133 8 0 16 1 1 2 3 4 5 false, .bool true]) ∧ Ez w w' p m wS3 A ∧ ∀ a ∈ A, w'.heap[a]? = W.heap[a]? := fun W p m A h => h.call fun v hv => by
    have := tick_any hv 3
    rw [w_m3, w_s3] at this
    exact this
  have T2 : ∀ W p m A, Ez w W p m wS3 A → Calls Try.prog 17 #[.pointer (some ⟨p, 0, none⟩), .int .i64 12] W fun e w' => e = .returned (.tuple #[zeroF, .bool false]) ∧ Ez w w' p m wS4 A ∧ ∀ a ∈ A, w'.heap[a]? = W.heap[a]? := fun W p m A h => h.call fun v hv => by
    have := tick_any hv 12
    rw [w_m12, w_s12] at this
    exact this
  have T3 : ∀ W p m A, Ez w W p m wS4 A → Calls Try.prog 17 #[.pointer (some ⟨p, 0, none⟩), .int .i64 13] W fun e w' => e = .returned (.tuple #[frV 133 8 1 66 9 0 0 0 0 0 false, .bool true]) ∧ Ez w w' p m (wS4.tick 13) A ∧ ∀ a ∈ A, w'.heap[a]? = W.heap[a]? := fun W p m A h => h.call fun v hv => by
    have := tick_any hv 13
    rw [w_m13, w_s13] at this
    exact this
  have hq1 : ∀ W : World, (binOp .eql 40 (frV 133 8 0 16 1 1 2 3 4 5 false) (frV 133 8 0 16 1 1 2 3 4 5 false)).run Try.prog W = .ok (.bool true) W := fun W => by rw [eqlF, sameF_self]
  have hq2 : ∀ W : World, (binOp .eql 40 (frV 133 8 1 66 9 0 0 0 0 0 false) (frV 133 8 1 66 9 0 0 0 0 0 false)).run Try.prog W = .ok (.bool true) W := fun W => by rw [eqlF, sameF_self]
  go_enter Try.func8, Try.ntmps8
  go_wp2_with fail
  refine (NW _).mono ?_
  rintro e w1 ⟨⟨p, m, rfl, h1, lp, lm⟩, b1⟩
  have H1 := Ez.new h1 lp lm b1
  clear h1 lp lm b1 NW
  go_wp2_with fail
  refine (R1 _ _ _ H1).mono ?_
  rintro e w2 ⟨rfl, H2, -⟩
  clear H1 R1
  go_wp2_with fail
  refine (R2 _ _ _ H2).mono ?_
  rintro e w3 ⟨rfl, H3, -⟩
  clear H2 R2
  go_wp2_with fail
  refine (RG _ _ _ H3).mono ?_
  rintro e w4 ⟨rfl, H4, -⟩
  clear H3 RG
  go_wp2_with fail
  refine (T1 _ _ _ _ H4).mono ?_
  rintro e w5 ⟨rfl, H5, -⟩
  clear H4 T1
  have H5' := H5.add (w' := w5.alloc (.cells (frC 133 8 0 16 1 1 2 3 4 5 false) 40)) (by repeat (first | exact Below.refl _ _ | apply Below.drew | apply Below.al)) w5.heap.size (Nat.le_refl _) (by simp)
  clear H5
  go_wp2_with fail
  refine (T2 _ _ _ _ H5').mono ?_
  rintro e w6 ⟨rfl, H6, K6⟩
  have F6 : w6.heap[w5.heap.size]? = some (.cells (frC 133 8 0 16 1 1 2 3 4 5 false) 40 (0, 0)) := (K6 _ (by simp)).trans (at11 _ _ _ rfl)
  have H6' := H6.next (w' := w6.alloc zFb) (by repeat (first | exact Below.refl _ _ | apply Below.drew | apply Below.al))
  clear H5' T2 H6 K6
  go_wp2_with fail
  refine (T3 _ _ _ _ H6').mono ?_
  rintro e w7 ⟨rfl, H7, K7⟩
  have F7 : w7.heap[w5.heap.size]? = some (.cells (frC 133 8 0 16 1 1 2 3 4 5 false) 40 (0, 0)) := (K7 _ (by simp)).trans (ext11 F6)
  have B7 : Hid (Below w.heap.size w w7) := H7.bel
  obtain ⟨f0, f1, f2, f3, f4, f5, f6, f7, f8, f9, f10⟩ := frC_at F7
  have lf : w5.heap.size < w7.heap.size := lt_of_heap F7
  clear F6 F7 H6' T3 H7 K7
  go_wp2_with fail
  go_ret
  exact ⟨rfl, Below.al B7.out _⟩
#print axioms works_any
end Go.Proofs.Ytnbdnmfnmnboiaa
