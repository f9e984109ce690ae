/-
  The walks of works and of SameBytes.
-/
import Derived.Test.YtlnlejdjekbipaaSx
namespace Go.Proofs.Ytlnlejdjekbipaa
open Go.RowKit

/-- The chapter's first example. -/
def exC : Cm := ⟨1, 4119, 0, true, 0, true, [232, 3], false, false, false, 0, 0, 0, 0, 0⟩
theorem exC_ok : exC.Ok := by constructor <;> first | decide | (intro n hn; simp [exC] at hn; omega)
theorem ex1 : askP exC = some ⟨43, 23, 16, 0, 232, 3, 0, 0⟩ := by decide +kernel
def exA : B8 := ⟨67, 24, 16, 1, 1, 2, 3, 4⟩
def exB : B8 := ⟨44, 23, 16, 0, 0, 0, 0, 0⟩
theorem exA_ok : exA.Ok := by constructor <;> decide
theorem exB_ok : exB.Ok := by constructor <;> decide
theorem ex2 : answeredP exA = some ⟨3, 4120, 1, true, 0, true, [1, 2, 3, 4], false, false, false, 0, 0, 0, 0, 0⟩ := by decide +kernel
theorem ex3 : askedP exB = none := by decide +kernel

set_option linter.unusedSimpArgs false in
set_option maxHeartbeats 4000000 in
set_option maxRecDepth 100000 in
theorem works_any (w : World) : Calls Try.prog 14 #[] w fun e w' => e = .returned (.bool true) ∧ Below w.heap.size w w' := by
  have A1 : Hid (∀ W a, Row W a 2 [232, 3] → Calls Try.prog 9 #[cmV 1 4119 0 true 0 true a 2 2 false false false 0 0 0 0 0] W fun e w' => e = .returned (.tuple #[arr8 43 23 16 0 232 3 0 0, .int .i64 0]) ∧ Below W.heap.size W w') := fun W a hr => by
    have := ask_any exC exC_ok a 2 W hr
    rw [ex1] at this
    exact this
  have A2 : Hid (∀ W, Calls Try.prog 17 #[arr8 67 24 16 1 1 2 3 4] W fun e w' => ∃ a cap, e = .returned (.tuple #[cmV 3 4120 1 true 0 true a 4 cap false false false 0 0 0 0 0, .int .i64 0]) ∧ Told W w' a 4 cap [1, 2, 3, 4] ∧ Below W.heap.size W w') := fun W => by
    have := answered_any exA exA_ok W
    rw [ex2] at this
    exact this
  have A3 : Hid (∀ W, Calls Try.prog 15 #[arr8 44 23 16 0 0 0 0 0] W fun e w' => e = .returned (.tuple #[cmV 0 0 0 false 0 false none 0 0 false false false 0 0 0 0 0, .int .i64 11]) ∧ Below W.heap.size W w') := fun W => by
    have := asked_any exB exB_ok W
    rw [ex3] at this
    exact this
  have hq := eql8
  have ho : Oct [232, 3] := by intro n hn; simp at hn; omega
  have hrow1 : Row (w.alloc (.cells #[.int .u8 232, .int .u8 3] 5)) (some ⟨w.heap.size, 0, none⟩) 2 [232, 3] := row_lit _ _ _ _ _ rfl ho rfl
  go_enter Try.func14, Try.ntmps14
  go_wp2_with fail
  with_reducible refine (A1.out _ _ hrow1).mono ?_
  rintro r w1 ⟨rfl, hb1⟩
  have B1 : Hid (Below w.heap.size w w1) := Below.andThen (by repeat (first | exact Below.refl _ _ | apply Below.drew | apply Below.al)) hb1
  clear hb1
  go_wp2_with fail
  with_reducible refine (A2.out _).mono ?_
  rintro r w2 ⟨a, cap, rfl, ht, hb2⟩
  have B2 : Hid (Below w.heap.size w w2) := Below.andThen (Below.al B1.out _) hb2
  have hx2 : w2.heap[w1.heap.size]? = some (.cells (ar8 43 23 16 0 232 3 0 0) 31 (0, 0)) := (hb2.block _ (by simp)).trans (heap_new _ _)
  have sz1 : Hid (w1.heap.size < w2.heap.size) := (Array.getElem?_eq_some_iff.1 hx2).1
  have HX2 : Hid (w2.heap[w1.heap.size]? = some (.cells (ar8 43 23 16 0 232 3 0 0) 31 (0, 0))) := hx2
  have HT2 : Hid (Told (w1.alloc (.cells (ar8 43 23 16 0 232 3 0 0) 31)) w2 a 4 cap [1, 2, 3, 4]) := ht
  clear hb2 hx2 ht
  go_wp2_with fail
  with_reducible refine (A3.out _).mono ?_
  rintro r w3 ⟨rfl, hb3⟩
  have B3 : Hid (Below w.heap.size w w3) := Below.andThen (Below.al B2.out _) hb3
  have hx3 : w3.heap[w1.heap.size]? = some (.cells (ar8 43 23 16 0 232 3 0 0) 31 (0, 0)) := (hb3.block _ (by simp; have := sz1.out; omega)).trans ((Below.heap_alloc _ _ _ sz1.out).trans HX2.out)
  have hc3 : w3.heap[w2.heap.size]? = some (.cells (cmC 3 4120 1 true 0 true a 4 cap false false false 0 0 0 0 0) 29 (0, 0)) := (hb3.block _ (by simp)).trans (heap_new _ _)
  have hrow : Row w3 a 4 [1, 2, 3, 4] := (HT2.out.row.next (Below.al (Below.refl _ _) _)).next hb3
  obtain ⟨bb, off, rfl, hcell⟩ := hrow.at_ (by decide)
  have hb4 : w3.cell? ⟨bb, off + 3, none⟩ = some (.int .u8 4) := hcell 3 (by decide)
  have szb : bb < w3.heap.size := block_lt_of_cell hb4
  have sx3 : w1.heap.size < w3.heap.size := (Array.getElem?_eq_some_iff.1 hx3).1
  have sc3 : w2.heap.size < w3.heap.size := (Array.getElem?_eq_some_iff.1 hc3).1
  have x0 : w3.cell? ⟨w1.heap.size, 0, none⟩ = some (.int .u8 43) := by rw [cell_of_row w3 _ 0 _ _ _ hx3]; rfl
  have x1 : w3.cell? ⟨w1.heap.size, 1, none⟩ = some (.int .u8 23) := by rw [cell_of_row w3 _ 1 _ _ _ hx3]; rfl
  have x2 : w3.cell? ⟨w1.heap.size, 2, none⟩ = some (.int .u8 16) := by rw [cell_of_row w3 _ 2 _ _ _ hx3]; rfl
  have x3 : w3.cell? ⟨w1.heap.size, 3, none⟩ = some (.int .u8 0) := by rw [cell_of_row w3 _ 3 _ _ _ hx3]; rfl
  have x4 : w3.cell? ⟨w1.heap.size, 4, none⟩ = some (.int .u8 232) := by rw [cell_of_row w3 _ 4 _ _ _ hx3]; rfl
  have x5 : w3.cell? ⟨w1.heap.size, 5, none⟩ = some (.int .u8 3) := by rw [cell_of_row w3 _ 5 _ _ _ hx3]; rfl
  have x6 : w3.cell? ⟨w1.heap.size, 6, none⟩ = some (.int .u8 0) := by rw [cell_of_row w3 _ 6 _ _ _ hx3]; rfl
  have x7 : w3.cell? ⟨w1.heap.size, 7, none⟩ = some (.int .u8 0) := by rw [cell_of_row w3 _ 7 _ _ _ hx3]; rfl
  have k0 : w3.cell? ⟨w2.heap.size, 0, none⟩ = some (.int .u8 3) := by rw [cell_of_row w3 _ 0 _ _ _ hc3]; rfl
  have k6 : w3.cell? ⟨w2.heap.size, 6, none⟩ = some (.slice (some ⟨bb, off, none⟩) 4 cap) := by rw [cell_of_row w3 _ 6 _ _ _ hc3]; rfl
  clear hb3 hx3 hc3 hrow hcell HT2 HX2 B1 B2
  go_wp2_with fail
  go_ret
  exact ⟨rfl, Below.al B3.out _⟩
#print axioms works_any

set_option linter.unusedSimpArgs false in
set_option maxHeartbeats 4000000 in
set_option maxRecDepth 100000 in
theorem same_bytes (a b : Option Addr) (la ca lb cb : Nat) (xs ys : List Int) (w : World) (ha : Row w a la xs) (hb : Row w b lb ys) :
    Calls Try.prog 13 #[.slice a la ca, .slice b lb cb] w fun e w' => e = .returned (.bool ((strOfNums xs).toList == (strOfNums ys).toList)) ∧ w' = w := by
  have h1 := ha.str ca
  have h2 := hb.str cb
  clear ha hb
  go_enter Try.func13, Try.ntmps13
  go_wp2_with fail
  go_ret
  exact ⟨rfl, rfl⟩
#print axioms same_bytes
end Go.Proofs.Ytlnlejdjekbipaa
