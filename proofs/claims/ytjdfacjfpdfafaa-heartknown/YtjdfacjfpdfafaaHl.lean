/-
  The walk of a watch's Hear.
-/
import Derived.Test.YtjdfacjfpdfafaaHk
namespace Go.Proofs.Ytjdfacjfpdfafaa
open Go.RowKit

theorem infoT : (Try.prog.info? 54).map (·.size) = some 3 := by kernel_rfl
theorem Kt.row {x : Nat} {w a : World} (h : Kt x w a) (g : Nat) (c : Array Value) (hg : w.heap.size ≤ g) : Kt x w (a.setRow g c) :=
  ⟨h.os, h.tape, h.output, by rw [size_setRow]; exact h.size, fun k hk hs => (setRow_other _ _ _ _ (by omega)).trans (h.low k hk hs), fun j C T f hj h1 h2 => (setRow_other _ _ _ _ (by have := lt_of_heap hj; omega)).trans (h.typ j C T f hj h1 h2)⟩
/-- An event's cells. -/
abbrev evA (a k s : Int) : Array Value := #[.int .u8 a, .int .u8 k, .int .u8 s]
theorem evA_one (a k s : Int) : (evA a k s).all (·.oneCell') = true := by simp [Value.oneCell']
abbrev noE : Value := .tuple #[.agg (evA 0 0 0), .bool false]
/-- What a node is behind a beat. -/
def Nd.beat (x : Nd) (s now : Int) : Nd := ⟨x.W, true, false, s, now⟩
/-- What Hear tells of a beat. -/
abbrev heV (k kind s : Int) : Value := .tuple #[.agg (evA (if kind = 0 then 0 else k) (if kind = 0 then 0 else kind) (if kind = 0 then 0 else s)), .bool (!(kind == 0))]
set_option linter.unusedSimpArgs false in
set_option maxHeartbeats 4000000 in
set_option maxRecDepth 100000 in
theorem hear_bad (p : Nat) (i n d0 d1 d2 d3 d4 d5 d6 d7 : Int) (r : Bool) (now : Int) (hi : 0 ≤ i ∧ i < 65536) (hd : 0 ≤ d0 ∧ d0 < 256) (h : btB i n d0 d1 d2 d3 d4 d5 d6 d7 r = false) (w : World) : Calls Try.prog 20 #[pt p, frV i n d0 d1 d2 d3 d4 d5 d6 d7 r, .int .i64 now] w fun e w' => e = .returned noE ∧ Below w.heap.size w w' := by
  have BT := fun W => beaten_any i n d0 d1 d2 d3 d4 d5 d6 d7 r hi hd W
  simp only [btV, h, Bool.false_eq_true, if_false] at BT
  clear hi hd h
  go_enter Try.func20, Try.ntmps20
  go_wp2_with fail
  refine (BT _).mono ?_
  rintro e w1 ⟨rfl, hb⟩
  have g6 : w1.heap[w.heap.size + 1]? = some (.cells (evA 0 0 0) 54 (0, 0)) := blk11 hb (at11 _ _ _ (by simp))
  have B1 : Below w.heap.size w w1 := Below.andThen (by repeat (first | exact Below.refl _ _ | apply Below.drew | apply Below.al)) hb
  clear hb BT
  go_wp2_with (refine wpList_store_row rfl 54 _ _ rfl (w.heap.size + 1) (evA 0 0 0) rfl rfl 54 _ g6 infoT rfl (evA_one _ _ _) ?_)
  have hc := fun j => cell_of_row (w1.setRow (w.heap.size + 1) (evA 0 0 0)) (w.heap.size + 1) j _ _ _ (setRow_heap _ _ _ _ _ _ g6)
  refine bodyPost_ret (v := noE) ?_ rfl ⟨rfl, below_setRow B1 (by omega) _⟩
  simp [results, Try.results20, go_sem, hc]
set_option linter.unusedSimpArgs false in
set_option maxHeartbeats 4000000 in
set_option maxRecDepth 100000 in
theorem nil_hear (i n d0 d1 d2 d3 d4 d5 d6 d7 : Int) (r : Bool) (now : Int) (hi : 0 ≤ i ∧ i < 65536) (hd : 0 ≤ d0 ∧ d0 < 256) (w : World) : Calls Try.prog 20 #[.pointer none, frV i n d0 d1 d2 d3 d4 d5 d6 d7 r, .int .i64 now] w fun e w' => e = .returned noE ∧ Below w.heap.size w w' := by
  have BT := fun W => beaten_any i n d0 d1 d2 d3 d4 d5 d6 d7 r hi hd W
  clear hi hd
  cases hq : btB i n d0 d1 d2 d3 d4 d5 d6 d7 r
  all_goals
    simp only [btV, hq, Bool.false_eq_true, if_false, if_true] at BT
    go_enter Try.func20, Try.ntmps20
    go_wp2_with fail
    refine (BT _).mono ?_
    rintro e w1 ⟨rfl, hb⟩
    have g6 : w1.heap[w.heap.size + 1]? = some (.cells (evA 0 0 0) 54 (0, 0)) := blk11 hb (at11 _ _ _ (by simp))
    have B1 : Below w.heap.size w w1 := Below.andThen (by repeat (first | exact Below.refl _ _ | apply Below.drew | apply Below.al)) hb
    clear hb BT
    go_wp2_with (refine wpList_store_row rfl 54 _ _ rfl (w.heap.size + 1) (evA 0 0 0) rfl rfl 54 _ g6 infoT rfl (evA_one _ _ _) ?_)
    have hc := fun j => cell_of_row (w1.setRow (w.heap.size + 1) (evA 0 0 0)) (w.heap.size + 1) j _ _ _ (setRow_heap _ _ _ _ _ _ g6)
    refine bodyPost_ret (v := noE) ?_ rfl ⟨rfl, below_setRow B1 (by omega) _⟩
    simp [results, Try.results20, go_sem, hc]
set_option linter.unusedSimpArgs false in
set_option maxHeartbeats 4000000 in
set_option maxRecDepth 100000 in
theorem hear_none {w : World} {p k : Nat} (n d0 d1 d2 d3 d4 d5 d6 d7 : Int) (r : Bool) (now : Int) (hi : 1 ≤ k ∧ k ≤ 127) (hd : 0 ≤ d0 ∧ d0 < 256) (h : btB (1792 + (k : Int)) n d0 d1 d2 d3 d4 d5 d6 d7 r = true) (c : w.cell? ⟨p, k, none⟩ = some (.pointer none)) : Calls Try.prog 20 #[pt p, frV (1792 + (k : Int)) n d0 d1 d2 d3 d4 d5 d6 d7 r, .int .i64 now] w fun e w' => e = .returned noE ∧ Below w.heap.size w w' := by
  have BT := fun W => beaten_any (1792 + (k : Int)) n d0 d1 d2 d3 d4 d5 d6 d7 r (by omega) hd W
  simp only [btV, h, if_true] at BT
  rw [show (1792 : Int) + (k : Int) - 1792 = (k : Int) from by omega] at BT
  have gk : (k : Int) < 128 := by omega
  have gk0 : (0 : Int) ≤ (k : Int) := by omega
  have gn : k < 128 := by omega
  clear hi hd h
  go_enter Try.func20, Try.ntmps20
  go_wp2_with fail
  refine (BT _).mono ?_
  rintro e w1 ⟨rfl, hb⟩
  have g6 : w1.heap[w.heap.size + 1]? = some (.cells (evA 0 0 0) 54 (0, 0)) := blk11 hb (at11 _ _ _ (by simp))
  have B1 : Below w.heap.size w w1 := Below.andThen (by repeat (first | exact Below.refl _ _ | apply Below.drew | apply Below.al)) hb
  have cw : w1.cell? ⟨p, k, none⟩ = some (.pointer none) := cl11 B1 c
  clear hb BT c
  go_wp2_with (refine wpList_store_row rfl 54 _ _ rfl (w.heap.size + 1) (evA 0 0 0) rfl rfl 54 _ g6 infoT rfl (evA_one _ _ _) ?_)
  have hc := fun j => cell_of_row (w1.setRow (w.heap.size + 1) (evA 0 0 0)) (w.heap.size + 1) j _ _ _ (setRow_heap _ _ _ _ _ _ g6)
  refine bodyPost_ret (v := noE) ?_ rfl ⟨rfl, below_setRow B1 (by omega) _⟩
  simp [results, Try.results20, go_sem, hc]
set_option linter.unusedSimpArgs false in
set_option maxHeartbeats 4000000 in
set_option maxRecDepth 100000 in
theorem hear_time {w : World} {p k b : Nat} (n d0 d1 d2 d3 d4 d5 d6 d7 : Int) (r : Bool) (now : Int) (hi : 1 ≤ k ∧ k ≤ 127) (hd : 0 ≤ d0 ∧ d0 < 256) (h : btB (1792 + (k : Int)) n d0 d1 d2 d3 d4 d5 d6 d7 r = true) (c : w.cell? ⟨p, k, none⟩ = some (pt b)) (ht : tmB now = false) : Calls Try.prog 20 #[pt p, frV (1792 + (k : Int)) n d0 d1 d2 d3 d4 d5 d6 d7 r, .int .i64 now] w fun e w' => e = .returned noE ∧ Below w.heap.size w w' := by
  have BT := fun W => beaten_any (1792 + (k : Int)) n d0 d1 d2 d3 d4 d5 d6 d7 r (by omega) hd W
  have TM := fun W => isTime_any now W
  rw [ht] at TM
  simp only [btV, h, if_true] at BT
  rw [show (1792 : Int) + (k : Int) - 1792 = (k : Int) from by omega] at BT
  have gk : (k : Int) < 128 := by omega
  have gk0 : (0 : Int) ≤ (k : Int) := by omega
  have gn : k < 128 := by omega
  clear hi hd h ht
  go_enter Try.func20, Try.ntmps20
  go_wp2_with fail
  refine (BT _).mono ?_
  rintro e w1 ⟨rfl, hb⟩
  have g6 : w1.heap[w.heap.size + 1]? = some (.cells (evA 0 0 0) 54 (0, 0)) := blk11 hb (at11 _ _ _ (by simp))
  have B1 : Below w.heap.size w w1 := Below.andThen (by repeat (first | exact Below.refl _ _ | apply Below.drew | apply Below.al)) hb
  have cw : w1.cell? ⟨p, k, none⟩ = some (.pointer (some ⟨b, 0, none⟩)) := cl11 B1 c
  clear hb BT c
  go_wp2_with fail
  refine (TM _).mono ?_
  rintro e w2 ⟨rfl, e2⟩
  subst e2
  go_wp2_with (refine wpList_store_row rfl 54 _ _ rfl (w.heap.size + 1) (evA 0 0 0) rfl rfl 54 _ g6 infoT rfl (evA_one _ _ _) ?_)
  have hc := fun j => cell_of_row (w2.setRow (w.heap.size + 1) (evA 0 0 0)) (w.heap.size + 1) j _ _ _ (setRow_heap _ _ _ _ _ _ g6)
  refine bodyPost_ret (v := noE) ?_ rfl ⟨rfl, below_setRow B1 (by omega) _⟩
  simp [results, Try.results20, go_sem, hc]
#print axioms hear_time
end Go.Proofs.Ytjdfacjfpdfafaa
