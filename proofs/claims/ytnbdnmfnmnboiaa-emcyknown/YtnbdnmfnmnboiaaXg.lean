/-
  What EmcyKnown calls: nil ones, and calls at its literals.
-/
import Derived.Test.YtnbdnmfnmnboiaaXf
namespace Go.Proofs.Ytnbdnmfnmnboiaa
open Go.RowKit

set_option linter.unusedSimpArgs false in
set_option maxHeartbeats 4000000 in
set_option maxRecDepth 100000 in
theorem nil_raise (c b i0 i1 i2 i3 i4 : Int) (w : World) : Calls Try.prog 15 #[.pointer none, .int .u16 c, .int .u8 b, arr5 i0 i1 i2 i3 i4] w fun e w' => e = .returned (.int .i64 1) ∧ Below w.heap.size w w' := by
  go_enter Try.func15, Try.ntmps15
  go_wp2_with fail
  go_ret
  exact ⟨rfl, (by repeat (first | exact Below.refl _ _ | apply Below.drew | apply Below.al))⟩
set_option linter.unusedSimpArgs false in
set_option maxHeartbeats 4000000 in
set_option maxRecDepth 100000 in
theorem nil_clear (c : Int) (w : World) : Calls Try.prog 16 #[.pointer none, .int .u16 c] w fun e w' => e = .returned (.int .i64 1) ∧ Below w.heap.size w w' := by
  go_enter Try.func16, Try.ntmps16
  go_wp2_with fail
  go_ret
  exact ⟨rfl, (by repeat (first | exact Below.refl _ _ | apply Below.drew | apply Below.al))⟩
set_option linter.unusedSimpArgs false in
set_option maxHeartbeats 4000000 in
set_option maxRecDepth 100000 in
theorem nil_register (w : World) : Calls Try.prog 19 #[.pointer none] w fun e w' => e = .returned (.int .u8 0) ∧ Below w.heap.size w w' := by
  go_enter Try.func19, Try.ntmps19
  go_wp2_with fail
  go_ret
  exact ⟨rfl, (by repeat (first | exact Below.refl _ _ | apply Below.drew | apply Below.al))⟩
set_option linter.unusedSimpArgs false in
set_option maxHeartbeats 4000000 in
set_option maxRecDepth 100000 in
theorem nil_stands (c : Int) (w : World) : Calls Try.prog 23 #[.pointer none, .int .u16 c] w fun e w' => e = .returned (.bool false) ∧ Below w.heap.size w w' := by
  go_enter Try.func23, Try.ntmps23
  go_wp2_with fail
  go_ret
  exact ⟨rfl, (by repeat (first | exact Below.refl _ _ | apply Below.drew | apply Below.al))⟩
set_option linter.unusedSimpArgs false in
set_option maxHeartbeats 4000000 in
set_option maxRecDepth 100000 in
theorem nil_history (w : World) : Calls Try.prog 20 #[.pointer none] w fun e w' => e = .returned (.slice none 0 0) ∧ Below w.heap.size w w' := by
  go_enter Try.func20, Try.ntmps20
  go_wp2_with fail
  go_ret
  exact ⟨rfl, (by repeat (first | exact Below.refl _ _ | apply Below.drew | apply Below.al))⟩
set_option linter.unusedSimpArgs false in
set_option maxHeartbeats 4000000 in
set_option maxRecDepth 100000 in
theorem nil_forget (w : World) : Calls Try.prog 21 #[.pointer none] w fun e w' => e = .returned (.tuple #[]) ∧ Below w.heap.size w w' := by
  go_enter Try.func21, Try.ntmps21
  go_wp2_with fail
  go_end0
  exact ⟨rfl, (by repeat (first | exact Below.refl _ _ | apply Below.drew | apply Below.al))⟩
set_option linter.unusedSimpArgs false in
set_option maxHeartbeats 4000000 in
set_option maxRecDepth 100000 in
theorem nil_reset (w : World) : Calls Try.prog 22 #[.pointer none] w fun e w' => e = .returned (.tuple #[]) ∧ Below w.heap.size w w' := by
  go_enter Try.func22, Try.ntmps22
  go_wp2_with fail
  exact bodyPost_ret (v := .tuple #[]) (by simp [results, Try.results22, go_sem]) rfl ⟨rfl, (by repeat (first | exact Below.refl _ _ | apply Below.drew | apply Below.al))⟩
set_option linter.unusedSimpArgs false in
set_option maxHeartbeats 4000000 in
set_option maxRecDepth 100000 in
theorem nil_due (w : World) : Calls Try.prog 18 #[.pointer none] w fun e w' => e = .returned (.tuple #[.int .i64 0, .bool false]) ∧ Below w.heap.size w w' := by
  go_enter Try.func18, Try.ntmps18
  go_wp2_with fail
  exact bodyPost_ret (v := .tuple #[.int .i64 0, .bool false]) (by simp [results, Try.results18, go_sem]) rfl ⟨rfl, (by repeat (first | exact Below.refl _ _ | apply Below.drew | apply Below.al))⟩
set_option linter.unusedSimpArgs false in
set_option maxHeartbeats 4000000 in
set_option maxRecDepth 100000 in
theorem nil_tick (now : Int) (w : World) : Calls Try.prog 17 #[.pointer none, .int .i64 now] w fun e w' => e = .returned (.tuple #[zeroF, .bool false]) ∧ Below w.heap.size w w' := by
  go_enter Try.func17, Try.ntmps17
  go_wp2_with fail
  refine (nil_due _).mono ?_
  rintro e w1 ⟨rfl, hb⟩
  have B1 : Below w.heap.size w w1 := Below.andThen (by repeat (first | exact Below.refl _ _ | apply Below.drew | apply Below.al)) hb
  have hg : w1.heap[w.heap.size]? = some (.cells (frC 0 0 0 0 0 0 0 0 0 0 false) 40 (0, 0)) := (hb.block _ (by simp)).trans (heap_new _ _)
  have lf := lt_of_heap hg
  clear hb
  go_wp2_with (refine wpList_store_row rfl 40 _ _ rfl w.heap.size (frC 0 0 0 0 0 0 0 0 0 0 false) rfl rfl 40 _ hg infoF rfl (frC_one _ _ _ _ _ _ _ _ _ _ _) ?_)
  have hc := fun j => cell_of_row (w1.setRow w.heap.size (frC 0 0 0 0 0 0 0 0 0 0 false)) w.heap.size j _ _ _ (setRow_heap _ _ _ _ _ _ hg)
  refine bodyPost_ret (v := .tuple #[zeroF, .bool false]) ?_ rfl ⟨rfl, below_setRow B1 (by omega) _⟩
  simp [results, Try.results17, go_sem, hc]

theorem raise_no {w : World} {p m : Nat} {v : Value} {S : ES} (h : IsE w p m v S) (c : Int) (b : Nat) (c0 : 0 ≤ c ∧ c < 65536) (k : Int) (hk : S.raiseC c b = k) (h0 : k ≠ 0) :
    Calls Try.prog 15 #[.pointer (some ⟨p, 0, none⟩), .int .u16 c, .int .u8 (b : Int), arr5 0 0 0 0 0] w fun e w' => e = .returned (.int .i64 k) ∧ EPost w w' p m v S := by
  have := raise_any h c b 0 0 0 0 0 c0 (by unfold Oct; decide)
  unfold ES.raise at this
  rw [hk, if_neg h0] at this
  exact this
theorem raise_yes {w : World} {p m : Nat} {v : Value} {S : ES} (h : IsE w p m v S) (c : Int) (b : Nat) (c0 : 0 ≤ c ∧ c < 65536) (hk : S.raiseC c b = 0) :
    Calls Try.prog 15 #[.pointer (some ⟨p, 0, none⟩), .int .u16 c, .int .u8 (b : Int), arr5 0 0 0 0 0] w fun e w' => e = .returned (.int .i64 0) ∧ EPost w w' p m v (S.raise c b 0 0 0 0 0) := by
  have := raise_any h c b 0 0 0 0 0 c0 (by unfold Oct; decide)
  rw [hk] at this
  exact this
theorem clear_no {w : World} {p m : Nat} {v : Value} {S : ES} (h : IsE w p m v S) (c : Int) (k : Int) (hk : S.clearC c = k) (h0 : k ≠ 0) :
    Calls Try.prog 16 #[.pointer (some ⟨p, 0, none⟩), .int .u16 c] w fun e w' => e = .returned (.int .i64 k) ∧ EPost w w' p m v S := by
  have := clear_any h c
  unfold ES.clear at this
  rw [hk, if_neg h0] at this
  exact this
theorem clear_yes {w : World} {p m : Nat} {v : Value} {S : ES} (h : IsE w p m v S) (c : Int) (hk : S.clearC c = 0) :
    Calls Try.prog 16 #[.pointer (some ⟨p, 0, none⟩), .int .u16 c] w fun e w' => e = .returned (.int .i64 0) ∧ EPost w w' p m v (S.clear c) := by
  have := clear_any h c
  rw [hk] at this
  exact this

/-- The first errors. -/
def kS4 : ES := wS3.tick 13
def kS5 : ES := kS4.clear 4096
def kS6 : ES := kS5.tick 23
theorem k_may13 : wS3.may 13 = true := by decide +kernel
theorem k_said13 : wS3.said 13 = frC 133 8 1 66 9 0 0 0 0 0 false := by kernel_rfl
theorem k_c4 : kS4.clearC 4096 = 0 := by decide +kernel
theorem k_c5 : kS5.clearC 4096 = 5 := by decide +kernel
theorem k_r5 : (kS5.reg : Int) = 9 := by decide +kernel
theorem k_a5 : kS5.raiseC 0 1 = 2 := by decide +kernel
theorem k_b5 : kS5.raiseC 1 8 = 2 := by decide +kernel
theorem k_d5 : kS5.raiseC 16897 0 = 6 := by decide +kernel
theorem k_due5 : kS5.due = 23 := by kernel_rfl
theorem k_ws5 : kS5.ws ≠ [] := by
  intro h
  have : kS5.ws.length = 0 := by rw [h]; rfl
  exact absurd this (by decide +kernel)
theorem k_may23 : kS5.may 23 = true := by decide +kernel
theorem k_said23 : kS5.said 23 = frC 133 8 0 0 9 0 0 0 0 0 false := by kernel_rfl
theorem k_ws6 : kS6.ws = [] := List.eq_nil_of_length_eq_zero (by decide +kernel)
theorem k_ln2 : wS2.ln = 2 := by kernel_rfl
theorem k_hs2 : (wS2.hs.take 2).map (Value.int .u32) = [.int .u32 16897, .int .u32 33624064] := by kernel_rfl

/-- The second ones. -/
def yS : Nat → ES
  | 0 => newS 127 0
  | n + 1 => (yS n).raise ((n : Int) + 1) 7 0 0 0 0 0
theorem y_r : ∀ n : Nat, n < 16 → (yS n).raiseC ((n : Int) + 1) 7 = 0 := by decide +kernel
theorem y_a : (yS 16).raiseC 99 0 = 3 := by decide +kernel
theorem y_b : (yS 16).clearC 1 = 3 := by decide +kernel
def yT : ES := (yS 16).tick 0
theorem y_t1 : yT.raiseC 99 0 = 3 := by decide +kernel
theorem y_t2 : yT.clearC 1 = 0 := by decide +kernel
def yU : ES := yT.clear 1
theorem y_u1 : yU.raiseC 99 0 = 3 := by decide +kernel
theorem y_u2 : (yU.reg : Int) = 129 := by decide +kernel
theorem y_u3 : yU.ln = 16 := by kernel_rfl
def yW : ES := yU.forget.reset
theorem y_w1 : (yW.reg : Int) = 0 := by decide +kernel
theorem y_w2 : yW.ln = 0 := by kernel_rfl

/-- The row that grows in the walk. -/
def mny (i : Nat) : Opx := ⟨0, (i : Int) + 1, i % 8, i, 0, 0, 0, 0, 0⟩
theorem mny_ok (i : Nat) (h : i < 20) : (mny i).Ok := ⟨by simp [mny], by simp [mny], by simp [mny]; omega, by intro n hn; simp [mny] at hn; omega⟩
/-- A row of literals, as a row of calls. -/
theorem isOpx_own {w : World} {R : List Opx} {g o cap : Nat} (h : OwnAt w 35 9 g o R.length cap (opL R)) (hO : ∀ x ∈ R, x.Ok) : IsOpx w (some ⟨g, o, none⟩) R.length R where
  size := rfl
  good := hO
  at_ := fun _ => ⟨g, o, rfl, fun i x hx j v hv => by
    have := h.cell (i * 9 + j) v (opL_at R i x hx j v hv)
    rw [show o + i * 9 + j = o + (i * 9 + j) from by omega]
    exact this⟩
theorem isOpx_lit (W : World) (R : List Opx) (T : TypeId) (hO : ∀ x ∈ R, x.Ok) (k : Nat) (hk : k = W.heap.size) : IsOpx (W.alloc (.cells (opL R).toArray T)) (some ⟨k, 0, none⟩) R.length R where
  size := rfl
  good := hO
  at_ := fun _ => ⟨k, 0, rfl, fun i x hx j v hv => by
    subst hk
    rw [show 0 + i * 9 + j = i * 9 + j from by omega, World.cell?_alloc_new, List.getElem?_toArray]
    exact opL_at R i x hx j v hv⟩
theorem lit64 {W : World} {k : Nat} {zs : List Int} {T : TypeId} (h : W.heap[k]? = some (.cells (zs.map (Value.int .i64)).toArray T (0, 0))) (j : Nat) (hj : j < zs.length) : W.cell? ⟨k, j, none⟩ = some (.int .i64 (zs.getD j 0)) := by
  rw [cell_of_row W k j _ _ _ h, List.getElem?_toArray, List.getElem?_map, List.getD_eq_getElem?_getD, List.getElem?_eq_getElem hj]
  rfl
#print axioms isOpx_lit
end Go.Proofs.Ytnbdnmfnmnboiaa
