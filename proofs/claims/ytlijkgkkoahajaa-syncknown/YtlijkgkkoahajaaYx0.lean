/-
  What SyncKnown calls, at its literals.
-/
import Derived.Test.YtlijkgkkoahajaaYj
import Derived.Test.YtlijkgkkoahajaaYq
import Derived.Test.YtlijkgkkoahajaaYw
import Derived.Test.YtlijkgkkoahajaaYs
namespace Go.Proofs.Ytlijkgkkoahajaa
open Go.RowKit

theorem kn_cell {W : World} {C : Array Value} {T : TypeId} {k : Nat} (hk : k = W.heap.size) (o : Nat) (v : Value) (h : C[o]? = some v) : (W.alloc (.cells C T)).cell? ⟨k, o, none⟩ = some v := by
  subst hk; rw [World.cell?_alloc_new]; exact h
theorem kn_ops (W : World) (n : Int) (T : TypeId) (k : Nat) (hk : k = W.heap.size) : IsOpx (W.alloc (.cells #[.int .u8 0, .int .i64 n, .int .u8 2, .int .i64 n, .int .u8 2, .int .i64 1099511627776, .int .u8 2, .int .i64 1099511627776, .int .u8 1, .int .i64 0, .int .u8 2, .int .i64 5] T)) (some ⟨k, 0, none⟩) 6 [⟨0, n⟩, ⟨2, n⟩, ⟨2, 1099511627776⟩, ⟨2, 1099511627776⟩, ⟨1, 0⟩, ⟨2, 5⟩] where
  size := rfl
  good := fun x hx => by
    simp only [List.mem_cons, List.not_mem_nil, or_false] at hx
    rcases hx with rfl | rfl | rfl | rfl | rfl | rfl <;> simp
  at_ := fun _ => ⟨k, 0, rfl, fun i x hx => by
    match i, hx with
    | 0, hx => cases hx; exact ⟨kn_cell hk _ _ rfl, kn_cell hk _ _ rfl⟩
    | 1, hx => cases hx; exact ⟨kn_cell hk _ _ rfl, kn_cell hk _ _ rfl⟩
    | 2, hx => cases hx; exact ⟨kn_cell hk _ _ rfl, kn_cell hk _ _ rfl⟩
    | 3, hx => cases hx; exact ⟨kn_cell hk _ _ rfl, kn_cell hk _ _ rfl⟩
    | 4, hx => cases hx; exact ⟨kn_cell hk _ _ rfl, kn_cell hk _ _ rfl⟩
    | 5, hx => cases hx; exact ⟨kn_cell hk _ _ rfl, kn_cell hk _ _ rfl⟩
    | j + 6, hx => simp at hx⟩
theorem kn_row0 (n t : Int) (j : Nat) (v : Value) (hv : (Hx.C ⟨2047, 0, 0, 0, 0, 0, 0, 0, 0, 0, false, n⟩)[j]? = some v) : (#[.int .u16 2047, .int .i64 0, .int .u8 0, .int .u8 0, .int .u8 0, .int .u8 0, .int .u8 0, .int .u8 0, .int .u8 0, .int .u8 0, .bool false, .int .i64 n, .int .u16 2047, .int .i64 1, .int .u8 t, .int .u8 0, .int .u8 0, .int .u8 0, .int .u8 0, .int .u8 0, .int .u8 0, .int .u8 0, .bool false, .int .i64 n, .int .u16 2047, .int .i64 1, .int .u8 1, .int .u8 1, .int .u8 0, .int .u8 0, .int .u8 0, .int .u8 0, .int .u8 0, .int .u8 0, .bool false, .int .i64 n, .int .u16 2047, .int .i64 0, .int .u8 0, .int .u8 0, .int .u8 0, .int .u8 0, .int .u8 0, .int .u8 0, .int .u8 0, .int .u8 0, .bool true, .int .i64 0] : Array Value)[0 + 0 * 12 + j]? = some v := by
  have hj : j < 12 := (List.getElem?_eq_some_iff.1 hv).1
  have h9 : j = 0 ∨ j = 1 ∨ j = 2 ∨ j = 3 ∨ j = 4 ∨ j = 5 ∨ j = 6 ∨ j = 7 ∨ j = 8 ∨ j = 9 ∨ j = 10 ∨ j = 11 := by omega
  rcases h9 with rfl | rfl | rfl | rfl | rfl | rfl | rfl | rfl | rfl | rfl | rfl | rfl <;> exact hv
theorem kn_row1 (n t : Int) (j : Nat) (v : Value) (hv : (Hx.C ⟨2047, 1, t, 0, 0, 0, 0, 0, 0, 0, false, n⟩)[j]? = some v) : (#[.int .u16 2047, .int .i64 0, .int .u8 0, .int .u8 0, .int .u8 0, .int .u8 0, .int .u8 0, .int .u8 0, .int .u8 0, .int .u8 0, .bool false, .int .i64 n, .int .u16 2047, .int .i64 1, .int .u8 t, .int .u8 0, .int .u8 0, .int .u8 0, .int .u8 0, .int .u8 0, .int .u8 0, .int .u8 0, .bool false, .int .i64 n, .int .u16 2047, .int .i64 1, .int .u8 1, .int .u8 1, .int .u8 0, .int .u8 0, .int .u8 0, .int .u8 0, .int .u8 0, .int .u8 0, .bool false, .int .i64 n, .int .u16 2047, .int .i64 0, .int .u8 0, .int .u8 0, .int .u8 0, .int .u8 0, .int .u8 0, .int .u8 0, .int .u8 0, .int .u8 0, .bool true, .int .i64 0] : Array Value)[0 + 1 * 12 + j]? = some v := by
  have hj : j < 12 := (List.getElem?_eq_some_iff.1 hv).1
  have h9 : j = 0 ∨ j = 1 ∨ j = 2 ∨ j = 3 ∨ j = 4 ∨ j = 5 ∨ j = 6 ∨ j = 7 ∨ j = 8 ∨ j = 9 ∨ j = 10 ∨ j = 11 := by omega
  rcases h9 with rfl | rfl | rfl | rfl | rfl | rfl | rfl | rfl | rfl | rfl | rfl | rfl <;> exact hv
theorem kn_row2 (n t : Int) (j : Nat) (v : Value) (hv : (Hx.C ⟨2047, 1, 1, 1, 0, 0, 0, 0, 0, 0, false, n⟩)[j]? = some v) : (#[.int .u16 2047, .int .i64 0, .int .u8 0, .int .u8 0, .int .u8 0, .int .u8 0, .int .u8 0, .int .u8 0, .int .u8 0, .int .u8 0, .bool false, .int .i64 n, .int .u16 2047, .int .i64 1, .int .u8 t, .int .u8 0, .int .u8 0, .int .u8 0, .int .u8 0, .int .u8 0, .int .u8 0, .int .u8 0, .bool false, .int .i64 n, .int .u16 2047, .int .i64 1, .int .u8 1, .int .u8 1, .int .u8 0, .int .u8 0, .int .u8 0, .int .u8 0, .int .u8 0, .int .u8 0, .bool false, .int .i64 n, .int .u16 2047, .int .i64 0, .int .u8 0, .int .u8 0, .int .u8 0, .int .u8 0, .int .u8 0, .int .u8 0, .int .u8 0, .int .u8 0, .bool true, .int .i64 0] : Array Value)[0 + 2 * 12 + j]? = some v := by
  have hj : j < 12 := (List.getElem?_eq_some_iff.1 hv).1
  have h9 : j = 0 ∨ j = 1 ∨ j = 2 ∨ j = 3 ∨ j = 4 ∨ j = 5 ∨ j = 6 ∨ j = 7 ∨ j = 8 ∨ j = 9 ∨ j = 10 ∨ j = 11 := by omega
  rcases h9 with rfl | rfl | rfl | rfl | rfl | rfl | rfl | rfl | rfl | rfl | rfl | rfl <;> exact hv
theorem kn_row3 (n t : Int) (j : Nat) (v : Value) (hv : (Hx.C ⟨2047, 0, 0, 0, 0, 0, 0, 0, 0, 0, true, 0⟩)[j]? = some v) : (#[.int .u16 2047, .int .i64 0, .int .u8 0, .int .u8 0, .int .u8 0, .int .u8 0, .int .u8 0, .int .u8 0, .int .u8 0, .int .u8 0, .bool false, .int .i64 n, .int .u16 2047, .int .i64 1, .int .u8 t, .int .u8 0, .int .u8 0, .int .u8 0, .int .u8 0, .int .u8 0, .int .u8 0, .int .u8 0, .bool false, .int .i64 n, .int .u16 2047, .int .i64 1, .int .u8 1, .int .u8 1, .int .u8 0, .int .u8 0, .int .u8 0, .int .u8 0, .int .u8 0, .int .u8 0, .bool false, .int .i64 n, .int .u16 2047, .int .i64 0, .int .u8 0, .int .u8 0, .int .u8 0, .int .u8 0, .int .u8 0, .int .u8 0, .int .u8 0, .int .u8 0, .bool true, .int .i64 0] : Array Value)[0 + 3 * 12 + j]? = some v := by
  have hj : j < 12 := (List.getElem?_eq_some_iff.1 hv).1
  have h9 : j = 0 ∨ j = 1 ∨ j = 2 ∨ j = 3 ∨ j = 4 ∨ j = 5 ∨ j = 6 ∨ j = 7 ∨ j = 8 ∨ j = 9 ∨ j = 10 ∨ j = 11 := by omega
  rcases h9 with rfl | rfl | rfl | rfl | rfl | rfl | rfl | rfl | rfl | rfl | rfl | rfl <;> exact hv
theorem kn_hs (W : World) (n t : Int) (ht : 0 ≤ t ∧ t < 256) (T : TypeId) (k : Nat) (hk : k = W.heap.size) : IsHx (W.alloc (.cells #[.int .u16 2047, .int .i64 0, .int .u8 0, .int .u8 0, .int .u8 0, .int .u8 0, .int .u8 0, .int .u8 0, .int .u8 0, .int .u8 0, .bool false, .int .i64 n, .int .u16 2047, .int .i64 1, .int .u8 t, .int .u8 0, .int .u8 0, .int .u8 0, .int .u8 0, .int .u8 0, .int .u8 0, .int .u8 0, .bool false, .int .i64 n, .int .u16 2047, .int .i64 1, .int .u8 1, .int .u8 1, .int .u8 0, .int .u8 0, .int .u8 0, .int .u8 0, .int .u8 0, .int .u8 0, .bool false, .int .i64 n, .int .u16 2047, .int .i64 0, .int .u8 0, .int .u8 0, .int .u8 0, .int .u8 0, .int .u8 0, .int .u8 0, .int .u8 0, .int .u8 0, .bool true, .int .i64 0] T)) (some ⟨k, 0, none⟩) 4 [⟨2047, 0, 0, 0, 0, 0, 0, 0, 0, 0, false, n⟩, ⟨2047, 1, t, 0, 0, 0, 0, 0, 0, 0, false, n⟩, ⟨2047, 1, 1, 1, 0, 0, 0, 0, 0, 0, false, n⟩, ⟨2047, 0, 0, 0, 0, 0, 0, 0, 0, 0, true, 0⟩] where
  size := rfl
  good := fun x hx => by
    simp only [List.mem_cons, List.not_mem_nil, or_false] at hx
    rcases hx with rfl | rfl | rfl | rfl <;> intro m hm <;> simp at hm <;> omega
  at_ := fun _ => ⟨k, 0, rfl, fun i x hx j v hv => by
    match i, hx with
    | 0, hx => cases hx; exact kn_cell hk _ _ (kn_row0 n t j v hv)
    | 1, hx => cases hx; exact kn_cell hk _ _ (kn_row1 n t j v hv)
    | 2, hx => cases hx; exact kn_cell hk _ _ (kn_row2 n t j v hv)
    | 3, hx => cases hx; exact kn_cell hk _ _ (kn_row3 n t j v hv)
    | j + 4, hx => simp at hx⟩
theorem kn_h1 (p : Nat) : HearsP p 128 3 4 ⟨false, 0, 0, 0, 0⟩ 128 1 2 0 0 0 0 0 0 0 false 7 2 true ⟨true, 7, 2, 0, 0⟩ := by
  have := hears_right (p := p) (id := 128) (W := 4) (n := 1) (d0 := 2) (d1 := 0) (d2 := 0) (d3 := 0) (d4 := 0) (d5 := 0) (d6 := 0) (d7 := 0) (now := 7) (⟨by decide, by decide, fun h => by cases h⟩ : Cst.Ok 3 ⟨false, 0, 0, 0, 0⟩) (by decide) (by decide) (by decide) (by decide) (by simp [isB, sameF, same8]) (by decide)
  simpa [Cst.hear, gap, nxt] using this
theorem kn_h2 (p : Nat) : HearsP p 128 3 4 ⟨true, 7, 2, 0, 0⟩ 128 1 1 0 0 0 0 0 0 0 false 9 1 true ⟨true, 9, 1, 1, 0⟩ := by
  have := hears_right (p := p) (id := 128) (W := 4) (n := 1) (d0 := 1) (d1 := 0) (d2 := 0) (d3 := 0) (d4 := 0) (d5 := 0) (d6 := 0) (d7 := 0) (now := 9) (⟨by decide, by decide, fun _ _ => by decide⟩ : Cst.Ok 3 ⟨true, 7, 2, 0, 0⟩) (by decide) (by decide) (by decide) (by decide) (by simp [isB, sameF, same8]) (by decide)
  simpa [Cst.hear, gap, nxt] using this
theorem kn_h3 (p : Nat) : HearsP p 128 3 4 ⟨true, 9, 1, 1, 0⟩ 128 1 4 0 0 0 0 0 0 0 false 9 0 false ⟨true, 9, 1, 1, 1⟩ := by
  have := hears_wrong (p := p) (id := 128) (top := 3) (W := 4) (c := ⟨true, 9, 1, 1, 0⟩) (n := 1) (d0 := 4) (d1 := 0) (d2 := 0) (d3 := 0) (d4 := 0) (d5 := 0) (d6 := 0) (d7 := 0) (now := 9) (by decide) (by decide) (by decide) (by simp [isB, sameF, same8]) (by decide)
  simpa [Cst.hear, gap, nxt] using this
theorem kn_h4 (p : Nat) : HearsP p 128 3 4 ⟨true, 9, 1, 1, 1⟩ 128 0 0 0 0 0 0 0 0 0 false 9 0 false ⟨true, 9, 1, 1, 2⟩ := by
  have := hears_wrong (p := p) (id := 128) (top := 3) (W := 4) (c := ⟨true, 9, 1, 1, 1⟩) (n := 0) (d0 := 0) (d1 := 0) (d2 := 0) (d3 := 0) (d4 := 0) (d5 := 0) (d6 := 0) (d7 := 0) (now := 9) (by decide) (by decide) (by decide) (by simp [isB, sameF, same8]) (by decide)
  simpa [Cst.hear, gap, nxt] using this
theorem kn_h5 (p : Nat) : HearsP p 128 3 4 ⟨true, 9, 1, 1, 2⟩ 128 1 1 0 0 0 0 0 0 0 false 20 1 true ⟨true, 20, 1, 3, 2⟩ := by
  have := hears_right (p := p) (id := 128) (W := 4) (n := 1) (d0 := 1) (d1 := 0) (d2 := 0) (d3 := 0) (d4 := 0) (d5 := 0) (d6 := 0) (d7 := 0) (now := 20) (⟨by decide, by decide, fun _ _ => by decide⟩ : Cst.Ok 3 ⟨true, 9, 1, 1, 2⟩) (by decide) (by decide) (by decide) (by decide) (by simp [isB, sameF, same8]) (by decide)
  simpa [Cst.hear, gap, nxt] using this
theorem kn_open (p : Nat) (lo wr now : Int) (b : Bool) (hb : opB 4 true 9 now = b) (w : World) (hp : w.heap[p]? = some (.cells (csC 128 3 4 true 9 1 lo wr) 86 (0, 0))) : Calls Try.prog 24 #[.pointer (some ⟨p, 0, none⟩), .int .i64 now] w fun e w' => e = .returned (.bool b) ∧ Below w.heap.size w w' := by
  rw [← hb]
  exact open_all p 128 3 4 true 9 1 lo wr now (by decide) (by decide) w hp
theorem kn_stamp (w : World) : Calls Try.prog 26 #[.int .u16 256, .int .u16 2, .int .u32 1] w fun e w' => e = .returned (.tuple #[frV 256 6 1 0 0 0 2 0 0 0 false, .int .i64 0]) ∧ Below w.heap.size w w' :=
  stamp_ok 256 2 1 (by decide) (by decide) (by decide) (by decide) w
theorem kn_at (p : Nat) (w : World) (hp : w.heap[p]? = some (.cells (ckC true 10 65535 86399999) 70 (0, 0))) : Calls Try.prog 30 #[.pointer (some ⟨p, 0, none⟩), .int .i64 11] w fun e w' => e = .returned (.tuple #[.int .u16 0, .int .u32 0, .bool true]) ∧ Below w.heap.size w w' :=
  at_yes p 10 65535 86399999 11 (by decide) (by decide) (by decide) (by decide) w hp
set_option linter.unusedSimpArgs false in
set_option maxHeartbeats 4000000 in
set_option maxRecDepth 100000 in
theorem start_nil (now : Int) (w : World) : Calls Try.prog 12 #[.pointer none, .int .i64 now] w fun e w' => e = .returned (.int .i64 1) ∧ w' = w := by
  go_enter Try.func12, Try.ntmps12
  go_wp2_with fail
  go_ret
  exact ⟨rfl, rfl⟩
#print axioms kn_at
end Go.Proofs.Ytlijkgkkoahajaa
