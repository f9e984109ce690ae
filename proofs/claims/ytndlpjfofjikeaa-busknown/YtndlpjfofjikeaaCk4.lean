/-
  The document's Copy.
-/
import Derived.Test.YtndlpjfofjikeaaCj4
namespace Go.Proofs.Ytndlpjfofjikeaa
open Go.RowKit

theorem cellsR_flat {w : World} {g o : Nat} {l : List Sn} (h : CellsR w g o l) (j : Nat) (u : Value) (hj : (flat l)[j]? = some u) : w.cell? ((⟨g, o, none⟩ : Addr).add j) = some u := by
  have hlt : j < l.length * 13 := by have := (List.getElem?_eq_some_iff.1 hj).1; rw [flat_len] at this; exact this
  have hi : j / 13 < l.length := by omega
  have hx := at_some l (j / 13) hi
  have e := flat_at l (j / 13) _ hx
  have := h (j / 13) _ hx (j % 13) u (by
    rw [← e, List.getElem?_take, if_pos (by omega), List.getElem?_drop, show j / 13 * 13 + j % 13 = j from by omega]
    exact hj)
  rw [Addr.add_lit, show o + j = o + j / 13 * 13 + j % 13 from by omega]
  exact this
theorem oneR (l : List Sn) : ∀ u ∈ flat l, u.oneCell' = true := fun v hv => by
  unfold flat at hv
  obtain ⟨x, _, hx⟩ := List.mem_flatMap.1 hv
  simp [Sn.L] at hx
  rcases hx with rfl | rfl | rfl | rfl | rfl | rfl | rfl | rfl | rfl | rfl | rfl | rfl | rfl <;> rfl

set_option linter.unusedSimpArgs false in
set_option maxHeartbeats 4000000 in
set_option maxRecDepth 100000 in
theorem rcopy_some {w : World} {p : Nat} {v : Value} {l : List Sn} {n : Int} (h : IsD w p v l n) (hl : l ≠ []) (hl2 : l.length ≤ 100000) :
    Calls Try.prog 11 #[.pointer (some ⟨p, 0, none⟩)] w fun e w' => e = .returned (.pointer (some ⟨w.heap.size, 0, none⟩)) ∧ (∃ v', IsD w' w.heap.size v' l n) ∧ Below w.heap.size w w' := by
  obtain ⟨i0, hi, hz0, hz1, hz2⟩ := info_parts infoR
  have hp := lt_of_heap h.head
  obtain ⟨g, o, cap, rfl, hcap, hmax, hC⟩ := h.r.some hl
  have k0 := h.c0
  have k1 := h.c1
  have k0a : ∀ b, (w.alloc b).cell? ⟨p, 0, none⟩ = some (.slice (some ⟨g, o, none⟩) l.length cap) := fun b => (h.next (Below.al (Below.refl _ _) b)).c0
  have NW : Hid (∀ b, ∀ j u, (flat l)[j]? = some u → (w.alloc b).cell? ((⟨g, o, none⟩ : Addr).add j) = some u) := fun b j u hj => cellsR_flat (hC.below (Below.al (Below.refl _ _) b)) j u hj
  have hlp : 0 < l.length := List.length_pos_iff.2 hl
  have GR : Hid (∀ (z : World) (v' : Value), (w.alloc (.cells #[.slice none 0 0, .int .i64 n] 36)).drew.grownBy z none → OwnR z w.heap.size v' l → z.cell? ⟨w.heap.size, 0, none⟩ = some (.slice none 0 0) ∧ z.frozen? ⟨w.heap.size, 0, none⟩ = false ∧ IsD (z.setCell ⟨w.heap.size, 0, none⟩ v') w.heap.size v' l n ∧ Below w.heap.size w (z.setCell ⟨w.heap.size, 0, none⟩ v')) := fun z v' hg hv => by
    have hh : z.heap[w.heap.size]? = some (.cells #[.slice none 0 0, .int .i64 n] 36 (0, 0)) := by
      rw [hg.block w.heap.size (by simp) (by simp)]
      show (w.alloc (.cells #[.slice none 0 0, .int .i64 n] 36)).heap[w.heap.size]? = _
      exact heap_alloc_last w _
    refine ⟨by rw [cell_of_row z _ 0 _ _ _ hh]; rfl, frozen_of_row z _ 0 _ _ hh, ⟨by rw [heap_setCell_same z _ 0 _ _ _ hh]; rfl, isR_set hh (isR_own hv)⟩, ?_⟩
    have b1 : Below w.heap.size w z := ⟨hg.os, hg.tape, hg.output, by have := hg.size; simp at this; omega, fun k hk => by
      rw [hg.block k (by simp; omega) (by simp)]
      show (w.alloc _).heap[k]? = _
      exact Below.heap_alloc _ _ _ hk⟩
    exact b1.setCell (Nat.le_refl _) _
  have OL : Hid (∀ (z : World) (g9 c9 : Nat), z.ownsRow w.heap.size 63 13 (.slice (some ⟨g9, 0, none⟩) (0 + l.length) c9) (0 + l.length) ([] ++ flat l) → OwnR z w.heap.size (.slice (some ⟨g9, 0, none⟩) l.length c9) l) := fun z g9 c9 hh => by
    rw [Nat.zero_add, List.nil_append] at hh
    exact hh
  clear h hC
  go_enter Try.func11, Try.ntmps11
  go_wp2_with fail
  go_region_law (refine step_append_lies (P := Try.prog) _ rfl (.tmp 14) (.tmp 18) 34 rfl w.heap.size 63 i0 _ 13 48 Try.underlying34 hi hz0 hz1 hz2 rfl (by decide) (.slice none 0 0) 0 [] (by simp [Act.eval]) (World.ownsRow_nil _ _ _ _) ⟨g, o, none⟩ l.length cap (flat l) (by simp [Act.eval]) (flat_len l) (NW.out _) (oneR l) hlp (by omega) (by omega) (by simp) _ rfl ?_; intro g9 c9 z hown hgrow hat hlt; obtain ⟨q0, q1, q2, q3⟩ := GR.out z _ hgrow (OL.out z g9 c9 hown); clear hown hgrow hat hlt)
  all_goals
    go_wp2_with fail
    go_ret
    exact ⟨rfl, ⟨_, q2⟩, q3⟩
#print axioms rcopy_some

set_option linter.unusedSimpArgs false in
set_option maxHeartbeats 4000000 in
set_option maxRecDepth 100000 in
theorem rcopy_none {w : World} {p : Nat} {v : Value} {n : Int} (h : IsD w p v [] n) :
    Calls Try.prog 11 #[.pointer (some ⟨p, 0, none⟩)] w fun e w' => e = .returned (.pointer (some ⟨w.heap.size, 0, none⟩)) ∧ (∃ v', IsD w' w.heap.size v' [] n) ∧ Below w.heap.size w w' := by
  have hp := lt_of_heap h.head
  have k1 := h.c1
  obtain ⟨a, cap, rfl⟩ := isR_form h.r
  have k0a : ∀ b, (w.alloc b).cell? ⟨p, 0, none⟩ = some (.slice a 0 cap) := fun b => (h.next (Below.al (Below.refl _ _) b)).c0
  have RES : Hid (∀ m, (∃ v', IsD ((w.alloc (.cells #[.slice none 0 0, .int .i64 n] 36)).drewN m) w.heap.size v' [] n) ∧ Below w.heap.size w ((w.alloc (.cells #[.slice none 0 0, .int .i64 n] 36)).drewN m)) := fun m => ⟨⟨_, ⟨heap_alloc_last w _, ⟨.inl ⟨rfl, rfl⟩⟩⟩⟩, (Below.al (Below.refl _ _) _).trans ⟨rfl, rfl, rfl, Nat.le_refl _, fun _ _ => rfl⟩⟩
  clear h
  cases a with
  | none =>
    go_enter Try.func11, Try.ntmps11
    go_wp2_with fail
    go_region
    all_goals
      go_wp2_with fail
      go_ret
      first | exact ⟨rfl, RES.out 1⟩ | exact ⟨rfl, RES.out 0⟩ | (trace_state; sorry)
  | some x =>
    go_enter Try.func11, Try.ntmps11
    go_wp2_with fail
    go_region
    all_goals
      go_wp2_with fail
      go_ret
      first | exact ⟨rfl, RES.out 1⟩ | exact ⟨rfl, RES.out 0⟩ | (trace_state; sorry)
#print axioms rcopy_none
end Go.Proofs.Ytndlpjfofjikeaa
