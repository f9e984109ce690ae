/-
  The walks of slices.Clone of sectors, and of Copy.
-/
import Derived.Test.YtdohjolgcmokhaaFk
namespace Go.Proofs.Ytdohjolgcmokhaa
open Go.RowKit

set_option linter.unusedSimpArgs false in
set_option maxHeartbeats 4000000 in
set_option maxRecDepth 100000 in
theorem clone_any {w : World} {p B n cap : Nat} {cs : List Int} {st : Int} {ar : Bool} {lf : Int} {of : Bool} (h : IsF w p B n cap cs st ar lf of) :
    Calls Try.prog 30 #[.slice (some ⟨B, 0, none⟩) n cap] w fun e w' => (∃ B' cap', e = .returned (.slice (some ⟨B', 0, none⟩) n cap') ∧ w.heap.size ≤ B' ∧ ∃ ex, w'.heap[B']? = some (.cells (cs.map (Value.int .u8) ++ ex).toArray 57 (0, 0))) ∧ Below w.heap.size w w' := by
  obtain ⟨i0, hi, hz0, hz1, hz2⟩ := info_parts info57
  have hl := h.len
  have hn1 := h.n1
  have hn2 := h.n2
  have hzc : (Value.agg (Array.replicate 1024 (.int .u8 0))).cells.size = 1024 := by show (Array.replicate 1024 (Value.int .u8 0)).size = 1024; exact Array.size_replicate
  have NE : ∀ w, (binOp BinOp.eql 54 (.slice (some ⟨B, 0, none⟩) n cap) (.slice none 0 0)).run Try.prog w = .ok (.bool false) w := fun w => by first | rfl | kernel_rfl | simp [binOp, run_underlying Try.underlying54]
  have hx : ∀ o, Below w.heap.size w (w.alloc o) := fun o => Below.al (Below.refl _ _) o
  have NW : ∀ o, ∀ j u, (cs.map (Value.int .u8))[j]? = some u → (w.alloc o).cell? ((⟨B, 0, none⟩ : Addr).add j) = some u := fun o j u hu => by
    rw [Addr.add_lit, Nat.zero_add]
    have hj : j < cs.length := by
      rw [List.getElem?_map] at hu
      by_cases hj : j < cs.length
      · exact hj
      · rw [List.getElem?_eq_none (by omega)] at hu; cases hu
    rw [(h.next (hx o)).byte j (by omega), ← hu, List.getElem?_map, List.getElem?_eq_getElem hj, List.getD_eq_getElem?_getD, List.getElem?_eq_getElem hj]
    rfl
  have OWN : ∀ (T : TypeId) (z : World), z = w.alloc (.cells #[] 57) → z.ownsRow w.heap.size 57 1024 (.slice (some ⟨w.heap.size, 0, none⟩) 0 0) 0 [] := fun _ z hz => ⟨by simp, .inr ⟨w.heap.size, 0, #[], rfl, Nat.le_refl _, by rw [hz]; exact heap_alloc_last w _, Nat.le_refl _, by decide, by simp, by simp⟩⟩
  generalize Value.agg (Array.replicate 1024 (.int .u8 0)) = Z at *
  clear h
  go_enter Try.func30, Try.ntmps30
  go_wp2_with (at_builtin; refine wpList_append_own _ rfl _ _ 54 rfl w.heap.size 57 i0 Z 1024 1024 Try.underlying54 hi hz0 hz1 hz2 hzc (by decide) _ 0 [] rfl (OWN 0 _ rfl) ⟨B, 0, none⟩ n cap (cs.map (Value.int .u8)) rfl (by rw [List.length_map, hl, Nat.mul_comm]) (NW _) (oneU8 _) (by unfold maxLen; omega) (by omega) (by simp) ?_)
  intro v' w2 hown hgrow hne
  have hb : Below w.heap.size w w2 := (hx _).grown hgrow (by simp) (fun j hj => by cases hj; exact Nat.le_refl _)
  obtain ⟨B', cap', cur, rfl, hB, hc, _, _, _, ht⟩ : ∃ B' cap' cur, v' = .slice (some ⟨B', 0, none⟩) n cap' ∧ w.heap.size ≤ B' ∧ w2.heap[B']? = some (.cells cur 57 (0, 0)) ∧ True ∧ True ∧ True ∧ cur.toList.take (n * 1024) = cs.map (Value.int .u8) := by
    rcases hown.2 with ⟨hv, h0⟩ | ⟨g, c, cur, hv, hg, hh, _, _, _, ht⟩
    · exact absurd h0 (by omega)
    · exact ⟨g, c, cur, by first | exact hv | simpa using hv, hg, hh, trivial, trivial, trivial, by first | exact ht | simpa using ht⟩
  have RES : Hid (∃ ex, w2.heap[B']? = some (.cells (cs.map (Value.int .u8) ++ ex).toArray 57 (0, 0))) := ⟨cur.toList.drop (n * 1024), by rw [hc, ← ht, List.take_append_drop]⟩
  clear hown hgrow hc ht hne NW OWN hx
  go_wp2_with fail
  go_ret
  exact ⟨⟨_, _, rfl, hB, RES.out⟩, hb⟩
#print axioms clone_any

set_option linter.unusedSimpArgs false in
set_option maxHeartbeats 4000000 in
set_option maxRecDepth 100000 in
theorem copy_nil (w : World) :
    Calls Try.prog 12 #[.pointer none] w fun e w' => e = .returned (.pointer none) ∧ w' = w := by
  go_enter Try.func12, Try.ntmps12
  go_wp2_with fail
  go_ret
  exact ⟨rfl, rfl⟩

set_option linter.unusedSimpArgs false in
set_option maxHeartbeats 4000000 in
set_option maxRecDepth 100000 in
theorem copy_any {w : World} {p B n cap : Nat} {s : FS} (h : IsS w p B n cap s) :
    Calls Try.prog 12 #[.pointer (some ⟨p, 0, none⟩)] w fun e w' => (∃ p' B' cap', e = .returned (.pointer (some ⟨p', 0, none⟩)) ∧ w.heap.size ≤ p' ∧ w.heap.size ≤ B' ∧ IsS w' p' B' n cap' s) ∧ Below w.heap.size w w' := by
  have k0 := h.c0
  have k1 := h.c1
  have k2 := h.c2
  have k3 := h.c3
  have k4 := h.c4
  have hlt := h.lt
  have FX : Hid (1 ≤ n ∧ n ≤ 64 ∧ s.cs.length = 1024 * n ∧ Oct s.cs) := ⟨h.n1, h.n2, h.len, h.oct⟩
  have CL : Hid (∀ o, Calls Try.prog 30 #[.slice (some ⟨B, 0, none⟩) n cap] (w.alloc o) fun e w' => (∃ B' cap', e = .returned (.slice (some ⟨B', 0, none⟩) n cap') ∧ (w.alloc o).heap.size ≤ B' ∧ ∃ ex, w'.heap[B']? = some (.cells (s.cs.map (Value.int .u8) ++ ex).toArray 57 (0, 0))) ∧ Below (w.alloc o).heap.size (w.alloc o) w') := fun o => clone_any (h.next (Below.al (Below.refl _ _) o))
  have k0' : ∀ o, (w.alloc o).cell? ⟨p, 0, none⟩ = some (.slice (some ⟨B, 0, none⟩) n cap) := fun o => (h.next (Below.al (Below.refl _ _) o)).c0
  clear h
  obtain ⟨C, st, ar, lf, of⟩ := s
  dsimp only at *
  go_enter Try.func12, Try.ntmps12
  go_wp2_with fail
  refine (CL.out _).mono ?_
  rintro e z ⟨⟨B', cap', rfl, hB, ex, hx⟩, hz⟩
  have sz : ∀ o, (w.alloc o).heap.size = w.heap.size + 1 := fun o => by simp
  rw [sz] at hB
  have HD := (hz.block w.heap.size (by rw [sz]; omega)).trans (heap_alloc_last w _)
  have f0 : z.cell? ⟨w.heap.size, 0, none⟩ = some (.slice (some ⟨B, 0, none⟩) n cap) := by rw [cell_of_row z _ _ _ _ _ HD]; rfl
  have f1 := frozen_of_row z w.heap.size 0 _ _ HD
  have HD2 : Hid _ := HD
  have hb : Below w.heap.size w z := Below.andThen (Below.al (Below.refl _ _) _) hz
  have HX : Hid (z.heap[B']? = some (.cells (C.map (Value.int .u8) ++ ex).toArray 57 (0, 0))) := hx
  clear CL k0 k1 k2 k3 k4 k0' hx hz HD
  go_wp2_with fail
  go_ret
  refine ⟨⟨w.heap.size, B', cap', rfl, Nat.le_refl _, by omega, ⟨by omega, FX.out.1, FX.out.2.1, FX.out.2.2.1, FX.out.2.2.2, ?_, 57, ex, ?_⟩⟩, hb.setCell (Nat.le_refl _) _⟩
  · rw [heap_setCell_same _ _ _ _ _ _ HD2.out]; rfl
  · rw [heap_setCell_other _ _ _ _ (by simp; omega)]; exact HX.out
#print axioms copy_any
end Go.Proofs.Ytdohjolgcmokhaa
