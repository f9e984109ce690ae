/-
  Copy of a bus.
-/
import Derived.Test.YtndlpjfofjikeaaCs4
namespace Go.Proofs.Ytndlpjfofjikeaa
open Go.RowKit

theorem row_nil_at {w : World} {g : Nat} (h : w.heap[g]? = some (.cells #[] 42 (0, 0))) (base : Nat) (hb : base ≤ g) : IsL w base (.slice (some ⟨g, 0, none⟩) 0 0) [] := ⟨by simp [flat], .inr ⟨g, 0, #[], rfl, hb, h, Nat.le_refl _, by decide, rfl, by simp [flat]⟩⟩

set_option linter.unusedSimpArgs false in
set_option maxHeartbeats 4000000 in
set_option maxRecDepth 100000 in
theorem clone_zero2 (a : Option Addr) (c : Nat) (hc : a = none → c = 0) (w : World) :
    Calls Try.prog 30 #[.slice a 0 c] w fun e w' => (∃ a' c', e = .returned (.slice a' 0 c') ∧ IsL w' w.heap.size (.slice a' 0 c') []) ∧ Below w.heap.size w w' := by
  cases a with
  | none =>
    rw [hc rfl]
    have NE : ∀ w, (binOp BinOp.eql 57 (.slice none 0 0) (.slice none 0 0)).run Try.prog w = .ok (.bool true) w := fun w => by first | kernel_rfl | simp [binOp, run_underlying Try.underlying57]
    go_enter Try.func30, Try.ntmps30
    go_wp2_with fail
    go_ret
    exact ⟨⟨none, 0, rfl, by simp [flat], .inl ⟨rfl, rfl⟩⟩, Below.refl _ _⟩
  | some x =>
    have NE : ∀ w, (binOp BinOp.eql 57 (.slice (some x) 0 c) (.slice none 0 0)).run Try.prog w = .ok (.bool false) w := fun w => by first | kernel_rfl | simp [binOp, run_underlying Try.underlying57]
    go_enter Try.func30, Try.ntmps30
    go_wp2_with fail
    go_ret
    exact ⟨⟨some ⟨w.heap.size, 0, none⟩, 0, rfl, row_nil_at (heap_alloc_last w _) _ (Nat.le_refl _)⟩, Below.al (Below.refl _ _) _⟩
#print axioms clone_zero2

set_option linter.unusedSimpArgs false in
set_option maxHeartbeats 4000000 in
set_option maxRecDepth 100000 in
theorem copied_zero2 {w : World} {p : Nat} (a : Option Addr) (c : Nat) (hc : a = none → c = 0) (h : w.cell? ⟨p, 0, none⟩ = some (.slice a 0 c)) :
    Calls Try.prog 20 #[.pointer (some ⟨p, 0, none⟩)] w fun e w' => (∃ a' c', e = .returned (.agg #[.slice a' 0 c']) ∧ IsL w' w.heap.size (.slice a' 0 c') []) ∧ Below w.heap.size w w' := by
  have CL := fun w => clone_zero2 a c hc w
  have hp : p < w.heap.size := lt_of_cell h
  have k0 : ∀ o, (w.alloc o).cell? ⟨p, 0, none⟩ = some (.slice a 0 c) := fun o => by rw [(Below.al (Below.refl w.heap.size w) o).cell (p := ⟨p, 0, none⟩) hp]; exact h
  clear h
  go_enter Try.func20, Try.ntmps20
  go_wp2_with fail
  refine (CL _).mono ?_
  rintro e z ⟨⟨a', c', rfl, Lz⟩, bz⟩
  clear CL k0
  have hblk := (bz.block w.heap.size (by simp)).trans (heap_alloc_last w _)
  have x0 : z.cell? ⟨w.heap.size, 0, none⟩ = some (.slice none 0 0) := by rw [cell_of_row z _ 0 _ _ _ hblk]; rfl
  have xf := frozen_of_row z w.heap.size 0 _ _ hblk
  have sz : ∀ o, (w.alloc o).heap.size = w.heap.size + 1 := fun o => by simp
  rw [sz] at Lz
  have RES : Hid (∀ u, IsL (z.setCell ⟨w.heap.size, 0, none⟩ u) w.heap.size (.slice a' 0 c') [] ∧ Below w.heap.size w (z.setCell ⟨w.heap.size, 0, none⟩ u)) := fun u => ⟨World.ownsRow.le1 (ownsRow_setCell_below Lz (by show w.heap.size < w.heap.size + 1; omega) u) (by omega), (Below.andThen (Below.al (Below.refl _ _) _) bz).setCell (Nat.le_refl _) _⟩
  clear hblk bz Lz sz
  go_wp2_with fail
  exact bodyPost_ret (v := .agg #[.slice a' 0 c']) (by simp [results, Try.results20, go_sem, x0]) rfl ⟨⟨_, _, rfl, (RES.out _).1⟩, (RES.out _).2⟩
#print axioms copied_zero2
theorem copied_all {w : World} {base p : Nat} {v : Value} {l : List Sn} {ct : Int} (h : IsB w base p v l ct) (hl2 : l.length ≤ 100000) :
    Calls Try.prog 20 #[.pointer (some ⟨p, 0, none⟩)] w fun e w' => (∃ a' c', e = .returned (.agg #[.slice a' l.length c']) ∧ IsL w' w.heap.size (.slice a' l.length c') l) ∧ Below w.heap.size w w' := by
  by_cases hl : l = []
  · subst hl
    obtain ⟨a, c, rfl, hc⟩ := val_nil h.own
    exact copied_zero2 a c hc h.c0
  · obtain ⟨g, cap, rfl⟩ := h.own.some hl
    refine (copied_any h hl (by omega)).mono (fun e w' hq => ?_)
    obtain ⟨⟨g', c', q1, _, q2⟩, q3⟩ := hq
    exact ⟨⟨_, c', q1, q2⟩, q3⟩

set_option linter.unusedSimpArgs false in
set_option maxHeartbeats 4000000 in
set_option maxRecDepth 100000 in
theorem copy_any {w : World} {base p : Nat} {v : Value} {l : List Sn} {ct : Int} (h : IsB w base p v l ct) (hl : l.length ≤ 100000) :
    Calls Try.prog 10 #[.pointer (some ⟨p, 0, none⟩)] w fun e w' => (∃ p' v', e = .returned (.pointer (some ⟨p', 0, none⟩)) ∧ w.heap.size ≤ p' ∧ (∀ k, v'.ownBlock = some k → w.heap.size ≤ k) ∧ w'.heap[p']? = some (.cells #[v', .int .i64 ct] 61 (0, 0)) ∧ IsL w' w.heap.size v' l) ∧ Below w.heap.size w w' := by
  have DW : Below w.heap.size w w.drew := Below.drew (Below.refl _ _)
  have CP := copied_all (h.next DW) hl
  have KS : Hid (∀ x, Below w.drew.heap.size w.drew x → x.cell? ⟨p, 1, none⟩ = some (.int .i64 ct)) := fun x hx => (h.next (Below.andThen DW hx)).c1
  obtain ⟨N, hN⟩ : ∃ N, Hid (N = l.length) := ⟨_, rfl⟩
  rw [← hN.out] at CP
  clear h
  go_enter Try.func10, Try.ntmps10
  go_wp2_with fail
  refine wp_region_held_drew (S := fun u => u.cell? ⟨p, 1, none⟩ = some (.int .i64 ct)) (by kernel_rfl) (KS.out _ (Below.refl _ _)) (fun hHeld => ?_)
  refine wpAnyH_take (i := 0) (v := (.pointer (some ⟨p, 0, none⟩))) rfl (by kernel_rfl) (by kernel_rfl) (by kernel_rfl) (fun _ _ _ h => h) (Or.inl ⟨by rfl, ?_⟩) (by assumption) ?_
  · intro w9 hSw
    try dsimp only at hSw
    go_simp
    all_goals try decide
    all_goals try assumption
  try simp only [Act.put, List.getElem_toArray, List.getElem_cons_succ, List.getElem_cons_zero, List.setIfInBounds_toArray, List.set_cons_zero, List.set_cons_succ]
  refine wpAnyH_take (i := 1) (v := (.pointer (some ⟨p, 0, none⟩))) rfl (by kernel_rfl) (by kernel_rfl) (by kernel_rfl) (fun _ _ _ h => h) (Or.inl ⟨by rfl, ?_⟩) (by assumption) ?_
  · intro w9 hSw
    try dsimp only at hSw
    go_simp
    all_goals try decide
    all_goals try assumption
  try simp only [Act.put, List.getElem_toArray, List.getElem_cons_succ, List.getElem_cons_zero, List.setIfInBounds_toArray, List.set_cons_zero, List.set_cons_succ]
  refine wpAnyH_take (i := 2) (v := (.pointer (some ⟨p, 0, none⟩))) rfl (by kernel_rfl) (by kernel_rfl) (by kernel_rfl) (fun _ _ _ h => h) (Or.inl ⟨by rfl, ?_⟩) (by assumption) ?_
  · intro w9 hSw
    try dsimp only at hSw
    go_simp
    all_goals try decide
    all_goals try assumption
  try simp only [Act.put, List.getElem_toArray, List.getElem_cons_succ, List.getElem_cons_zero, List.setIfInBounds_toArray, List.set_cons_zero, List.set_cons_succ]
  refine wpAnyH_take (i := 4) (v := (.pointer (some ⟨p, 0, none⟩))) rfl (by kernel_rfl) (by kernel_rfl) (by kernel_rfl) (fun _ _ _ h => h) (Or.inl ⟨by rfl, ?_⟩) (by assumption) ?_
  · intro w9 hSw
    try dsimp only at hSw
    go_simp
    all_goals try decide
    all_goals try assumption
  try simp only [Act.put, List.getElem_toArray, List.getElem_cons_succ, List.getElem_cons_zero, List.setIfInBounds_toArray, List.set_cons_zero, List.set_cons_succ]
  refine wpAnyH_take (i := 5) (v := (.pointer (some ⟨p, 0, none⟩))) rfl (by kernel_rfl) (by kernel_rfl) (by kernel_rfl) (fun _ _ _ h => h) (Or.inl ⟨by rfl, ?_⟩) (by assumption) ?_
  · intro w9 hSw
    try dsimp only at hSw
    go_simp
    all_goals try decide
    all_goals try assumption
  try simp only [Act.put, List.getElem_toArray, List.getElem_cons_succ, List.getElem_cons_zero, List.setIfInBounds_toArray, List.set_cons_zero, List.set_cons_succ]
  refine wpAnyH_take (i := 6) (v := (.pointer (some ⟨p, 1, none⟩))) rfl (by kernel_rfl) (by kernel_rfl) (by kernel_rfl) (fun _ _ _ h => h) (Or.inl ⟨by rfl, ?_⟩) (by assumption) ?_
  · intro w9 hSw
    try dsimp only at hSw
    go_simp
    all_goals try decide
    all_goals try assumption
  try simp only [Act.put, List.getElem_toArray, List.getElem_cons_succ, List.getElem_cons_zero, List.setIfInBounds_toArray, List.set_cons_zero, List.set_cons_succ]
  refine wpAnyH_take (i := 7) (v := (.int .i64 ct)) rfl (by kernel_rfl) (by kernel_rfl) (by kernel_rfl) (fun _ _ _ h => h) (Or.inl ⟨by rfl, ?_⟩) (by assumption) ?_
  · intro w9 hSw
    try dsimp only at hSw
    go_simp
    all_goals try decide
    all_goals try assumption
  try simp only [Act.put, List.getElem_toArray, List.getElem_cons_succ, List.getElem_cons_zero, List.setIfInBounds_toArray, List.set_cons_zero, List.set_cons_succ]
  refine wpAnyH_ready (rs := [3]) (by kernel_rfl) (by simp) ?_
  refine AllReadyH.cons rfl (fun K' hK => ?_) AllReadyH.nil
  rw [if_pos (by rfl)]
  simp only [List.getElem_toArray, List.getElem_cons_succ, List.getElem_cons_zero]
  go_wp2_with fail
  refine (CP).mono ?_
  rintro e z ⟨⟨a', c', rfl, Lz⟩, bz⟩
  try go_wp2_with fail
  refine hK.out _ _ (KS.out _ bz) (fun hHeld => ?_)
  clear hK K'
  try simp only [Act.put, List.getElem_toArray, List.getElem_cons_succ, List.getElem_cons_zero, List.setIfInBounds_toArray, List.set_cons_zero, List.set_cons_succ]
  refine wpAnyH_take (i := 8) (v := (.agg #[.slice a' N c', .int .i64 ct])) rfl (by kernel_rfl) (by kernel_rfl) (by kernel_rfl) (fun _ _ _ h => h) (Or.inl ⟨by rfl, ?_⟩) (by assumption) ?_
  · intro w9 hSw
    try dsimp only at hSw
    go_simp
    all_goals try decide
    all_goals try assumption
  try simp only [Act.put, List.getElem_toArray, List.getElem_cons_succ, List.getElem_cons_zero, List.setIfInBounds_toArray, List.set_cons_zero, List.set_cons_succ]
  refine wpAnyH_ready (rs := [9]) (by kernel_rfl) (by simp) ?_
  refine AllReadyH.cons rfl (fun K' hK => ?_) AllReadyH.nil
  rw [if_pos (by rfl)]
  simp only [List.getElem_toArray, List.getElem_cons_succ, List.getElem_cons_zero]
  go_wp2_with fail
  refine hK.out _ _ (KS.out _ (Below.andThen bz (Below.al (Below.refl _ _) _))) (fun hHeld => ?_)
  clear hK K'
  try simp only [Act.put, List.getElem_toArray, List.getElem_cons_succ, List.getElem_cons_zero, List.setIfInBounds_toArray, List.set_cons_zero, List.set_cons_succ]
  refine wpAnyH_take (i := 10) (v := (.pointer (some ⟨z.heap.size, 0, none⟩))) rfl (by kernel_rfl) (by kernel_rfl) (by kernel_rfl) (fun _ _ _ h => h) (Or.inl ⟨by rfl, ?_⟩) (by assumption) ?_
  · intro w9 hSw
    try dsimp only at hSw
    go_simp
    all_goals try decide
    all_goals try assumption
  try simp only [Act.put, List.getElem_toArray, List.getElem_cons_succ, List.getElem_cons_zero, List.setIfInBounds_toArray, List.set_cons_zero, List.set_cons_succ]
  refine wpAnyH_done (by kernel_rfl) ?_ _
  have RES : Hid ((∃ p' v', Value.pointer (some ⟨z.heap.size, 0, none⟩) = .pointer (some ⟨p', 0, none⟩) ∧ w.heap.size ≤ p' ∧ (∀ k, v'.ownBlock = some k → w.heap.size ≤ k) ∧ (z.alloc (.cells #[.slice a' N c', .int .i64 ct] 61)).heap[p']? = some (.cells #[v', .int .i64 ct] 61 (0, 0)) ∧ IsL (z.alloc (.cells #[.slice a' N c', .int .i64 ct] 61)) w.heap.size v' l) ∧ Below w.heap.size w (z.alloc (.cells #[.slice a' N c', .int .i64 ct] 61))) := by
    have b2 : Below w.heap.size w z := Below.andThen DW bz
    exact ⟨⟨z.heap.size, _, rfl, b2.size, fun k hk => (Lz.lt k hk).1, heap_alloc_last z _, isL_same Lz (fun i hi => (Below.al (Below.refl z.heap.size z) _).block i (Lz.lt i hi).2)⟩, Below.al b2 _⟩
  clear Lz bz DW
  go_wp2_with fail
  go_ret
  obtain ⟨⟨p', v', r1, r2⟩, r3⟩ := RES.out
  exact ⟨⟨p', v', by rw [← r1]; rfl, r2⟩, r3⟩
#print axioms copy_any
end Go.Proofs.Ytndlpjfofjikeaa
