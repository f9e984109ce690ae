/-
  The walk of the document's Hear of a beat of a node that is watched: its state is another one.
-/
import Derived.Test.YtjdfacjfpdfafaaHt
namespace Go.Proofs.Ytjdfacjfpdfafaa
open Go.RowKit

set_option linter.unusedSimpArgs false in
set_option maxHeartbeats 4000000 in
set_option maxRecDepth 100000 in
theorem rhear_other {w : World} {q r9 k : Nat} {S : List Nd} (h : IsD w q r9 S) {x : Nd} (hx : S[k]? = some x) (n d0 d1 d2 d3 d4 d5 d6 d7 : Int) (r : Bool) (now : Int) (hk : 1 ≤ k ∧ k ≤ 127) (hb : btB (1792 + (k : Int)) n d0 d1 d2 d3 d4 d5 d6 d7 r = true) (ht : tmB now = true) (h0 : x.W ≠ 0) (hh : x.h = true) (hg : x.g = false) (hz0 : ¬ d0 = 0) (hz1 : ¬ d0 = x.s) : Calls Try.prog 22 #[pt q, frV (1792 + (k : Int)) n d0 d1 d2 d3 d4 d5 d6 d7 r, .int .i64 now] w fun e w' => e = .returned (eoV (if newsK x d0 = 0 then none else some ⟨(k : Int), newsK x d0, d0⟩)) ∧ IsD w' q r9 (S.set k (x.beat d0 now)) ∧ Kp [r9] w w' := by
  have RN : newsK x d0 = 2 := by unfold newsK Nd.on; simp [*]
  obtain ⟨RV, hRV⟩ : ∃ RV, RV = eoV (if newsK x d0 = 0 then none else some ⟨(k : Int), newsK x d0, d0⟩) := ⟨_, rfl⟩
  have RE : Hid (RV = (.tuple #[.agg (evA (k : Int) 2 d0), .bool true])) := by show _ = _; rw [hRV, RN]; rfl
  rw [← hRV]
  clear hRV RN
  have hs := (btB_of hb).2.1
  have hq : sameF (1792 + (k : Int)) n d0 d1 d2 d3 d4 d5 d6 d7 r (1792 + (k : Int)) 1 d0 0 0 0 0 0 0 0 false = true := by unfold btB at hb; simp only [Bool.and_eq_true] at hb; exact hb.2.2
  have wi : IntKind.i64.wrap (1792 + (k : Int)) = 1792 + (k : Int) := w64 _ (by omega) (by omega)
  have wa : IntKind.i64.wrap (1792 + (k : Int) - 1792) = (k : Int) := by rw [w64 _ (by omega) (by omega)]; omega
  have g1 : ¬ (k : Int) < 1 := by omega
  have g2 : ¬ (127 : Int) < (k : Int) := by omega
  have gk0 : (0 : Int) ≤ (k : Int) := by omega
  have gk1 : (k : Int) < 128 := by omega
  have gn : k < 128 := by omega
  have TM := fun W => time_any now W
  rw [ht] at TM
  have IS := fun W => rstate_any d0 W
  rw [hs] at IS
  have BE : Hid (∀ W, Calls Try.prog 27 #[.int .u8 (k : Int), .int .u8 d0] W fun e w' => e = .returned (beV (k : Int) d0) ∧ Below W.heap.size W w') := fun W => rbeat_any (k : Int) d0 (by omega) W
  have wu : IntKind.u8.wrap (k : Int) = (k : Int) := by rw [IntKind.wrap_u8]; omega
  have NQ : ∀ W : World, (binOp .neq 37 (frV (1792 + (k : Int)) n d0 d1 d2 d3 d4 d5 d6 d7 r) (beV (k : Int) d0)).run Try.prog W = .ok (.bool false) W := fun W => by rw [neqF, hq]; rfl
  have HD : Hid (IsD w q r9 S) := h
  have HX : Hid (S[k]? = some x) := hx
  have HS : Hid (stB d0 = true) := hs
  clear h hx hk hb ht hs hq
  obtain ⟨XW, XH, XG, XS, XT⟩ := x
  simp only at h0 hh hg hz1
  subst hh
  subst hg
  go_enter Try.func22, Try.ntmps22
  go_wp2_with fail
  have HF0 := ext11 (o := .cells (evA 0 0 0) 58) (at11 w (.cells (frC (1792 + (k : Int)) n d0 d1 d2 d3 d4 d5 d6 d7 r) 37) w.heap.size rfl)
  have HG0 := at11 (w.alloc (.cells (frC (1792 + (k : Int)) n d0 d1 d2 d3 d4 d5 d6 d7 r) 37)) (.cells (evA 0 0 0) 58) (w.heap.size + 1) (by simp)
  have HY0 : Below w.heap.size w ((w.alloc (.cells (frC (1792 + (k : Int)) n d0 d1 d2 d3 d4 d5 d6 d7 r) 37)).alloc (.cells (evA 0 0 0) 58)) := (by repeat (first | exact Below.refl _ _ | apply Below.drew | apply Below.al))
  generalize hy : ((w.alloc (.cells (frC (1792 + (k : Int)) n d0 d1 d2 d3 d4 d5 d6 d7 r) 37)).alloc (.cells (evA 0 0 0) 58) : World) = y at HF0 HG0 HY0 ⊢
  clear hy
  have HF : Hid (y.heap[w.heap.size]? = some (.cells (frC (1792 + (k : Int)) n d0 d1 d2 d3 d4 d5 d6 d7 r) 37 (0, 0))) := HF0
  have HG : Hid (y.heap[w.heap.size + 1]? = some (.cells (evA 0 0 0) 58 (0, 0))) := HG0
  have HY : Hid (Below w.heap.size w y) := HY0
  have f2 : y.cell? ⟨w.heap.size, 2, none⟩ = some (.int .u8 d0) := by rw [cell_of_row y _ 2 _ _ _ HF0]; rfl
  clear HF0 HG0 HY0
  have DY : Hid (IsD y q r9 S) := HD.out.next HY.out
  have cq := DY.out.c0
  have e0 := DY.out.cell HX.out 0 _ rfl
  rw [Nat.add_zero] at e0
  obtain ⟨xW, hxW⟩ : ∃ xW, xW = XW := ⟨_, rfl⟩
  subst hxW
  have hz : (xW == 0) = false := by simpa using h0
  refine wp_region_held_drew (S := fun x1 => Below y.heap.size y x1) (by kernel_rfl) (Below.drew (Below.refl _ _)) (fun hHeld => ?_)
  refine wpAnyH_take (i := 0) (v := (.int .i64 (k : Int))) rfl (by kernel_rfl) (by kernel_rfl) (by kernel_rfl) (fun _ _ _ h => h) (Or.inl ⟨by rfl, ?_⟩) (by assumption) ?_
  · intro w9 hSw
    try dsimp only at hSw
    go_simp
    all_goals try decide
    all_goals try assumption
    all_goals try omega
  try simp only [Act.put, List.getElem_toArray, List.getElem_cons_succ, List.getElem_cons_zero, List.setIfInBounds_toArray, List.set_cons_zero, List.set_cons_succ]
  refine wpAnyH_take (i := 1) (v := (.bool false)) rfl (by kernel_rfl) (by kernel_rfl) (by kernel_rfl) (fun _ _ _ h => h) (Or.inl ⟨by rfl, ?_⟩) (by assumption) ?_
  · intro w9 hSw
    try dsimp only at hSw
    go_simp
    all_goals try decide
    all_goals try assumption
    all_goals try omega
  try simp only [Act.put, List.getElem_toArray, List.getElem_cons_succ, List.getElem_cons_zero, List.setIfInBounds_toArray, List.set_cons_zero, List.set_cons_succ]
  refine wpAnyH_take (i := 2) (v := (.bool false)) rfl (by kernel_rfl) (by kernel_rfl) (by kernel_rfl) (fun _ _ _ h => h) (Or.inl ⟨by rfl, ?_⟩) (by assumption) ?_
  · intro w9 hSw
    try dsimp only at hSw
    go_simp
    all_goals try decide
    all_goals try assumption
    all_goals try omega
  try simp only [Act.put, List.getElem_toArray, List.getElem_cons_succ, List.getElem_cons_zero, List.setIfInBounds_toArray, List.set_cons_zero, List.set_cons_succ]
  refine wpAnyH_take (i := 3) (v := (.int .i64 (k : Int))) rfl (by kernel_rfl) (by kernel_rfl) (by kernel_rfl) (fun _ _ _ h => h) (Or.inl ⟨by rfl, ?_⟩) (by assumption) ?_
  · intro w9 hSw
    try dsimp only at hSw
    go_simp
    all_goals try decide
    all_goals try assumption
    all_goals try omega
  try simp only [Act.put, List.getElem_toArray, List.getElem_cons_succ, List.getElem_cons_zero, List.setIfInBounds_toArray, List.set_cons_zero, List.set_cons_succ]
  refine wpAnyH_take (i := 4) (v := (.bool false)) rfl (by kernel_rfl) (by kernel_rfl) (by kernel_rfl) (fun _ _ _ h => h) (Or.inl ⟨by rfl, ?_⟩) (by assumption) ?_
  · intro w9 hSw
    try dsimp only at hSw
    go_simp
    all_goals try decide
    all_goals try assumption
    all_goals try omega
  try simp only [Act.put, List.getElem_toArray, List.getElem_cons_succ, List.getElem_cons_zero, List.setIfInBounds_toArray, List.set_cons_zero, List.set_cons_succ]
  refine wpAnyH_take (i := 5) (v := (.bool false)) rfl (by kernel_rfl) (by kernel_rfl) (by kernel_rfl) (fun _ _ _ h => h) (Or.inl ⟨by rfl, ?_⟩) (by assumption) ?_
  · intro w9 hSw
    try dsimp only at hSw
    go_simp
    all_goals try decide
    all_goals try assumption
    all_goals try omega
  try simp only [Act.put, List.getElem_toArray, List.getElem_cons_succ, List.getElem_cons_zero, List.setIfInBounds_toArray, List.set_cons_zero, List.set_cons_succ]
  refine wpAnyH_take (i := 6) (v := (.bool false)) rfl (by kernel_rfl) (by kernel_rfl) (by kernel_rfl) (fun _ _ _ h => h) (Or.inl ⟨by rfl, ?_⟩) (by assumption) ?_
  · intro w9 hSw
    try dsimp only at hSw
    go_simp
    all_goals try decide
    all_goals try assumption
    all_goals try omega
  try simp only [Act.put, List.getElem_toArray, List.getElem_cons_succ, List.getElem_cons_zero, List.setIfInBounds_toArray, List.set_cons_zero, List.set_cons_succ]
  refine wpAnyH_take (i := 7) (v := (.int .i64 now)) rfl (by kernel_rfl) (by kernel_rfl) (by kernel_rfl) (fun _ _ _ h => h) (Or.inl ⟨by rfl, ?_⟩) (by assumption) ?_
  · intro w9 hSw
    try dsimp only at hSw
    go_simp
    all_goals try decide
    all_goals try assumption
    all_goals try omega
  try simp only [Act.put, List.getElem_toArray, List.getElem_cons_succ, List.getElem_cons_zero, List.setIfInBounds_toArray, List.set_cons_zero, List.set_cons_succ]
  refine wpAnyH_ready (rs := [8]) (by kernel_rfl) (by simp) ?_
  refine AllReadyH.cons rfl (fun K' hK => ?_) AllReadyH.nil
  rw [if_pos (by rfl)]
  simp only [List.getElem_toArray, List.getElem_cons_succ, List.getElem_cons_zero]
  have S0 := hHeld
  go_wp2_with fail
  refine (TM _).mono ?_
  rintro e w1 ⟨rfl, rfl⟩
  try go_wp2_with fail
  refine hK.out _ _ (S0) (fun hHeld => ?_)
  clear hK K'
  try simp only [Act.put, List.getElem_toArray, List.getElem_cons_succ, List.getElem_cons_zero, List.setIfInBounds_toArray, List.set_cons_zero, List.set_cons_succ]
  refine wpAnyH_take (i := 9) (v := (.bool false)) rfl (by kernel_rfl) (by kernel_rfl) (by kernel_rfl) (fun _ _ _ h => h) (Or.inl ⟨by rfl, ?_⟩) (by assumption) ?_
  · intro w9 hSw
    try dsimp only at hSw
    go_simp
    all_goals try decide
    all_goals try assumption
    all_goals try omega
  try simp only [Act.put, List.getElem_toArray, List.getElem_cons_succ, List.getElem_cons_zero, List.setIfInBounds_toArray, List.set_cons_zero, List.set_cons_succ]
  refine wpAnyH_take (i := 10) (v := (.bool false)) rfl (by kernel_rfl) (by kernel_rfl) (by kernel_rfl) (fun _ _ _ h => h) (Or.inl ⟨by rfl, ?_⟩) (by assumption) ?_
  · intro w9 hSw
    try dsimp only at hSw
    go_simp
    all_goals try decide
    all_goals try assumption
    all_goals try omega
  try simp only [Act.put, List.getElem_toArray, List.getElem_cons_succ, List.getElem_cons_zero, List.setIfInBounds_toArray, List.set_cons_zero, List.set_cons_succ]
  refine wpAnyH_take (i := 11) (v := (.bool false)) rfl (by kernel_rfl) (by kernel_rfl) (by kernel_rfl) (fun _ _ _ h => h) (Or.inl ⟨by rfl, ?_⟩) (by assumption) ?_
  · intro w9 hSw
    try dsimp only at hSw
    go_simp
    all_goals try decide
    all_goals try assumption
    all_goals try omega
  try simp only [Act.put, List.getElem_toArray, List.getElem_cons_succ, List.getElem_cons_zero, List.setIfInBounds_toArray, List.set_cons_zero, List.set_cons_succ]
  refine wpAnyH_take (i := 12) (v := (.pointer (some ⟨w.heap.size, 2, none⟩))) rfl (by kernel_rfl) (by kernel_rfl) (by kernel_rfl) (fun _ _ _ h => h) (Or.inl ⟨by rfl, ?_⟩) (by assumption) ?_
  · intro w9 hSw
    try dsimp only at hSw
    go_simp
    all_goals try decide
    all_goals try assumption
    all_goals try omega
  try simp only [Act.put, List.getElem_toArray, List.getElem_cons_succ, List.getElem_cons_zero, List.setIfInBounds_toArray, List.set_cons_zero, List.set_cons_succ]
  refine wpAnyH_take (i := 13) (v := (.pointer (some ⟨w.heap.size, 2, none⟩))) rfl (by kernel_rfl) (by kernel_rfl) (by kernel_rfl) (fun _ _ _ h => h) (Or.inl ⟨by rfl, ?_⟩) (by assumption) ?_
  · intro w9 hSw
    try dsimp only at hSw
    go_simp
    all_goals try decide
    all_goals try assumption
    all_goals try omega
  try simp only [Act.put, List.getElem_toArray, List.getElem_cons_succ, List.getElem_cons_zero, List.setIfInBounds_toArray, List.set_cons_zero, List.set_cons_succ]
  refine wpAnyH_take (i := 14) (v := (.int .u8 d0)) rfl (by kernel_rfl) (by kernel_rfl) (by kernel_rfl) (fun _ _ _ h => h) (Or.inl ⟨by rfl, ?_⟩) (by assumption) ?_
  · intro w9 hSw
    try dsimp only at hSw
    have hc9 := cl11 hSw f2
    go_simp
    all_goals try assumption
  try simp only [Act.put, List.getElem_toArray, List.getElem_cons_succ, List.getElem_cons_zero, List.setIfInBounds_toArray, List.set_cons_zero, List.set_cons_succ]
  refine wpAnyH_ready (rs := [15]) (by kernel_rfl) (by simp) ?_
  refine AllReadyH.cons rfl (fun K' hK => ?_) AllReadyH.nil
  rw [if_pos (by rfl)]
  simp only [List.getElem_toArray, List.getElem_cons_succ, List.getElem_cons_zero]
  have S0 := hHeld
  go_wp2_with fail
  refine (IS _).mono ?_
  rintro e w1 ⟨rfl, rfl⟩
  try go_wp2_with fail
  refine hK.out _ _ (S0) (fun hHeld => ?_)
  clear hK K'
  try simp only [Act.put, List.getElem_toArray, List.getElem_cons_succ, List.getElem_cons_zero, List.setIfInBounds_toArray, List.set_cons_zero, List.set_cons_succ]
  refine wpAnyH_take (i := 16) (v := (.bool false)) rfl (by kernel_rfl) (by kernel_rfl) (by kernel_rfl) (fun _ _ _ h => h) (Or.inl ⟨by rfl, ?_⟩) (by assumption) ?_
  · intro w9 hSw
    try dsimp only at hSw
    go_simp
    all_goals try decide
    all_goals try assumption
    all_goals try omega
  try simp only [Act.put, List.getElem_toArray, List.getElem_cons_succ, List.getElem_cons_zero, List.setIfInBounds_toArray, List.set_cons_zero, List.set_cons_succ]
  refine wpAnyH_take (i := 17) (v := (.bool false)) rfl (by kernel_rfl) (by kernel_rfl) (by kernel_rfl) (fun _ _ _ h => h) (Or.inl ⟨by rfl, ?_⟩) (by assumption) ?_
  · intro w9 hSw
    try dsimp only at hSw
    go_simp
    all_goals try decide
    all_goals try assumption
    all_goals try omega
  try simp only [Act.put, List.getElem_toArray, List.getElem_cons_succ, List.getElem_cons_zero, List.setIfInBounds_toArray, List.set_cons_zero, List.set_cons_succ]
  refine wpAnyH_take (i := 18) (v := (.bool false)) rfl (by kernel_rfl) (by kernel_rfl) (by kernel_rfl) (fun _ _ _ h => h) (Or.inl ⟨by rfl, ?_⟩) (by assumption) ?_
  · intro w9 hSw
    try dsimp only at hSw
    go_simp
    all_goals try decide
    all_goals try assumption
    all_goals try omega
  try simp only [Act.put, List.getElem_toArray, List.getElem_cons_succ, List.getElem_cons_zero, List.setIfInBounds_toArray, List.set_cons_zero, List.set_cons_succ]
  refine wpAnyH_take (i := 19) (v := (frV (1792 + (k : Int)) n d0 d1 d2 d3 d4 d5 d6 d7 r)) rfl (by kernel_rfl) (by kernel_rfl) (by kernel_rfl) (fun _ _ _ h => h) (Or.inl ⟨by rfl, ?_⟩) (by assumption) ?_
  · intro w9 hSw
    try dsimp only at hSw
    exact ex_load11 37 (.tmp 4) rfl _ _ rfl (loadF _ _ _ _ _ _ _ _ _ _ _ _ _ (blk11 hSw HF.out))
  try simp only [Act.put, List.getElem_toArray, List.getElem_cons_succ, List.getElem_cons_zero, List.setIfInBounds_toArray, List.set_cons_zero, List.set_cons_succ]
  refine wpAnyH_take (i := 20) (v := (.int .i64 (k : Int))) rfl (by kernel_rfl) (by kernel_rfl) (by kernel_rfl) (fun _ _ _ h => h) (Or.inl ⟨by rfl, ?_⟩) (by assumption) ?_
  · intro w9 hSw
    try dsimp only at hSw
    go_simp
    all_goals try decide
    all_goals try assumption
    all_goals try omega
  try simp only [Act.put, List.getElem_toArray, List.getElem_cons_succ, List.getElem_cons_zero, List.setIfInBounds_toArray, List.set_cons_zero, List.set_cons_succ]
  refine wpAnyH_take (i := 21) (v := (.int .u8 (k : Int))) rfl (by kernel_rfl) (by kernel_rfl) (by kernel_rfl) (fun _ _ _ h => h) (Or.inl ⟨by rfl, ?_⟩) (by assumption) ?_
  · intro w9 hSw
    try dsimp only at hSw
    go_simp
    all_goals try decide
    all_goals try assumption
    all_goals try omega
  try simp only [Act.put, List.getElem_toArray, List.getElem_cons_succ, List.getElem_cons_zero, List.setIfInBounds_toArray, List.set_cons_zero, List.set_cons_succ]
  refine wpAnyH_take (i := 22) (v := (.pointer (some ⟨w.heap.size, 2, none⟩))) rfl (by kernel_rfl) (by kernel_rfl) (by kernel_rfl) (fun _ _ _ h => h) (Or.inl ⟨by rfl, ?_⟩) (by assumption) ?_
  · intro w9 hSw
    try dsimp only at hSw
    go_simp
    all_goals try decide
    all_goals try assumption
    all_goals try omega
  try simp only [Act.put, List.getElem_toArray, List.getElem_cons_succ, List.getElem_cons_zero, List.setIfInBounds_toArray, List.set_cons_zero, List.set_cons_succ]
  refine wpAnyH_take (i := 23) (v := (.pointer (some ⟨w.heap.size, 2, none⟩))) rfl (by kernel_rfl) (by kernel_rfl) (by kernel_rfl) (fun _ _ _ h => h) (Or.inl ⟨by rfl, ?_⟩) (by assumption) ?_
  · intro w9 hSw
    try dsimp only at hSw
    go_simp
    all_goals try decide
    all_goals try assumption
    all_goals try omega
  try simp only [Act.put, List.getElem_toArray, List.getElem_cons_succ, List.getElem_cons_zero, List.setIfInBounds_toArray, List.set_cons_zero, List.set_cons_succ]
  refine wpAnyH_take (i := 24) (v := (.int .u8 d0)) rfl (by kernel_rfl) (by kernel_rfl) (by kernel_rfl) (fun _ _ _ h => h) (Or.inl ⟨by rfl, ?_⟩) (by assumption) ?_
  · intro w9 hSw
    try dsimp only at hSw
    have hc9 := cl11 hSw f2
    go_simp
    all_goals try assumption
  try simp only [Act.put, List.getElem_toArray, List.getElem_cons_succ, List.getElem_cons_zero, List.setIfInBounds_toArray, List.set_cons_zero, List.set_cons_succ]
  refine wpAnyH_ready (rs := [25]) (by kernel_rfl) (by simp) ?_
  refine AllReadyH.cons rfl (fun K' hK => ?_) AllReadyH.nil
  rw [if_pos (by rfl)]
  simp only [List.getElem_toArray, List.getElem_cons_succ, List.getElem_cons_zero]
  have S0 := hHeld
  go_wp2_with fail
  refine (BE.out _).mono ?_
  rintro e w1 ⟨rfl, hb⟩
  try go_wp2_with fail
  refine hK.out _ _ (Below.andThen S0 hb) (fun hHeld => ?_)
  clear hK K'
  try simp only [Act.put, List.getElem_toArray, List.getElem_cons_succ, List.getElem_cons_zero, List.setIfInBounds_toArray, List.set_cons_zero, List.set_cons_succ]
  clear hb
  refine wpAnyH_take (i := 26) (v := (.bool false)) rfl (by kernel_rfl) (by kernel_rfl) (by kernel_rfl) (fun _ _ _ h => h) (Or.inl ⟨by rfl, ?_⟩) (by assumption) ?_
  · intro w9 hSw
    try dsimp only at hSw
    have NQ9 := NQ w9
    go_simp
  try simp only [Act.put, List.getElem_toArray, List.getElem_cons_succ, List.getElem_cons_zero, List.setIfInBounds_toArray, List.set_cons_zero, List.set_cons_succ]
  refine wpAnyH_take (i := 27) (v := (.bool false)) rfl (by kernel_rfl) (by kernel_rfl) (by kernel_rfl) (fun _ _ _ h => h) (Or.inl ⟨by rfl, ?_⟩) (by assumption) ?_
  · intro w9 hSw
    try dsimp only at hSw
    go_simp
    all_goals try decide
    all_goals try assumption
    all_goals try omega
  try simp only [Act.put, List.getElem_toArray, List.getElem_cons_succ, List.getElem_cons_zero, List.setIfInBounds_toArray, List.set_cons_zero, List.set_cons_succ]
  refine wpAnyH_take (i := 28) (v := (.bool false)) rfl (by kernel_rfl) (by kernel_rfl) (by kernel_rfl) (fun _ _ _ h => h) (Or.inl ⟨by rfl, ?_⟩) (by assumption) ?_
  · intro w9 hSw
    try dsimp only at hSw
    go_simp
    all_goals try decide
    all_goals try assumption
    all_goals try omega
  try simp only [Act.put, List.getElem_toArray, List.getElem_cons_succ, List.getElem_cons_zero, List.setIfInBounds_toArray, List.set_cons_zero, List.set_cons_succ]
  refine wpAnyH_take (i := 29) (v := (.pointer (some ⟨q, 0, none⟩))) rfl (by kernel_rfl) (by kernel_rfl) (by kernel_rfl) (fun _ _ _ h => h) (Or.inl ⟨by rfl, ?_⟩) (by assumption) ?_
  · intro w9 hSw
    try dsimp only at hSw
    go_simp
    all_goals try decide
    all_goals try assumption
    all_goals try omega
  try simp only [Act.put, List.getElem_toArray, List.getElem_cons_succ, List.getElem_cons_zero, List.setIfInBounds_toArray, List.set_cons_zero, List.set_cons_succ]
  refine wpAnyH_take (i := 30) (v := (.pointer (some ⟨q, 0, none⟩))) rfl (by kernel_rfl) (by kernel_rfl) (by kernel_rfl) (fun _ _ _ h => h) (Or.inl ⟨by rfl, ?_⟩) (by assumption) ?_
  · intro w9 hSw
    try dsimp only at hSw
    go_simp
    all_goals try decide
    all_goals try assumption
    all_goals try omega
  try simp only [Act.put, List.getElem_toArray, List.getElem_cons_succ, List.getElem_cons_zero, List.setIfInBounds_toArray, List.set_cons_zero, List.set_cons_succ]
  refine wpAnyH_take (i := 31) (v := (.pointer (some ⟨q, 0, none⟩))) rfl (by kernel_rfl) (by kernel_rfl) (by kernel_rfl) (fun _ _ _ h => h) (Or.inl ⟨by rfl, ?_⟩) (by assumption) ?_
  · intro w9 hSw
    try dsimp only at hSw
    go_simp
    all_goals try decide
    all_goals try assumption
    all_goals try omega
  try simp only [Act.put, List.getElem_toArray, List.getElem_cons_succ, List.getElem_cons_zero, List.setIfInBounds_toArray, List.set_cons_zero, List.set_cons_succ]
  refine wpAnyH_take (i := 32) (v := (.slice (some ⟨r9, 0, none⟩) 128 128)) rfl (by kernel_rfl) (by kernel_rfl) (by kernel_rfl) (fun _ _ _ h => h) (Or.inl ⟨by rfl, ?_⟩) (by assumption) ?_
  · intro w9 hSw
    try dsimp only at hSw
    have hc9 := cl11 hSw cq
    go_simp
    all_goals try assumption
  try simp only [Act.put, List.getElem_toArray, List.getElem_cons_succ, List.getElem_cons_zero, List.setIfInBounds_toArray, List.set_cons_zero, List.set_cons_succ]
  refine wpAnyH_take (i := 33) (v := (.int .i64 (k : Int))) rfl (by kernel_rfl) (by kernel_rfl) (by kernel_rfl) (fun _ _ _ h => h) (Or.inl ⟨by rfl, ?_⟩) (by assumption) ?_
  · intro w9 hSw
    try dsimp only at hSw
    go_simp
    all_goals try decide
    all_goals try assumption
    all_goals try omega
  try simp only [Act.put, List.getElem_toArray, List.getElem_cons_succ, List.getElem_cons_zero, List.setIfInBounds_toArray, List.set_cons_zero, List.set_cons_succ]
  refine wpAnyH_take (i := 34) (v := (.pointer (some ⟨r9, k * 5, none⟩))) rfl (by kernel_rfl) (by kernel_rfl) (by kernel_rfl) (fun _ _ _ h => h) (Or.inl ⟨by rfl, ?_⟩) (by assumption) ?_
  · intro w9 hSw
    try dsimp only at hSw
    go_simp
    all_goals try decide
    all_goals try assumption
    all_goals try omega
  try simp only [Act.put, List.getElem_toArray, List.getElem_cons_succ, List.getElem_cons_zero, List.setIfInBounds_toArray, List.set_cons_zero, List.set_cons_succ]
  refine wpAnyH_take (i := 35) (v := (.pointer (some ⟨r9, k * 5, none⟩))) rfl (by kernel_rfl) (by kernel_rfl) (by kernel_rfl) (fun _ _ _ h => h) (Or.inl ⟨by rfl, ?_⟩) (by assumption) ?_
  · intro w9 hSw
    try dsimp only at hSw
    go_simp
    all_goals try decide
    all_goals try assumption
    all_goals try omega
  try simp only [Act.put, List.getElem_toArray, List.getElem_cons_succ, List.getElem_cons_zero, List.setIfInBounds_toArray, List.set_cons_zero, List.set_cons_succ]
  refine wpAnyH_take (i := 36) (v := (.int .i64 xW)) rfl (by kernel_rfl) (by kernel_rfl) (by kernel_rfl) (fun _ _ _ h => h) (Or.inl ⟨by rfl, ?_⟩) (by assumption) ?_
  · intro w9 hSw
    try dsimp only at hSw
    have hc9 := cl11 hSw e0
    go_simp
    all_goals try assumption
  try simp only [Act.put, List.getElem_toArray, List.getElem_cons_succ, List.getElem_cons_zero, List.setIfInBounds_toArray, List.set_cons_zero, List.set_cons_succ]
  refine wpAnyH_take (i := 37) (v := (.bool false)) rfl (by kernel_rfl) (by kernel_rfl) (by kernel_rfl) (fun _ _ _ h => h) (Or.inl ⟨by rfl, ?_⟩) (by assumption) ?_
  · intro w9 hSw
    try dsimp only at hSw
    go_simp
    all_goals try decide
    all_goals try assumption
    all_goals try omega
  try simp only [Act.put, List.getElem_toArray, List.getElem_cons_succ, List.getElem_cons_zero, List.setIfInBounds_toArray, List.set_cons_zero, List.set_cons_succ]
  refine wpAnyH_take (i := 38) (v := (.bool false)) rfl (by kernel_rfl) (by kernel_rfl) (by kernel_rfl) (fun _ _ _ h => h) (Or.inl ⟨by rfl, ?_⟩) (by assumption) ?_
  · intro w9 hSw
    try dsimp only at hSw
    go_simp
    all_goals try decide
    all_goals try assumption
    all_goals try omega
  try simp only [Act.put, List.getElem_toArray, List.getElem_cons_succ, List.getElem_cons_zero, List.setIfInBounds_toArray, List.set_cons_zero, List.set_cons_succ]
  refine wpAnyH_done (by kernel_rfl) ?_ _
  have y0 := hHeld
  clear hHeld
  generalize hz9 : (w1 : World) = z at y0 ⊢
  clear hz9
  have GZ : Hid (z.heap[w.heap.size + 1]? = some (.cells (evA 0 0 0) 58 (0, 0))) := blk11 y0 HG.out
  have BZ : Hid (Below w.heap.size w z) := Below.andThen HY.out y0
  have DZ : Hid (IsD z q r9 S) := DY.out.next y0
  have f2 : z.cell? ⟨w.heap.size, 2, none⟩ = some (.int .u8 d0) := cl11 y0 f2
  have lf : w.heap.size < z.heap.size := block_lt_of_cell f2
  have L6 : Hid (w.heap.size + 1 ≠ r9) := by show _ ≠ _; have := lt_of_heap HD.out.l; omega
  clear y0 HF HG HY DY cq e0 BE NQ TM IS
  have cq := DZ.out.c0
  have LD := DZ.out.load HX.out
  rw [show (Nd.mk xW true false XS XT).D.toArray = #[.int .i64 xW, .bool true, .bool false, .int .u8 XS, .int .i64 XT] from rfl] at LD
  have hz2 : (d0 == XS) = false := by simpa using hz1
  have hz3 : (d0 != XS) = true := by simpa using hz1
  have hz4 : (d0 == 0) = false := by simpa using hz0
  go_wp2_with (refine wpList_load_by rfl 89 _ rfl ⟨r9, k * 5, none⟩ _ rfl LD ?_)
  have gb := ext11 (o := .cells (evA (k : Int) 2 d0) 58) (at11 z (.cells #[.int .i64 xW, .bool true, .bool false, .int .u8 XS, .int .i64 XT] 89) z.heap.size rfl)
  have ge := at11 (z.alloc (.cells #[.int .i64 xW, .bool true, .bool false, .int .u8 XS, .int .i64 XT] 89)) (.cells (evA (k : Int) 2 d0) 58) (z.heap.size + 1) (by simp)
  have U0 : Below z.heap.size z ((z.alloc (.cells #[.int .i64 xW, .bool true, .bool false, .int .u8 XS, .int .i64 XT] 89)).alloc (.cells (evA (k : Int) 2 d0) 58)) := (by repeat (first | exact Below.refl _ _ | apply Below.drew | apply Below.al))
  obtain ⟨bz, hbz⟩ : ∃ bz, bz = z.heap.size := ⟨_, rfl⟩
  obtain ⟨be, hbe⟩ : ∃ be, be = z.heap.size + 1 := ⟨_, rfl⟩
  rw [← hbe] at ge ⊢
  rw [← hbz] at gb ⊢
  generalize hu : ((z.alloc (.cells #[.int .i64 xW, .bool true, .bool false, .int .u8 XS, .int .i64 XT] 89)).alloc (.cells (evA (k : Int) 2 d0) 58) : World) = u at gb ge U0 ⊢
  clear hu LD
  have DU := DZ.out.next U0
  have cq := DU.c0
  have ST9 := (DU.next (Below.drew (Below.refl _ _))).store gn (Nd.mk xW true false d0 now)
  rw [show (Nd.mk xW true false d0 now).D.toArray = #[.int .i64 xW, .bool true, .bool false, .int .u8 d0, .int .i64 now] from rfl] at ST9
  have b0 : u.cell? ⟨bz, 0, none⟩ = some (.int .i64 xW) := by rw [cell_of_row u _ 0 _ _ _ gb]; rfl
  have b2 : u.cell? ⟨be, 2, none⟩ = some (.int .u8 d0) := by rw [cell_of_row u _ 2 _ _ _ ge]; rfl
  have lr := lt_of_heap DZ.out.l
  have nq : q ≠ r9 := DZ.out.ne
  have nz : bz ≠ r9 := by omega
  have ne : be ≠ r9 := by omega
  clear hbz hbe
  have PU := (DU.next (Below.drew (Below.refl _ _))).put k (Nd.mk xW true false d0 now)
  have ge2 : (u.drew.setRow r9 (rowD (S.set k (Nd.mk xW true false d0 now)))).heap[be]? = some (.cells (evA (k : Int) 2 d0) 58 (0, 0)) := sh11 ne ge
  have l6 : w.heap.size + 1 ≠ r9 := L6.out
  have g6 : (u.drew.setRow r9 (rowD (S.set k (Nd.mk xW true false d0 now)))).heap[w.heap.size + 1]? = some (.cells (evA 0 0 0) 58 (0, 0)) := sh11 l6 (blk11 (Below.drew U0) GZ.out)
  have KF : Kp [r9] w (u.drew.setRow r9 (rowD (S.set k (Nd.mk xW true false d0 now)))) := ((Kp.of (Below.andThen BZ.out U0)).drew).trans PU.2
  refine wp_region_held_drew (S := fun x => True ∧ x.cell? ⟨q, 0, none⟩ = some (.slice (some ⟨r9, 0, none⟩) 128 128) ∧ x.cell? ⟨bz, 0, none⟩ = some (.int .i64 xW) ∧ x.cell? ⟨be, 2, none⟩ = some (.int .u8 d0)) (by kernel_rfl) (⟨trivial, cq, b0, b2⟩) (fun hHeld => ?_)
  refine wpAnyH_take (i := 0) (v := (.pointer (some ⟨q, 0, none⟩))) rfl (by kernel_rfl) (by kernel_rfl) (by kernel_rfl) (fun _ _ _ h => h) (Or.inl ⟨by rfl, ?_⟩) (by assumption) ?_
  · intro w9 hSw
    try dsimp only at hSw
    go_simp
    all_goals try decide
    all_goals try assumption
    all_goals try omega
  try simp only [Act.put, List.getElem_toArray, List.getElem_cons_succ, List.getElem_cons_zero, List.setIfInBounds_toArray, List.set_cons_zero, List.set_cons_succ]
  refine wpAnyH_take (i := 1) (v := (.pointer (some ⟨q, 0, none⟩))) rfl (by kernel_rfl) (by kernel_rfl) (by kernel_rfl) (fun _ _ _ h => h) (Or.inl ⟨by rfl, ?_⟩) (by assumption) ?_
  · intro w9 hSw
    try dsimp only at hSw
    go_simp
    all_goals try decide
    all_goals try assumption
    all_goals try omega
  try simp only [Act.put, List.getElem_toArray, List.getElem_cons_succ, List.getElem_cons_zero, List.setIfInBounds_toArray, List.set_cons_zero, List.set_cons_succ]
  refine wpAnyH_take (i := 2) (v := (.pointer (some ⟨q, 0, none⟩))) rfl (by kernel_rfl) (by kernel_rfl) (by kernel_rfl) (fun _ _ _ h => h) (Or.inl ⟨by rfl, ?_⟩) (by assumption) ?_
  · intro w9 hSw
    try dsimp only at hSw
    go_simp
    all_goals try decide
    all_goals try assumption
    all_goals try omega
  try simp only [Act.put, List.getElem_toArray, List.getElem_cons_succ, List.getElem_cons_zero, List.setIfInBounds_toArray, List.set_cons_zero, List.set_cons_succ]
  refine wpAnyH_take (i := 3) (v := (.slice (some ⟨r9, 0, none⟩) 128 128)) rfl (by kernel_rfl) (by kernel_rfl) (by kernel_rfl) (fun _ _ _ h => h) (Or.inl ⟨by rfl, ?_⟩) (by assumption) ?_
  · intro w9 hSw
    try dsimp only at hSw
    go_simp
    all_goals try decide
    all_goals try assumption
    all_goals try omega
  try simp only [Act.put, List.getElem_toArray, List.getElem_cons_succ, List.getElem_cons_zero, List.setIfInBounds_toArray, List.set_cons_zero, List.set_cons_succ]
  refine wpAnyH_take (i := 4) (v := (.int .i64 (k : Int))) rfl (by kernel_rfl) (by kernel_rfl) (by kernel_rfl) (fun _ _ _ h => h) (Or.inl ⟨by rfl, ?_⟩) (by assumption) ?_
  · intro w9 hSw
    try dsimp only at hSw
    go_simp
    all_goals try decide
    all_goals try assumption
    all_goals try omega
  try simp only [Act.put, List.getElem_toArray, List.getElem_cons_succ, List.getElem_cons_zero, List.setIfInBounds_toArray, List.set_cons_zero, List.set_cons_succ]
  refine wpAnyH_take (i := 5) (v := (.pointer (some ⟨bz, 0, none⟩))) rfl (by kernel_rfl) (by kernel_rfl) (by kernel_rfl) (fun _ _ _ h => h) (Or.inl ⟨by rfl, ?_⟩) (by assumption) ?_
  · intro w9 hSw
    try dsimp only at hSw
    go_simp
    all_goals try decide
    all_goals try assumption
    all_goals try omega
  try simp only [Act.put, List.getElem_toArray, List.getElem_cons_succ, List.getElem_cons_zero, List.setIfInBounds_toArray, List.set_cons_zero, List.set_cons_succ]
  refine wpAnyH_take (i := 6) (v := (.int .i64 xW)) rfl (by kernel_rfl) (by kernel_rfl) (by kernel_rfl) (fun _ _ _ h => h) (Or.inl ⟨by rfl, ?_⟩) (by assumption) ?_
  · intro w9 hSw
    try dsimp only at hSw
    go_simp
    all_goals try decide
    all_goals try assumption
    all_goals try omega
  try simp only [Act.put, List.getElem_toArray, List.getElem_cons_succ, List.getElem_cons_zero, List.setIfInBounds_toArray, List.set_cons_zero, List.set_cons_succ]
  refine wpAnyH_take (i := 7) (v := (.pointer (some ⟨be, 2, none⟩))) rfl (by kernel_rfl) (by kernel_rfl) (by kernel_rfl) (fun _ _ _ h => h) (Or.inl ⟨by rfl, ?_⟩) (by assumption) ?_
  · intro w9 hSw
    try dsimp only at hSw
    go_simp
    all_goals try decide
    all_goals try assumption
    all_goals try omega
  try simp only [Act.put, List.getElem_toArray, List.getElem_cons_succ, List.getElem_cons_zero, List.setIfInBounds_toArray, List.set_cons_zero, List.set_cons_succ]
  refine wpAnyH_take (i := 8) (v := (.int .u8 d0)) rfl (by kernel_rfl) (by kernel_rfl) (by kernel_rfl) (fun _ _ _ h => h) (Or.inl ⟨by rfl, ?_⟩) (by assumption) ?_
  · intro w9 hSw
    try dsimp only at hSw
    go_simp
    all_goals try decide
    all_goals try assumption
    all_goals try omega
  try simp only [Act.put, List.getElem_toArray, List.getElem_cons_succ, List.getElem_cons_zero, List.setIfInBounds_toArray, List.set_cons_zero, List.set_cons_succ]
  refine wpAnyH_take (i := 9) (v := (.int .i64 now)) rfl (by kernel_rfl) (by kernel_rfl) (by kernel_rfl) (fun _ _ _ h => h) (Or.inl ⟨by rfl, ?_⟩) (by assumption) ?_
  · intro w9 hSw
    try dsimp only at hSw
    go_simp
    all_goals try decide
    all_goals try assumption
    all_goals try omega
  try simp only [Act.put, List.getElem_toArray, List.getElem_cons_succ, List.getElem_cons_zero, List.setIfInBounds_toArray, List.set_cons_zero, List.set_cons_succ]
  refine wpAnyH_take (i := 10) (v := (.agg #[.int .i64 xW, .bool true, .bool false, .int .u8 d0, .int .i64 now])) rfl (by kernel_rfl) (by kernel_rfl) (by kernel_rfl) (fun _ _ _ h => h) (Or.inl ⟨by rfl, ?_⟩) (by assumption) ?_
  · intro w9 hSw
    try dsimp only at hSw
    go_simp
    all_goals try decide
    all_goals try assumption
    all_goals try omega
  try simp only [Act.put, List.getElem_toArray, List.getElem_cons_succ, List.getElem_cons_zero, List.setIfInBounds_toArray, List.set_cons_zero, List.set_cons_succ]
  refine wpAnyH_take (i := 11) (v := (.pointer (some ⟨r9, k * 5, none⟩))) rfl (by kernel_rfl) (by kernel_rfl) (by kernel_rfl) (fun _ _ _ h => h) (Or.inl ⟨by rfl, ?_⟩) (by assumption) ?_
  · intro w9 hSw
    try dsimp only at hSw
    go_simp
    all_goals try decide
    all_goals try assumption
    all_goals try omega
  try simp only [Act.put, List.getElem_toArray, List.getElem_cons_succ, List.getElem_cons_zero, List.setIfInBounds_toArray, List.set_cons_zero, List.set_cons_succ]
  refine wpAnyH_ready (rs := [12]) (by kernel_rfl) (by simp) ?_
  refine AllReadyH.cons rfl (fun K' hK => ?_) AllReadyH.nil
  rw [if_pos (by rfl)]
  simp only [List.getElem_toArray, List.getElem_cons_succ, List.getElem_cons_zero]
  obtain ⟨_, S0, S1, S2⟩ := hHeld
  refine wp_store_by 89 _ _ rfl ⟨r9, k * 5, none⟩ _ rfl rfl ST9 ?_
  refine hK.out _ _ (⟨trivial, sr11 nq S0, sr11 nz S1, sr11 ne S2⟩) (fun hHeld => ?_)
  clear hK K'
  try simp only [Act.put, List.getElem_toArray, List.getElem_cons_succ, List.getElem_cons_zero, List.setIfInBounds_toArray, List.set_cons_zero, List.set_cons_succ]
  refine wpAnyH_done (by kernel_rfl) ?_ _
  clear hHeld S0 S1 S2 ST9 b0 b2 cq nq nz ne DU gb U0 l6 lr
  have FIN : Hid (∀ C, IsD ((u.drew.setRow r9 (rowD (S.set k (Nd.mk xW true false d0 now)))).setRow (w.heap.size + 1) C) q r9 (S.set k (Nd.mk xW true false d0 now)) ∧ Kp [r9] w ((u.drew.setRow r9 (rowD (S.set k (Nd.mk xW true false d0 now)))).setRow (w.heap.size + 1) C)) := fun C => ⟨PU.1.same fun j C' T f hj hT => sh11 (fun e => by rw [e, g6] at hj; cases hj; rcases hT with hT | hT <;> exact absurd hT (by decide)) hj, KF.row _ _ (.inr (by omega))⟩
  generalize hv : (u.drew.setRow r9 (rowD (S.set k (Nd.mk xW true false d0 now))) : World) = v at ge2 g6 FIN ⊢
  clear hv PU KF
  have v0 : v.cell? ⟨be, 0, none⟩ = some (.int .u8 (k : Int)) := by rw [cell_of_row v _ 0 _ _ _ ge2]; rfl
  have v1 : v.cell? ⟨be, 1, none⟩ = some (.int .u8 2) := by rw [cell_of_row v _ 1 _ _ _ ge2]; rfl
  have v2 : v.cell? ⟨be, 2, none⟩ = some (.int .u8 d0) := by rw [cell_of_row v _ 2 _ _ _ ge2]; rfl
  have lv := lt_of_heap ge2
  go_wp2_with (refine wpList_store_row rfl 58 _ _ rfl (w.heap.size + 1) (evA (k : Int) 2 d0) rfl rfl 58 _ g6 infoUT rfl (evA_one _ _ _) ?_)
  have hc := fun j => cell_of_row (v.setRow (w.heap.size + 1) (evA (k : Int) 2 d0)) (w.heap.size + 1) j _ _ _ (setRow_heap _ _ _ _ _ _ g6)
  refine bodyPost_ret (v := (.tuple #[.agg (evA (k : Int) 2 d0), .bool true])) ?_ rfl ⟨by rw [RE.out], FIN.out (evA (k : Int) 2 d0)⟩
  simp [results, Try.results22, go_sem, hc]
#print axioms rhear_other
end Go.Proofs.Ytjdfacjfpdfafaa
