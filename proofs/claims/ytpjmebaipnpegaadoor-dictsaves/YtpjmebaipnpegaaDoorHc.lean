/-
  The order of places.
-/
import Derived.Test.YtpjmebaipnpegaaDoorHa
import Derived.Sort.Grow
import Derived.Test.YtpjmebaipnpegaaDoorTk9
namespace Go.Proofs.YtpjmebaipnpegaaDoor
open Go.RowKit

/-- Blocks are laid, and orders drawn; nothing else. -/
def Gr (w x : World) : Prop := ∃ q os, x = Go.Sort.grow (w.drewN q) os
theorem Gr.refl (w : World) : Gr w w := ⟨0, #[], by simp [Go.Sort.grow, World.drewN]⟩
theorem Gr.al {w x : World} (h : Gr w x) (o : Obj) : Gr w (x.alloc o) := by
  obtain ⟨q, os, rfl⟩ := h
  exact ⟨q, os.push o, by simp [Go.Sort.grow, World.alloc]⟩
theorem Gr.drew {w x : World} (h : Gr w x) : Gr w x.drew := by
  obtain ⟨q, os, rfl⟩ := h
  exact ⟨q + 1, os, by simp [Go.Sort.grow, World.drew, World.drewN, Nat.add_assoc]⟩

set_option linter.unusedSimpArgs false in
set_option maxHeartbeats 4000000 in
set_option maxRecDepth 100000 in
theorem isNaN16 (x : Int) (w : World) : Calls Tryd.prog 61 #[.int .u16 x] w fun e w' => e = .returned (.bool false) ∧ w' = w := by
  go_enter Tryd.func61, Tryd.ntmps61
  go_wp2_with fail
  go_ret
  exact ⟨by simp, rfl⟩

set_option linter.unusedSimpArgs false in
set_option maxHeartbeats 4000000 in
set_option maxRecDepth 100000 in
theorem isNaN8 (x : Int) (w : World) : Calls Tryd.prog 62 #[.int .u8 x] w fun e w' => e = .returned (.bool false) ∧ w' = w := by
  go_enter Tryd.func62, Tryd.ntmps62
  go_wp2_with fail
  go_ret
  exact ⟨by simp, rfl⟩

/-- -1, 0 or 1. -/
def cmpI (x y : Int) : Int := if x < y then -1 else if y < x then 1 else 0

set_option linter.unusedSimpArgs false in
set_option maxHeartbeats 4000000 in
set_option maxRecDepth 100000 in
theorem cmp16 (x y : Int) (w : World) : Calls Tryd.prog 50 #[.int .u16 x, .int .u16 y] w fun e w' => e = .returned (.int .i64 (cmpI x y)) ∧ w' = w := by
  have N1 : Hid (∀ x W, Calls Tryd.prog 61 #[.int .u16 x] W fun e w' => e = .returned (.bool false) ∧ w' = W) := fun x W => isNaN16 x W
  go_enter Tryd.func50, Tryd.ntmps50
  go_wp2_with fail
  refine (N1.out _ _).mono ?_
  rintro e w1 ⟨rfl, rfl⟩
  go_wp2_with fail
  refine (N1.out _ _).mono ?_
  rintro e w2 ⟨rfl, rfl⟩
  by_cases h1 : x < y
  · have E : Hid (cmpI x y = -1) := by show _ = _; unfold cmpI; rw [if_pos h1]
    go_wp2_with fail
    go_ret
    exact ⟨by rw [E.out]; rfl, rfl⟩
  · by_cases h2 : y < x
    · have E : Hid (cmpI x y = 1) := by show _ = _; unfold cmpI; rw [if_neg h1, if_pos h2]
      go_wp2_with fail
      go_ret
      exact ⟨by rw [E.out]; rfl, rfl⟩
    · have E : Hid (cmpI x y = 0) := by show _ = _; unfold cmpI; rw [if_neg h1, if_neg h2]
      go_wp2_with fail
      go_ret
      exact ⟨by rw [E.out]; rfl, rfl⟩

set_option linter.unusedSimpArgs false in
set_option maxHeartbeats 4000000 in
set_option maxRecDepth 100000 in
theorem cmp8 (x y : Int) (w : World) : Calls Tryd.prog 51 #[.int .u8 x, .int .u8 y] w fun e w' => e = .returned (.int .i64 (cmpI x y)) ∧ w' = w := by
  have N1 : Hid (∀ x W, Calls Tryd.prog 62 #[.int .u8 x] W fun e w' => e = .returned (.bool false) ∧ w' = W) := fun x W => isNaN8 x W
  go_enter Tryd.func51, Tryd.ntmps51
  go_wp2_with fail
  refine (N1.out _ _).mono ?_
  rintro e w1 ⟨rfl, rfl⟩
  go_wp2_with fail
  refine (N1.out _ _).mono ?_
  rintro e w2 ⟨rfl, rfl⟩
  by_cases h1 : x < y
  · have E : Hid (cmpI x y = -1) := by show _ = _; unfold cmpI; rw [if_pos h1]
    go_wp2_with fail
    go_ret
    exact ⟨by rw [E.out]; rfl, rfl⟩
  · by_cases h2 : y < x
    · have E : Hid (cmpI x y = 1) := by show _ = _; unfold cmpI; rw [if_neg h1, if_pos h2]
      go_wp2_with fail
      go_ret
      exact ⟨by rw [E.out]; rfl, rfl⟩
    · have E : Hid (cmpI x y = 0) := by show _ = _; unfold cmpI; rw [if_neg h1, if_neg h2]
      go_wp2_with fail
      go_ret
      exact ⟨by rw [E.out]; rfl, rfl⟩

set_option linter.unusedSimpArgs false in
set_option maxHeartbeats 4000000 in
set_option maxRecDepth 100000 in
theorem or2 (B : Nat) (a b : Int) (w : World) (h0 : w.cell? ⟨B, 0, none⟩ = some (.int .i64 a)) (h1 : w.cell? ⟨B, 1, none⟩ = some (.int .i64 b)) :
    Calls Tryd.prog 49 #[.slice (some ⟨B, 0, none⟩) 2 2] w fun e w' => ∃ r, e = .returned (.int .i64 r) ∧ Hid (r = if a = 0 then b else a) ∧ w' = w := by
  go_enter Tryd.func49, Tryd.ntmps49
  go_wp2_with fail
  go_loopw [8] (fun iv wr => ∃ k : Nat, k ≤ 2 ∧ iv = .int .i64 (k : Int) ∧ wr = w ∧ (1 ≤ k → a = 0) ∧ (2 ≤ k → b = 0)) (fun iv _ => 2 - (intOf iv).toNat)
  case atStart => exact ⟨0, Nat.zero_le _, rfl, rfl, fun h => by omega, fun h => by omega⟩
  case round =>
    obtain ⟨k, hk, rfl, rfl, ha, hb⟩ := hrel
    obtain rfl | rfl | rfl : k = 0 ∨ k = 1 ∨ k = 2 := by omega
    · clear ha hb
      by_cases hz : a = 0
      · subst hz
        go_wp2_with fail
        exact ⟨⟨1, by omega, by go_num, (by first | trivial | rfl | (intro h; omega) | simp), (by first | trivial | rfl | (intro h; omega) | simp), (by first | trivial | rfl | (intro h; omega) | simp)⟩, by simp [intOf]⟩
      · go_wp2_with fail
        go_ret
        exact ⟨_, rfl, by show _ = _; simp [hz], rfl⟩
    · have hz := ha (by omega)
      clear ha hb
      subst hz
      by_cases hz : b = 0
      · subst hz
        go_wp2_with fail
        exact ⟨⟨2, by omega, by go_num, (by first | trivial | rfl | (intro h; omega) | simp), (by first | trivial | rfl | (intro h; omega) | simp), (by first | trivial | rfl | (intro h; omega) | simp)⟩, by simp [intOf]⟩
      · go_wp2_with fail
        go_ret
        exact ⟨_, rfl, by show _ = _; simp, rfl⟩
    · have hz := ha (by omega)
      have hy := hb (by omega)
      clear ha hb
      subst hz
      subst hy
      go_wp2_with fail
      go_ret
      exact ⟨_, rfl, by show _ = _; simp, rfl⟩

/-- Which of two places goes first. -/
def cfP (x y : Pq) : Int := if cmpI x.i y.i = 0 then cmpI x.s y.s else cmpI x.i y.i

set_option linter.unusedSimpArgs false in
set_option maxHeartbeats 4000000 in
set_option maxRecDepth 100000 in
theorem cmpPl (x1 x2 y1 y2 : Int) (w : World) :
    Calls Tryd.prog 39 #[plV x1 x2, plV y1 y2] w fun e w' => e = .returned (.int .i64 (cfP ⟨x1, x2⟩ ⟨y1, y2⟩)) ∧ Gr w w' := by
  go_enter Tryd.func39, Tryd.ntmps39
  go_wp2_with fail
  refine wp_region_held_drew (S := fun x => Gr w x ∧ x.heap[w.heap.size]? = some (.cells #[.int .u16 x1, .int .u8 x2] 33 (0, 0)) ∧ x.heap[w.heap.size + 1]? = some (.cells #[.int .u16 y1, .int .u8 y2] 33 (0, 0))) (by kernel_rfl) (⟨((Gr.refl _).al _).al _ |>.drew, ext11 (at11 _ _ _ rfl), at11 _ _ _ (by simp)⟩) (fun hHeld => ?_)
  refine tk 0 (.pointer (some ⟨w.heap.size, 0, none⟩)) rfl (.inl ⟨by rfl, ?_⟩) ?_
  · intro w9 hSw
    try dsimp only at hSw
    go_simp
    all_goals try decide
    all_goals try assumption
    all_goals try omega
  try simp only [Act.put, gA, gS, gZ, sA, sZ, sS]
  refine tk 1 (.int .u16 x1) rfl (.inl ⟨by rfl, ?_⟩) ?_
  · intro w9 hSw
    try dsimp only at hSw
    have c0 : w9.cell? ⟨w.heap.size, 0, none⟩ = some (.int .u16 x1) := by rw [cell_of_row _ _ 0 _ _ _ hSw.2.1]; rfl
    go_simp
    all_goals try assumption
  try simp only [Act.put, gA, gS, gZ, sA, sZ, sS]
  refine tk 2 (.pointer (some ⟨w.heap.size + 1, 0, none⟩)) rfl (.inl ⟨by rfl, ?_⟩) ?_
  · intro w9 hSw
    try dsimp only at hSw
    go_simp
    all_goals try decide
    all_goals try assumption
    all_goals try omega
  try simp only [Act.put, gA, gS, gZ, sA, sZ, sS]
  refine tk 3 (.int .u16 y1) rfl (.inl ⟨by rfl, ?_⟩) ?_
  · intro w9 hSw
    try dsimp only at hSw
    have c0 : w9.cell? ⟨w.heap.size + 1, 0, none⟩ = some (.int .u16 y1) := by rw [cell_of_row _ _ 0 _ _ _ hSw.2.2]; rfl
    go_simp
    all_goals try assumption
  try simp only [Act.put, gA, gS, gZ, sA, sZ, sS]
  refine tk 5 (.pointer (some ⟨w.heap.size, 1, none⟩)) rfl (.inl ⟨by rfl, ?_⟩) ?_
  · intro w9 hSw
    try dsimp only at hSw
    go_simp
    all_goals try decide
    all_goals try assumption
    all_goals try omega
  try simp only [Act.put, gA, gS, gZ, sA, sZ, sS]
  refine tk 6 (.int .u8 x2) rfl (.inl ⟨by rfl, ?_⟩) ?_
  · intro w9 hSw
    try dsimp only at hSw
    have c0 : w9.cell? ⟨w.heap.size, 1, none⟩ = some (.int .u8 x2) := by rw [cell_of_row _ _ 1 _ _ _ hSw.2.1]; rfl
    go_simp
    all_goals try assumption
  try simp only [Act.put, gA, gS, gZ, sA, sZ, sS]
  refine tk 7 (.pointer (some ⟨w.heap.size + 1, 1, none⟩)) rfl (.inl ⟨by rfl, ?_⟩) ?_
  · intro w9 hSw
    try dsimp only at hSw
    go_simp
    all_goals try decide
    all_goals try assumption
    all_goals try omega
  try simp only [Act.put, gA, gS, gZ, sA, sZ, sS]
  refine tk 8 (.int .u8 y2) rfl (.inl ⟨by rfl, ?_⟩) ?_
  · intro w9 hSw
    try dsimp only at hSw
    have c0 : w9.cell? ⟨w.heap.size + 1, 1, none⟩ = some (.int .u8 y2) := by rw [cell_of_row _ _ 1 _ _ _ hSw.2.2]; rfl
    go_simp
    all_goals try assumption
  try simp only [Act.put, gA, gS, gZ, sA, sZ, sS]
  refine wpAnyH_ready (rs := [4]) (by kernel_rfl) (by simp) ?_
  refine AllReadyH.cons rfl (fun K' hK => ?_) AllReadyH.nil
  rw [if_pos (by rfl)]
  simp only [gA, gS, gZ]
  go_wp2_with fail
  refine (cmp16 x1 y1 _).mono ?_
  rintro e z4 ⟨rfl, rfl⟩
  try go_wp2_with fail
  refine hK.out _ _ (hHeld) (fun hHeld => ?_)
  clear hK K'
  try simp only [Act.put, gA, gS, gZ, sA, sZ, sS]
  refine wpAnyH_ready (rs := [9]) (by kernel_rfl) (by simp) ?_
  refine AllReadyH.cons rfl (fun K' hK => ?_) AllReadyH.nil
  rw [if_pos (by rfl)]
  simp only [gA, gS, gZ]
  go_wp2_with fail
  refine (cmp8 x2 y2 _).mono ?_
  rintro e z9 ⟨rfl, rfl⟩
  try go_wp2_with fail
  refine hK.out _ _ (hHeld) (fun hHeld => ?_)
  clear hK K'
  try simp only [Act.put, gA, gS, gZ, sA, sZ, sS]
  refine wpAnyH_ready (rs := [10]) (by kernel_rfl) (by simp) ?_
  refine AllReadyH.cons rfl (fun K' hK => ?_) AllReadyH.nil
  rw [if_pos (by rfl)]
  simp only [gA, gS, gZ]
  go_wp2_with fail
  refine hK.out _ _ (⟨hHeld.1.al _, ext11 hHeld.2.1, ext11 hHeld.2.2⟩) (fun hHeld => ?_)
  clear hK K'
  try simp only [Act.put, gA, gS, gZ, sA, sZ, sS]
  refine wpAnyH_ready (rs := [11]) (by kernel_rfl) (by simp) ?_
  refine AllReadyH.cons rfl (fun K' hK => ?_) AllReadyH.nil
  rw [if_pos (by rfl)]
  simp only [gA, gS, gZ]
  go_wp2_with fail
  refine (or2 (w.heap.size + 1 + 1) (cmpI x1 y1) (cmpI x2 y2) _ (by show (World.alloc _ _).cell? _ = _; rw [cell_of_row _ _ 0 _ _ _ (at11 _ _ _ (by simp))]; rfl) (by show (World.alloc _ _).cell? _ = _; rw [cell_of_row _ _ 1 _ _ _ (at11 _ _ _ (by simp))]; rfl)).mono ?_
  rintro e z9 ⟨r, rfl, hr, rfl⟩
  try go_wp2_with fail
  refine hK.out _ _ (hHeld) (fun hHeld => ?_)
  clear hK K'
  try simp only [Act.put, gA, gS, gZ, sA, sZ, sS]
  refine tk 12 (.int .i64 r) rfl (.inl ⟨by rfl, ?_⟩) ?_
  · intro w9 hSw
    try dsimp only at hSw
    go_simp
    all_goals try decide
    all_goals try assumption
    all_goals try omega
  try simp only [Act.put, gA, gS, gZ, sA, sZ, sS]
  refine wpAnyH_done (by kernel_rfl) ?_ _
  go_wp2_with fail
  go_ret
  exact ⟨by rw [hr.out]; rfl, hHeld.1⟩
#print axioms cmpPl
end Go.Proofs.YtpjmebaipnpegaaDoor
