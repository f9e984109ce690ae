/-
  The walk of the document's Hear.
-/
import Derived.Test.YtlijkgkkoahajaaYl
import Derived.Test.YtlijkgkkoahajaaTk9
namespace Go.Proofs.Ytlijkgkkoahajaa
open Go.RowKit

set_option linter.unusedSimpArgs false in
set_option maxHeartbeats 4000000 in
set_option maxRecDepth 100000 in
theorem uhear_other (p : Nat) (id top W at_ n0 lo wr : Int) (hd : Bool) (i n d0 d1 d2 d3 d4 d5 d6 d7 now : Int) (r : Bool) (h : ¬ i = id) (w : World) (hp : w.heap[p]? = some (.cells (vsC id W top hd at_ n0 lo wr) 58 (0, 0))) : Calls Try.prog 21 #[.pointer (some ⟨p, 0, none⟩), frV i n d0 d1 d2 d3 d4 d5 d6 d7 r, .int .i64 now] w fun e w' => e = .returned (.tuple #[.int .u8 0, .bool false]) ∧ Below w.heap.size w w' := by
  have c0 : w.cell? ⟨p, 0, none⟩ = some (.int .u16 id) := by rw [cell_of_row w _ 0 _ _ _ hp]; rfl
  have hne : (i != id) = true := by simpa using h
  clear hp
  go_enter Try.func21, Try.ntmps21
  go_wp2_with fail
  refine wp_region_held_drew (S := fun x => Below w.heap.size w x ∧ x.cell? ⟨p, 0, none⟩ = some (.int .u16 id) ∧ x.cell? ⟨w.heap.size, 0, none⟩ = some (.int .u16 i) ∧ x.cell? ⟨w.heap.size, 10, none⟩ = some (.bool r)) (by kernel_rfl) (⟨Below.drew (Below.al (Below.refl _ _) _), cla11 c0, by simp [go_sem], by simp [go_sem]⟩) (fun hHeld => ?_)
  refine tk 0 (.pointer (some ⟨w.heap.size, 0, none⟩)) rfl (.inl ⟨by rfl, ?_⟩) ?_
  · intro w9 hSw
    try dsimp only at hSw
    go_simp
    all_goals try decide
    all_goals try assumption
    all_goals try omega
  try simp only [Act.put, gA, gS, gZ, sA, sZ, sS]
  refine tk 1 (.int .u16 i) rfl (.inl ⟨by rfl, ?_⟩) ?_
  · intro w9 hSw
    try dsimp only at hSw
    go_simp
    all_goals try decide
    all_goals try assumption
    all_goals try omega
  try simp only [Act.put, gA, gS, gZ, sA, sZ, sS]
  refine tk 2 (.pointer (some ⟨p, 0, none⟩)) rfl (.inl ⟨by rfl, ?_⟩) ?_
  · intro w9 hSw
    try dsimp only at hSw
    go_simp
    all_goals try decide
    all_goals try assumption
    all_goals try omega
  try simp only [Act.put, gA, gS, gZ, sA, sZ, sS]
  refine tk 3 (.pointer (some ⟨p, 0, none⟩)) rfl (.inl ⟨by rfl, ?_⟩) ?_
  · intro w9 hSw
    try dsimp only at hSw
    go_simp
    all_goals try decide
    all_goals try assumption
    all_goals try omega
  try simp only [Act.put, gA, gS, gZ, sA, sZ, sS]
  refine tk 4 (.pointer (some ⟨p, 0, none⟩)) rfl (.inl ⟨by rfl, ?_⟩) ?_
  · intro w9 hSw
    try dsimp only at hSw
    go_simp
    all_goals try decide
    all_goals try assumption
    all_goals try omega
  try simp only [Act.put, gA, gS, gZ, sA, sZ, sS]
  refine tk 5 (.int .u16 id) rfl (.inl ⟨by rfl, ?_⟩) ?_
  · intro w9 hSw
    try dsimp only at hSw
    go_simp
    all_goals try decide
    all_goals try assumption
    all_goals try omega
  try simp only [Act.put, gA, gS, gZ, sA, sZ, sS]
  refine tk 6 (.bool true) rfl (.inl ⟨by rfl, ?_⟩) ?_
  · intro w9 hSw
    try dsimp only at hSw
    go_simp
    all_goals try decide
    all_goals try assumption
    all_goals try omega
  try simp only [Act.put, gA, gS, gZ, sA, sZ, sS]
  refine tk 7 (.bool true) rfl (.inl ⟨by rfl, ?_⟩) ?_
  · intro w9 hSw
    try dsimp only at hSw
    go_simp
    all_goals try decide
    all_goals try assumption
    all_goals try omega
  try simp only [Act.put, gA, gS, gZ, sA, sZ, sS]
  refine tk 8 undef rfl (.inr ⟨by rfl, rfl⟩) ?_
  try simp only [Act.put, gA, gS, gZ, sA, sZ, sS]
  refine tk 9 undef rfl (.inr ⟨by rfl, rfl⟩) ?_
  try simp only [Act.put, gA, gS, gZ, sA, sZ, sS]
  refine tk 10 (.bool true) rfl (.inl ⟨by rfl, ?_⟩) ?_
  · intro w9 hSw
    try dsimp only at hSw
    go_simp
    all_goals try decide
    all_goals try assumption
    all_goals try omega
  try simp only [Act.put, gA, gS, gZ, sA, sZ, sS]
  refine tk 11 (.bool true) rfl (.inl ⟨by rfl, ?_⟩) ?_
  · intro w9 hSw
    try dsimp only at hSw
    go_simp
    all_goals try decide
    all_goals try assumption
    all_goals try omega
  try simp only [Act.put, gA, gS, gZ, sA, sZ, sS]
  refine tk 12 undef rfl (.inr ⟨by rfl, rfl⟩) ?_
  try simp only [Act.put, gA, gS, gZ, sA, sZ, sS]
  refine tk 13 undef rfl (.inr ⟨by rfl, rfl⟩) ?_
  try simp only [Act.put, gA, gS, gZ, sA, sZ, sS]
  refine tk 14 undef rfl (.inr ⟨by rfl, rfl⟩) ?_
  try simp only [Act.put, gA, gS, gZ, sA, sZ, sS]
  refine tk 15 (.bool true) rfl (.inl ⟨by rfl, ?_⟩) ?_
  · intro w9 hSw
    try dsimp only at hSw
    go_simp
    all_goals try decide
    all_goals try assumption
    all_goals try omega
  try simp only [Act.put, gA, gS, gZ, sA, sZ, sS]
  refine wpAnyH_done (by kernel_rfl) ?_ _
  go_wp2_with fail
  go_ret2
  exact ⟨rfl, hHeld.1⟩
set_option linter.unusedSimpArgs false in
set_option maxHeartbeats 4000000 in
set_option maxRecDepth 100000 in
theorem uhear_remote (p : Nat) (id top W at_ n0 lo wr : Int) (hd : Bool) (n d0 d1 d2 d3 d4 d5 d6 d7 now : Int) (w : World) (hp : w.heap[p]? = some (.cells (vsC id W top hd at_ n0 lo wr) 58 (0, 0))) : Calls Try.prog 21 #[.pointer (some ⟨p, 0, none⟩), frV id n d0 d1 d2 d3 d4 d5 d6 d7 true, .int .i64 now] w fun e w' => e = .returned (.tuple #[.int .u8 0, .bool false]) ∧ Below w.heap.size w w' := by
  have c0 : w.cell? ⟨p, 0, none⟩ = some (.int .u16 id) := by rw [cell_of_row w _ 0 _ _ _ hp]; rfl
  clear hp
  go_enter Try.func21, Try.ntmps21
  go_wp2_with fail
  refine wp_region_held_drew (S := fun x => Below w.heap.size w x ∧ x.cell? ⟨p, 0, none⟩ = some (.int .u16 id) ∧ x.cell? ⟨w.heap.size, 0, none⟩ = some (.int .u16 id) ∧ x.cell? ⟨w.heap.size, 10, none⟩ = some (.bool true)) (by kernel_rfl) (⟨Below.drew (Below.al (Below.refl _ _) _), cla11 c0, by simp [go_sem], by simp [go_sem]⟩) (fun hHeld => ?_)
  refine tk 0 (.pointer (some ⟨w.heap.size, 0, none⟩)) rfl (.inl ⟨by rfl, ?_⟩) ?_
  · intro w9 hSw
    try dsimp only at hSw
    go_simp
    all_goals try decide
    all_goals try assumption
    all_goals try omega
  try simp only [Act.put, gA, gS, gZ, sA, sZ, sS]
  refine tk 1 (.int .u16 id) rfl (.inl ⟨by rfl, ?_⟩) ?_
  · intro w9 hSw
    try dsimp only at hSw
    go_simp
    all_goals try decide
    all_goals try assumption
    all_goals try omega
  try simp only [Act.put, gA, gS, gZ, sA, sZ, sS]
  refine tk 2 (.pointer (some ⟨p, 0, none⟩)) rfl (.inl ⟨by rfl, ?_⟩) ?_
  · intro w9 hSw
    try dsimp only at hSw
    go_simp
    all_goals try decide
    all_goals try assumption
    all_goals try omega
  try simp only [Act.put, gA, gS, gZ, sA, sZ, sS]
  refine tk 3 (.pointer (some ⟨p, 0, none⟩)) rfl (.inl ⟨by rfl, ?_⟩) ?_
  · intro w9 hSw
    try dsimp only at hSw
    go_simp
    all_goals try decide
    all_goals try assumption
    all_goals try omega
  try simp only [Act.put, gA, gS, gZ, sA, sZ, sS]
  refine tk 4 (.pointer (some ⟨p, 0, none⟩)) rfl (.inl ⟨by rfl, ?_⟩) ?_
  · intro w9 hSw
    try dsimp only at hSw
    go_simp
    all_goals try decide
    all_goals try assumption
    all_goals try omega
  try simp only [Act.put, gA, gS, gZ, sA, sZ, sS]
  refine tk 5 (.int .u16 id) rfl (.inl ⟨by rfl, ?_⟩) ?_
  · intro w9 hSw
    try dsimp only at hSw
    go_simp
    all_goals try decide
    all_goals try assumption
    all_goals try omega
  try simp only [Act.put, gA, gS, gZ, sA, sZ, sS]
  refine tk 6 (.bool false) rfl (.inl ⟨by rfl, ?_⟩) ?_
  · intro w9 hSw
    try dsimp only at hSw
    go_simp
    all_goals try decide
    all_goals try assumption
    all_goals try omega
  try simp only [Act.put, gA, gS, gZ, sA, sZ, sS]
  refine tk 7 (.bool false) rfl (.inl ⟨by rfl, ?_⟩) ?_
  · intro w9 hSw
    try dsimp only at hSw
    go_simp
    all_goals try decide
    all_goals try assumption
    all_goals try omega
  try simp only [Act.put, gA, gS, gZ, sA, sZ, sS]
  refine tk 8 (.pointer (some ⟨w.heap.size, 10, none⟩)) rfl (.inl ⟨by rfl, ?_⟩) ?_
  · intro w9 hSw
    try dsimp only at hSw
    go_simp
    all_goals try decide
    all_goals try assumption
    all_goals try omega
  try simp only [Act.put, gA, gS, gZ, sA, sZ, sS]
  refine tk 9 (.bool true) rfl (.inl ⟨by rfl, ?_⟩) ?_
  · intro w9 hSw
    try dsimp only at hSw
    go_simp
    all_goals try decide
    all_goals try assumption
    all_goals try omega
  try simp only [Act.put, gA, gS, gZ, sA, sZ, sS]
  refine tk 10 (.bool true) rfl (.inl ⟨by rfl, ?_⟩) ?_
  · intro w9 hSw
    try dsimp only at hSw
    go_simp
    all_goals try decide
    all_goals try assumption
    all_goals try omega
  try simp only [Act.put, gA, gS, gZ, sA, sZ, sS]
  refine tk 11 (.bool true) rfl (.inl ⟨by rfl, ?_⟩) ?_
  · intro w9 hSw
    try dsimp only at hSw
    go_simp
    all_goals try decide
    all_goals try assumption
    all_goals try omega
  try simp only [Act.put, gA, gS, gZ, sA, sZ, sS]
  refine tk 12 undef rfl (.inr ⟨by rfl, rfl⟩) ?_
  try simp only [Act.put, gA, gS, gZ, sA, sZ, sS]
  refine tk 13 undef rfl (.inr ⟨by rfl, rfl⟩) ?_
  try simp only [Act.put, gA, gS, gZ, sA, sZ, sS]
  refine tk 14 undef rfl (.inr ⟨by rfl, rfl⟩) ?_
  try simp only [Act.put, gA, gS, gZ, sA, sZ, sS]
  refine tk 15 (.bool true) rfl (.inl ⟨by rfl, ?_⟩) ?_
  · intro w9 hSw
    try dsimp only at hSw
    go_simp
    all_goals try decide
    all_goals try assumption
    all_goals try omega
  try simp only [Act.put, gA, gS, gZ, sA, sZ, sS]
  refine wpAnyH_done (by kernel_rfl) ?_ _
  go_wp2_with fail
  go_ret2
  exact ⟨rfl, hHeld.1⟩
set_option linter.unusedSimpArgs false in
set_option maxHeartbeats 4000000 in
set_option maxRecDepth 100000 in
theorem uhear_time (p : Nat) (id top W at_ n0 lo wr : Int) (hd : Bool) (n d0 d1 d2 d3 d4 d5 d6 d7 now : Int) (h : tmB now = false) (w : World) (hp : w.heap[p]? = some (.cells (vsC id W top hd at_ n0 lo wr) 58 (0, 0))) : Calls Try.prog 21 #[.pointer (some ⟨p, 0, none⟩), frV id n d0 d1 d2 d3 d4 d5 d6 d7 false, .int .i64 now] w fun e w' => e = .returned (.tuple #[.int .u8 0, .bool false]) ∧ Below w.heap.size w w' := by
  have c0 : w.cell? ⟨p, 0, none⟩ = some (.int .u16 id) := by rw [cell_of_row w _ 0 _ _ _ hp]; rfl
  have IT := fun X => time_any now X
  rw [h] at IT
  clear hp h
  go_enter Try.func21, Try.ntmps21
  go_wp2_with fail
  refine wp_region_held_drew (S := fun x => Below w.heap.size w x ∧ x.cell? ⟨p, 0, none⟩ = some (.int .u16 id) ∧ x.cell? ⟨w.heap.size, 0, none⟩ = some (.int .u16 id) ∧ x.cell? ⟨w.heap.size, 10, none⟩ = some (.bool false)) (by kernel_rfl) (⟨Below.drew (Below.al (Below.refl _ _) _), cla11 c0, by simp [go_sem], by simp [go_sem]⟩) (fun hHeld => ?_)
  refine tk 0 (.pointer (some ⟨w.heap.size, 0, none⟩)) rfl (.inl ⟨by rfl, ?_⟩) ?_
  · intro w9 hSw
    try dsimp only at hSw
    go_simp
    all_goals try decide
    all_goals try assumption
    all_goals try omega
  try simp only [Act.put, gA, gS, gZ, sA, sZ, sS]
  refine tk 1 (.int .u16 id) rfl (.inl ⟨by rfl, ?_⟩) ?_
  · intro w9 hSw
    try dsimp only at hSw
    go_simp
    all_goals try decide
    all_goals try assumption
    all_goals try omega
  try simp only [Act.put, gA, gS, gZ, sA, sZ, sS]
  refine tk 2 (.pointer (some ⟨p, 0, none⟩)) rfl (.inl ⟨by rfl, ?_⟩) ?_
  · intro w9 hSw
    try dsimp only at hSw
    go_simp
    all_goals try decide
    all_goals try assumption
    all_goals try omega
  try simp only [Act.put, gA, gS, gZ, sA, sZ, sS]
  refine tk 3 (.pointer (some ⟨p, 0, none⟩)) rfl (.inl ⟨by rfl, ?_⟩) ?_
  · intro w9 hSw
    try dsimp only at hSw
    go_simp
    all_goals try decide
    all_goals try assumption
    all_goals try omega
  try simp only [Act.put, gA, gS, gZ, sA, sZ, sS]
  refine tk 4 (.pointer (some ⟨p, 0, none⟩)) rfl (.inl ⟨by rfl, ?_⟩) ?_
  · intro w9 hSw
    try dsimp only at hSw
    go_simp
    all_goals try decide
    all_goals try assumption
    all_goals try omega
  try simp only [Act.put, gA, gS, gZ, sA, sZ, sS]
  refine tk 5 (.int .u16 id) rfl (.inl ⟨by rfl, ?_⟩) ?_
  · intro w9 hSw
    try dsimp only at hSw
    go_simp
    all_goals try decide
    all_goals try assumption
    all_goals try omega
  try simp only [Act.put, gA, gS, gZ, sA, sZ, sS]
  refine tk 6 (.bool false) rfl (.inl ⟨by rfl, ?_⟩) ?_
  · intro w9 hSw
    try dsimp only at hSw
    go_simp
    all_goals try decide
    all_goals try assumption
    all_goals try omega
  try simp only [Act.put, gA, gS, gZ, sA, sZ, sS]
  refine tk 7 (.bool false) rfl (.inl ⟨by rfl, ?_⟩) ?_
  · intro w9 hSw
    try dsimp only at hSw
    go_simp
    all_goals try decide
    all_goals try assumption
    all_goals try omega
  try simp only [Act.put, gA, gS, gZ, sA, sZ, sS]
  refine tk 8 (.pointer (some ⟨w.heap.size, 10, none⟩)) rfl (.inl ⟨by rfl, ?_⟩) ?_
  · intro w9 hSw
    try dsimp only at hSw
    go_simp
    all_goals try decide
    all_goals try assumption
    all_goals try omega
  try simp only [Act.put, gA, gS, gZ, sA, sZ, sS]
  refine tk 9 (.bool false) rfl (.inl ⟨by rfl, ?_⟩) ?_
  · intro w9 hSw
    try dsimp only at hSw
    go_simp
    all_goals try decide
    all_goals try assumption
    all_goals try omega
  try simp only [Act.put, gA, gS, gZ, sA, sZ, sS]
  refine tk 10 (.bool false) rfl (.inl ⟨by rfl, ?_⟩) ?_
  · intro w9 hSw
    try dsimp only at hSw
    go_simp
    all_goals try decide
    all_goals try assumption
    all_goals try omega
  try simp only [Act.put, gA, gS, gZ, sA, sZ, sS]
  refine tk 11 (.bool false) rfl (.inl ⟨by rfl, ?_⟩) ?_
  · intro w9 hSw
    try dsimp only at hSw
    go_simp
    all_goals try decide
    all_goals try assumption
    all_goals try omega
  try simp only [Act.put, gA, gS, gZ, sA, sZ, sS]
  refine tk 12 (.int .i64 now) rfl (.inl ⟨by rfl, ?_⟩) ?_
  · intro w9 hSw
    try dsimp only at hSw
    go_simp
    all_goals try decide
    all_goals try assumption
    all_goals try omega
  try simp only [Act.put, gA, gS, gZ, sA, sZ, sS]
  refine wpAnyH_ready (rs := [13]) (by kernel_rfl) (by simp) ?_
  refine AllReadyH.cons rfl (fun K' hK => ?_) AllReadyH.nil
  rw [if_pos (by rfl)]
  simp only [gA, gS, gZ]
  go_wp2_with fail
  refine (IT _).mono ?_
  rintro e w3 ⟨rfl, rfl⟩
  try go_wp2_with fail
  refine hK.out _ _ (hHeld) (fun hHeld => ?_)
  clear hK K'
  try simp only [Act.put, gA, gS, gZ, sA, sZ, sS]
  refine tk 14 (.bool true) rfl (.inl ⟨by rfl, ?_⟩) ?_
  · intro w9 hSw
    try dsimp only at hSw
    go_simp
    all_goals try decide
    all_goals try assumption
    all_goals try omega
  try simp only [Act.put, gA, gS, gZ, sA, sZ, sS]
  refine tk 15 (.bool true) rfl (.inl ⟨by rfl, ?_⟩) ?_
  · intro w9 hSw
    try dsimp only at hSw
    go_simp
    all_goals try decide
    all_goals try assumption
    all_goals try omega
  try simp only [Act.put, gA, gS, gZ, sA, sZ, sS]
  refine wpAnyH_done (by kernel_rfl) ?_ _
  go_wp2_with fail
  go_ret2
  exact ⟨rfl, hHeld.1⟩
set_option linter.unusedSimpArgs false in
set_option maxHeartbeats 4000000 in
set_option maxRecDepth 100000 in
theorem uwrong_1 (p : Nat) (id W at_ n0 lo wr : Int) (hd : Bool) (n d0 d1 d2 d3 d4 d5 d6 d7 now : Int) (h : tmB now = true) (h1 : ¬ n = 0) (hw : IntKind.i64.wrap (wr + 1) = wr + 1) (w : World) (hp : w.heap[p]? = some (.cells (vsC id W 0 hd at_ n0 lo wr) 58 (0, 0))) : Calls Try.prog 21 #[.pointer (some ⟨p, 0, none⟩), frV id n d0 d1 d2 d3 d4 d5 d6 d7 false, .int .i64 now] w fun e w' => e = .returned (.tuple #[.int .u8 0, .bool false]) ∧ w'.heap[p]? = some (.cells (vsC id W 0 hd at_ n0 lo (wr + 1)) 58 (0, 0)) ∧ Kp [p] w w' := by
  have IT := fun X => time_any now X
  rw [h] at IT
  clear h
  have c0 : w.cell? ⟨p, 0, none⟩ = some (.int .u16 id) := by rw [cell_of_row w _ 0 _ _ _ hp]; rfl
  have c1 : w.cell? ⟨p, 1, none⟩ = some (.int .i64 W) := by rw [cell_of_row w _ 1 _ _ _ hp]; rfl
  have c2 : w.cell? ⟨p, 2, none⟩ = some (.int .u8 0) := by rw [cell_of_row w _ 2 _ _ _ hp]; rfl
  have c3 : w.cell? ⟨p, 3, none⟩ = some (.bool hd) := by rw [cell_of_row w _ 3 _ _ _ hp]; rfl
  have c4 : w.cell? ⟨p, 4, none⟩ = some (.int .i64 at_) := by rw [cell_of_row w _ 4 _ _ _ hp]; rfl
  have c5 : w.cell? ⟨p, 5, none⟩ = some (.int .u8 n0) := by rw [cell_of_row w _ 5 _ _ _ hp]; rfl
  have c6 : w.cell? ⟨p, 6, none⟩ = some (.int .i64 lo) := by rw [cell_of_row w _ 6 _ _ _ hp]; rfl
  have c7 : w.cell? ⟨p, 7, none⟩ = some (.int .i64 wr) := by rw [cell_of_row w _ 7 _ _ _ hp]; rfl
  have lp : p < w.heap.size := lt_of_heap hp
  have z7 := froz11 w p 7 _ _ hp
  have HP : Hid (w.heap[p]? = some (.cells (vsC id W 0 hd at_ n0 lo wr) 58 (0, 0))) := hp
  clear hp
  go_enter Try.func21, Try.ntmps21
  go_wp2_with fail
  refine wp_region_held_drew (S := fun x => Below w.heap.size w x ∧ x.cell? ⟨p, 0, none⟩ = some (.int .u16 id) ∧ x.cell? ⟨w.heap.size, 0, none⟩ = some (.int .u16 id) ∧ x.cell? ⟨w.heap.size, 10, none⟩ = some (.bool false)) (by kernel_rfl) (⟨Below.drew (Below.al (Below.refl _ _) _), cla11 c0, by simp [go_sem], by simp [go_sem]⟩) (fun hHeld => ?_)
  refine tk 0 (.pointer (some ⟨w.heap.size, 0, none⟩)) rfl (.inl ⟨by rfl, ?_⟩) ?_
  · intro w9 hSw
    try dsimp only at hSw
    go_simp
    all_goals try decide
    all_goals try assumption
    all_goals try omega
  try simp only [Act.put, gA, gS, gZ, sA, sZ, sS]
  refine tk 1 (.int .u16 id) rfl (.inl ⟨by rfl, ?_⟩) ?_
  · intro w9 hSw
    try dsimp only at hSw
    go_simp
    all_goals try decide
    all_goals try assumption
    all_goals try omega
  try simp only [Act.put, gA, gS, gZ, sA, sZ, sS]
  refine tk 2 (.pointer (some ⟨p, 0, none⟩)) rfl (.inl ⟨by rfl, ?_⟩) ?_
  · intro w9 hSw
    try dsimp only at hSw
    go_simp
    all_goals try decide
    all_goals try assumption
    all_goals try omega
  try simp only [Act.put, gA, gS, gZ, sA, sZ, sS]
  refine tk 3 (.pointer (some ⟨p, 0, none⟩)) rfl (.inl ⟨by rfl, ?_⟩) ?_
  · intro w9 hSw
    try dsimp only at hSw
    go_simp
    all_goals try decide
    all_goals try assumption
    all_goals try omega
  try simp only [Act.put, gA, gS, gZ, sA, sZ, sS]
  refine tk 4 (.pointer (some ⟨p, 0, none⟩)) rfl (.inl ⟨by rfl, ?_⟩) ?_
  · intro w9 hSw
    try dsimp only at hSw
    go_simp
    all_goals try decide
    all_goals try assumption
    all_goals try omega
  try simp only [Act.put, gA, gS, gZ, sA, sZ, sS]
  refine tk 5 (.int .u16 id) rfl (.inl ⟨by rfl, ?_⟩) ?_
  · intro w9 hSw
    try dsimp only at hSw
    go_simp
    all_goals try decide
    all_goals try assumption
    all_goals try omega
  try simp only [Act.put, gA, gS, gZ, sA, sZ, sS]
  refine tk 6 (.bool false) rfl (.inl ⟨by rfl, ?_⟩) ?_
  · intro w9 hSw
    try dsimp only at hSw
    go_simp
    all_goals try decide
    all_goals try assumption
    all_goals try omega
  try simp only [Act.put, gA, gS, gZ, sA, sZ, sS]
  refine tk 7 (.bool false) rfl (.inl ⟨by rfl, ?_⟩) ?_
  · intro w9 hSw
    try dsimp only at hSw
    go_simp
    all_goals try decide
    all_goals try assumption
    all_goals try omega
  try simp only [Act.put, gA, gS, gZ, sA, sZ, sS]
  refine tk 8 (.pointer (some ⟨w.heap.size, 10, none⟩)) rfl (.inl ⟨by rfl, ?_⟩) ?_
  · intro w9 hSw
    try dsimp only at hSw
    go_simp
    all_goals try decide
    all_goals try assumption
    all_goals try omega
  try simp only [Act.put, gA, gS, gZ, sA, sZ, sS]
  refine tk 9 (.bool false) rfl (.inl ⟨by rfl, ?_⟩) ?_
  · intro w9 hSw
    try dsimp only at hSw
    go_simp
    all_goals try decide
    all_goals try assumption
    all_goals try omega
  try simp only [Act.put, gA, gS, gZ, sA, sZ, sS]
  refine tk 10 (.bool false) rfl (.inl ⟨by rfl, ?_⟩) ?_
  · intro w9 hSw
    try dsimp only at hSw
    go_simp
    all_goals try decide
    all_goals try assumption
    all_goals try omega
  try simp only [Act.put, gA, gS, gZ, sA, sZ, sS]
  refine tk 11 (.bool false) rfl (.inl ⟨by rfl, ?_⟩) ?_
  · intro w9 hSw
    try dsimp only at hSw
    go_simp
    all_goals try decide
    all_goals try assumption
    all_goals try omega
  try simp only [Act.put, gA, gS, gZ, sA, sZ, sS]
  refine tk 12 (.int .i64 now) rfl (.inl ⟨by rfl, ?_⟩) ?_
  · intro w9 hSw
    try dsimp only at hSw
    go_simp
    all_goals try decide
    all_goals try assumption
    all_goals try omega
  try simp only [Act.put, gA, gS, gZ, sA, sZ, sS]
  refine wpAnyH_ready (rs := [13]) (by kernel_rfl) (by simp) ?_
  refine AllReadyH.cons rfl (fun K' hK => ?_) AllReadyH.nil
  rw [if_pos (by rfl)]
  simp only [gA, gS, gZ]
  go_wp2_with fail
  refine (IT _).mono ?_
  rintro e w3 ⟨rfl, rfl⟩
  try go_wp2_with fail
  refine hK.out _ _ (hHeld) (fun hHeld => ?_)
  clear hK K'
  try simp only [Act.put, gA, gS, gZ, sA, sZ, sS]
  refine tk 14 (.bool false) rfl (.inl ⟨by rfl, ?_⟩) ?_
  · intro w9 hSw
    try dsimp only at hSw
    go_simp
    all_goals try decide
    all_goals try assumption
    all_goals try omega
  try simp only [Act.put, gA, gS, gZ, sA, sZ, sS]
  refine tk 15 (.bool false) rfl (.inl ⟨by rfl, ?_⟩) ?_
  · intro w9 hSw
    try dsimp only at hSw
    go_simp
    all_goals try decide
    all_goals try assumption
    all_goals try omega
  try simp only [Act.put, gA, gS, gZ, sA, sZ, sS]
  refine wpAnyH_done (by kernel_rfl) ?_ _
  have kx := hHeld.1
  clear hHeld
  go_wp2_with fail
  go_ret2
  exact ⟨rfl, ext11 (heap_setCell_same _ _ _ _ _ _ HP.out), (((Kp.refl [p] w).set ⟨p, 7, none⟩ _ (.inl (by simp))).al _).drew⟩
set_option linter.unusedSimpArgs false in
set_option maxHeartbeats 4000000 in
set_option maxRecDepth 100000 in
theorem uwrong_2 (p : Nat) (id W at_ n0 lo wr : Int) (hd : Bool) (d0 d1 d2 d3 d4 d5 d6 d7 now : Int) (h : tmB now = true) (h2 : same8 d0 d1 d2 d3 d4 d5 d6 d7 0 0 0 0 0 0 0 0 = false) (hw : IntKind.i64.wrap (wr + 1) = wr + 1) (w : World) (hp : w.heap[p]? = some (.cells (vsC id W 0 hd at_ n0 lo wr) 58 (0, 0))) : Calls Try.prog 21 #[.pointer (some ⟨p, 0, none⟩), frV id 0 d0 d1 d2 d3 d4 d5 d6 d7 false, .int .i64 now] w fun e w' => e = .returned (.tuple #[.int .u8 0, .bool false]) ∧ w'.heap[p]? = some (.cells (vsC id W 0 hd at_ n0 lo (wr + 1)) 58 (0, 0)) ∧ Kp [p] w w' := by
  have IT := fun X => time_any now X
  rw [h] at IT
  clear h
  have hq0 := fun W => eql8 W d0 d1 d2 d3 d4 d5 d6 d7 0 0 0 0 0 0 0 0
  rw [h2] at hq0
  clear h2
  have c0 : w.cell? ⟨p, 0, none⟩ = some (.int .u16 id) := by rw [cell_of_row w _ 0 _ _ _ hp]; rfl
  have c1 : w.cell? ⟨p, 1, none⟩ = some (.int .i64 W) := by rw [cell_of_row w _ 1 _ _ _ hp]; rfl
  have c2 : w.cell? ⟨p, 2, none⟩ = some (.int .u8 0) := by rw [cell_of_row w _ 2 _ _ _ hp]; rfl
  have c3 : w.cell? ⟨p, 3, none⟩ = some (.bool hd) := by rw [cell_of_row w _ 3 _ _ _ hp]; rfl
  have c4 : w.cell? ⟨p, 4, none⟩ = some (.int .i64 at_) := by rw [cell_of_row w _ 4 _ _ _ hp]; rfl
  have c5 : w.cell? ⟨p, 5, none⟩ = some (.int .u8 n0) := by rw [cell_of_row w _ 5 _ _ _ hp]; rfl
  have c6 : w.cell? ⟨p, 6, none⟩ = some (.int .i64 lo) := by rw [cell_of_row w _ 6 _ _ _ hp]; rfl
  have c7 : w.cell? ⟨p, 7, none⟩ = some (.int .i64 wr) := by rw [cell_of_row w _ 7 _ _ _ hp]; rfl
  have lp : p < w.heap.size := lt_of_heap hp
  have z7 := froz11 w p 7 _ _ hp
  have HP : Hid (w.heap[p]? = some (.cells (vsC id W 0 hd at_ n0 lo wr) 58 (0, 0))) := hp
  clear hp
  go_enter Try.func21, Try.ntmps21
  go_wp2_with fail
  refine wp_region_held_drew (S := fun x => Below w.heap.size w x ∧ x.cell? ⟨p, 0, none⟩ = some (.int .u16 id) ∧ x.cell? ⟨w.heap.size, 0, none⟩ = some (.int .u16 id) ∧ x.cell? ⟨w.heap.size, 10, none⟩ = some (.bool false)) (by kernel_rfl) (⟨Below.drew (Below.al (Below.refl _ _) _), cla11 c0, by simp [go_sem], by simp [go_sem]⟩) (fun hHeld => ?_)
  refine tk 0 (.pointer (some ⟨w.heap.size, 0, none⟩)) rfl (.inl ⟨by rfl, ?_⟩) ?_
  · intro w9 hSw
    try dsimp only at hSw
    go_simp
    all_goals try decide
    all_goals try assumption
    all_goals try omega
  try simp only [Act.put, gA, gS, gZ, sA, sZ, sS]
  refine tk 1 (.int .u16 id) rfl (.inl ⟨by rfl, ?_⟩) ?_
  · intro w9 hSw
    try dsimp only at hSw
    go_simp
    all_goals try decide
    all_goals try assumption
    all_goals try omega
  try simp only [Act.put, gA, gS, gZ, sA, sZ, sS]
  refine tk 2 (.pointer (some ⟨p, 0, none⟩)) rfl (.inl ⟨by rfl, ?_⟩) ?_
  · intro w9 hSw
    try dsimp only at hSw
    go_simp
    all_goals try decide
    all_goals try assumption
    all_goals try omega
  try simp only [Act.put, gA, gS, gZ, sA, sZ, sS]
  refine tk 3 (.pointer (some ⟨p, 0, none⟩)) rfl (.inl ⟨by rfl, ?_⟩) ?_
  · intro w9 hSw
    try dsimp only at hSw
    go_simp
    all_goals try decide
    all_goals try assumption
    all_goals try omega
  try simp only [Act.put, gA, gS, gZ, sA, sZ, sS]
  refine tk 4 (.pointer (some ⟨p, 0, none⟩)) rfl (.inl ⟨by rfl, ?_⟩) ?_
  · intro w9 hSw
    try dsimp only at hSw
    go_simp
    all_goals try decide
    all_goals try assumption
    all_goals try omega
  try simp only [Act.put, gA, gS, gZ, sA, sZ, sS]
  refine tk 5 (.int .u16 id) rfl (.inl ⟨by rfl, ?_⟩) ?_
  · intro w9 hSw
    try dsimp only at hSw
    go_simp
    all_goals try decide
    all_goals try assumption
    all_goals try omega
  try simp only [Act.put, gA, gS, gZ, sA, sZ, sS]
  refine tk 6 (.bool false) rfl (.inl ⟨by rfl, ?_⟩) ?_
  · intro w9 hSw
    try dsimp only at hSw
    go_simp
    all_goals try decide
    all_goals try assumption
    all_goals try omega
  try simp only [Act.put, gA, gS, gZ, sA, sZ, sS]
  refine tk 7 (.bool false) rfl (.inl ⟨by rfl, ?_⟩) ?_
  · intro w9 hSw
    try dsimp only at hSw
    go_simp
    all_goals try decide
    all_goals try assumption
    all_goals try omega
  try simp only [Act.put, gA, gS, gZ, sA, sZ, sS]
  refine tk 8 (.pointer (some ⟨w.heap.size, 10, none⟩)) rfl (.inl ⟨by rfl, ?_⟩) ?_
  · intro w9 hSw
    try dsimp only at hSw
    go_simp
    all_goals try decide
    all_goals try assumption
    all_goals try omega
  try simp only [Act.put, gA, gS, gZ, sA, sZ, sS]
  refine tk 9 (.bool false) rfl (.inl ⟨by rfl, ?_⟩) ?_
  · intro w9 hSw
    try dsimp only at hSw
    go_simp
    all_goals try decide
    all_goals try assumption
    all_goals try omega
  try simp only [Act.put, gA, gS, gZ, sA, sZ, sS]
  refine tk 10 (.bool false) rfl (.inl ⟨by rfl, ?_⟩) ?_
  · intro w9 hSw
    try dsimp only at hSw
    go_simp
    all_goals try decide
    all_goals try assumption
    all_goals try omega
  try simp only [Act.put, gA, gS, gZ, sA, sZ, sS]
  refine tk 11 (.bool false) rfl (.inl ⟨by rfl, ?_⟩) ?_
  · intro w9 hSw
    try dsimp only at hSw
    go_simp
    all_goals try decide
    all_goals try assumption
    all_goals try omega
  try simp only [Act.put, gA, gS, gZ, sA, sZ, sS]
  refine tk 12 (.int .i64 now) rfl (.inl ⟨by rfl, ?_⟩) ?_
  · intro w9 hSw
    try dsimp only at hSw
    go_simp
    all_goals try decide
    all_goals try assumption
    all_goals try omega
  try simp only [Act.put, gA, gS, gZ, sA, sZ, sS]
  refine wpAnyH_ready (rs := [13]) (by kernel_rfl) (by simp) ?_
  refine AllReadyH.cons rfl (fun K' hK => ?_) AllReadyH.nil
  rw [if_pos (by rfl)]
  simp only [gA, gS, gZ]
  go_wp2_with fail
  refine (IT _).mono ?_
  rintro e w3 ⟨rfl, rfl⟩
  try go_wp2_with fail
  refine hK.out _ _ (hHeld) (fun hHeld => ?_)
  clear hK K'
  try simp only [Act.put, gA, gS, gZ, sA, sZ, sS]
  refine tk 14 (.bool false) rfl (.inl ⟨by rfl, ?_⟩) ?_
  · intro w9 hSw
    try dsimp only at hSw
    go_simp
    all_goals try decide
    all_goals try assumption
    all_goals try omega
  try simp only [Act.put, gA, gS, gZ, sA, sZ, sS]
  refine tk 15 (.bool false) rfl (.inl ⟨by rfl, ?_⟩) ?_
  · intro w9 hSw
    try dsimp only at hSw
    go_simp
    all_goals try decide
    all_goals try assumption
    all_goals try omega
  try simp only [Act.put, gA, gS, gZ, sA, sZ, sS]
  refine wpAnyH_done (by kernel_rfl) ?_ _
  have kx := hHeld.1
  clear hHeld
  go_wp2_with fail
  go_ret2
  exact ⟨rfl, ext11 (heap_setCell_same _ _ _ _ _ _ HP.out), (((Kp.refl [p] w).set ⟨p, 7, none⟩ _ (.inl (by simp))).al _).drew⟩
set_option linter.unusedSimpArgs false in
set_option maxHeartbeats 4000000 in
set_option maxRecDepth 100000 in
theorem uwrong_3 (p : Nat) (id top W at_ n0 lo wr : Int) (hd : Bool) (d0 d1 d2 d3 d4 d5 d6 d7 now : Int) (h : tmB now = true) (ht : 0 < top) (hw : IntKind.i64.wrap (wr + 1) = wr + 1) (w : World) (hp : w.heap[p]? = some (.cells (vsC id W top hd at_ n0 lo wr) 58 (0, 0))) : Calls Try.prog 21 #[.pointer (some ⟨p, 0, none⟩), frV id 0 d0 d1 d2 d3 d4 d5 d6 d7 false, .int .i64 now] w fun e w' => e = .returned (.tuple #[.int .u8 0, .bool false]) ∧ w'.heap[p]? = some (.cells (vsC id W top hd at_ n0 lo (wr + 1)) 58 (0, 0)) ∧ Kp [p] w w' := by
  have IT := fun X => time_any now X
  rw [h] at IT
  clear h
  have hq0 := fun W => eql8 W d0 d1 d2 d3 d4 d5 d6 d7 0 0 0 0 0 0 0 0
  obtain ⟨s0, hs0⟩ : ∃ s0, same8 d0 d1 d2 d3 d4 d5 d6 d7 0 0 0 0 0 0 0 0 = s0 := ⟨_, rfl⟩
  rw [hs0] at hq0
  clear hs0
  have c0 : w.cell? ⟨p, 0, none⟩ = some (.int .u16 id) := by rw [cell_of_row w _ 0 _ _ _ hp]; rfl
  have c1 : w.cell? ⟨p, 1, none⟩ = some (.int .i64 W) := by rw [cell_of_row w _ 1 _ _ _ hp]; rfl
  have c2 : w.cell? ⟨p, 2, none⟩ = some (.int .u8 top) := by rw [cell_of_row w _ 2 _ _ _ hp]; rfl
  have c3 : w.cell? ⟨p, 3, none⟩ = some (.bool hd) := by rw [cell_of_row w _ 3 _ _ _ hp]; rfl
  have c4 : w.cell? ⟨p, 4, none⟩ = some (.int .i64 at_) := by rw [cell_of_row w _ 4 _ _ _ hp]; rfl
  have c5 : w.cell? ⟨p, 5, none⟩ = some (.int .u8 n0) := by rw [cell_of_row w _ 5 _ _ _ hp]; rfl
  have c6 : w.cell? ⟨p, 6, none⟩ = some (.int .i64 lo) := by rw [cell_of_row w _ 6 _ _ _ hp]; rfl
  have c7 : w.cell? ⟨p, 7, none⟩ = some (.int .i64 wr) := by rw [cell_of_row w _ 7 _ _ _ hp]; rfl
  have lp : p < w.heap.size := lt_of_heap hp
  have z7 := froz11 w p 7 _ _ hp
  have HP : Hid (w.heap[p]? = some (.cells (vsC id W top hd at_ n0 lo wr) 58 (0, 0))) := hp
  clear hp
  go_enter Try.func21, Try.ntmps21
  go_wp2_with fail
  refine wp_region_held_drew (S := fun x => Below w.heap.size w x ∧ x.cell? ⟨p, 0, none⟩ = some (.int .u16 id) ∧ x.cell? ⟨w.heap.size, 0, none⟩ = some (.int .u16 id) ∧ x.cell? ⟨w.heap.size, 10, none⟩ = some (.bool false)) (by kernel_rfl) (⟨Below.drew (Below.al (Below.refl _ _) _), cla11 c0, by simp [go_sem], by simp [go_sem]⟩) (fun hHeld => ?_)
  refine tk 0 (.pointer (some ⟨w.heap.size, 0, none⟩)) rfl (.inl ⟨by rfl, ?_⟩) ?_
  · intro w9 hSw
    try dsimp only at hSw
    go_simp
    all_goals try decide
    all_goals try assumption
    all_goals try omega
  try simp only [Act.put, gA, gS, gZ, sA, sZ, sS]
  refine tk 1 (.int .u16 id) rfl (.inl ⟨by rfl, ?_⟩) ?_
  · intro w9 hSw
    try dsimp only at hSw
    go_simp
    all_goals try decide
    all_goals try assumption
    all_goals try omega
  try simp only [Act.put, gA, gS, gZ, sA, sZ, sS]
  refine tk 2 (.pointer (some ⟨p, 0, none⟩)) rfl (.inl ⟨by rfl, ?_⟩) ?_
  · intro w9 hSw
    try dsimp only at hSw
    go_simp
    all_goals try decide
    all_goals try assumption
    all_goals try omega
  try simp only [Act.put, gA, gS, gZ, sA, sZ, sS]
  refine tk 3 (.pointer (some ⟨p, 0, none⟩)) rfl (.inl ⟨by rfl, ?_⟩) ?_
  · intro w9 hSw
    try dsimp only at hSw
    go_simp
    all_goals try decide
    all_goals try assumption
    all_goals try omega
  try simp only [Act.put, gA, gS, gZ, sA, sZ, sS]
  refine tk 4 (.pointer (some ⟨p, 0, none⟩)) rfl (.inl ⟨by rfl, ?_⟩) ?_
  · intro w9 hSw
    try dsimp only at hSw
    go_simp
    all_goals try decide
    all_goals try assumption
    all_goals try omega
  try simp only [Act.put, gA, gS, gZ, sA, sZ, sS]
  refine tk 5 (.int .u16 id) rfl (.inl ⟨by rfl, ?_⟩) ?_
  · intro w9 hSw
    try dsimp only at hSw
    go_simp
    all_goals try decide
    all_goals try assumption
    all_goals try omega
  try simp only [Act.put, gA, gS, gZ, sA, sZ, sS]
  refine tk 6 (.bool false) rfl (.inl ⟨by rfl, ?_⟩) ?_
  · intro w9 hSw
    try dsimp only at hSw
    go_simp
    all_goals try decide
    all_goals try assumption
    all_goals try omega
  try simp only [Act.put, gA, gS, gZ, sA, sZ, sS]
  refine tk 7 (.bool false) rfl (.inl ⟨by rfl, ?_⟩) ?_
  · intro w9 hSw
    try dsimp only at hSw
    go_simp
    all_goals try decide
    all_goals try assumption
    all_goals try omega
  try simp only [Act.put, gA, gS, gZ, sA, sZ, sS]
  refine tk 8 (.pointer (some ⟨w.heap.size, 10, none⟩)) rfl (.inl ⟨by rfl, ?_⟩) ?_
  · intro w9 hSw
    try dsimp only at hSw
    go_simp
    all_goals try decide
    all_goals try assumption
    all_goals try omega
  try simp only [Act.put, gA, gS, gZ, sA, sZ, sS]
  refine tk 9 (.bool false) rfl (.inl ⟨by rfl, ?_⟩) ?_
  · intro w9 hSw
    try dsimp only at hSw
    go_simp
    all_goals try decide
    all_goals try assumption
    all_goals try omega
  try simp only [Act.put, gA, gS, gZ, sA, sZ, sS]
  refine tk 10 (.bool false) rfl (.inl ⟨by rfl, ?_⟩) ?_
  · intro w9 hSw
    try dsimp only at hSw
    go_simp
    all_goals try decide
    all_goals try assumption
    all_goals try omega
  try simp only [Act.put, gA, gS, gZ, sA, sZ, sS]
  refine tk 11 (.bool false) rfl (.inl ⟨by rfl, ?_⟩) ?_
  · intro w9 hSw
    try dsimp only at hSw
    go_simp
    all_goals try decide
    all_goals try assumption
    all_goals try omega
  try simp only [Act.put, gA, gS, gZ, sA, sZ, sS]
  refine tk 12 (.int .i64 now) rfl (.inl ⟨by rfl, ?_⟩) ?_
  · intro w9 hSw
    try dsimp only at hSw
    go_simp
    all_goals try decide
    all_goals try assumption
    all_goals try omega
  try simp only [Act.put, gA, gS, gZ, sA, sZ, sS]
  refine wpAnyH_ready (rs := [13]) (by kernel_rfl) (by simp) ?_
  refine AllReadyH.cons rfl (fun K' hK => ?_) AllReadyH.nil
  rw [if_pos (by rfl)]
  simp only [gA, gS, gZ]
  go_wp2_with fail
  refine (IT _).mono ?_
  rintro e w3 ⟨rfl, rfl⟩
  try go_wp2_with fail
  refine hK.out _ _ (hHeld) (fun hHeld => ?_)
  clear hK K'
  try simp only [Act.put, gA, gS, gZ, sA, sZ, sS]
  refine tk 14 (.bool false) rfl (.inl ⟨by rfl, ?_⟩) ?_
  · intro w9 hSw
    try dsimp only at hSw
    go_simp
    all_goals try decide
    all_goals try assumption
    all_goals try omega
  try simp only [Act.put, gA, gS, gZ, sA, sZ, sS]
  refine tk 15 (.bool false) rfl (.inl ⟨by rfl, ?_⟩) ?_
  · intro w9 hSw
    try dsimp only at hSw
    go_simp
    all_goals try decide
    all_goals try assumption
    all_goals try omega
  try simp only [Act.put, gA, gS, gZ, sA, sZ, sS]
  refine wpAnyH_done (by kernel_rfl) ?_ _
  have kx := hHeld.1
  clear hHeld
  go_wp2_with fail
  go_ret2
  exact ⟨rfl, ext11 (heap_setCell_same _ _ _ _ _ _ HP.out), (((Kp.refl [p] w).set ⟨p, 7, none⟩ _ (.inl (by simp))).al _).drew⟩
set_option linter.unusedSimpArgs false in
set_option maxHeartbeats 4000000 in
set_option maxRecDepth 100000 in
theorem uwrong_4 (p : Nat) (id top W at_ n0 lo wr : Int) (hd : Bool) (n d0 d1 d2 d3 d4 d5 d6 d7 now : Int) (h : tmB now = true) (ht : 0 < top) (h0 : ¬ n = 0) (h1 : ¬ n = 1) (hw : IntKind.i64.wrap (wr + 1) = wr + 1) (w : World) (hp : w.heap[p]? = some (.cells (vsC id W top hd at_ n0 lo wr) 58 (0, 0))) : Calls Try.prog 21 #[.pointer (some ⟨p, 0, none⟩), frV id n d0 d1 d2 d3 d4 d5 d6 d7 false, .int .i64 now] w fun e w' => e = .returned (.tuple #[.int .u8 0, .bool false]) ∧ w'.heap[p]? = some (.cells (vsC id W top hd at_ n0 lo (wr + 1)) 58 (0, 0)) ∧ Kp [p] w w' := by
  have IT := fun X => time_any now X
  rw [h] at IT
  clear h
  have c0 : w.cell? ⟨p, 0, none⟩ = some (.int .u16 id) := by rw [cell_of_row w _ 0 _ _ _ hp]; rfl
  have c1 : w.cell? ⟨p, 1, none⟩ = some (.int .i64 W) := by rw [cell_of_row w _ 1 _ _ _ hp]; rfl
  have c2 : w.cell? ⟨p, 2, none⟩ = some (.int .u8 top) := by rw [cell_of_row w _ 2 _ _ _ hp]; rfl
  have c3 : w.cell? ⟨p, 3, none⟩ = some (.bool hd) := by rw [cell_of_row w _ 3 _ _ _ hp]; rfl
  have c4 : w.cell? ⟨p, 4, none⟩ = some (.int .i64 at_) := by rw [cell_of_row w _ 4 _ _ _ hp]; rfl
  have c5 : w.cell? ⟨p, 5, none⟩ = some (.int .u8 n0) := by rw [cell_of_row w _ 5 _ _ _ hp]; rfl
  have c6 : w.cell? ⟨p, 6, none⟩ = some (.int .i64 lo) := by rw [cell_of_row w _ 6 _ _ _ hp]; rfl
  have c7 : w.cell? ⟨p, 7, none⟩ = some (.int .i64 wr) := by rw [cell_of_row w _ 7 _ _ _ hp]; rfl
  have lp : p < w.heap.size := lt_of_heap hp
  have z7 := froz11 w p 7 _ _ hp
  have HP : Hid (w.heap[p]? = some (.cells (vsC id W top hd at_ n0 lo wr) 58 (0, 0))) := hp
  clear hp
  go_enter Try.func21, Try.ntmps21
  go_wp2_with fail
  refine wp_region_held_drew (S := fun x => Below w.heap.size w x ∧ x.cell? ⟨p, 0, none⟩ = some (.int .u16 id) ∧ x.cell? ⟨w.heap.size, 0, none⟩ = some (.int .u16 id) ∧ x.cell? ⟨w.heap.size, 10, none⟩ = some (.bool false)) (by kernel_rfl) (⟨Below.drew (Below.al (Below.refl _ _) _), cla11 c0, by simp [go_sem], by simp [go_sem]⟩) (fun hHeld => ?_)
  refine tk 0 (.pointer (some ⟨w.heap.size, 0, none⟩)) rfl (.inl ⟨by rfl, ?_⟩) ?_
  · intro w9 hSw
    try dsimp only at hSw
    go_simp
    all_goals try decide
    all_goals try assumption
    all_goals try omega
  try simp only [Act.put, gA, gS, gZ, sA, sZ, sS]
  refine tk 1 (.int .u16 id) rfl (.inl ⟨by rfl, ?_⟩) ?_
  · intro w9 hSw
    try dsimp only at hSw
    go_simp
    all_goals try decide
    all_goals try assumption
    all_goals try omega
  try simp only [Act.put, gA, gS, gZ, sA, sZ, sS]
  refine tk 2 (.pointer (some ⟨p, 0, none⟩)) rfl (.inl ⟨by rfl, ?_⟩) ?_
  · intro w9 hSw
    try dsimp only at hSw
    go_simp
    all_goals try decide
    all_goals try assumption
    all_goals try omega
  try simp only [Act.put, gA, gS, gZ, sA, sZ, sS]
  refine tk 3 (.pointer (some ⟨p, 0, none⟩)) rfl (.inl ⟨by rfl, ?_⟩) ?_
  · intro w9 hSw
    try dsimp only at hSw
    go_simp
    all_goals try decide
    all_goals try assumption
    all_goals try omega
  try simp only [Act.put, gA, gS, gZ, sA, sZ, sS]
  refine tk 4 (.pointer (some ⟨p, 0, none⟩)) rfl (.inl ⟨by rfl, ?_⟩) ?_
  · intro w9 hSw
    try dsimp only at hSw
    go_simp
    all_goals try decide
    all_goals try assumption
    all_goals try omega
  try simp only [Act.put, gA, gS, gZ, sA, sZ, sS]
  refine tk 5 (.int .u16 id) rfl (.inl ⟨by rfl, ?_⟩) ?_
  · intro w9 hSw
    try dsimp only at hSw
    go_simp
    all_goals try decide
    all_goals try assumption
    all_goals try omega
  try simp only [Act.put, gA, gS, gZ, sA, sZ, sS]
  refine tk 6 (.bool false) rfl (.inl ⟨by rfl, ?_⟩) ?_
  · intro w9 hSw
    try dsimp only at hSw
    go_simp
    all_goals try decide
    all_goals try assumption
    all_goals try omega
  try simp only [Act.put, gA, gS, gZ, sA, sZ, sS]
  refine tk 7 (.bool false) rfl (.inl ⟨by rfl, ?_⟩) ?_
  · intro w9 hSw
    try dsimp only at hSw
    go_simp
    all_goals try decide
    all_goals try assumption
    all_goals try omega
  try simp only [Act.put, gA, gS, gZ, sA, sZ, sS]
  refine tk 8 (.pointer (some ⟨w.heap.size, 10, none⟩)) rfl (.inl ⟨by rfl, ?_⟩) ?_
  · intro w9 hSw
    try dsimp only at hSw
    go_simp
    all_goals try decide
    all_goals try assumption
    all_goals try omega
  try simp only [Act.put, gA, gS, gZ, sA, sZ, sS]
  refine tk 9 (.bool false) rfl (.inl ⟨by rfl, ?_⟩) ?_
  · intro w9 hSw
    try dsimp only at hSw
    go_simp
    all_goals try decide
    all_goals try assumption
    all_goals try omega
  try simp only [Act.put, gA, gS, gZ, sA, sZ, sS]
  refine tk 10 (.bool false) rfl (.inl ⟨by rfl, ?_⟩) ?_
  · intro w9 hSw
    try dsimp only at hSw
    go_simp
    all_goals try decide
    all_goals try assumption
    all_goals try omega
  try simp only [Act.put, gA, gS, gZ, sA, sZ, sS]
  refine tk 11 (.bool false) rfl (.inl ⟨by rfl, ?_⟩) ?_
  · intro w9 hSw
    try dsimp only at hSw
    go_simp
    all_goals try decide
    all_goals try assumption
    all_goals try omega
  try simp only [Act.put, gA, gS, gZ, sA, sZ, sS]
  refine tk 12 (.int .i64 now) rfl (.inl ⟨by rfl, ?_⟩) ?_
  · intro w9 hSw
    try dsimp only at hSw
    go_simp
    all_goals try decide
    all_goals try assumption
    all_goals try omega
  try simp only [Act.put, gA, gS, gZ, sA, sZ, sS]
  refine wpAnyH_ready (rs := [13]) (by kernel_rfl) (by simp) ?_
  refine AllReadyH.cons rfl (fun K' hK => ?_) AllReadyH.nil
  rw [if_pos (by rfl)]
  simp only [gA, gS, gZ]
  go_wp2_with fail
  refine (IT _).mono ?_
  rintro e w3 ⟨rfl, rfl⟩
  try go_wp2_with fail
  refine hK.out _ _ (hHeld) (fun hHeld => ?_)
  clear hK K'
  try simp only [Act.put, gA, gS, gZ, sA, sZ, sS]
  refine tk 14 (.bool false) rfl (.inl ⟨by rfl, ?_⟩) ?_
  · intro w9 hSw
    try dsimp only at hSw
    go_simp
    all_goals try decide
    all_goals try assumption
    all_goals try omega
  try simp only [Act.put, gA, gS, gZ, sA, sZ, sS]
  refine tk 15 (.bool false) rfl (.inl ⟨by rfl, ?_⟩) ?_
  · intro w9 hSw
    try dsimp only at hSw
    go_simp
    all_goals try decide
    all_goals try assumption
    all_goals try omega
  try simp only [Act.put, gA, gS, gZ, sA, sZ, sS]
  refine wpAnyH_done (by kernel_rfl) ?_ _
  have kx := hHeld.1
  clear hHeld
  go_wp2_with fail
  go_ret2
  exact ⟨rfl, ext11 (heap_setCell_same _ _ _ _ _ _ HP.out), (((Kp.refl [p] w).set ⟨p, 7, none⟩ _ (.inl (by simp))).al _).drew⟩
set_option linter.unusedSimpArgs false in
set_option maxHeartbeats 4000000 in
set_option maxRecDepth 100000 in
theorem uwrong_5 (p : Nat) (id top W at_ n0 lo wr : Int) (hd : Bool) (d0 d1 d2 d3 d4 d5 d6 d7 now : Int) (h : tmB now = true) (ht : 0 < top) (h1 : d0 < 1) (hw : IntKind.i64.wrap (wr + 1) = wr + 1) (w : World) (hp : w.heap[p]? = some (.cells (vsC id W top hd at_ n0 lo wr) 58 (0, 0))) : Calls Try.prog 21 #[.pointer (some ⟨p, 0, none⟩), frV id 1 d0 d1 d2 d3 d4 d5 d6 d7 false, .int .i64 now] w fun e w' => e = .returned (.tuple #[.int .u8 0, .bool false]) ∧ w'.heap[p]? = some (.cells (vsC id W top hd at_ n0 lo (wr + 1)) 58 (0, 0)) ∧ Kp [p] w w' := by
  have IT := fun X => time_any now X
  rw [h] at IT
  clear h
  have c0 : w.cell? ⟨p, 0, none⟩ = some (.int .u16 id) := by rw [cell_of_row w _ 0 _ _ _ hp]; rfl
  have c1 : w.cell? ⟨p, 1, none⟩ = some (.int .i64 W) := by rw [cell_of_row w _ 1 _ _ _ hp]; rfl
  have c2 : w.cell? ⟨p, 2, none⟩ = some (.int .u8 top) := by rw [cell_of_row w _ 2 _ _ _ hp]; rfl
  have c3 : w.cell? ⟨p, 3, none⟩ = some (.bool hd) := by rw [cell_of_row w _ 3 _ _ _ hp]; rfl
  have c4 : w.cell? ⟨p, 4, none⟩ = some (.int .i64 at_) := by rw [cell_of_row w _ 4 _ _ _ hp]; rfl
  have c5 : w.cell? ⟨p, 5, none⟩ = some (.int .u8 n0) := by rw [cell_of_row w _ 5 _ _ _ hp]; rfl
  have c6 : w.cell? ⟨p, 6, none⟩ = some (.int .i64 lo) := by rw [cell_of_row w _ 6 _ _ _ hp]; rfl
  have c7 : w.cell? ⟨p, 7, none⟩ = some (.int .i64 wr) := by rw [cell_of_row w _ 7 _ _ _ hp]; rfl
  have lp : p < w.heap.size := lt_of_heap hp
  have z7 := froz11 w p 7 _ _ hp
  have HP : Hid (w.heap[p]? = some (.cells (vsC id W top hd at_ n0 lo wr) 58 (0, 0))) := hp
  clear hp
  go_enter Try.func21, Try.ntmps21
  go_wp2_with fail
  refine wp_region_held_drew (S := fun x => Below w.heap.size w x ∧ x.cell? ⟨p, 0, none⟩ = some (.int .u16 id) ∧ x.cell? ⟨w.heap.size, 0, none⟩ = some (.int .u16 id) ∧ x.cell? ⟨w.heap.size, 10, none⟩ = some (.bool false)) (by kernel_rfl) (⟨Below.drew (Below.al (Below.refl _ _) _), cla11 c0, by simp [go_sem], by simp [go_sem]⟩) (fun hHeld => ?_)
  refine tk 0 (.pointer (some ⟨w.heap.size, 0, none⟩)) rfl (.inl ⟨by rfl, ?_⟩) ?_
  · intro w9 hSw
    try dsimp only at hSw
    go_simp
    all_goals try decide
    all_goals try assumption
    all_goals try omega
  try simp only [Act.put, gA, gS, gZ, sA, sZ, sS]
  refine tk 1 (.int .u16 id) rfl (.inl ⟨by rfl, ?_⟩) ?_
  · intro w9 hSw
    try dsimp only at hSw
    go_simp
    all_goals try decide
    all_goals try assumption
    all_goals try omega
  try simp only [Act.put, gA, gS, gZ, sA, sZ, sS]
  refine tk 2 (.pointer (some ⟨p, 0, none⟩)) rfl (.inl ⟨by rfl, ?_⟩) ?_
  · intro w9 hSw
    try dsimp only at hSw
    go_simp
    all_goals try decide
    all_goals try assumption
    all_goals try omega
  try simp only [Act.put, gA, gS, gZ, sA, sZ, sS]
  refine tk 3 (.pointer (some ⟨p, 0, none⟩)) rfl (.inl ⟨by rfl, ?_⟩) ?_
  · intro w9 hSw
    try dsimp only at hSw
    go_simp
    all_goals try decide
    all_goals try assumption
    all_goals try omega
  try simp only [Act.put, gA, gS, gZ, sA, sZ, sS]
  refine tk 4 (.pointer (some ⟨p, 0, none⟩)) rfl (.inl ⟨by rfl, ?_⟩) ?_
  · intro w9 hSw
    try dsimp only at hSw
    go_simp
    all_goals try decide
    all_goals try assumption
    all_goals try omega
  try simp only [Act.put, gA, gS, gZ, sA, sZ, sS]
  refine tk 5 (.int .u16 id) rfl (.inl ⟨by rfl, ?_⟩) ?_
  · intro w9 hSw
    try dsimp only at hSw
    go_simp
    all_goals try decide
    all_goals try assumption
    all_goals try omega
  try simp only [Act.put, gA, gS, gZ, sA, sZ, sS]
  refine tk 6 (.bool false) rfl (.inl ⟨by rfl, ?_⟩) ?_
  · intro w9 hSw
    try dsimp only at hSw
    go_simp
    all_goals try decide
    all_goals try assumption
    all_goals try omega
  try simp only [Act.put, gA, gS, gZ, sA, sZ, sS]
  refine tk 7 (.bool false) rfl (.inl ⟨by rfl, ?_⟩) ?_
  · intro w9 hSw
    try dsimp only at hSw
    go_simp
    all_goals try decide
    all_goals try assumption
    all_goals try omega
  try simp only [Act.put, gA, gS, gZ, sA, sZ, sS]
  refine tk 8 (.pointer (some ⟨w.heap.size, 10, none⟩)) rfl (.inl ⟨by rfl, ?_⟩) ?_
  · intro w9 hSw
    try dsimp only at hSw
    go_simp
    all_goals try decide
    all_goals try assumption
    all_goals try omega
  try simp only [Act.put, gA, gS, gZ, sA, sZ, sS]
  refine tk 9 (.bool false) rfl (.inl ⟨by rfl, ?_⟩) ?_
  · intro w9 hSw
    try dsimp only at hSw
    go_simp
    all_goals try decide
    all_goals try assumption
    all_goals try omega
  try simp only [Act.put, gA, gS, gZ, sA, sZ, sS]
  refine tk 10 (.bool false) rfl (.inl ⟨by rfl, ?_⟩) ?_
  · intro w9 hSw
    try dsimp only at hSw
    go_simp
    all_goals try decide
    all_goals try assumption
    all_goals try omega
  try simp only [Act.put, gA, gS, gZ, sA, sZ, sS]
  refine tk 11 (.bool false) rfl (.inl ⟨by rfl, ?_⟩) ?_
  · intro w9 hSw
    try dsimp only at hSw
    go_simp
    all_goals try decide
    all_goals try assumption
    all_goals try omega
  try simp only [Act.put, gA, gS, gZ, sA, sZ, sS]
  refine tk 12 (.int .i64 now) rfl (.inl ⟨by rfl, ?_⟩) ?_
  · intro w9 hSw
    try dsimp only at hSw
    go_simp
    all_goals try decide
    all_goals try assumption
    all_goals try omega
  try simp only [Act.put, gA, gS, gZ, sA, sZ, sS]
  refine wpAnyH_ready (rs := [13]) (by kernel_rfl) (by simp) ?_
  refine AllReadyH.cons rfl (fun K' hK => ?_) AllReadyH.nil
  rw [if_pos (by rfl)]
  simp only [gA, gS, gZ]
  go_wp2_with fail
  refine (IT _).mono ?_
  rintro e w3 ⟨rfl, rfl⟩
  try go_wp2_with fail
  refine hK.out _ _ (hHeld) (fun hHeld => ?_)
  clear hK K'
  try simp only [Act.put, gA, gS, gZ, sA, sZ, sS]
  refine tk 14 (.bool false) rfl (.inl ⟨by rfl, ?_⟩) ?_
  · intro w9 hSw
    try dsimp only at hSw
    go_simp
    all_goals try decide
    all_goals try assumption
    all_goals try omega
  try simp only [Act.put, gA, gS, gZ, sA, sZ, sS]
  refine tk 15 (.bool false) rfl (.inl ⟨by rfl, ?_⟩) ?_
  · intro w9 hSw
    try dsimp only at hSw
    go_simp
    all_goals try decide
    all_goals try assumption
    all_goals try omega
  try simp only [Act.put, gA, gS, gZ, sA, sZ, sS]
  refine wpAnyH_done (by kernel_rfl) ?_ _
  have kx := hHeld.1
  clear hHeld
  go_wp2_with fail
  go_ret2
  exact ⟨rfl, ext11 (heap_setCell_same _ _ _ _ _ _ HP.out), (((Kp.refl [p] w).set ⟨p, 7, none⟩ _ (.inl (by simp))).al _).drew⟩
set_option linter.unusedSimpArgs false in
set_option maxHeartbeats 4000000 in
set_option maxRecDepth 100000 in
theorem uwrong_6 (p : Nat) (id top W at_ n0 lo wr : Int) (hd : Bool) (d0 d1 d2 d3 d4 d5 d6 d7 now : Int) (h : tmB now = true) (ht : 0 < top) (h1 : 1 ≤ d0) (h2 : top < d0) (hw : IntKind.i64.wrap (wr + 1) = wr + 1) (w : World) (hp : w.heap[p]? = some (.cells (vsC id W top hd at_ n0 lo wr) 58 (0, 0))) : Calls Try.prog 21 #[.pointer (some ⟨p, 0, none⟩), frV id 1 d0 d1 d2 d3 d4 d5 d6 d7 false, .int .i64 now] w fun e w' => e = .returned (.tuple #[.int .u8 0, .bool false]) ∧ w'.heap[p]? = some (.cells (vsC id W top hd at_ n0 lo (wr + 1)) 58 (0, 0)) ∧ Kp [p] w w' := by
  have IT := fun X => time_any now X
  rw [h] at IT
  clear h
  have c0 : w.cell? ⟨p, 0, none⟩ = some (.int .u16 id) := by rw [cell_of_row w _ 0 _ _ _ hp]; rfl
  have c1 : w.cell? ⟨p, 1, none⟩ = some (.int .i64 W) := by rw [cell_of_row w _ 1 _ _ _ hp]; rfl
  have c2 : w.cell? ⟨p, 2, none⟩ = some (.int .u8 top) := by rw [cell_of_row w _ 2 _ _ _ hp]; rfl
  have c3 : w.cell? ⟨p, 3, none⟩ = some (.bool hd) := by rw [cell_of_row w _ 3 _ _ _ hp]; rfl
  have c4 : w.cell? ⟨p, 4, none⟩ = some (.int .i64 at_) := by rw [cell_of_row w _ 4 _ _ _ hp]; rfl
  have c5 : w.cell? ⟨p, 5, none⟩ = some (.int .u8 n0) := by rw [cell_of_row w _ 5 _ _ _ hp]; rfl
  have c6 : w.cell? ⟨p, 6, none⟩ = some (.int .i64 lo) := by rw [cell_of_row w _ 6 _ _ _ hp]; rfl
  have c7 : w.cell? ⟨p, 7, none⟩ = some (.int .i64 wr) := by rw [cell_of_row w _ 7 _ _ _ hp]; rfl
  have lp : p < w.heap.size := lt_of_heap hp
  have z7 := froz11 w p 7 _ _ hp
  have HP : Hid (w.heap[p]? = some (.cells (vsC id W top hd at_ n0 lo wr) 58 (0, 0))) := hp
  clear hp
  go_enter Try.func21, Try.ntmps21
  go_wp2_with fail
  refine wp_region_held_drew (S := fun x => Below w.heap.size w x ∧ x.cell? ⟨p, 0, none⟩ = some (.int .u16 id) ∧ x.cell? ⟨w.heap.size, 0, none⟩ = some (.int .u16 id) ∧ x.cell? ⟨w.heap.size, 10, none⟩ = some (.bool false)) (by kernel_rfl) (⟨Below.drew (Below.al (Below.refl _ _) _), cla11 c0, by simp [go_sem], by simp [go_sem]⟩) (fun hHeld => ?_)
  refine tk 0 (.pointer (some ⟨w.heap.size, 0, none⟩)) rfl (.inl ⟨by rfl, ?_⟩) ?_
  · intro w9 hSw
    try dsimp only at hSw
    go_simp
    all_goals try decide
    all_goals try assumption
    all_goals try omega
  try simp only [Act.put, gA, gS, gZ, sA, sZ, sS]
  refine tk 1 (.int .u16 id) rfl (.inl ⟨by rfl, ?_⟩) ?_
  · intro w9 hSw
    try dsimp only at hSw
    go_simp
    all_goals try decide
    all_goals try assumption
    all_goals try omega
  try simp only [Act.put, gA, gS, gZ, sA, sZ, sS]
  refine tk 2 (.pointer (some ⟨p, 0, none⟩)) rfl (.inl ⟨by rfl, ?_⟩) ?_
  · intro w9 hSw
    try dsimp only at hSw
    go_simp
    all_goals try decide
    all_goals try assumption
    all_goals try omega
  try simp only [Act.put, gA, gS, gZ, sA, sZ, sS]
  refine tk 3 (.pointer (some ⟨p, 0, none⟩)) rfl (.inl ⟨by rfl, ?_⟩) ?_
  · intro w9 hSw
    try dsimp only at hSw
    go_simp
    all_goals try decide
    all_goals try assumption
    all_goals try omega
  try simp only [Act.put, gA, gS, gZ, sA, sZ, sS]
  refine tk 4 (.pointer (some ⟨p, 0, none⟩)) rfl (.inl ⟨by rfl, ?_⟩) ?_
  · intro w9 hSw
    try dsimp only at hSw
    go_simp
    all_goals try decide
    all_goals try assumption
    all_goals try omega
  try simp only [Act.put, gA, gS, gZ, sA, sZ, sS]
  refine tk 5 (.int .u16 id) rfl (.inl ⟨by rfl, ?_⟩) ?_
  · intro w9 hSw
    try dsimp only at hSw
    go_simp
    all_goals try decide
    all_goals try assumption
    all_goals try omega
  try simp only [Act.put, gA, gS, gZ, sA, sZ, sS]
  refine tk 6 (.bool false) rfl (.inl ⟨by rfl, ?_⟩) ?_
  · intro w9 hSw
    try dsimp only at hSw
    go_simp
    all_goals try decide
    all_goals try assumption
    all_goals try omega
  try simp only [Act.put, gA, gS, gZ, sA, sZ, sS]
  refine tk 7 (.bool false) rfl (.inl ⟨by rfl, ?_⟩) ?_
  · intro w9 hSw
    try dsimp only at hSw
    go_simp
    all_goals try decide
    all_goals try assumption
    all_goals try omega
  try simp only [Act.put, gA, gS, gZ, sA, sZ, sS]
  refine tk 8 (.pointer (some ⟨w.heap.size, 10, none⟩)) rfl (.inl ⟨by rfl, ?_⟩) ?_
  · intro w9 hSw
    try dsimp only at hSw
    go_simp
    all_goals try decide
    all_goals try assumption
    all_goals try omega
  try simp only [Act.put, gA, gS, gZ, sA, sZ, sS]
  refine tk 9 (.bool false) rfl (.inl ⟨by rfl, ?_⟩) ?_
  · intro w9 hSw
    try dsimp only at hSw
    go_simp
    all_goals try decide
    all_goals try assumption
    all_goals try omega
  try simp only [Act.put, gA, gS, gZ, sA, sZ, sS]
  refine tk 10 (.bool false) rfl (.inl ⟨by rfl, ?_⟩) ?_
  · intro w9 hSw
    try dsimp only at hSw
    go_simp
    all_goals try decide
    all_goals try assumption
    all_goals try omega
  try simp only [Act.put, gA, gS, gZ, sA, sZ, sS]
  refine tk 11 (.bool false) rfl (.inl ⟨by rfl, ?_⟩) ?_
  · intro w9 hSw
    try dsimp only at hSw
    go_simp
    all_goals try decide
    all_goals try assumption
    all_goals try omega
  try simp only [Act.put, gA, gS, gZ, sA, sZ, sS]
  refine tk 12 (.int .i64 now) rfl (.inl ⟨by rfl, ?_⟩) ?_
  · intro w9 hSw
    try dsimp only at hSw
    go_simp
    all_goals try decide
    all_goals try assumption
    all_goals try omega
  try simp only [Act.put, gA, gS, gZ, sA, sZ, sS]
  refine wpAnyH_ready (rs := [13]) (by kernel_rfl) (by simp) ?_
  refine AllReadyH.cons rfl (fun K' hK => ?_) AllReadyH.nil
  rw [if_pos (by rfl)]
  simp only [gA, gS, gZ]
  go_wp2_with fail
  refine (IT _).mono ?_
  rintro e w3 ⟨rfl, rfl⟩
  try go_wp2_with fail
  refine hK.out _ _ (hHeld) (fun hHeld => ?_)
  clear hK K'
  try simp only [Act.put, gA, gS, gZ, sA, sZ, sS]
  refine tk 14 (.bool false) rfl (.inl ⟨by rfl, ?_⟩) ?_
  · intro w9 hSw
    try dsimp only at hSw
    go_simp
    all_goals try decide
    all_goals try assumption
    all_goals try omega
  try simp only [Act.put, gA, gS, gZ, sA, sZ, sS]
  refine tk 15 (.bool false) rfl (.inl ⟨by rfl, ?_⟩) ?_
  · intro w9 hSw
    try dsimp only at hSw
    go_simp
    all_goals try decide
    all_goals try assumption
    all_goals try omega
  try simp only [Act.put, gA, gS, gZ, sA, sZ, sS]
  refine wpAnyH_done (by kernel_rfl) ?_ _
  have kx := hHeld.1
  clear hHeld
  go_wp2_with fail
  go_ret2
  exact ⟨rfl, ext11 (heap_setCell_same _ _ _ _ _ _ HP.out), (((Kp.refl [p] w).set ⟨p, 7, none⟩ _ (.inl (by simp))).al _).drew⟩
set_option linter.unusedSimpArgs false in
set_option maxHeartbeats 4000000 in
set_option maxRecDepth 100000 in
theorem uwrong_7 (p : Nat) (id top W at_ n0 lo wr : Int) (hd : Bool) (d0 d1 d2 d3 d4 d5 d6 d7 now : Int) (h : tmB now = true) (ht : 0 < top) (h1 : 1 ≤ d0) (h2 : d0 ≤ top) (h3 : same8 d0 d1 d2 d3 d4 d5 d6 d7 d0 0 0 0 0 0 0 0 = false) (hw : IntKind.i64.wrap (wr + 1) = wr + 1) (w : World) (hp : w.heap[p]? = some (.cells (vsC id W top hd at_ n0 lo wr) 58 (0, 0))) : Calls Try.prog 21 #[.pointer (some ⟨p, 0, none⟩), frV id 1 d0 d1 d2 d3 d4 d5 d6 d7 false, .int .i64 now] w fun e w' => e = .returned (.tuple #[.int .u8 0, .bool false]) ∧ w'.heap[p]? = some (.cells (vsC id W top hd at_ n0 lo (wr + 1)) 58 (0, 0)) ∧ Kp [p] w w' := by
  have IT := fun X => time_any now X
  rw [h] at IT
  clear h
  have hq1 := fun W => eql8 W d0 d1 d2 d3 d4 d5 d6 d7 d0 0 0 0 0 0 0 0
  rw [h3] at hq1
  clear h3
  have c0 : w.cell? ⟨p, 0, none⟩ = some (.int .u16 id) := by rw [cell_of_row w _ 0 _ _ _ hp]; rfl
  have c1 : w.cell? ⟨p, 1, none⟩ = some (.int .i64 W) := by rw [cell_of_row w _ 1 _ _ _ hp]; rfl
  have c2 : w.cell? ⟨p, 2, none⟩ = some (.int .u8 top) := by rw [cell_of_row w _ 2 _ _ _ hp]; rfl
  have c3 : w.cell? ⟨p, 3, none⟩ = some (.bool hd) := by rw [cell_of_row w _ 3 _ _ _ hp]; rfl
  have c4 : w.cell? ⟨p, 4, none⟩ = some (.int .i64 at_) := by rw [cell_of_row w _ 4 _ _ _ hp]; rfl
  have c5 : w.cell? ⟨p, 5, none⟩ = some (.int .u8 n0) := by rw [cell_of_row w _ 5 _ _ _ hp]; rfl
  have c6 : w.cell? ⟨p, 6, none⟩ = some (.int .i64 lo) := by rw [cell_of_row w _ 6 _ _ _ hp]; rfl
  have c7 : w.cell? ⟨p, 7, none⟩ = some (.int .i64 wr) := by rw [cell_of_row w _ 7 _ _ _ hp]; rfl
  have lp : p < w.heap.size := lt_of_heap hp
  have z7 := froz11 w p 7 _ _ hp
  have HP : Hid (w.heap[p]? = some (.cells (vsC id W top hd at_ n0 lo wr) 58 (0, 0))) := hp
  clear hp
  go_enter Try.func21, Try.ntmps21
  go_wp2_with fail
  refine wp_region_held_drew (S := fun x => Below w.heap.size w x ∧ x.cell? ⟨p, 0, none⟩ = some (.int .u16 id) ∧ x.cell? ⟨w.heap.size, 0, none⟩ = some (.int .u16 id) ∧ x.cell? ⟨w.heap.size, 10, none⟩ = some (.bool false)) (by kernel_rfl) (⟨Below.drew (Below.al (Below.refl _ _) _), cla11 c0, by simp [go_sem], by simp [go_sem]⟩) (fun hHeld => ?_)
  refine tk 0 (.pointer (some ⟨w.heap.size, 0, none⟩)) rfl (.inl ⟨by rfl, ?_⟩) ?_
  · intro w9 hSw
    try dsimp only at hSw
    go_simp
    all_goals try decide
    all_goals try assumption
    all_goals try omega
  try simp only [Act.put, gA, gS, gZ, sA, sZ, sS]
  refine tk 1 (.int .u16 id) rfl (.inl ⟨by rfl, ?_⟩) ?_
  · intro w9 hSw
    try dsimp only at hSw
    go_simp
    all_goals try decide
    all_goals try assumption
    all_goals try omega
  try simp only [Act.put, gA, gS, gZ, sA, sZ, sS]
  refine tk 2 (.pointer (some ⟨p, 0, none⟩)) rfl (.inl ⟨by rfl, ?_⟩) ?_
  · intro w9 hSw
    try dsimp only at hSw
    go_simp
    all_goals try decide
    all_goals try assumption
    all_goals try omega
  try simp only [Act.put, gA, gS, gZ, sA, sZ, sS]
  refine tk 3 (.pointer (some ⟨p, 0, none⟩)) rfl (.inl ⟨by rfl, ?_⟩) ?_
  · intro w9 hSw
    try dsimp only at hSw
    go_simp
    all_goals try decide
    all_goals try assumption
    all_goals try omega
  try simp only [Act.put, gA, gS, gZ, sA, sZ, sS]
  refine tk 4 (.pointer (some ⟨p, 0, none⟩)) rfl (.inl ⟨by rfl, ?_⟩) ?_
  · intro w9 hSw
    try dsimp only at hSw
    go_simp
    all_goals try decide
    all_goals try assumption
    all_goals try omega
  try simp only [Act.put, gA, gS, gZ, sA, sZ, sS]
  refine tk 5 (.int .u16 id) rfl (.inl ⟨by rfl, ?_⟩) ?_
  · intro w9 hSw
    try dsimp only at hSw
    go_simp
    all_goals try decide
    all_goals try assumption
    all_goals try omega
  try simp only [Act.put, gA, gS, gZ, sA, sZ, sS]
  refine tk 6 (.bool false) rfl (.inl ⟨by rfl, ?_⟩) ?_
  · intro w9 hSw
    try dsimp only at hSw
    go_simp
    all_goals try decide
    all_goals try assumption
    all_goals try omega
  try simp only [Act.put, gA, gS, gZ, sA, sZ, sS]
  refine tk 7 (.bool false) rfl (.inl ⟨by rfl, ?_⟩) ?_
  · intro w9 hSw
    try dsimp only at hSw
    go_simp
    all_goals try decide
    all_goals try assumption
    all_goals try omega
  try simp only [Act.put, gA, gS, gZ, sA, sZ, sS]
  refine tk 8 (.pointer (some ⟨w.heap.size, 10, none⟩)) rfl (.inl ⟨by rfl, ?_⟩) ?_
  · intro w9 hSw
    try dsimp only at hSw
    go_simp
    all_goals try decide
    all_goals try assumption
    all_goals try omega
  try simp only [Act.put, gA, gS, gZ, sA, sZ, sS]
  refine tk 9 (.bool false) rfl (.inl ⟨by rfl, ?_⟩) ?_
  · intro w9 hSw
    try dsimp only at hSw
    go_simp
    all_goals try decide
    all_goals try assumption
    all_goals try omega
  try simp only [Act.put, gA, gS, gZ, sA, sZ, sS]
  refine tk 10 (.bool false) rfl (.inl ⟨by rfl, ?_⟩) ?_
  · intro w9 hSw
    try dsimp only at hSw
    go_simp
    all_goals try decide
    all_goals try assumption
    all_goals try omega
  try simp only [Act.put, gA, gS, gZ, sA, sZ, sS]
  refine tk 11 (.bool false) rfl (.inl ⟨by rfl, ?_⟩) ?_
  · intro w9 hSw
    try dsimp only at hSw
    go_simp
    all_goals try decide
    all_goals try assumption
    all_goals try omega
  try simp only [Act.put, gA, gS, gZ, sA, sZ, sS]
  refine tk 12 (.int .i64 now) rfl (.inl ⟨by rfl, ?_⟩) ?_
  · intro w9 hSw
    try dsimp only at hSw
    go_simp
    all_goals try decide
    all_goals try assumption
    all_goals try omega
  try simp only [Act.put, gA, gS, gZ, sA, sZ, sS]
  refine wpAnyH_ready (rs := [13]) (by kernel_rfl) (by simp) ?_
  refine AllReadyH.cons rfl (fun K' hK => ?_) AllReadyH.nil
  rw [if_pos (by rfl)]
  simp only [gA, gS, gZ]
  go_wp2_with fail
  refine (IT _).mono ?_
  rintro e w3 ⟨rfl, rfl⟩
  try go_wp2_with fail
  refine hK.out _ _ (hHeld) (fun hHeld => ?_)
  clear hK K'
  try simp only [Act.put, gA, gS, gZ, sA, sZ, sS]
  refine tk 14 (.bool false) rfl (.inl ⟨by rfl, ?_⟩) ?_
  · intro w9 hSw
    try dsimp only at hSw
    go_simp
    all_goals try decide
    all_goals try assumption
    all_goals try omega
  try simp only [Act.put, gA, gS, gZ, sA, sZ, sS]
  refine tk 15 (.bool false) rfl (.inl ⟨by rfl, ?_⟩) ?_
  · intro w9 hSw
    try dsimp only at hSw
    go_simp
    all_goals try decide
    all_goals try assumption
    all_goals try omega
  try simp only [Act.put, gA, gS, gZ, sA, sZ, sS]
  refine wpAnyH_done (by kernel_rfl) ?_ _
  have kx := hHeld.1
  clear hHeld
  go_wp2_with fail
  go_ret2
  exact ⟨rfl, ext11 (heap_setCell_same _ _ _ _ _ _ HP.out), (((Kp.refl [p] w).set ⟨p, 7, none⟩ _ (.inl (by simp))).al _).drew⟩
set_option linter.unusedSimpArgs false in
set_option maxHeartbeats 4000000 in
set_option maxRecDepth 100000 in
theorem uright_0 (p : Nat) (id W at_ n0 lo wr : Int) (hd : Bool) (d0 d1 d2 d3 d4 d5 d6 d7 now : Int) (h : tmB now = true) (h2 : same8 d0 d1 d2 d3 d4 d5 d6 d7 0 0 0 0 0 0 0 0 = true) (w : World) (hp : w.heap[p]? = some (.cells (vsC id W 0 hd at_ n0 lo wr) 58 (0, 0))) : Calls Try.prog 21 #[.pointer (some ⟨p, 0, none⟩), frV id 0 d0 d1 d2 d3 d4 d5 d6 d7 false, .int .i64 now] w fun e w' => e = .returned (.tuple #[.int .u8 0, .bool true]) ∧ w'.heap[p]? = some (.cells (vsC id W 0 true now 0 lo wr) 58 (0, 0)) ∧ Kp [p] w w' := by
  have IT := fun X => time_any now X
  rw [h] at IT
  clear h
  have hq0 := fun W => eql8 W d0 d1 d2 d3 d4 d5 d6 d7 0 0 0 0 0 0 0 0
  rw [h2] at hq0
  clear h2
  have c0 : w.cell? ⟨p, 0, none⟩ = some (.int .u16 id) := by rw [cell_of_row w _ 0 _ _ _ hp]; rfl
  have c1 : w.cell? ⟨p, 1, none⟩ = some (.int .i64 W) := by rw [cell_of_row w _ 1 _ _ _ hp]; rfl
  have c2 : w.cell? ⟨p, 2, none⟩ = some (.int .u8 0) := by rw [cell_of_row w _ 2 _ _ _ hp]; rfl
  have c3 : w.cell? ⟨p, 3, none⟩ = some (.bool hd) := by rw [cell_of_row w _ 3 _ _ _ hp]; rfl
  have c4 : w.cell? ⟨p, 4, none⟩ = some (.int .i64 at_) := by rw [cell_of_row w _ 4 _ _ _ hp]; rfl
  have c5 : w.cell? ⟨p, 5, none⟩ = some (.int .u8 n0) := by rw [cell_of_row w _ 5 _ _ _ hp]; rfl
  have c6 : w.cell? ⟨p, 6, none⟩ = some (.int .i64 lo) := by rw [cell_of_row w _ 6 _ _ _ hp]; rfl
  have c7 : w.cell? ⟨p, 7, none⟩ = some (.int .i64 wr) := by rw [cell_of_row w _ 7 _ _ _ hp]; rfl
  have lp : p < w.heap.size := lt_of_heap hp
  have z3 := froz11 w p 3 _ _ hp
  have z4 := froz11 w p 4 _ _ hp
  have z5 := froz11 w p 5 _ _ hp
  have HP : Hid (w.heap[p]? = some (.cells (vsC id W 0 hd at_ n0 lo wr) 58 (0, 0))) := hp
  clear hp
  go_enter Try.func21, Try.ntmps21
  go_wp2_with fail
  refine wp_region_held_drew (S := fun x => Below w.heap.size w x ∧ x.cell? ⟨p, 0, none⟩ = some (.int .u16 id) ∧ x.cell? ⟨w.heap.size, 0, none⟩ = some (.int .u16 id) ∧ x.cell? ⟨w.heap.size, 10, none⟩ = some (.bool false)) (by kernel_rfl) (⟨Below.drew (Below.al (Below.refl _ _) _), cla11 c0, by simp [go_sem], by simp [go_sem]⟩) (fun hHeld => ?_)
  refine tk 0 (.pointer (some ⟨w.heap.size, 0, none⟩)) rfl (.inl ⟨by rfl, ?_⟩) ?_
  · intro w9 hSw
    try dsimp only at hSw
    go_simp
    all_goals try decide
    all_goals try assumption
    all_goals try omega
  try simp only [Act.put, gA, gS, gZ, sA, sZ, sS]
  refine tk 1 (.int .u16 id) rfl (.inl ⟨by rfl, ?_⟩) ?_
  · intro w9 hSw
    try dsimp only at hSw
    go_simp
    all_goals try decide
    all_goals try assumption
    all_goals try omega
  try simp only [Act.put, gA, gS, gZ, sA, sZ, sS]
  refine tk 2 (.pointer (some ⟨p, 0, none⟩)) rfl (.inl ⟨by rfl, ?_⟩) ?_
  · intro w9 hSw
    try dsimp only at hSw
    go_simp
    all_goals try decide
    all_goals try assumption
    all_goals try omega
  try simp only [Act.put, gA, gS, gZ, sA, sZ, sS]
  refine tk 3 (.pointer (some ⟨p, 0, none⟩)) rfl (.inl ⟨by rfl, ?_⟩) ?_
  · intro w9 hSw
    try dsimp only at hSw
    go_simp
    all_goals try decide
    all_goals try assumption
    all_goals try omega
  try simp only [Act.put, gA, gS, gZ, sA, sZ, sS]
  refine tk 4 (.pointer (some ⟨p, 0, none⟩)) rfl (.inl ⟨by rfl, ?_⟩) ?_
  · intro w9 hSw
    try dsimp only at hSw
    go_simp
    all_goals try decide
    all_goals try assumption
    all_goals try omega
  try simp only [Act.put, gA, gS, gZ, sA, sZ, sS]
  refine tk 5 (.int .u16 id) rfl (.inl ⟨by rfl, ?_⟩) ?_
  · intro w9 hSw
    try dsimp only at hSw
    go_simp
    all_goals try decide
    all_goals try assumption
    all_goals try omega
  try simp only [Act.put, gA, gS, gZ, sA, sZ, sS]
  refine tk 6 (.bool false) rfl (.inl ⟨by rfl, ?_⟩) ?_
  · intro w9 hSw
    try dsimp only at hSw
    go_simp
    all_goals try decide
    all_goals try assumption
    all_goals try omega
  try simp only [Act.put, gA, gS, gZ, sA, sZ, sS]
  refine tk 7 (.bool false) rfl (.inl ⟨by rfl, ?_⟩) ?_
  · intro w9 hSw
    try dsimp only at hSw
    go_simp
    all_goals try decide
    all_goals try assumption
    all_goals try omega
  try simp only [Act.put, gA, gS, gZ, sA, sZ, sS]
  refine tk 8 (.pointer (some ⟨w.heap.size, 10, none⟩)) rfl (.inl ⟨by rfl, ?_⟩) ?_
  · intro w9 hSw
    try dsimp only at hSw
    go_simp
    all_goals try decide
    all_goals try assumption
    all_goals try omega
  try simp only [Act.put, gA, gS, gZ, sA, sZ, sS]
  refine tk 9 (.bool false) rfl (.inl ⟨by rfl, ?_⟩) ?_
  · intro w9 hSw
    try dsimp only at hSw
    go_simp
    all_goals try decide
    all_goals try assumption
    all_goals try omega
  try simp only [Act.put, gA, gS, gZ, sA, sZ, sS]
  refine tk 10 (.bool false) rfl (.inl ⟨by rfl, ?_⟩) ?_
  · intro w9 hSw
    try dsimp only at hSw
    go_simp
    all_goals try decide
    all_goals try assumption
    all_goals try omega
  try simp only [Act.put, gA, gS, gZ, sA, sZ, sS]
  refine tk 11 (.bool false) rfl (.inl ⟨by rfl, ?_⟩) ?_
  · intro w9 hSw
    try dsimp only at hSw
    go_simp
    all_goals try decide
    all_goals try assumption
    all_goals try omega
  try simp only [Act.put, gA, gS, gZ, sA, sZ, sS]
  refine tk 12 (.int .i64 now) rfl (.inl ⟨by rfl, ?_⟩) ?_
  · intro w9 hSw
    try dsimp only at hSw
    go_simp
    all_goals try decide
    all_goals try assumption
    all_goals try omega
  try simp only [Act.put, gA, gS, gZ, sA, sZ, sS]
  refine wpAnyH_ready (rs := [13]) (by kernel_rfl) (by simp) ?_
  refine AllReadyH.cons rfl (fun K' hK => ?_) AllReadyH.nil
  rw [if_pos (by rfl)]
  simp only [gA, gS, gZ]
  go_wp2_with fail
  refine (IT _).mono ?_
  rintro e w3 ⟨rfl, rfl⟩
  try go_wp2_with fail
  refine hK.out _ _ (hHeld) (fun hHeld => ?_)
  clear hK K'
  try simp only [Act.put, gA, gS, gZ, sA, sZ, sS]
  refine tk 14 (.bool false) rfl (.inl ⟨by rfl, ?_⟩) ?_
  · intro w9 hSw
    try dsimp only at hSw
    go_simp
    all_goals try decide
    all_goals try assumption
    all_goals try omega
  try simp only [Act.put, gA, gS, gZ, sA, sZ, sS]
  refine tk 15 (.bool false) rfl (.inl ⟨by rfl, ?_⟩) ?_
  · intro w9 hSw
    try dsimp only at hSw
    go_simp
    all_goals try decide
    all_goals try assumption
    all_goals try omega
  try simp only [Act.put, gA, gS, gZ, sA, sZ, sS]
  refine wpAnyH_done (by kernel_rfl) ?_ _
  have kx := hHeld.1
  clear hHeld
  go_wp2_with fail
  go_ret2
  exact ⟨rfl, ext11 (heap_setCell_same _ _ _ _ _ _ (heap_setCell_same _ _ _ _ _ _ (heap_setCell_same _ _ _ _ _ _ HP.out))), (((((Kp.refl [p] w).set ⟨p, 3, none⟩ _ (.inl (by simp))).set ⟨p, 4, none⟩ _ (.inl (by simp))).set ⟨p, 5, none⟩ _ (.inl (by simp))).al _).drew⟩
set_option linter.unusedSimpArgs false in
set_option maxHeartbeats 4000000 in
set_option maxRecDepth 100000 in
theorem uright_1 (p : Nat) (id top W at_ n0 lo wr : Int) (d0 d1 d2 d3 d4 d5 d6 d7 now : Int) (h : tmB now = true) (ht : 0 < top) (h1 : 1 ≤ d0) (h2 : d0 ≤ top) (h3 : same8 d0 d1 d2 d3 d4 d5 d6 d7 d0 0 0 0 0 0 0 0 = true) (w : World) (hp : w.heap[p]? = some (.cells (vsC id W top false at_ n0 lo wr) 58 (0, 0))) : Calls Try.prog 21 #[.pointer (some ⟨p, 0, none⟩), frV id 1 d0 d1 d2 d3 d4 d5 d6 d7 false, .int .i64 now] w fun e w' => e = .returned (.tuple #[.int .u8 d0, .bool true]) ∧ w'.heap[p]? = some (.cells (vsC id W top true now d0 lo wr) 58 (0, 0)) ∧ Kp [p] w w' := by
  have IT := fun X => time_any now X
  rw [h] at IT
  clear h
  have hq1 := fun W => eql8 W d0 d1 d2 d3 d4 d5 d6 d7 d0 0 0 0 0 0 0 0
  rw [h3] at hq1
  clear h3
  have c0 : w.cell? ⟨p, 0, none⟩ = some (.int .u16 id) := by rw [cell_of_row w _ 0 _ _ _ hp]; rfl
  have c1 : w.cell? ⟨p, 1, none⟩ = some (.int .i64 W) := by rw [cell_of_row w _ 1 _ _ _ hp]; rfl
  have c2 : w.cell? ⟨p, 2, none⟩ = some (.int .u8 top) := by rw [cell_of_row w _ 2 _ _ _ hp]; rfl
  have c3 : w.cell? ⟨p, 3, none⟩ = some (.bool false) := by rw [cell_of_row w _ 3 _ _ _ hp]; rfl
  have c4 : w.cell? ⟨p, 4, none⟩ = some (.int .i64 at_) := by rw [cell_of_row w _ 4 _ _ _ hp]; rfl
  have c5 : w.cell? ⟨p, 5, none⟩ = some (.int .u8 n0) := by rw [cell_of_row w _ 5 _ _ _ hp]; rfl
  have c6 : w.cell? ⟨p, 6, none⟩ = some (.int .i64 lo) := by rw [cell_of_row w _ 6 _ _ _ hp]; rfl
  have c7 : w.cell? ⟨p, 7, none⟩ = some (.int .i64 wr) := by rw [cell_of_row w _ 7 _ _ _ hp]; rfl
  have lp : p < w.heap.size := lt_of_heap hp
  have z3 := froz11 w p 3 _ _ hp
  have z4 := froz11 w p 4 _ _ hp
  have z5 := froz11 w p 5 _ _ hp
  have HP : Hid (w.heap[p]? = some (.cells (vsC id W top false at_ n0 lo wr) 58 (0, 0))) := hp
  clear hp
  go_enter Try.func21, Try.ntmps21
  go_wp2_with fail
  refine wp_region_held_drew (S := fun x => Below w.heap.size w x ∧ x.cell? ⟨p, 0, none⟩ = some (.int .u16 id) ∧ x.cell? ⟨w.heap.size, 0, none⟩ = some (.int .u16 id) ∧ x.cell? ⟨w.heap.size, 10, none⟩ = some (.bool false)) (by kernel_rfl) (⟨Below.drew (Below.al (Below.refl _ _) _), cla11 c0, by simp [go_sem], by simp [go_sem]⟩) (fun hHeld => ?_)
  refine tk 0 (.pointer (some ⟨w.heap.size, 0, none⟩)) rfl (.inl ⟨by rfl, ?_⟩) ?_
  · intro w9 hSw
    try dsimp only at hSw
    go_simp
    all_goals try decide
    all_goals try assumption
    all_goals try omega
  try simp only [Act.put, gA, gS, gZ, sA, sZ, sS]
  refine tk 1 (.int .u16 id) rfl (.inl ⟨by rfl, ?_⟩) ?_
  · intro w9 hSw
    try dsimp only at hSw
    go_simp
    all_goals try decide
    all_goals try assumption
    all_goals try omega
  try simp only [Act.put, gA, gS, gZ, sA, sZ, sS]
  refine tk 2 (.pointer (some ⟨p, 0, none⟩)) rfl (.inl ⟨by rfl, ?_⟩) ?_
  · intro w9 hSw
    try dsimp only at hSw
    go_simp
    all_goals try decide
    all_goals try assumption
    all_goals try omega
  try simp only [Act.put, gA, gS, gZ, sA, sZ, sS]
  refine tk 3 (.pointer (some ⟨p, 0, none⟩)) rfl (.inl ⟨by rfl, ?_⟩) ?_
  · intro w9 hSw
    try dsimp only at hSw
    go_simp
    all_goals try decide
    all_goals try assumption
    all_goals try omega
  try simp only [Act.put, gA, gS, gZ, sA, sZ, sS]
  refine tk 4 (.pointer (some ⟨p, 0, none⟩)) rfl (.inl ⟨by rfl, ?_⟩) ?_
  · intro w9 hSw
    try dsimp only at hSw
    go_simp
    all_goals try decide
    all_goals try assumption
    all_goals try omega
  try simp only [Act.put, gA, gS, gZ, sA, sZ, sS]
  refine tk 5 (.int .u16 id) rfl (.inl ⟨by rfl, ?_⟩) ?_
  · intro w9 hSw
    try dsimp only at hSw
    go_simp
    all_goals try decide
    all_goals try assumption
    all_goals try omega
  try simp only [Act.put, gA, gS, gZ, sA, sZ, sS]
  refine tk 6 (.bool false) rfl (.inl ⟨by rfl, ?_⟩) ?_
  · intro w9 hSw
    try dsimp only at hSw
    go_simp
    all_goals try decide
    all_goals try assumption
    all_goals try omega
  try simp only [Act.put, gA, gS, gZ, sA, sZ, sS]
  refine tk 7 (.bool false) rfl (.inl ⟨by rfl, ?_⟩) ?_
  · intro w9 hSw
    try dsimp only at hSw
    go_simp
    all_goals try decide
    all_goals try assumption
    all_goals try omega
  try simp only [Act.put, gA, gS, gZ, sA, sZ, sS]
  refine tk 8 (.pointer (some ⟨w.heap.size, 10, none⟩)) rfl (.inl ⟨by rfl, ?_⟩) ?_
  · intro w9 hSw
    try dsimp only at hSw
    go_simp
    all_goals try decide
    all_goals try assumption
    all_goals try omega
  try simp only [Act.put, gA, gS, gZ, sA, sZ, sS]
  refine tk 9 (.bool false) rfl (.inl ⟨by rfl, ?_⟩) ?_
  · intro w9 hSw
    try dsimp only at hSw
    go_simp
    all_goals try decide
    all_goals try assumption
    all_goals try omega
  try simp only [Act.put, gA, gS, gZ, sA, sZ, sS]
  refine tk 10 (.bool false) rfl (.inl ⟨by rfl, ?_⟩) ?_
  · intro w9 hSw
    try dsimp only at hSw
    go_simp
    all_goals try decide
    all_goals try assumption
    all_goals try omega
  try simp only [Act.put, gA, gS, gZ, sA, sZ, sS]
  refine tk 11 (.bool false) rfl (.inl ⟨by rfl, ?_⟩) ?_
  · intro w9 hSw
    try dsimp only at hSw
    go_simp
    all_goals try decide
    all_goals try assumption
    all_goals try omega
  try simp only [Act.put, gA, gS, gZ, sA, sZ, sS]
  refine tk 12 (.int .i64 now) rfl (.inl ⟨by rfl, ?_⟩) ?_
  · intro w9 hSw
    try dsimp only at hSw
    go_simp
    all_goals try decide
    all_goals try assumption
    all_goals try omega
  try simp only [Act.put, gA, gS, gZ, sA, sZ, sS]
  refine wpAnyH_ready (rs := [13]) (by kernel_rfl) (by simp) ?_
  refine AllReadyH.cons rfl (fun K' hK => ?_) AllReadyH.nil
  rw [if_pos (by rfl)]
  simp only [gA, gS, gZ]
  go_wp2_with fail
  refine (IT _).mono ?_
  rintro e w3 ⟨rfl, rfl⟩
  try go_wp2_with fail
  refine hK.out _ _ (hHeld) (fun hHeld => ?_)
  clear hK K'
  try simp only [Act.put, gA, gS, gZ, sA, sZ, sS]
  refine tk 14 (.bool false) rfl (.inl ⟨by rfl, ?_⟩) ?_
  · intro w9 hSw
    try dsimp only at hSw
    go_simp
    all_goals try decide
    all_goals try assumption
    all_goals try omega
  try simp only [Act.put, gA, gS, gZ, sA, sZ, sS]
  refine tk 15 (.bool false) rfl (.inl ⟨by rfl, ?_⟩) ?_
  · intro w9 hSw
    try dsimp only at hSw
    go_simp
    all_goals try decide
    all_goals try assumption
    all_goals try omega
  try simp only [Act.put, gA, gS, gZ, sA, sZ, sS]
  refine wpAnyH_done (by kernel_rfl) ?_ _
  have kx := hHeld.1
  clear hHeld
  go_wp2_with fail
  go_ret2
  exact ⟨rfl, ext11 (heap_setCell_same _ _ _ _ _ _ (heap_setCell_same _ _ _ _ _ _ (heap_setCell_same _ _ _ _ _ _ HP.out))), (((((Kp.refl [p] w).set ⟨p, 3, none⟩ _ (.inl (by simp))).set ⟨p, 4, none⟩ _ (.inl (by simp))).set ⟨p, 5, none⟩ _ (.inl (by simp))).al _).drew⟩
#print axioms uright_1
end Go.Proofs.Ytlijkgkkoahajaa
