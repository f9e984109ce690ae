/-
  The walk of the document's Tick.
-/
import Derived.Test.YtlijkgkkoahajaaYe
import Derived.BigQuiet
import Derived.Test.YtlijkgkkoahajaaTk9
namespace Go.Proofs.Ytlijkgkkoahajaa
open Go.RowKit

set_option linter.unusedSimpArgs false in
set_option maxHeartbeats 4000000 in
set_option maxRecDepth 100000 in
theorem utick_off (p : Nat) (id P top due n now : Int) (w : World) (hp : w.heap[p]? = some (.cells (urC id P top false due n) 36 (0, 0))) : Calls Try.prog 16 #[.pointer (some ⟨p, 0, none⟩), .int .i64 now] w fun e w' => e = .returned (.tuple #[frV 0 0 0 0 0 0 0 0 0 0 false, .bool false]) ∧ Below w.heap.size w w' := by
  have c0 : w.cell? ⟨p, 0, none⟩ = some (.int .u16 id) := by rw [cell_of_row w _ 0 _ _ _ hp]; rfl
  have c1 : w.cell? ⟨p, 1, none⟩ = some (.int .i64 P) := by rw [cell_of_row w _ 1 _ _ _ hp]; rfl
  have c2 : w.cell? ⟨p, 2, none⟩ = some (.int .u8 top) := by rw [cell_of_row w _ 2 _ _ _ hp]; rfl
  have c3 : w.cell? ⟨p, 3, none⟩ = some (.bool false) := by rw [cell_of_row w _ 3 _ _ _ hp]; rfl
  have c4 : w.cell? ⟨p, 4, none⟩ = some (.int .i64 due) := by rw [cell_of_row w _ 4 _ _ _ hp]; rfl
  have c5 : w.cell? ⟨p, 5, none⟩ = some (.int .u8 n) := by rw [cell_of_row w _ 5 _ _ _ hp]; rfl
  have lp : p < w.heap.size := lt_of_heap hp
  clear hp
  go_enter Try.func16, Try.ntmps16
  go_wp2_with fail
  exact bodyPost_ret (v := .tuple #[frV 0 0 0 0 0 0 0 0 0 0 false, .bool false]) (by simp [results, Try.results16, go_sem]) rfl ⟨rfl, (by repeat (first | exact Below.refl _ _ | apply Below.drew | apply Below.al))⟩
set_option linter.unusedSimpArgs false in
set_option maxHeartbeats 4000000 in
set_option maxRecDepth 100000 in
theorem utick_none (p : Nat) (id P top due n now : Int) (h : tmB now = false) (w : World) (hp : w.heap[p]? = some (.cells (urC id P top true due n) 36 (0, 0))) : Calls Try.prog 16 #[.pointer (some ⟨p, 0, none⟩), .int .i64 now] w fun e w' => e = .returned (.tuple #[frV 0 0 0 0 0 0 0 0 0 0 false, .bool false]) ∧ Below w.heap.size w w' := by
  have IT := fun W => time_any now W
  rw [h] at IT
  have c0 : w.cell? ⟨p, 0, none⟩ = some (.int .u16 id) := by rw [cell_of_row w _ 0 _ _ _ hp]; rfl
  have c1 : w.cell? ⟨p, 1, none⟩ = some (.int .i64 P) := by rw [cell_of_row w _ 1 _ _ _ hp]; rfl
  have c2 : w.cell? ⟨p, 2, none⟩ = some (.int .u8 top) := by rw [cell_of_row w _ 2 _ _ _ hp]; rfl
  have c3 : w.cell? ⟨p, 3, none⟩ = some (.bool true) := by rw [cell_of_row w _ 3 _ _ _ hp]; rfl
  have c4 : w.cell? ⟨p, 4, none⟩ = some (.int .i64 due) := by rw [cell_of_row w _ 4 _ _ _ hp]; rfl
  have c5 : w.cell? ⟨p, 5, none⟩ = some (.int .u8 n) := by rw [cell_of_row w _ 5 _ _ _ hp]; rfl
  have lp : p < w.heap.size := lt_of_heap hp
  clear hp
  go_enter Try.func16, Try.ntmps16
  go_wp2_with fail
  refine (IT _).mono ?_
  rintro e w1 ⟨rfl, rfl⟩
  go_wp2_with fail
  exact bodyPost_ret (v := .tuple #[frV 0 0 0 0 0 0 0 0 0 0 false, .bool false]) (by simp [results, Try.results16, go_sem]) rfl ⟨rfl, (by repeat (first | exact Below.refl _ _ | apply Below.drew | apply Below.al))⟩
set_option linter.unusedSimpArgs false in
set_option maxHeartbeats 4000000 in
set_option maxRecDepth 100000 in
theorem utick_early (p : Nat) (id P top due n now : Int) (h : tmB now = true) (hd : now < due) (w : World) (hp : w.heap[p]? = some (.cells (urC id P top true due n) 36 (0, 0))) : Calls Try.prog 16 #[.pointer (some ⟨p, 0, none⟩), .int .i64 now] w fun e w' => e = .returned (.tuple #[frV 0 0 0 0 0 0 0 0 0 0 false, .bool false]) ∧ Below w.heap.size w w' := by
  have IT := fun W => time_any now W
  rw [h] at IT
  clear h
  have c0 : w.cell? ⟨p, 0, none⟩ = some (.int .u16 id) := by rw [cell_of_row w _ 0 _ _ _ hp]; rfl
  have c1 : w.cell? ⟨p, 1, none⟩ = some (.int .i64 P) := by rw [cell_of_row w _ 1 _ _ _ hp]; rfl
  have c2 : w.cell? ⟨p, 2, none⟩ = some (.int .u8 top) := by rw [cell_of_row w _ 2 _ _ _ hp]; rfl
  have c3 : w.cell? ⟨p, 3, none⟩ = some (.bool true) := by rw [cell_of_row w _ 3 _ _ _ hp]; rfl
  have c4 : w.cell? ⟨p, 4, none⟩ = some (.int .i64 due) := by rw [cell_of_row w _ 4 _ _ _ hp]; rfl
  have c5 : w.cell? ⟨p, 5, none⟩ = some (.int .u8 n) := by rw [cell_of_row w _ 5 _ _ _ hp]; rfl
  have lp : p < w.heap.size := lt_of_heap hp
  clear hp
  go_enter Try.func16, Try.ntmps16
  go_wp2_with fail
  refine (IT _).mono ?_
  rintro e w1 ⟨rfl, rfl⟩
  go_wp2_with fail
  exact bodyPost_ret (v := .tuple #[frV 0 0 0 0 0 0 0 0 0 0 false, .bool false]) (by simp [results, Try.results16, go_sem]) rfl ⟨rfl, (by repeat (first | exact Below.refl _ _ | apply Below.drew | apply Below.al))⟩
set_option linter.unusedSimpArgs false in
set_option maxHeartbeats 4000000 in
set_option maxRecDepth 100000 in
theorem utick_0 (p : Nat) (id P due n now : Int) (h : tmB now = true) (hd : due ≤ now) (hP : 1 ≤ P) (hP2 : P ≤ 1099511627776) (hdu : 0 ≤ due) (w : World) (hp : w.heap[p]? = some (.cells (urC id P 0 true due n) 36 (0, 0))) : Calls Try.prog 16 #[.pointer (some ⟨p, 0, none⟩), .int .i64 now] w fun e w' => e = .returned (.tuple #[frV id 0 0 0 0 0 0 0 0 0 false, .bool true]) ∧ w'.heap[p]? = some (.cells (urC id P 0 true (due + ((now - due) / P + 1) * P) (n)) 36 (0, 0)) ∧ Kp [p] w w' := by
  have IT := fun W => time_any now W
  rw [h] at IT
  obtain ⟨t0, t1⟩ := tmB_of h
  clear h
  have hd' : ¬ now < due := by omega
  have lp : p < w.heap.size := lt_of_heap hp
  have c0 : w.cell? ⟨p, 0, none⟩ = some (.int .u16 id) := by rw [cell_of_row w _ 0 _ _ _ hp]; rfl
  have c1 : w.cell? ⟨p, 1, none⟩ = some (.int .i64 P) := by rw [cell_of_row w _ 1 _ _ _ hp]; rfl
  have c2 : w.cell? ⟨p, 2, none⟩ = some (.int .u8 0) := by rw [cell_of_row w _ 2 _ _ _ hp]; rfl
  have c3 : w.cell? ⟨p, 3, none⟩ = some (.bool true) := by rw [cell_of_row w _ 3 _ _ _ hp]; rfl
  have c4 : w.cell? ⟨p, 4, none⟩ = some (.int .i64 due) := by rw [cell_of_row w _ 4 _ _ _ hp]; rfl
  have c5 : w.cell? ⟨p, 5, none⟩ = some (.int .u8 n) := by rw [cell_of_row w _ 5 _ _ _ hp]; rfl
  have z4 := froz11 w p 4 _ _ hp
  have z5 := froz11 w p 5 _ _ hp
  have HP : Hid (w.heap[p]? = some (.cells (urC id P 0 true due n) 36 (0, 0))) := hp
  have EQ : Hid (IntKind.i64.wrap (now - due) = now - due ∧ IntKind.i64.wrap ((now - due).tdiv P) = (now - due) / P ∧ IntKind.i64.wrap ((now - due) / P + 1) = (now - due) / P + 1 ∧ IntKind.i64.wrap (((now - due) / P + 1) * P) = ((now - due) / P + 1) * P ∧ IntKind.i64.wrap (due + ((now - due) / P + 1) * P) = due + ((now - due) / P + 1) * P) := tick_eqs now due P (by omega) t1 hd hP hP2 hdu
  go_enter Try.func16, Try.ntmps16
  go_wp2_with fail
  refine (IT _).mono ?_
  rintro e w1 ⟨rfl, rfl⟩
  go_wp2_with fail
  have q0 : ((w.alloc (.cells (frC 0 0 0 0 0 0 0 0 0 0 false) 39)).alloc (.cells (frC id 0 0 0 0 0 0 0 0 0 false) 39)).heap[p]? = some (.cells (urC id P 0 true due (n)) 36 (0, 0)) := ext11 (ext11 HP.out)
  have g0 : ((w.alloc (.cells (frC 0 0 0 0 0 0 0 0 0 0 false) 39)).alloc (.cells (frC id 0 0 0 0 0 0 0 0 0 false) 39)).heap[w.heap.size]? = some (.cells (frC 0 0 0 0 0 0 0 0 0 0 false) 39 (0, 0)) := ext11 (at11 _ _ _ rfl)
  have b0 : ((w.alloc (.cells (frC 0 0 0 0 0 0 0 0 0 0 false) 39)).alloc (.cells (frC id 0 0 0 0 0 0 0 0 0 false) 39)).heap[w.heap.size + 1]? = some (.cells (frC id 0 0 0 0 0 0 0 0 0 false) 39 (0, 0)) := at11 _ _ _ (by simp)
  have k0 : Kp [p] w ((w.alloc (.cells (frC 0 0 0 0 0 0 0 0 0 0 false) 39)).alloc (.cells (frC id 0 0 0 0 0 0 0 0 0 false) 39)) := ((Kp.refl _ _).al _).al _
  generalize hx : ((w.alloc (.cells (frC 0 0 0 0 0 0 0 0 0 0 false) 39)).alloc (.cells (frC id 0 0 0 0 0 0 0 0 0 false) 39) : World) = x at q0 g0 b0 k0 ⊢
  clear hx
  have x1 : x.cell? ⟨p, 1, none⟩ = some (.int .i64 P) := by rw [cell_of_row x _ 1 _ _ _ q0]; rfl
  have x4 : x.cell? ⟨p, 4, none⟩ = some (.int .i64 due) := by rw [cell_of_row x _ 4 _ _ _ q0]; rfl
  have y4 := froz11 x p 4 _ _ q0
  have lx : p < x.heap.size := lt_of_heap q0
  obtain ⟨E1, E2, E3, E4, E5⟩ := EQ.out
  refine wp_region_held_drew (S := fun x => True ∧ x.cell? ⟨p, 1, none⟩ = some (.int .i64 P)) (by kernel_rfl) (⟨trivial, x1⟩) (fun hHeld => ?_)
  refine tk 0 (.pointer (some ⟨p, 0, none⟩)) rfl (.inl ⟨by rfl, ?_⟩) ?_
  · intro w9 hSw
    try dsimp only at hSw
    go_simp
    all_goals try decide
    all_goals try assumption
    all_goals try omega
  try simp only [Act.put, gA, gS, gZ, sA, sZ, sS]
  refine tk 1 (.pointer (some ⟨p, 0, none⟩)) rfl (.inl ⟨by rfl, ?_⟩) ?_
  · intro w9 hSw
    try dsimp only at hSw
    go_simp
    all_goals try decide
    all_goals try assumption
    all_goals try omega
  try simp only [Act.put, gA, gS, gZ, sA, sZ, sS]
  refine tk 2 (.pointer (some ⟨p, 0, none⟩)) rfl (.inl ⟨by rfl, ?_⟩) ?_
  · intro w9 hSw
    try dsimp only at hSw
    go_simp
    all_goals try decide
    all_goals try assumption
    all_goals try omega
  try simp only [Act.put, gA, gS, gZ, sA, sZ, sS]
  refine tk 3 (.pointer (some ⟨p, 4, none⟩)) rfl (.inl ⟨by rfl, ?_⟩) ?_
  · intro w9 hSw
    try dsimp only at hSw
    go_simp
    all_goals try decide
    all_goals try assumption
    all_goals try omega
  try simp only [Act.put, gA, gS, gZ, sA, sZ, sS]
  refine tk 5 (.int .i64 now) rfl (.inl ⟨by rfl, ?_⟩) ?_
  · intro w9 hSw
    try dsimp only at hSw
    go_simp
    all_goals try decide
    all_goals try assumption
    all_goals try omega
  try simp only [Act.put, gA, gS, gZ, sA, sZ, sS]
  refine tk 6 (.pointer (some ⟨p, 0, none⟩)) rfl (.inl ⟨by rfl, ?_⟩) ?_
  · intro w9 hSw
    try dsimp only at hSw
    go_simp
    all_goals try decide
    all_goals try assumption
    all_goals try omega
  try simp only [Act.put, gA, gS, gZ, sA, sZ, sS]
  refine tk 7 (.pointer (some ⟨p, 0, none⟩)) rfl (.inl ⟨by rfl, ?_⟩) ?_
  · intro w9 hSw
    try dsimp only at hSw
    go_simp
    all_goals try decide
    all_goals try assumption
    all_goals try omega
  try simp only [Act.put, gA, gS, gZ, sA, sZ, sS]
  refine tk 8 (.pointer (some ⟨p, 4, none⟩)) rfl (.inl ⟨by rfl, ?_⟩) ?_
  · intro w9 hSw
    try dsimp only at hSw
    go_simp
    all_goals try decide
    all_goals try assumption
    all_goals try omega
  try simp only [Act.put, gA, gS, gZ, sA, sZ, sS]
  refine tk 11 (.pointer (some ⟨p, 0, none⟩)) rfl (.inl ⟨by rfl, ?_⟩) ?_
  · intro w9 hSw
    try dsimp only at hSw
    go_simp
    all_goals try decide
    all_goals try assumption
    all_goals try omega
  try simp only [Act.put, gA, gS, gZ, sA, sZ, sS]
  refine tk 12 (.pointer (some ⟨p, 0, none⟩)) rfl (.inl ⟨by rfl, ?_⟩) ?_
  · intro w9 hSw
    try dsimp only at hSw
    go_simp
    all_goals try decide
    all_goals try assumption
    all_goals try omega
  try simp only [Act.put, gA, gS, gZ, sA, sZ, sS]
  refine tk 13 (.pointer (some ⟨p, 1, none⟩)) rfl (.inl ⟨by rfl, ?_⟩) ?_
  · intro w9 hSw
    try dsimp only at hSw
    go_simp
    all_goals try decide
    all_goals try assumption
    all_goals try omega
  try simp only [Act.put, gA, gS, gZ, sA, sZ, sS]
  refine tk 14 (.int .i64 P) rfl (.inl ⟨by rfl, ?_⟩) ?_
  · intro w9 hSw
    try dsimp only at hSw
    go_simp
    all_goals try decide
    all_goals try assumption
    all_goals try omega
  try simp only [Act.put, gA, gS, gZ, sA, sZ, sS]
  refine tk 17 (.pointer (some ⟨p, 0, none⟩)) rfl (.inl ⟨by rfl, ?_⟩) ?_
  · intro w9 hSw
    try dsimp only at hSw
    go_simp
    all_goals try decide
    all_goals try assumption
    all_goals try omega
  try simp only [Act.put, gA, gS, gZ, sA, sZ, sS]
  refine tk 18 (.pointer (some ⟨p, 0, none⟩)) rfl (.inl ⟨by rfl, ?_⟩) ?_
  · intro w9 hSw
    try dsimp only at hSw
    go_simp
    all_goals try decide
    all_goals try assumption
    all_goals try omega
  try simp only [Act.put, gA, gS, gZ, sA, sZ, sS]
  refine tk 19 (.pointer (some ⟨p, 1, none⟩)) rfl (.inl ⟨by rfl, ?_⟩) ?_
  · intro w9 hSw
    try dsimp only at hSw
    go_simp
    all_goals try decide
    all_goals try assumption
    all_goals try omega
  try simp only [Act.put, gA, gS, gZ, sA, sZ, sS]
  refine tk 20 (.int .i64 P) rfl (.inl ⟨by rfl, ?_⟩) ?_
  · intro w9 hSw
    try dsimp only at hSw
    go_simp
    all_goals try decide
    all_goals try assumption
    all_goals try omega
  try simp only [Act.put, gA, gS, gZ, sA, sZ, sS]
  refine wpAnyH_ready (rs := [4, 9]) (by kernel_rfl) (by simp) ?_
  refine AllReadyH.cons rfl (fun K' hK => ?_) (AllReadyH.cons rfl (fun K' hK => ?_) AllReadyH.nil)
  · rw [if_pos (by rfl)]
    simp only [gA, gS, gZ]
    go_wp2_with fail
    refine hK.out _ _ (hHeld) (fun hHeld => ?_)
    clear hK K'
    try simp only [Act.put, gA, gS, gZ, sA, sZ, sS]
    refine wpAnyH_ready (rs := [9]) (by kernel_rfl) (by simp) ?_
    refine AllReadyH.cons rfl (fun K' hK => ?_) AllReadyH.nil
    rw [if_pos (by rfl)]
    simp only [gA, gS, gZ]
    go_wp2_with fail
    refine hK.out _ _ (hHeld) (fun hHeld => ?_)
    clear hK K'
    try simp only [Act.put, gA, gS, gZ, sA, sZ, sS]
    refine tk 10 (.int .i64 (now - due)) rfl (.inl ⟨by rfl, ?_⟩) ?_
    · intro w9 hSw
      try dsimp only at hSw
      go_simp
      all_goals try decide
      all_goals try assumption
      all_goals try omega
    try simp only [Act.put, gA, gS, gZ, sA, sZ, sS]
    refine tk 15 (.int .i64 ((now - due) / P)) rfl (.inl ⟨by rfl, ?_⟩) ?_
    · intro w9 hSw
      try dsimp only at hSw
      go_simp
      all_goals try decide
      all_goals try assumption
      all_goals try omega
    try simp only [Act.put, gA, gS, gZ, sA, sZ, sS]
    refine tk 16 (.int .i64 ((now - due) / P + 1)) rfl (.inl ⟨by rfl, ?_⟩) ?_
    · intro w9 hSw
      try dsimp only at hSw
      go_simp
      all_goals try decide
      all_goals try assumption
      all_goals try omega
    try simp only [Act.put, gA, gS, gZ, sA, sZ, sS]
    refine tk 21 (.int .i64 (((now - due) / P + 1) * P)) rfl (.inl ⟨by rfl, ?_⟩) ?_
    · intro w9 hSw
      try dsimp only at hSw
      go_simp
      all_goals try decide
      all_goals try assumption
      all_goals try omega
    try simp only [Act.put, gA, gS, gZ, sA, sZ, sS]
    refine tk 22 (.int .i64 (due + ((now - due) / P + 1) * P)) rfl (.inl ⟨by rfl, ?_⟩) ?_
    · intro w9 hSw
      try dsimp only at hSw
      go_simp
      all_goals try decide
      all_goals try assumption
      all_goals try omega
    try simp only [Act.put, gA, gS, gZ, sA, sZ, sS]
    refine tk 23 (.pointer (some ⟨p, 0, none⟩)) rfl (.inl ⟨by rfl, ?_⟩) ?_
    · intro w9 hSw
      try dsimp only at hSw
      go_simp
      all_goals try decide
      all_goals try assumption
      all_goals try omega
    try simp only [Act.put, gA, gS, gZ, sA, sZ, sS]
    refine tk 24 (.pointer (some ⟨p, 4, none⟩)) rfl (.inl ⟨by rfl, ?_⟩) ?_
    · intro w9 hSw
      try dsimp only at hSw
      go_simp
      all_goals try decide
      all_goals try assumption
      all_goals try omega
    try simp only [Act.put, gA, gS, gZ, sA, sZ, sS]
    refine wpAnyH_ready (rs := [25]) (by kernel_rfl) (by simp) ?_
    refine AllReadyH.cons rfl (fun K' hK => ?_) AllReadyH.nil
    rw [if_pos (by rfl)]
    simp only [gA, gS, gZ]
    obtain ⟨S0, S1⟩ := hHeld
    go_wp2_with fail
    refine hK.out _ _ (⟨trivial, cset11 (W := x.drew) q0 rfl⟩) (fun hHeld => ?_)
    clear hK K'
    try simp only [Act.put, gA, gS, gZ, sA, sZ, sS]
    refine wpAnyH_done (by kernel_rfl) ?_ _
    have q4 := heap_setCell_same x.drew p 4 _ _ (.int .i64 (due + ((now - due) / P + 1) * P)) q0
    have g4 := (Below.heap_setCell x.drew ⟨p, 4, none⟩ (.int .i64 (due + ((now - due) / P + 1) * P)) _ (by show w.heap.size ≠ p; omega)).trans g0
    have b4 := (Below.heap_setCell x.drew ⟨p, 4, none⟩ (.int .i64 (due + ((now - due) / P + 1) * P)) _ (by show w.heap.size + 1 ≠ p; omega)).trans b0
    have hc := fun j => cell_of_row (((x.setCell ⟨p, 4, none⟩ (.int .i64 (due + ((now - due) / P + 1) * P))).drew).setRow w.heap.size (frC id 0 0 0 0 0 0 0 0 0 false)) w.heap.size j _ _ _ (setRow_heap _ _ _ (frC id 0 0 0 0 0 0 0 0 0 false) _ _ g4)
    go_wp2_with (first | refine wpList_load_by rfl 39 _ rfl ⟨w.heap.size + 1, 0, none⟩ (frV id 0 0 0 0 0 0 0 0 0 false) rfl (loadF _ _ _ _ _ _ _ _ _ _ _ _ _ b4) ?_ | refine wpList_store_row rfl 39 _ _ rfl w.heap.size (frC id 0 0 0 0 0 0 0 0 0 false) rfl rfl 39 _ g4 infoF rfl (frC_one _ _ _ _ _ _ _ _ _ _ _) ?_)
    refine bodyPost_ret (v := .tuple #[frV id 0 0 0 0 0 0 0 0 0 false, .bool true]) ?_ rfl ⟨rfl, sh11 (by omega) q4, (k0.drew.set ⟨p, 4, none⟩ _ (.inl (by simp))).row w.heap.size (frC id 0 0 0 0 0 0 0 0 0 false) (.inr (Nat.le_refl _))⟩
    simp [results, Try.results16, go_sem, hc]
  · rw [if_pos (by rfl)]
    simp only [gA, gS, gZ]
    go_wp2_with fail
    refine hK.out _ _ (hHeld) (fun hHeld => ?_)
    clear hK K'
    try simp only [Act.put, gA, gS, gZ, sA, sZ, sS]
    refine tk 10 (.int .i64 (now - due)) rfl (.inl ⟨by rfl, ?_⟩) ?_
    · intro w9 hSw
      try dsimp only at hSw
      go_simp
      all_goals try decide
      all_goals try assumption
      all_goals try omega
    try simp only [Act.put, gA, gS, gZ, sA, sZ, sS]
    refine tk 15 (.int .i64 ((now - due) / P)) rfl (.inl ⟨by rfl, ?_⟩) ?_
    · intro w9 hSw
      try dsimp only at hSw
      go_simp
      all_goals try decide
      all_goals try assumption
      all_goals try omega
    try simp only [Act.put, gA, gS, gZ, sA, sZ, sS]
    refine tk 16 (.int .i64 ((now - due) / P + 1)) rfl (.inl ⟨by rfl, ?_⟩) ?_
    · intro w9 hSw
      try dsimp only at hSw
      go_simp
      all_goals try decide
      all_goals try assumption
      all_goals try omega
    try simp only [Act.put, gA, gS, gZ, sA, sZ, sS]
    refine tk 21 (.int .i64 (((now - due) / P + 1) * P)) rfl (.inl ⟨by rfl, ?_⟩) ?_
    · intro w9 hSw
      try dsimp only at hSw
      go_simp
      all_goals try decide
      all_goals try assumption
      all_goals try omega
    try simp only [Act.put, gA, gS, gZ, sA, sZ, sS]
    refine wpAnyH_ready (rs := [4]) (by kernel_rfl) (by simp) ?_
    refine AllReadyH.cons rfl (fun K' hK => ?_) AllReadyH.nil
    rw [if_pos (by rfl)]
    simp only [gA, gS, gZ]
    go_wp2_with fail
    refine hK.out _ _ (hHeld) (fun hHeld => ?_)
    clear hK K'
    try simp only [Act.put, gA, gS, gZ, sA, sZ, sS]
    refine tk 22 (.int .i64 (due + ((now - due) / P + 1) * P)) rfl (.inl ⟨by rfl, ?_⟩) ?_
    · intro w9 hSw
      try dsimp only at hSw
      go_simp
      all_goals try decide
      all_goals try assumption
      all_goals try omega
    try simp only [Act.put, gA, gS, gZ, sA, sZ, sS]
    refine tk 23 (.pointer (some ⟨p, 0, none⟩)) rfl (.inl ⟨by rfl, ?_⟩) ?_
    · intro w9 hSw
      try dsimp only at hSw
      go_simp
      all_goals try decide
      all_goals try assumption
      all_goals try omega
    try simp only [Act.put, gA, gS, gZ, sA, sZ, sS]
    refine tk 24 (.pointer (some ⟨p, 4, none⟩)) rfl (.inl ⟨by rfl, ?_⟩) ?_
    · intro w9 hSw
      try dsimp only at hSw
      go_simp
      all_goals try decide
      all_goals try assumption
      all_goals try omega
    try simp only [Act.put, gA, gS, gZ, sA, sZ, sS]
    refine wpAnyH_ready (rs := [25]) (by kernel_rfl) (by simp) ?_
    refine AllReadyH.cons rfl (fun K' hK => ?_) AllReadyH.nil
    rw [if_pos (by rfl)]
    simp only [gA, gS, gZ]
    obtain ⟨S0, S1⟩ := hHeld
    go_wp2_with fail
    refine hK.out _ _ (⟨trivial, cset11 (W := x.drew) q0 rfl⟩) (fun hHeld => ?_)
    clear hK K'
    try simp only [Act.put, gA, gS, gZ, sA, sZ, sS]
    refine wpAnyH_done (by kernel_rfl) ?_ _
    have q4 := heap_setCell_same x.drew p 4 _ _ (.int .i64 (due + ((now - due) / P + 1) * P)) q0
    have g4 := (Below.heap_setCell x.drew ⟨p, 4, none⟩ (.int .i64 (due + ((now - due) / P + 1) * P)) _ (by show w.heap.size ≠ p; omega)).trans g0
    have b4 := (Below.heap_setCell x.drew ⟨p, 4, none⟩ (.int .i64 (due + ((now - due) / P + 1) * P)) _ (by show w.heap.size + 1 ≠ p; omega)).trans b0
    have hc := fun j => cell_of_row (((x.setCell ⟨p, 4, none⟩ (.int .i64 (due + ((now - due) / P + 1) * P))).drew).setRow w.heap.size (frC id 0 0 0 0 0 0 0 0 0 false)) w.heap.size j _ _ _ (setRow_heap _ _ _ (frC id 0 0 0 0 0 0 0 0 0 false) _ _ g4)
    go_wp2_with (first | refine wpList_load_by rfl 39 _ rfl ⟨w.heap.size + 1, 0, none⟩ (frV id 0 0 0 0 0 0 0 0 0 false) rfl (loadF _ _ _ _ _ _ _ _ _ _ _ _ _ b4) ?_ | refine wpList_store_row rfl 39 _ _ rfl w.heap.size (frC id 0 0 0 0 0 0 0 0 0 false) rfl rfl 39 _ g4 infoF rfl (frC_one _ _ _ _ _ _ _ _ _ _ _) ?_)
    refine bodyPost_ret (v := .tuple #[frV id 0 0 0 0 0 0 0 0 0 false, .bool true]) ?_ rfl ⟨rfl, sh11 (by omega) q4, (k0.drew.set ⟨p, 4, none⟩ _ (.inl (by simp))).row w.heap.size (frC id 0 0 0 0 0 0 0 0 0 false) (.inr (Nat.le_refl _))⟩
    simp [results, Try.results16, go_sem, hc]
set_option linter.unusedSimpArgs false in
set_option maxHeartbeats 4000000 in
set_option maxRecDepth 100000 in
theorem utick_1 (p : Nat) (id P top due n now : Int) (ht : 0 < top) (hN : top ≤ n) (h : tmB now = true) (hd : due ≤ now) (hP : 1 ≤ P) (hP2 : P ≤ 1099511627776) (hn : 0 ≤ n ∧ n ≤ 240) (hdu : 0 ≤ due) (w : World) (hp : w.heap[p]? = some (.cells (urC id P top true due n) 36 (0, 0))) : Calls Try.prog 16 #[.pointer (some ⟨p, 0, none⟩), .int .i64 now] w fun e w' => e = .returned (.tuple #[frV id 1 n 0 0 0 0 0 0 0 false, .bool true]) ∧ w'.heap[p]? = some (.cells (urC id P top true (due + ((now - due) / P + 1) * P) (nxt top n)) 36 (0, 0)) ∧ Kp [p] w w' := by
  have NX : nxt top n = 1 := if_pos hN
  rw [NX]
  clear NX
  have IT := fun W => time_any now W
  rw [h] at IT
  obtain ⟨t0, t1⟩ := tmB_of h
  clear h
  have hd' : ¬ now < due := by omega
  have lp : p < w.heap.size := lt_of_heap hp
  have c0 : w.cell? ⟨p, 0, none⟩ = some (.int .u16 id) := by rw [cell_of_row w _ 0 _ _ _ hp]; rfl
  have c1 : w.cell? ⟨p, 1, none⟩ = some (.int .i64 P) := by rw [cell_of_row w _ 1 _ _ _ hp]; rfl
  have c2 : w.cell? ⟨p, 2, none⟩ = some (.int .u8 top) := by rw [cell_of_row w _ 2 _ _ _ hp]; rfl
  have c3 : w.cell? ⟨p, 3, none⟩ = some (.bool true) := by rw [cell_of_row w _ 3 _ _ _ hp]; rfl
  have c4 : w.cell? ⟨p, 4, none⟩ = some (.int .i64 due) := by rw [cell_of_row w _ 4 _ _ _ hp]; rfl
  have c5 : w.cell? ⟨p, 5, none⟩ = some (.int .u8 n) := by rw [cell_of_row w _ 5 _ _ _ hp]; rfl
  have z4 := froz11 w p 4 _ _ hp
  have z5 := froz11 w p 5 _ _ hp
  have HP : Hid (w.heap[p]? = some (.cells (urC id P top true due n) 36 (0, 0))) := hp
  have EQ : Hid (IntKind.i64.wrap (now - due) = now - due ∧ IntKind.i64.wrap ((now - due).tdiv P) = (now - due) / P ∧ IntKind.i64.wrap ((now - due) / P + 1) = (now - due) / P + 1 ∧ IntKind.i64.wrap (((now - due) / P + 1) * P) = ((now - due) / P + 1) * P ∧ IntKind.i64.wrap (due + ((now - due) / P + 1) * P) = due + ((now - due) / P + 1) * P) := tick_eqs now due P (by omega) t1 hd hP hP2 hdu
  go_enter Try.func16, Try.ntmps16
  go_wp2_with fail
  refine (IT _).mono ?_
  rintro e w1 ⟨rfl, rfl⟩
  go_wp2_with fail
  have q0 : (((w.setCell ⟨p, 5, none⟩ (.int .u8 (n + 1))).alloc (.cells (frC 0 0 0 0 0 0 0 0 0 0 false) 39)).alloc (.cells (frC id 1 n 0 0 0 0 0 0 0 false) 39)).heap[p]? = some (.cells (urC id P top true due (n + 1)) 36 (0, 0)) := ext11 (ext11 (heap_setCell_same _ _ _ _ _ _ HP.out))
  have g0 : (((w.setCell ⟨p, 5, none⟩ (.int .u8 (n + 1))).alloc (.cells (frC 0 0 0 0 0 0 0 0 0 0 false) 39)).alloc (.cells (frC id 1 n 0 0 0 0 0 0 0 false) 39)).heap[w.heap.size]? = some (.cells (frC 0 0 0 0 0 0 0 0 0 0 false) 39 (0, 0)) := ext11 (at11 _ _ _ (by simp))
  have b0 : (((w.setCell ⟨p, 5, none⟩ (.int .u8 (n + 1))).alloc (.cells (frC 0 0 0 0 0 0 0 0 0 0 false) 39)).alloc (.cells (frC id 1 n 0 0 0 0 0 0 0 false) 39)).heap[w.heap.size + 1]? = some (.cells (frC id 1 n 0 0 0 0 0 0 0 false) 39 (0, 0)) := at11 _ _ _ (by simp)
  have k0 : Kp [p] w (((w.setCell ⟨p, 5, none⟩ (.int .u8 (n + 1))).alloc (.cells (frC 0 0 0 0 0 0 0 0 0 0 false) 39)).alloc (.cells (frC id 1 n 0 0 0 0 0 0 0 false) 39)) := (((Kp.refl _ _).set ⟨p, 5, none⟩ _ (.inl (by simp))).al _).al _
  generalize hx : (((w.setCell ⟨p, 5, none⟩ (.int .u8 (n + 1))).alloc (.cells (frC 0 0 0 0 0 0 0 0 0 0 false) 39)).alloc (.cells (frC id 1 n 0 0 0 0 0 0 0 false) 39) : World) = u at q0 g0 b0 k0 ⊢
  clear hx
  have u1 : u.cell? ⟨p, 1, none⟩ = some (.int .i64 P) := by rw [cell_of_row u _ 1 _ _ _ q0]; rfl
  have u2 : u.cell? ⟨p, 2, none⟩ = some (.int .u8 top) := by rw [cell_of_row u _ 2 _ _ _ q0]; rfl
  have u4 : u.cell? ⟨p, 4, none⟩ = some (.int .i64 due) := by rw [cell_of_row u _ 4 _ _ _ q0]; rfl
  have u5 : u.cell? ⟨p, 5, none⟩ = some (.int .u8 (n + 1)) := by rw [cell_of_row u _ 5 _ _ _ q0]; rfl
  have y5 := froz11 u p 5 _ _ q0
  have lu : p < u.heap.size := lt_of_heap q0
  have cmp : decide (top < n + 1) = true := by simp; omega
  go_quiet (fail)
  have BQ := below_drewN (Below.refl u.heap.size u) nq
  have q1 := blk11 BQ q0
  have g1 := blk11 BQ g0
  have b1 := blk11 BQ b0
  have k1 := k0.trans (Kp.of (S := [p]) BQ)
  have lq : p < (u.drewN nq).heap.size := lt_of_heap q1
  go_wp2_with fail
  have q0 : ((u.drewN nq).setCell ⟨p, 5, none⟩ (.int .u8 1)).heap[p]? = some (.cells (urC id P top true due (1)) 36 (0, 0)) := heap_setCell_same _ _ _ _ _ _ q1
  have g0 : ((u.drewN nq).setCell ⟨p, 5, none⟩ (.int .u8 1)).heap[w.heap.size]? = some (.cells (frC 0 0 0 0 0 0 0 0 0 0 false) 39 (0, 0)) := (Below.heap_setCell (u.drewN nq) ⟨p, 5, none⟩ _ _ (by show w.heap.size ≠ p; omega)).trans g1
  have b0 : ((u.drewN nq).setCell ⟨p, 5, none⟩ (.int .u8 1)).heap[w.heap.size + 1]? = some (.cells (frC id 1 n 0 0 0 0 0 0 0 false) 39 (0, 0)) := (Below.heap_setCell (u.drewN nq) ⟨p, 5, none⟩ _ _ (by show w.heap.size + 1 ≠ p; omega)).trans b1
  have k0 : Kp [p] w ((u.drewN nq).setCell ⟨p, 5, none⟩ (.int .u8 1)) := k1.set ⟨p, 5, none⟩ _ (.inl (by simp))
  generalize hx : ((u.drewN nq).setCell ⟨p, 5, none⟩ (.int .u8 1) : World) = x at q0 g0 b0 k0 ⊢
  clear hx
  have x1 : x.cell? ⟨p, 1, none⟩ = some (.int .i64 P) := by rw [cell_of_row x _ 1 _ _ _ q0]; rfl
  have x4 : x.cell? ⟨p, 4, none⟩ = some (.int .i64 due) := by rw [cell_of_row x _ 4 _ _ _ q0]; rfl
  have y4 := froz11 x p 4 _ _ q0
  have lx : p < x.heap.size := lt_of_heap q0
  obtain ⟨E1, E2, E3, E4, E5⟩ := EQ.out
  refine wp_region_held_drew (S := fun x => True ∧ x.cell? ⟨p, 1, none⟩ = some (.int .i64 P)) (by kernel_rfl) (⟨trivial, x1⟩) (fun hHeld => ?_)
  refine tk 0 (.pointer (some ⟨p, 0, none⟩)) rfl (.inl ⟨by rfl, ?_⟩) ?_
  · intro w9 hSw
    try dsimp only at hSw
    go_simp
    all_goals try decide
    all_goals try assumption
    all_goals try omega
  try simp only [Act.put, gA, gS, gZ, sA, sZ, sS]
  refine tk 1 (.pointer (some ⟨p, 0, none⟩)) rfl (.inl ⟨by rfl, ?_⟩) ?_
  · intro w9 hSw
    try dsimp only at hSw
    go_simp
    all_goals try decide
    all_goals try assumption
    all_goals try omega
  try simp only [Act.put, gA, gS, gZ, sA, sZ, sS]
  refine tk 2 (.pointer (some ⟨p, 0, none⟩)) rfl (.inl ⟨by rfl, ?_⟩) ?_
  · intro w9 hSw
    try dsimp only at hSw
    go_simp
    all_goals try decide
    all_goals try assumption
    all_goals try omega
  try simp only [Act.put, gA, gS, gZ, sA, sZ, sS]
  refine tk 3 (.pointer (some ⟨p, 4, none⟩)) rfl (.inl ⟨by rfl, ?_⟩) ?_
  · intro w9 hSw
    try dsimp only at hSw
    go_simp
    all_goals try decide
    all_goals try assumption
    all_goals try omega
  try simp only [Act.put, gA, gS, gZ, sA, sZ, sS]
  refine tk 5 (.int .i64 now) rfl (.inl ⟨by rfl, ?_⟩) ?_
  · intro w9 hSw
    try dsimp only at hSw
    go_simp
    all_goals try decide
    all_goals try assumption
    all_goals try omega
  try simp only [Act.put, gA, gS, gZ, sA, sZ, sS]
  refine tk 6 (.pointer (some ⟨p, 0, none⟩)) rfl (.inl ⟨by rfl, ?_⟩) ?_
  · intro w9 hSw
    try dsimp only at hSw
    go_simp
    all_goals try decide
    all_goals try assumption
    all_goals try omega
  try simp only [Act.put, gA, gS, gZ, sA, sZ, sS]
  refine tk 7 (.pointer (some ⟨p, 0, none⟩)) rfl (.inl ⟨by rfl, ?_⟩) ?_
  · intro w9 hSw
    try dsimp only at hSw
    go_simp
    all_goals try decide
    all_goals try assumption
    all_goals try omega
  try simp only [Act.put, gA, gS, gZ, sA, sZ, sS]
  refine tk 8 (.pointer (some ⟨p, 4, none⟩)) rfl (.inl ⟨by rfl, ?_⟩) ?_
  · intro w9 hSw
    try dsimp only at hSw
    go_simp
    all_goals try decide
    all_goals try assumption
    all_goals try omega
  try simp only [Act.put, gA, gS, gZ, sA, sZ, sS]
  refine tk 11 (.pointer (some ⟨p, 0, none⟩)) rfl (.inl ⟨by rfl, ?_⟩) ?_
  · intro w9 hSw
    try dsimp only at hSw
    go_simp
    all_goals try decide
    all_goals try assumption
    all_goals try omega
  try simp only [Act.put, gA, gS, gZ, sA, sZ, sS]
  refine tk 12 (.pointer (some ⟨p, 0, none⟩)) rfl (.inl ⟨by rfl, ?_⟩) ?_
  · intro w9 hSw
    try dsimp only at hSw
    go_simp
    all_goals try decide
    all_goals try assumption
    all_goals try omega
  try simp only [Act.put, gA, gS, gZ, sA, sZ, sS]
  refine tk 13 (.pointer (some ⟨p, 1, none⟩)) rfl (.inl ⟨by rfl, ?_⟩) ?_
  · intro w9 hSw
    try dsimp only at hSw
    go_simp
    all_goals try decide
    all_goals try assumption
    all_goals try omega
  try simp only [Act.put, gA, gS, gZ, sA, sZ, sS]
  refine tk 14 (.int .i64 P) rfl (.inl ⟨by rfl, ?_⟩) ?_
  · intro w9 hSw
    try dsimp only at hSw
    go_simp
    all_goals try decide
    all_goals try assumption
    all_goals try omega
  try simp only [Act.put, gA, gS, gZ, sA, sZ, sS]
  refine tk 17 (.pointer (some ⟨p, 0, none⟩)) rfl (.inl ⟨by rfl, ?_⟩) ?_
  · intro w9 hSw
    try dsimp only at hSw
    go_simp
    all_goals try decide
    all_goals try assumption
    all_goals try omega
  try simp only [Act.put, gA, gS, gZ, sA, sZ, sS]
  refine tk 18 (.pointer (some ⟨p, 0, none⟩)) rfl (.inl ⟨by rfl, ?_⟩) ?_
  · intro w9 hSw
    try dsimp only at hSw
    go_simp
    all_goals try decide
    all_goals try assumption
    all_goals try omega
  try simp only [Act.put, gA, gS, gZ, sA, sZ, sS]
  refine tk 19 (.pointer (some ⟨p, 1, none⟩)) rfl (.inl ⟨by rfl, ?_⟩) ?_
  · intro w9 hSw
    try dsimp only at hSw
    go_simp
    all_goals try decide
    all_goals try assumption
    all_goals try omega
  try simp only [Act.put, gA, gS, gZ, sA, sZ, sS]
  refine tk 20 (.int .i64 P) rfl (.inl ⟨by rfl, ?_⟩) ?_
  · intro w9 hSw
    try dsimp only at hSw
    go_simp
    all_goals try decide
    all_goals try assumption
    all_goals try omega
  try simp only [Act.put, gA, gS, gZ, sA, sZ, sS]
  refine wpAnyH_ready (rs := [4, 9]) (by kernel_rfl) (by simp) ?_
  refine AllReadyH.cons rfl (fun K' hK => ?_) (AllReadyH.cons rfl (fun K' hK => ?_) AllReadyH.nil)
  · rw [if_pos (by rfl)]
    simp only [gA, gS, gZ]
    go_wp2_with fail
    refine hK.out _ _ (hHeld) (fun hHeld => ?_)
    clear hK K'
    try simp only [Act.put, gA, gS, gZ, sA, sZ, sS]
    refine wpAnyH_ready (rs := [9]) (by kernel_rfl) (by simp) ?_
    refine AllReadyH.cons rfl (fun K' hK => ?_) AllReadyH.nil
    rw [if_pos (by rfl)]
    simp only [gA, gS, gZ]
    go_wp2_with fail
    refine hK.out _ _ (hHeld) (fun hHeld => ?_)
    clear hK K'
    try simp only [Act.put, gA, gS, gZ, sA, sZ, sS]
    refine tk 10 (.int .i64 (now - due)) rfl (.inl ⟨by rfl, ?_⟩) ?_
    · intro w9 hSw
      try dsimp only at hSw
      go_simp
      all_goals try decide
      all_goals try assumption
      all_goals try omega
    try simp only [Act.put, gA, gS, gZ, sA, sZ, sS]
    refine tk 15 (.int .i64 ((now - due) / P)) rfl (.inl ⟨by rfl, ?_⟩) ?_
    · intro w9 hSw
      try dsimp only at hSw
      go_simp
      all_goals try decide
      all_goals try assumption
      all_goals try omega
    try simp only [Act.put, gA, gS, gZ, sA, sZ, sS]
    refine tk 16 (.int .i64 ((now - due) / P + 1)) rfl (.inl ⟨by rfl, ?_⟩) ?_
    · intro w9 hSw
      try dsimp only at hSw
      go_simp
      all_goals try decide
      all_goals try assumption
      all_goals try omega
    try simp only [Act.put, gA, gS, gZ, sA, sZ, sS]
    refine tk 21 (.int .i64 (((now - due) / P + 1) * P)) rfl (.inl ⟨by rfl, ?_⟩) ?_
    · intro w9 hSw
      try dsimp only at hSw
      go_simp
      all_goals try decide
      all_goals try assumption
      all_goals try omega
    try simp only [Act.put, gA, gS, gZ, sA, sZ, sS]
    refine tk 22 (.int .i64 (due + ((now - due) / P + 1) * P)) rfl (.inl ⟨by rfl, ?_⟩) ?_
    · intro w9 hSw
      try dsimp only at hSw
      go_simp
      all_goals try decide
      all_goals try assumption
      all_goals try omega
    try simp only [Act.put, gA, gS, gZ, sA, sZ, sS]
    refine tk 23 (.pointer (some ⟨p, 0, none⟩)) rfl (.inl ⟨by rfl, ?_⟩) ?_
    · intro w9 hSw
      try dsimp only at hSw
      go_simp
      all_goals try decide
      all_goals try assumption
      all_goals try omega
    try simp only [Act.put, gA, gS, gZ, sA, sZ, sS]
    refine tk 24 (.pointer (some ⟨p, 4, none⟩)) rfl (.inl ⟨by rfl, ?_⟩) ?_
    · intro w9 hSw
      try dsimp only at hSw
      go_simp
      all_goals try decide
      all_goals try assumption
      all_goals try omega
    try simp only [Act.put, gA, gS, gZ, sA, sZ, sS]
    refine wpAnyH_ready (rs := [25]) (by kernel_rfl) (by simp) ?_
    refine AllReadyH.cons rfl (fun K' hK => ?_) AllReadyH.nil
    rw [if_pos (by rfl)]
    simp only [gA, gS, gZ]
    obtain ⟨S0, S1⟩ := hHeld
    go_wp2_with fail
    refine hK.out _ _ (⟨trivial, cset11 (W := x.drew) q0 rfl⟩) (fun hHeld => ?_)
    clear hK K'
    try simp only [Act.put, gA, gS, gZ, sA, sZ, sS]
    refine wpAnyH_done (by kernel_rfl) ?_ _
    have q4 := heap_setCell_same x.drew p 4 _ _ (.int .i64 (due + ((now - due) / P + 1) * P)) q0
    have g4 := (Below.heap_setCell x.drew ⟨p, 4, none⟩ (.int .i64 (due + ((now - due) / P + 1) * P)) _ (by show w.heap.size ≠ p; omega)).trans g0
    have b4 := (Below.heap_setCell x.drew ⟨p, 4, none⟩ (.int .i64 (due + ((now - due) / P + 1) * P)) _ (by show w.heap.size + 1 ≠ p; omega)).trans b0
    have hc := fun j => cell_of_row (((x.setCell ⟨p, 4, none⟩ (.int .i64 (due + ((now - due) / P + 1) * P))).drew).setRow w.heap.size (frC id 1 n 0 0 0 0 0 0 0 false)) w.heap.size j _ _ _ (setRow_heap _ _ _ (frC id 1 n 0 0 0 0 0 0 0 false) _ _ g4)
    go_wp2_with (first | refine wpList_load_by rfl 39 _ rfl ⟨w.heap.size + 1, 0, none⟩ (frV id 1 n 0 0 0 0 0 0 0 false) rfl (loadF _ _ _ _ _ _ _ _ _ _ _ _ _ b4) ?_ | refine wpList_store_row rfl 39 _ _ rfl w.heap.size (frC id 1 n 0 0 0 0 0 0 0 false) rfl rfl 39 _ g4 infoF rfl (frC_one _ _ _ _ _ _ _ _ _ _ _) ?_)
    refine bodyPost_ret (v := .tuple #[frV id 1 n 0 0 0 0 0 0 0 false, .bool true]) ?_ rfl ⟨rfl, sh11 (by omega) q4, (k0.drew.set ⟨p, 4, none⟩ _ (.inl (by simp))).row w.heap.size (frC id 1 n 0 0 0 0 0 0 0 false) (.inr (Nat.le_refl _))⟩
    simp [results, Try.results16, go_sem, hc]
  · rw [if_pos (by rfl)]
    simp only [gA, gS, gZ]
    go_wp2_with fail
    refine hK.out _ _ (hHeld) (fun hHeld => ?_)
    clear hK K'
    try simp only [Act.put, gA, gS, gZ, sA, sZ, sS]
    refine tk 10 (.int .i64 (now - due)) rfl (.inl ⟨by rfl, ?_⟩) ?_
    · intro w9 hSw
      try dsimp only at hSw
      go_simp
      all_goals try decide
      all_goals try assumption
      all_goals try omega
    try simp only [Act.put, gA, gS, gZ, sA, sZ, sS]
    refine tk 15 (.int .i64 ((now - due) / P)) rfl (.inl ⟨by rfl, ?_⟩) ?_
    · intro w9 hSw
      try dsimp only at hSw
      go_simp
      all_goals try decide
      all_goals try assumption
      all_goals try omega
    try simp only [Act.put, gA, gS, gZ, sA, sZ, sS]
    refine tk 16 (.int .i64 ((now - due) / P + 1)) rfl (.inl ⟨by rfl, ?_⟩) ?_
    · intro w9 hSw
      try dsimp only at hSw
      go_simp
      all_goals try decide
      all_goals try assumption
      all_goals try omega
    try simp only [Act.put, gA, gS, gZ, sA, sZ, sS]
    refine tk 21 (.int .i64 (((now - due) / P + 1) * P)) rfl (.inl ⟨by rfl, ?_⟩) ?_
    · intro w9 hSw
      try dsimp only at hSw
      go_simp
      all_goals try decide
      all_goals try assumption
      all_goals try omega
    try simp only [Act.put, gA, gS, gZ, sA, sZ, sS]
    refine wpAnyH_ready (rs := [4]) (by kernel_rfl) (by simp) ?_
    refine AllReadyH.cons rfl (fun K' hK => ?_) AllReadyH.nil
    rw [if_pos (by rfl)]
    simp only [gA, gS, gZ]
    go_wp2_with fail
    refine hK.out _ _ (hHeld) (fun hHeld => ?_)
    clear hK K'
    try simp only [Act.put, gA, gS, gZ, sA, sZ, sS]
    refine tk 22 (.int .i64 (due + ((now - due) / P + 1) * P)) rfl (.inl ⟨by rfl, ?_⟩) ?_
    · intro w9 hSw
      try dsimp only at hSw
      go_simp
      all_goals try decide
      all_goals try assumption
      all_goals try omega
    try simp only [Act.put, gA, gS, gZ, sA, sZ, sS]
    refine tk 23 (.pointer (some ⟨p, 0, none⟩)) rfl (.inl ⟨by rfl, ?_⟩) ?_
    · intro w9 hSw
      try dsimp only at hSw
      go_simp
      all_goals try decide
      all_goals try assumption
      all_goals try omega
    try simp only [Act.put, gA, gS, gZ, sA, sZ, sS]
    refine tk 24 (.pointer (some ⟨p, 4, none⟩)) rfl (.inl ⟨by rfl, ?_⟩) ?_
    · intro w9 hSw
      try dsimp only at hSw
      go_simp
      all_goals try decide
      all_goals try assumption
      all_goals try omega
    try simp only [Act.put, gA, gS, gZ, sA, sZ, sS]
    refine wpAnyH_ready (rs := [25]) (by kernel_rfl) (by simp) ?_
    refine AllReadyH.cons rfl (fun K' hK => ?_) AllReadyH.nil
    rw [if_pos (by rfl)]
    simp only [gA, gS, gZ]
    obtain ⟨S0, S1⟩ := hHeld
    go_wp2_with fail
    refine hK.out _ _ (⟨trivial, cset11 (W := x.drew) q0 rfl⟩) (fun hHeld => ?_)
    clear hK K'
    try simp only [Act.put, gA, gS, gZ, sA, sZ, sS]
    refine wpAnyH_done (by kernel_rfl) ?_ _
    have q4 := heap_setCell_same x.drew p 4 _ _ (.int .i64 (due + ((now - due) / P + 1) * P)) q0
    have g4 := (Below.heap_setCell x.drew ⟨p, 4, none⟩ (.int .i64 (due + ((now - due) / P + 1) * P)) _ (by show w.heap.size ≠ p; omega)).trans g0
    have b4 := (Below.heap_setCell x.drew ⟨p, 4, none⟩ (.int .i64 (due + ((now - due) / P + 1) * P)) _ (by show w.heap.size + 1 ≠ p; omega)).trans b0
    have hc := fun j => cell_of_row (((x.setCell ⟨p, 4, none⟩ (.int .i64 (due + ((now - due) / P + 1) * P))).drew).setRow w.heap.size (frC id 1 n 0 0 0 0 0 0 0 false)) w.heap.size j _ _ _ (setRow_heap _ _ _ (frC id 1 n 0 0 0 0 0 0 0 false) _ _ g4)
    go_wp2_with (first | refine wpList_load_by rfl 39 _ rfl ⟨w.heap.size + 1, 0, none⟩ (frV id 1 n 0 0 0 0 0 0 0 false) rfl (loadF _ _ _ _ _ _ _ _ _ _ _ _ _ b4) ?_ | refine wpList_store_row rfl 39 _ _ rfl w.heap.size (frC id 1 n 0 0 0 0 0 0 0 false) rfl rfl 39 _ g4 infoF rfl (frC_one _ _ _ _ _ _ _ _ _ _ _) ?_)
    refine bodyPost_ret (v := .tuple #[frV id 1 n 0 0 0 0 0 0 0 false, .bool true]) ?_ rfl ⟨rfl, sh11 (by omega) q4, (k0.drew.set ⟨p, 4, none⟩ _ (.inl (by simp))).row w.heap.size (frC id 1 n 0 0 0 0 0 0 0 false) (.inr (Nat.le_refl _))⟩
    simp [results, Try.results16, go_sem, hc]
set_option linter.unusedSimpArgs false in
set_option maxHeartbeats 4000000 in
set_option maxRecDepth 100000 in
theorem utick_2 (p : Nat) (id P top due n now : Int) (ht : 0 < top) (hN : n < top) (h : tmB now = true) (hd : due ≤ now) (hP : 1 ≤ P) (hP2 : P ≤ 1099511627776) (hn : 0 ≤ n ∧ n ≤ 240) (hdu : 0 ≤ due) (w : World) (hp : w.heap[p]? = some (.cells (urC id P top true due n) 36 (0, 0))) : Calls Try.prog 16 #[.pointer (some ⟨p, 0, none⟩), .int .i64 now] w fun e w' => e = .returned (.tuple #[frV id 1 n 0 0 0 0 0 0 0 false, .bool true]) ∧ w'.heap[p]? = some (.cells (urC id P top true (due + ((now - due) / P + 1) * P) (nxt top n)) 36 (0, 0)) ∧ Kp [p] w w' := by
  have NX : nxt top n = n + 1 := if_neg (by omega)
  rw [NX]
  clear NX
  have IT := fun W => time_any now W
  rw [h] at IT
  obtain ⟨t0, t1⟩ := tmB_of h
  clear h
  have hd' : ¬ now < due := by omega
  have lp : p < w.heap.size := lt_of_heap hp
  have c0 : w.cell? ⟨p, 0, none⟩ = some (.int .u16 id) := by rw [cell_of_row w _ 0 _ _ _ hp]; rfl
  have c1 : w.cell? ⟨p, 1, none⟩ = some (.int .i64 P) := by rw [cell_of_row w _ 1 _ _ _ hp]; rfl
  have c2 : w.cell? ⟨p, 2, none⟩ = some (.int .u8 top) := by rw [cell_of_row w _ 2 _ _ _ hp]; rfl
  have c3 : w.cell? ⟨p, 3, none⟩ = some (.bool true) := by rw [cell_of_row w _ 3 _ _ _ hp]; rfl
  have c4 : w.cell? ⟨p, 4, none⟩ = some (.int .i64 due) := by rw [cell_of_row w _ 4 _ _ _ hp]; rfl
  have c5 : w.cell? ⟨p, 5, none⟩ = some (.int .u8 n) := by rw [cell_of_row w _ 5 _ _ _ hp]; rfl
  have z4 := froz11 w p 4 _ _ hp
  have z5 := froz11 w p 5 _ _ hp
  have HP : Hid (w.heap[p]? = some (.cells (urC id P top true due n) 36 (0, 0))) := hp
  have EQ : Hid (IntKind.i64.wrap (now - due) = now - due ∧ IntKind.i64.wrap ((now - due).tdiv P) = (now - due) / P ∧ IntKind.i64.wrap ((now - due) / P + 1) = (now - due) / P + 1 ∧ IntKind.i64.wrap (((now - due) / P + 1) * P) = ((now - due) / P + 1) * P ∧ IntKind.i64.wrap (due + ((now - due) / P + 1) * P) = due + ((now - due) / P + 1) * P) := tick_eqs now due P (by omega) t1 hd hP hP2 hdu
  go_enter Try.func16, Try.ntmps16
  go_wp2_with fail
  refine (IT _).mono ?_
  rintro e w1 ⟨rfl, rfl⟩
  go_wp2_with fail
  have q0 : (((w.setCell ⟨p, 5, none⟩ (.int .u8 (n + 1))).alloc (.cells (frC 0 0 0 0 0 0 0 0 0 0 false) 39)).alloc (.cells (frC id 1 n 0 0 0 0 0 0 0 false) 39)).heap[p]? = some (.cells (urC id P top true due (n + 1)) 36 (0, 0)) := ext11 (ext11 (heap_setCell_same _ _ _ _ _ _ HP.out))
  have g0 : (((w.setCell ⟨p, 5, none⟩ (.int .u8 (n + 1))).alloc (.cells (frC 0 0 0 0 0 0 0 0 0 0 false) 39)).alloc (.cells (frC id 1 n 0 0 0 0 0 0 0 false) 39)).heap[w.heap.size]? = some (.cells (frC 0 0 0 0 0 0 0 0 0 0 false) 39 (0, 0)) := ext11 (at11 _ _ _ (by simp))
  have b0 : (((w.setCell ⟨p, 5, none⟩ (.int .u8 (n + 1))).alloc (.cells (frC 0 0 0 0 0 0 0 0 0 0 false) 39)).alloc (.cells (frC id 1 n 0 0 0 0 0 0 0 false) 39)).heap[w.heap.size + 1]? = some (.cells (frC id 1 n 0 0 0 0 0 0 0 false) 39 (0, 0)) := at11 _ _ _ (by simp)
  have k0 : Kp [p] w (((w.setCell ⟨p, 5, none⟩ (.int .u8 (n + 1))).alloc (.cells (frC 0 0 0 0 0 0 0 0 0 0 false) 39)).alloc (.cells (frC id 1 n 0 0 0 0 0 0 0 false) 39)) := (((Kp.refl _ _).set ⟨p, 5, none⟩ _ (.inl (by simp))).al _).al _
  generalize hx : (((w.setCell ⟨p, 5, none⟩ (.int .u8 (n + 1))).alloc (.cells (frC 0 0 0 0 0 0 0 0 0 0 false) 39)).alloc (.cells (frC id 1 n 0 0 0 0 0 0 0 false) 39) : World) = u at q0 g0 b0 k0 ⊢
  clear hx
  have u1 : u.cell? ⟨p, 1, none⟩ = some (.int .i64 P) := by rw [cell_of_row u _ 1 _ _ _ q0]; rfl
  have u2 : u.cell? ⟨p, 2, none⟩ = some (.int .u8 top) := by rw [cell_of_row u _ 2 _ _ _ q0]; rfl
  have u4 : u.cell? ⟨p, 4, none⟩ = some (.int .i64 due) := by rw [cell_of_row u _ 4 _ _ _ q0]; rfl
  have u5 : u.cell? ⟨p, 5, none⟩ = some (.int .u8 (n + 1)) := by rw [cell_of_row u _ 5 _ _ _ q0]; rfl
  have y5 := froz11 u p 5 _ _ q0
  have lu : p < u.heap.size := lt_of_heap q0
  have cmp : decide (top < n + 1) = false := by simp; omega
  go_quiet (fail)
  have BQ := below_drewN (Below.refl u.heap.size u) nq
  have q1 := blk11 BQ q0
  have g1 := blk11 BQ g0
  have b1 := blk11 BQ b0
  have k1 := k0.trans (Kp.of (S := [p]) BQ)
  go_wp2_with fail
  have q0 : (u.drewN nq).heap[p]? = some (.cells (urC id P top true due (n + 1)) 36 (0, 0)) := q1
  have g0 : (u.drewN nq).heap[w.heap.size]? = some (.cells (frC 0 0 0 0 0 0 0 0 0 0 false) 39 (0, 0)) := g1
  have b0 : (u.drewN nq).heap[w.heap.size + 1]? = some (.cells (frC id 1 n 0 0 0 0 0 0 0 false) 39 (0, 0)) := b1
  have k0 : Kp [p] w (u.drewN nq) := k1
  generalize hx : (u.drewN nq : World) = x at q0 g0 b0 k0 ⊢
  clear hx
  have x1 : x.cell? ⟨p, 1, none⟩ = some (.int .i64 P) := by rw [cell_of_row x _ 1 _ _ _ q0]; rfl
  have x4 : x.cell? ⟨p, 4, none⟩ = some (.int .i64 due) := by rw [cell_of_row x _ 4 _ _ _ q0]; rfl
  have y4 := froz11 x p 4 _ _ q0
  have lx : p < x.heap.size := lt_of_heap q0
  obtain ⟨E1, E2, E3, E4, E5⟩ := EQ.out
  refine wp_region_held_drew (S := fun x => True ∧ x.cell? ⟨p, 1, none⟩ = some (.int .i64 P)) (by kernel_rfl) (⟨trivial, x1⟩) (fun hHeld => ?_)
  refine tk 0 (.pointer (some ⟨p, 0, none⟩)) rfl (.inl ⟨by rfl, ?_⟩) ?_
  · intro w9 hSw
    try dsimp only at hSw
    go_simp
    all_goals try decide
    all_goals try assumption
    all_goals try omega
  try simp only [Act.put, gA, gS, gZ, sA, sZ, sS]
  refine tk 1 (.pointer (some ⟨p, 0, none⟩)) rfl (.inl ⟨by rfl, ?_⟩) ?_
  · intro w9 hSw
    try dsimp only at hSw
    go_simp
    all_goals try decide
    all_goals try assumption
    all_goals try omega
  try simp only [Act.put, gA, gS, gZ, sA, sZ, sS]
  refine tk 2 (.pointer (some ⟨p, 0, none⟩)) rfl (.inl ⟨by rfl, ?_⟩) ?_
  · intro w9 hSw
    try dsimp only at hSw
    go_simp
    all_goals try decide
    all_goals try assumption
    all_goals try omega
  try simp only [Act.put, gA, gS, gZ, sA, sZ, sS]
  refine tk 3 (.pointer (some ⟨p, 4, none⟩)) rfl (.inl ⟨by rfl, ?_⟩) ?_
  · intro w9 hSw
    try dsimp only at hSw
    go_simp
    all_goals try decide
    all_goals try assumption
    all_goals try omega
  try simp only [Act.put, gA, gS, gZ, sA, sZ, sS]
  refine tk 5 (.int .i64 now) rfl (.inl ⟨by rfl, ?_⟩) ?_
  · intro w9 hSw
    try dsimp only at hSw
    go_simp
    all_goals try decide
    all_goals try assumption
    all_goals try omega
  try simp only [Act.put, gA, gS, gZ, sA, sZ, sS]
  refine tk 6 (.pointer (some ⟨p, 0, none⟩)) rfl (.inl ⟨by rfl, ?_⟩) ?_
  · intro w9 hSw
    try dsimp only at hSw
    go_simp
    all_goals try decide
    all_goals try assumption
    all_goals try omega
  try simp only [Act.put, gA, gS, gZ, sA, sZ, sS]
  refine tk 7 (.pointer (some ⟨p, 0, none⟩)) rfl (.inl ⟨by rfl, ?_⟩) ?_
  · intro w9 hSw
    try dsimp only at hSw
    go_simp
    all_goals try decide
    all_goals try assumption
    all_goals try omega
  try simp only [Act.put, gA, gS, gZ, sA, sZ, sS]
  refine tk 8 (.pointer (some ⟨p, 4, none⟩)) rfl (.inl ⟨by rfl, ?_⟩) ?_
  · intro w9 hSw
    try dsimp only at hSw
    go_simp
    all_goals try decide
    all_goals try assumption
    all_goals try omega
  try simp only [Act.put, gA, gS, gZ, sA, sZ, sS]
  refine tk 11 (.pointer (some ⟨p, 0, none⟩)) rfl (.inl ⟨by rfl, ?_⟩) ?_
  · intro w9 hSw
    try dsimp only at hSw
    go_simp
    all_goals try decide
    all_goals try assumption
    all_goals try omega
  try simp only [Act.put, gA, gS, gZ, sA, sZ, sS]
  refine tk 12 (.pointer (some ⟨p, 0, none⟩)) rfl (.inl ⟨by rfl, ?_⟩) ?_
  · intro w9 hSw
    try dsimp only at hSw
    go_simp
    all_goals try decide
    all_goals try assumption
    all_goals try omega
  try simp only [Act.put, gA, gS, gZ, sA, sZ, sS]
  refine tk 13 (.pointer (some ⟨p, 1, none⟩)) rfl (.inl ⟨by rfl, ?_⟩) ?_
  · intro w9 hSw
    try dsimp only at hSw
    go_simp
    all_goals try decide
    all_goals try assumption
    all_goals try omega
  try simp only [Act.put, gA, gS, gZ, sA, sZ, sS]
  refine tk 14 (.int .i64 P) rfl (.inl ⟨by rfl, ?_⟩) ?_
  · intro w9 hSw
    try dsimp only at hSw
    go_simp
    all_goals try decide
    all_goals try assumption
    all_goals try omega
  try simp only [Act.put, gA, gS, gZ, sA, sZ, sS]
  refine tk 17 (.pointer (some ⟨p, 0, none⟩)) rfl (.inl ⟨by rfl, ?_⟩) ?_
  · intro w9 hSw
    try dsimp only at hSw
    go_simp
    all_goals try decide
    all_goals try assumption
    all_goals try omega
  try simp only [Act.put, gA, gS, gZ, sA, sZ, sS]
  refine tk 18 (.pointer (some ⟨p, 0, none⟩)) rfl (.inl ⟨by rfl, ?_⟩) ?_
  · intro w9 hSw
    try dsimp only at hSw
    go_simp
    all_goals try decide
    all_goals try assumption
    all_goals try omega
  try simp only [Act.put, gA, gS, gZ, sA, sZ, sS]
  refine tk 19 (.pointer (some ⟨p, 1, none⟩)) rfl (.inl ⟨by rfl, ?_⟩) ?_
  · intro w9 hSw
    try dsimp only at hSw
    go_simp
    all_goals try decide
    all_goals try assumption
    all_goals try omega
  try simp only [Act.put, gA, gS, gZ, sA, sZ, sS]
  refine tk 20 (.int .i64 P) rfl (.inl ⟨by rfl, ?_⟩) ?_
  · intro w9 hSw
    try dsimp only at hSw
    go_simp
    all_goals try decide
    all_goals try assumption
    all_goals try omega
  try simp only [Act.put, gA, gS, gZ, sA, sZ, sS]
  refine wpAnyH_ready (rs := [4, 9]) (by kernel_rfl) (by simp) ?_
  refine AllReadyH.cons rfl (fun K' hK => ?_) (AllReadyH.cons rfl (fun K' hK => ?_) AllReadyH.nil)
  · rw [if_pos (by rfl)]
    simp only [gA, gS, gZ]
    go_wp2_with fail
    refine hK.out _ _ (hHeld) (fun hHeld => ?_)
    clear hK K'
    try simp only [Act.put, gA, gS, gZ, sA, sZ, sS]
    refine wpAnyH_ready (rs := [9]) (by kernel_rfl) (by simp) ?_
    refine AllReadyH.cons rfl (fun K' hK => ?_) AllReadyH.nil
    rw [if_pos (by rfl)]
    simp only [gA, gS, gZ]
    go_wp2_with fail
    refine hK.out _ _ (hHeld) (fun hHeld => ?_)
    clear hK K'
    try simp only [Act.put, gA, gS, gZ, sA, sZ, sS]
    refine tk 10 (.int .i64 (now - due)) rfl (.inl ⟨by rfl, ?_⟩) ?_
    · intro w9 hSw
      try dsimp only at hSw
      go_simp
      all_goals try decide
      all_goals try assumption
      all_goals try omega
    try simp only [Act.put, gA, gS, gZ, sA, sZ, sS]
    refine tk 15 (.int .i64 ((now - due) / P)) rfl (.inl ⟨by rfl, ?_⟩) ?_
    · intro w9 hSw
      try dsimp only at hSw
      go_simp
      all_goals try decide
      all_goals try assumption
      all_goals try omega
    try simp only [Act.put, gA, gS, gZ, sA, sZ, sS]
    refine tk 16 (.int .i64 ((now - due) / P + 1)) rfl (.inl ⟨by rfl, ?_⟩) ?_
    · intro w9 hSw
      try dsimp only at hSw
      go_simp
      all_goals try decide
      all_goals try assumption
      all_goals try omega
    try simp only [Act.put, gA, gS, gZ, sA, sZ, sS]
    refine tk 21 (.int .i64 (((now - due) / P + 1) * P)) rfl (.inl ⟨by rfl, ?_⟩) ?_
    · intro w9 hSw
      try dsimp only at hSw
      go_simp
      all_goals try decide
      all_goals try assumption
      all_goals try omega
    try simp only [Act.put, gA, gS, gZ, sA, sZ, sS]
    refine tk 22 (.int .i64 (due + ((now - due) / P + 1) * P)) rfl (.inl ⟨by rfl, ?_⟩) ?_
    · intro w9 hSw
      try dsimp only at hSw
      go_simp
      all_goals try decide
      all_goals try assumption
      all_goals try omega
    try simp only [Act.put, gA, gS, gZ, sA, sZ, sS]
    refine tk 23 (.pointer (some ⟨p, 0, none⟩)) rfl (.inl ⟨by rfl, ?_⟩) ?_
    · intro w9 hSw
      try dsimp only at hSw
      go_simp
      all_goals try decide
      all_goals try assumption
      all_goals try omega
    try simp only [Act.put, gA, gS, gZ, sA, sZ, sS]
    refine tk 24 (.pointer (some ⟨p, 4, none⟩)) rfl (.inl ⟨by rfl, ?_⟩) ?_
    · intro w9 hSw
      try dsimp only at hSw
      go_simp
      all_goals try decide
      all_goals try assumption
      all_goals try omega
    try simp only [Act.put, gA, gS, gZ, sA, sZ, sS]
    refine wpAnyH_ready (rs := [25]) (by kernel_rfl) (by simp) ?_
    refine AllReadyH.cons rfl (fun K' hK => ?_) AllReadyH.nil
    rw [if_pos (by rfl)]
    simp only [gA, gS, gZ]
    obtain ⟨S0, S1⟩ := hHeld
    go_wp2_with fail
    refine hK.out _ _ (⟨trivial, cset11 (W := x.drew) q0 rfl⟩) (fun hHeld => ?_)
    clear hK K'
    try simp only [Act.put, gA, gS, gZ, sA, sZ, sS]
    refine wpAnyH_done (by kernel_rfl) ?_ _
    have q4 := heap_setCell_same x.drew p 4 _ _ (.int .i64 (due + ((now - due) / P + 1) * P)) q0
    have g4 := (Below.heap_setCell x.drew ⟨p, 4, none⟩ (.int .i64 (due + ((now - due) / P + 1) * P)) _ (by show w.heap.size ≠ p; omega)).trans g0
    have b4 := (Below.heap_setCell x.drew ⟨p, 4, none⟩ (.int .i64 (due + ((now - due) / P + 1) * P)) _ (by show w.heap.size + 1 ≠ p; omega)).trans b0
    have hc := fun j => cell_of_row (((x.setCell ⟨p, 4, none⟩ (.int .i64 (due + ((now - due) / P + 1) * P))).drew).setRow w.heap.size (frC id 1 n 0 0 0 0 0 0 0 false)) w.heap.size j _ _ _ (setRow_heap _ _ _ (frC id 1 n 0 0 0 0 0 0 0 false) _ _ g4)
    go_wp2_with (first | refine wpList_load_by rfl 39 _ rfl ⟨w.heap.size + 1, 0, none⟩ (frV id 1 n 0 0 0 0 0 0 0 false) rfl (loadF _ _ _ _ _ _ _ _ _ _ _ _ _ b4) ?_ | refine wpList_store_row rfl 39 _ _ rfl w.heap.size (frC id 1 n 0 0 0 0 0 0 0 false) rfl rfl 39 _ g4 infoF rfl (frC_one _ _ _ _ _ _ _ _ _ _ _) ?_)
    refine bodyPost_ret (v := .tuple #[frV id 1 n 0 0 0 0 0 0 0 false, .bool true]) ?_ rfl ⟨rfl, sh11 (by omega) q4, (k0.drew.set ⟨p, 4, none⟩ _ (.inl (by simp))).row w.heap.size (frC id 1 n 0 0 0 0 0 0 0 false) (.inr (Nat.le_refl _))⟩
    simp [results, Try.results16, go_sem, hc]
  · rw [if_pos (by rfl)]
    simp only [gA, gS, gZ]
    go_wp2_with fail
    refine hK.out _ _ (hHeld) (fun hHeld => ?_)
    clear hK K'
    try simp only [Act.put, gA, gS, gZ, sA, sZ, sS]
    refine tk 10 (.int .i64 (now - due)) rfl (.inl ⟨by rfl, ?_⟩) ?_
    · intro w9 hSw
      try dsimp only at hSw
      go_simp
      all_goals try decide
      all_goals try assumption
      all_goals try omega
    try simp only [Act.put, gA, gS, gZ, sA, sZ, sS]
    refine tk 15 (.int .i64 ((now - due) / P)) rfl (.inl ⟨by rfl, ?_⟩) ?_
    · intro w9 hSw
      try dsimp only at hSw
      go_simp
      all_goals try decide
      all_goals try assumption
      all_goals try omega
    try simp only [Act.put, gA, gS, gZ, sA, sZ, sS]
    refine tk 16 (.int .i64 ((now - due) / P + 1)) rfl (.inl ⟨by rfl, ?_⟩) ?_
    · intro w9 hSw
      try dsimp only at hSw
      go_simp
      all_goals try decide
      all_goals try assumption
      all_goals try omega
    try simp only [Act.put, gA, gS, gZ, sA, sZ, sS]
    refine tk 21 (.int .i64 (((now - due) / P + 1) * P)) rfl (.inl ⟨by rfl, ?_⟩) ?_
    · intro w9 hSw
      try dsimp only at hSw
      go_simp
      all_goals try decide
      all_goals try assumption
      all_goals try omega
    try simp only [Act.put, gA, gS, gZ, sA, sZ, sS]
    refine wpAnyH_ready (rs := [4]) (by kernel_rfl) (by simp) ?_
    refine AllReadyH.cons rfl (fun K' hK => ?_) AllReadyH.nil
    rw [if_pos (by rfl)]
    simp only [gA, gS, gZ]
    go_wp2_with fail
    refine hK.out _ _ (hHeld) (fun hHeld => ?_)
    clear hK K'
    try simp only [Act.put, gA, gS, gZ, sA, sZ, sS]
    refine tk 22 (.int .i64 (due + ((now - due) / P + 1) * P)) rfl (.inl ⟨by rfl, ?_⟩) ?_
    · intro w9 hSw
      try dsimp only at hSw
      go_simp
      all_goals try decide
      all_goals try assumption
      all_goals try omega
    try simp only [Act.put, gA, gS, gZ, sA, sZ, sS]
    refine tk 23 (.pointer (some ⟨p, 0, none⟩)) rfl (.inl ⟨by rfl, ?_⟩) ?_
    · intro w9 hSw
      try dsimp only at hSw
      go_simp
      all_goals try decide
      all_goals try assumption
      all_goals try omega
    try simp only [Act.put, gA, gS, gZ, sA, sZ, sS]
    refine tk 24 (.pointer (some ⟨p, 4, none⟩)) rfl (.inl ⟨by rfl, ?_⟩) ?_
    · intro w9 hSw
      try dsimp only at hSw
      go_simp
      all_goals try decide
      all_goals try assumption
      all_goals try omega
    try simp only [Act.put, gA, gS, gZ, sA, sZ, sS]
    refine wpAnyH_ready (rs := [25]) (by kernel_rfl) (by simp) ?_
    refine AllReadyH.cons rfl (fun K' hK => ?_) AllReadyH.nil
    rw [if_pos (by rfl)]
    simp only [gA, gS, gZ]
    obtain ⟨S0, S1⟩ := hHeld
    go_wp2_with fail
    refine hK.out _ _ (⟨trivial, cset11 (W := x.drew) q0 rfl⟩) (fun hHeld => ?_)
    clear hK K'
    try simp only [Act.put, gA, gS, gZ, sA, sZ, sS]
    refine wpAnyH_done (by kernel_rfl) ?_ _
    have q4 := heap_setCell_same x.drew p 4 _ _ (.int .i64 (due + ((now - due) / P + 1) * P)) q0
    have g4 := (Below.heap_setCell x.drew ⟨p, 4, none⟩ (.int .i64 (due + ((now - due) / P + 1) * P)) _ (by show w.heap.size ≠ p; omega)).trans g0
    have b4 := (Below.heap_setCell x.drew ⟨p, 4, none⟩ (.int .i64 (due + ((now - due) / P + 1) * P)) _ (by show w.heap.size + 1 ≠ p; omega)).trans b0
    have hc := fun j => cell_of_row (((x.setCell ⟨p, 4, none⟩ (.int .i64 (due + ((now - due) / P + 1) * P))).drew).setRow w.heap.size (frC id 1 n 0 0 0 0 0 0 0 false)) w.heap.size j _ _ _ (setRow_heap _ _ _ (frC id 1 n 0 0 0 0 0 0 0 false) _ _ g4)
    go_wp2_with (first | refine wpList_load_by rfl 39 _ rfl ⟨w.heap.size + 1, 0, none⟩ (frV id 1 n 0 0 0 0 0 0 0 false) rfl (loadF _ _ _ _ _ _ _ _ _ _ _ _ _ b4) ?_ | refine wpList_store_row rfl 39 _ _ rfl w.heap.size (frC id 1 n 0 0 0 0 0 0 0 false) rfl rfl 39 _ g4 infoF rfl (frC_one _ _ _ _ _ _ _ _ _ _ _) ?_)
    refine bodyPost_ret (v := .tuple #[frV id 1 n 0 0 0 0 0 0 0 false, .bool true]) ?_ rfl ⟨rfl, sh11 (by omega) q4, (k0.drew.set ⟨p, 4, none⟩ _ (.inl (by simp))).row w.heap.size (frC id 1 n 0 0 0 0 0 0 0 false) (.inr (Nat.le_refl _))⟩
    simp [results, Try.results16, go_sem, hc]
#print axioms utick_2
end Go.Proofs.Ytlijkgkkoahajaa
