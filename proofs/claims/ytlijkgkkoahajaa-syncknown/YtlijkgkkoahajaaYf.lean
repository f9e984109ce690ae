/-
  The walk of the program's Tick.
-/
import Derived.Test.YtlijkgkkoahajaaYe
import Derived.Test.YtlijkgkkoahajaaTk9
namespace Go.Proofs.Ytlijkgkkoahajaa
open Go.RowKit

set_option linter.unusedSimpArgs false in
set_option maxHeartbeats 4000000 in
set_option maxRecDepth 100000 in
theorem tick_nil (now : Int) (w : World) : Calls Try.prog 15 #[.pointer none, .int .i64 now] w fun e w' => e = .returned (.tuple #[frV 0 0 0 0 0 0 0 0 0 0 false, .bool false]) ∧ Below w.heap.size w w' := by
  go_enter Try.func15, Try.ntmps15
  go_wp2_with fail
  refine (due_nil _).mono ?_
  rintro e w1 ⟨rfl, rfl⟩
  go_wp2_with fail
  exact bodyPost_ret (v := .tuple #[frV 0 0 0 0 0 0 0 0 0 0 false, .bool false]) (by simp [results, Try.results15, go_sem]) rfl ⟨rfl, (by repeat (first | exact Below.refl _ _ | apply Below.drew | apply Below.al))⟩
set_option linter.unusedSimpArgs false in
set_option maxHeartbeats 4000000 in
set_option maxRecDepth 100000 in
theorem tick_off (p : Nat) (id top P due n now : Int) (w : World) (hp : w.heap[p]? = some (.cells (prC id top P false due n) 81 (0, 0))) : Calls Try.prog 15 #[.pointer (some ⟨p, 0, none⟩), .int .i64 now] w fun e w' => e = .returned (.tuple #[frV 0 0 0 0 0 0 0 0 0 0 false, .bool false]) ∧ Below w.heap.size w w' := by
  have DU := due_no p id top P due n _ (ext11 (o := .cells (frC 0 0 0 0 0 0 0 0 0 0 false) 39) hp)
  clear hp
  go_enter Try.func15, Try.ntmps15
  go_wp2_with fail
  refine DU.mono ?_
  rintro e w1 ⟨rfl, rfl⟩
  clear DU
  go_wp2_with fail
  exact bodyPost_ret (v := .tuple #[frV 0 0 0 0 0 0 0 0 0 0 false, .bool false]) (by simp [results, Try.results15, go_sem]) rfl ⟨rfl, (by repeat (first | exact Below.refl _ _ | apply Below.drew | apply Below.al))⟩
set_option linter.unusedSimpArgs false in
set_option maxHeartbeats 4000000 in
set_option maxRecDepth 100000 in
theorem tick_none (p : Nat) (id top P due n now : Int) (h : tmB now = false) (w : World) (hp : w.heap[p]? = some (.cells (prC id top P true due n) 81 (0, 0))) : Calls Try.prog 15 #[.pointer (some ⟨p, 0, none⟩), .int .i64 now] w fun e w' => e = .returned (.tuple #[frV 0 0 0 0 0 0 0 0 0 0 false, .bool false]) ∧ Below w.heap.size w w' := by
  have IT := fun W => isTime_any now W
  rw [h] at IT
  have DU := due_yes p id top P due n _ (ext11 (o := .cells (frC 0 0 0 0 0 0 0 0 0 0 false) 39) hp)
  clear hp
  go_enter Try.func15, Try.ntmps15
  go_wp2_with fail
  refine DU.mono ?_
  rintro e w1 ⟨rfl, rfl⟩
  clear DU
  go_wp2_with fail
  refine (IT _).mono ?_
  rintro e w1 ⟨rfl, rfl⟩
  go_wp2_with fail
  exact bodyPost_ret (v := .tuple #[frV 0 0 0 0 0 0 0 0 0 0 false, .bool false]) (by simp [results, Try.results15, go_sem]) rfl ⟨rfl, (by repeat (first | exact Below.refl _ _ | apply Below.drew | apply Below.al))⟩
set_option linter.unusedSimpArgs false in
set_option maxHeartbeats 4000000 in
set_option maxRecDepth 100000 in
theorem tick_early (p : Nat) (id top P due n now : Int) (h : tmB now = true) (hd : now < due) (w : World) (hp : w.heap[p]? = some (.cells (prC id top P true due n) 81 (0, 0))) : Calls Try.prog 15 #[.pointer (some ⟨p, 0, none⟩), .int .i64 now] w fun e w' => e = .returned (.tuple #[frV 0 0 0 0 0 0 0 0 0 0 false, .bool false]) ∧ Below w.heap.size w w' := by
  have IT := fun W => isTime_any now W
  rw [h] at IT
  clear h
  have DU := due_yes p id top P due n _ (ext11 (o := .cells (frC 0 0 0 0 0 0 0 0 0 0 false) 39) hp)
  clear hp
  go_enter Try.func15, Try.ntmps15
  go_wp2_with fail
  refine DU.mono ?_
  rintro e w1 ⟨rfl, rfl⟩
  clear DU
  go_wp2_with fail
  refine (IT _).mono ?_
  rintro e w1 ⟨rfl, rfl⟩
  go_wp2_with fail
  exact bodyPost_ret (v := .tuple #[frV 0 0 0 0 0 0 0 0 0 0 false, .bool false]) (by simp [results, Try.results15, go_sem]) rfl ⟨rfl, (by repeat (first | exact Below.refl _ _ | apply Below.drew | apply Below.al))⟩
set_option linter.unusedSimpArgs false in
set_option maxHeartbeats 4000000 in
set_option maxRecDepth 100000 in
theorem tick_0 (p : Nat) (id P due n now : Int) (hi : id ≤ 2047) (h : tmB now = true) (hd : due ≤ now) (hP : 1 ≤ P) (hP2 : P ≤ 1099511627776) (hn : 0 ≤ n ∧ n < 256) (hdu : 0 ≤ due) (w : World) (hp : w.heap[p]? = some (.cells (prC id 0 P true due n) 81 (0, 0))) : Calls Try.prog 15 #[.pointer (some ⟨p, 0, none⟩), .int .i64 now] w fun e w' => e = .returned (.tuple #[frV id 0 0 0 0 0 0 0 0 0 false, .bool true]) ∧ w'.heap[p]? = some (.cells (prC id 0 P true (due + ((now - due) / P + 1) * P) (nxt 0 n)) 81 (0, 0)) ∧ Kp [p] w w' := by
  have IT := fun W => isTime_any now W
  rw [h] at IT
  obtain ⟨t0, t1⟩ := tmB_of h
  clear h
  have hd' : ¬ now < due := by omega
  have lp : p < w.heap.size := lt_of_heap hp
  have lpp : Hid (p < w.heap.size) := lp
  have p0 := ext11 (o := (.cells (frC 0 0 0 0 0 0 0 0 0 0 false) 39)) hp
  have f0 := at11 w (.cells (frC 0 0 0 0 0 0 0 0 0 0 false) 39) w.heap.size rfl
  have DU := due_yes p id 0 P due n _ p0
  have c0 : w.cell? ⟨p, 0, none⟩ = some (.int .u16 id) := by rw [cell_of_row w _ 0 _ _ _ hp]; rfl
  have c1 : w.cell? ⟨p, 1, none⟩ = some (.int .u8 0) := by rw [cell_of_row w _ 1 _ _ _ hp]; rfl
  have c2 : w.cell? ⟨p, 2, none⟩ = some (.int .i64 P) := by rw [cell_of_row w _ 2 _ _ _ hp]; rfl
  have c3 : w.cell? ⟨p, 3, none⟩ = some (.bool true) := by rw [cell_of_row w _ 3 _ _ _ hp]; rfl
  have c4 : w.cell? ⟨p, 4, none⟩ = some (.int .i64 due) := by rw [cell_of_row w _ 4 _ _ _ hp]; rfl
  have c5 : w.cell? ⟨p, 5, none⟩ = some (.int .u8 n) := by rw [cell_of_row w _ 5 _ _ _ hp]; rfl
  have d0 := cla11 (o := (.cells (frC 0 0 0 0 0 0 0 0 0 0 false) 39)) c0
  have d1 := cla11 (o := (.cells (frC 0 0 0 0 0 0 0 0 0 0 false) 39)) c1
  have d2 := cla11 (o := (.cells (frC 0 0 0 0 0 0 0 0 0 0 false) 39)) c2
  have d3 := cla11 (o := (.cells (frC 0 0 0 0 0 0 0 0 0 0 false) 39)) c3
  have d4 := cla11 (o := (.cells (frC 0 0 0 0 0 0 0 0 0 0 false) 39)) c4
  have d5 := cla11 (o := (.cells (frC 0 0 0 0 0 0 0 0 0 0 false) 39)) c5
  have EQ : Hid (IntKind.i64.wrap (now - due) = now - due ∧ IntKind.i64.wrap ((now - due).tdiv P) = (now - due) / P ∧ IntKind.i64.wrap ((now - due) / P + 1) = (now - due) / P + 1 ∧ IntKind.i64.wrap (((now - due) / P + 1) * P) = ((now - due) / P + 1) * P ∧ IntKind.i64.wrap (due + ((now - due) / P + 1) * P) = due + ((now - due) / P + 1) * P) := tick_eqs now due P (by omega) t1 hd hP hP2 hdu
  go_enter Try.func15, Try.ntmps15
  go_wp2_with fail
  refine DU.mono ?_
  rintro e w1 ⟨rfl, rfl⟩
  clear DU
  go_wp2_with fail
  refine (IT _).mono ?_
  rintro e w1 ⟨rfl, rfl⟩
  go_wp2_with fail
  refine wp_region_held_drew (S := fun x => Kp [p] w x ∧ x.cell? ⟨p, 0, none⟩ = some (.int .u16 id) ∧ x.cell? ⟨p, 1, none⟩ = some (.int .u8 0) ∧ x.cell? ⟨p, 5, none⟩ = some (.int .u8 n)) (by kernel_rfl) (⟨((Kp.refl _ _).al _).drew, d0, d1, d5⟩) (fun hHeld => ?_)
  refine tk 0 (.pointer (some ⟨p, 0, none⟩)) rfl (.inl ⟨by rfl, ?_⟩) ?_
  · intro w9 hSw
    try dsimp only at hSw
    go_simp
    all_goals try decide
    all_goals try assumption
    all_goals try omega
  try simp only [Act.put, gA, gS, gZ, sA, sZ, sS]
  refine tk 1 (.pointer (some ⟨p, 0, none⟩)) rfl (.inl ⟨by rfl, ?_⟩) ?_
  · intro w9 hSw
    try dsimp only at hSw
    go_simp
    all_goals try decide
    all_goals try assumption
    all_goals try omega
  try simp only [Act.put, gA, gS, gZ, sA, sZ, sS]
  refine tk 2 (.pointer (some ⟨p, 0, none⟩)) rfl (.inl ⟨by rfl, ?_⟩) ?_
  · intro w9 hSw
    try dsimp only at hSw
    go_simp
    all_goals try decide
    all_goals try assumption
    all_goals try omega
  try simp only [Act.put, gA, gS, gZ, sA, sZ, sS]
  refine tk 3 (.agg #[.int .u16 id, .int .u8 0]) rfl (.inl ⟨by rfl, ?_⟩) ?_
  · intro w9 hSw
    try dsimp only at hSw
    go_simp
    all_goals try decide
    all_goals try assumption
    all_goals try omega
  try simp only [Act.put, gA, gS, gZ, sA, sZ, sS]
  refine tk 4 (.pointer (some ⟨p, 0, none⟩)) rfl (.inl ⟨by rfl, ?_⟩) ?_
  · intro w9 hSw
    try dsimp only at hSw
    go_simp
    all_goals try decide
    all_goals try assumption
    all_goals try omega
  try simp only [Act.put, gA, gS, gZ, sA, sZ, sS]
  refine tk 5 (.pointer (some ⟨p, 0, none⟩)) rfl (.inl ⟨by rfl, ?_⟩) ?_
  · intro w9 hSw
    try dsimp only at hSw
    go_simp
    all_goals try decide
    all_goals try assumption
    all_goals try omega
  try simp only [Act.put, gA, gS, gZ, sA, sZ, sS]
  refine tk 6 (.pointer (some ⟨p, 5, none⟩)) rfl (.inl ⟨by rfl, ?_⟩) ?_
  · intro w9 hSw
    try dsimp only at hSw
    go_simp
    all_goals try decide
    all_goals try assumption
    all_goals try omega
  try simp only [Act.put, gA, gS, gZ, sA, sZ, sS]
  refine tk 7 (.int .u8 n) rfl (.inl ⟨by rfl, ?_⟩) ?_
  · intro w9 hSw
    try dsimp only at hSw
    go_simp
    all_goals try decide
    all_goals try assumption
    all_goals try omega
  try simp only [Act.put, gA, gS, gZ, sA, sZ, sS]
  refine wpAnyH_ready (rs := [8, 9]) (by kernel_rfl) (by simp) ?_
  refine AllReadyH.cons rfl (fun K' hK => ?_) (AllReadyH.cons rfl (fun K' hK => ?_) AllReadyH.nil)
  · rw [if_pos (by rfl)]
    simp only [gA, gS, gZ]
    obtain ⟨S0, S1, S2, S3⟩ := hHeld
    go_wp2_with fail
    refine (frame_0 _ _ hi _).mono ?_
    rintro e w1 ⟨rfl, hb1⟩
    try go_wp2_with fail
    refine hK.out _ _ (⟨S0.trans (Kp.of hb1), cl11 hb1 S1, cl11 hb1 S2, cl11 hb1 S3⟩) (fun hHeld => ?_)
    clear hK K'
    try simp only [Act.put, gA, gS, gZ, sA, sZ, sS]
    have p1 := blk11 hb1 p0
    have f1 := blk11 hb1 f0
    refine wpAnyH_ready (rs := [9]) (by kernel_rfl) (by simp) ?_
    refine AllReadyH.cons rfl (fun K' hK => ?_) AllReadyH.nil
    rw [if_pos (by rfl)]
    simp only [gA, gS, gZ]
    obtain ⟨S0, S1, S2, S3⟩ := hHeld
    go_wp2_with fail
    refine hK.out _ _ (⟨S0.al _, cla11 S1, cla11 S2, cla11 S3⟩) (fun hHeld => ?_)
    clear hK K'
    try simp only [Act.put, gA, gS, gZ, sA, sZ, sS]
    have pa := ext11 (o := (.cells (frC 0 0 0 0 0 0 0 0 0 0 false) 39)) p1
    have fa := ext11 (o := (.cells (frC 0 0 0 0 0 0 0 0 0 0 false) 39)) f1
    have Ba := at11 w1 (.cells (frC 0 0 0 0 0 0 0 0 0 0 false) 39) (w1.heap.size) (by simp)
    have lB : w.heap.size < w1.heap.size := by first | omega | (have := hb1.size; simp at this; omega)
    refine wpAnyH_ready (rs := [10]) (by kernel_rfl) (by simp) ?_
    refine AllReadyH.cons rfl (fun K' hK => ?_) AllReadyH.nil
    rw [if_pos (by rfl)]
    simp only [gA, gS, gZ]
    obtain ⟨S0, S1, S2, S3⟩ := hHeld
    refine wp_store_row 39 (.tmp 8) (.tmp 36) rfl (w1.heap.size) (frC id 0 0 0 0 0 0 0 0 0 false) rfl rfl 39 _ Ba infoF rfl (frC_one _ _ _ _ _ _ _ _ _ _ _) ?_
    refine hK.out _ _ (⟨S0.row _ _ (.inr (by omega)), sr11 (by omega) S1, sr11 (by omega) S2, sr11 (by omega) S3⟩) (fun hHeld => ?_)
    clear hK K'
    try simp only [Act.put, gA, gS, gZ, sA, sZ, sS]
    refine wpAnyH_done (by kernel_rfl) ?_ _
    have q0 := sh11 (B := w1.heap.size) (C := frC id 0 0 0 0 0 0 0 0 0 false) (by omega) pa
    have g0 := sh11 (B := w1.heap.size) (C := frC id 0 0 0 0 0 0 0 0 0 false) (by omega) fa
    have Bb := setRow_heap _ _ _ (frC id 0 0 0 0 0 0 0 0 0 false) _ _ Ba
    have kx := hHeld.1
    clear hHeld
    generalize hx : (w1.alloc (.cells (frC 0 0 0 0 0 0 0 0 0 0 false) 39)).setRow w1.heap.size (frC id 0 0 0 0 0 0 0 0 0 false) = x at q0 g0 Bb kx ⊢
    clear hx
    clear p0 f0 p1 f1 hb1 Ba c0 d0 c1 d1 c2 d2 c3 d3 c4 d4 c5 d5
    have c0 : x.cell? ⟨p, 0, none⟩ = some (.int .u16 id) := by rw [cell_of_row x _ 0 _ _ _ q0]; rfl
    have c1 : x.cell? ⟨p, 1, none⟩ = some (.int .u8 0) := by rw [cell_of_row x _ 1 _ _ _ q0]; rfl
    have c2 : x.cell? ⟨p, 2, none⟩ = some (.int .i64 P) := by rw [cell_of_row x _ 2 _ _ _ q0]; rfl
    have c3 : x.cell? ⟨p, 3, none⟩ = some (.bool true) := by rw [cell_of_row x _ 3 _ _ _ q0]; rfl
    have c4 : x.cell? ⟨p, 4, none⟩ = some (.int .i64 due) := by rw [cell_of_row x _ 4 _ _ _ q0]; rfl
    have c5 : x.cell? ⟨p, 5, none⟩ = some (.int .u8 n) := by rw [cell_of_row x _ 5 _ _ _ q0]; rfl
    have z3 := froz11 x p 3 _ _ q0
    have z4 := froz11 x p 4 _ _ q0
    have z5 := froz11 x p 5 _ _ q0
    have lx : p < x.heap.size := lt_of_heap q0
    go_wp2_with fail
    refine wp_region_held_drew (S := fun x => Kp [p] w x ∧ x.cell? ⟨p, 0, none⟩ = some (.int .u16 id) ∧ x.cell? ⟨p, 1, none⟩ = some (.int .u8 0)) (by kernel_rfl) (⟨kx.drew, c0, c1⟩) (fun hHeld => ?_)
    refine tk 0 (.pointer (some ⟨p, 0, none⟩)) rfl (.inl ⟨by rfl, ?_⟩) ?_
    · intro w9 hSw
      try dsimp only at hSw
      go_simp
      all_goals try decide
      all_goals try assumption
      all_goals try omega
    try simp only [Act.put, gA, gS, gZ, sA, sZ, sS]
    refine tk 1 (.pointer (some ⟨p, 0, none⟩)) rfl (.inl ⟨by rfl, ?_⟩) ?_
    · intro w9 hSw
      try dsimp only at hSw
      go_simp
      all_goals try decide
      all_goals try assumption
      all_goals try omega
    try simp only [Act.put, gA, gS, gZ, sA, sZ, sS]
    refine tk 2 (.pointer (some ⟨p, 0, none⟩)) rfl (.inl ⟨by rfl, ?_⟩) ?_
    · intro w9 hSw
      try dsimp only at hSw
      go_simp
      all_goals try decide
      all_goals try assumption
      all_goals try omega
    try simp only [Act.put, gA, gS, gZ, sA, sZ, sS]
    refine tk 3 (.pointer (some ⟨p, 0, none⟩)) rfl (.inl ⟨by rfl, ?_⟩) ?_
    · intro w9 hSw
      try dsimp only at hSw
      go_simp
      all_goals try decide
      all_goals try assumption
      all_goals try omega
    try simp only [Act.put, gA, gS, gZ, sA, sZ, sS]
    refine tk 4 (.agg #[.int .u16 id, .int .u8 0]) rfl (.inl ⟨by rfl, ?_⟩) ?_
    · intro w9 hSw
      try dsimp only at hSw
      go_simp
      all_goals try decide
      all_goals try assumption
      all_goals try omega
    try simp only [Act.put, gA, gS, gZ, sA, sZ, sS]
    refine tk 5 (.pointer (some ⟨p, 0, none⟩)) rfl (.inl ⟨by rfl, ?_⟩) ?_
    · intro w9 hSw
      try dsimp only at hSw
      go_simp
      all_goals try decide
      all_goals try assumption
      all_goals try omega
    try simp only [Act.put, gA, gS, gZ, sA, sZ, sS]
    refine tk 6 (.pointer (some ⟨p, 0, none⟩)) rfl (.inl ⟨by rfl, ?_⟩) ?_
    · intro w9 hSw
      try dsimp only at hSw
      go_simp
      all_goals try decide
      all_goals try assumption
      all_goals try omega
    try simp only [Act.put, gA, gS, gZ, sA, sZ, sS]
    refine tk 7 (.pointer (some ⟨p, 5, none⟩)) rfl (.inl ⟨by rfl, ?_⟩) ?_
    · intro w9 hSw
      try dsimp only at hSw
      go_simp
      all_goals try decide
      all_goals try assumption
      all_goals try omega
    try simp only [Act.put, gA, gS, gZ, sA, sZ, sS]
    refine wpAnyH_ready (rs := [8]) (by kernel_rfl) (by simp) ?_
    refine AllReadyH.cons rfl (fun K' hK => ?_) AllReadyH.nil
    rw [if_pos (by rfl)]
    simp only [gA, gS, gZ]
    go_wp2_with fail
    refine hK.out _ _ (hHeld) (fun hHeld => ?_)
    clear hK K'
    try simp only [Act.put, gA, gS, gZ, sA, sZ, sS]
    refine wpAnyH_ready (rs := [9]) (by kernel_rfl) (by simp) ?_
    refine AllReadyH.cons rfl (fun K' hK => ?_) AllReadyH.nil
    rw [if_pos (by rfl)]
    simp only [gA, gS, gZ]
    obtain ⟨S0, S1, S2⟩ := hHeld
    go_wp2_with fail
    refine (behind_any id 0 n hn.1 hn.2 (by decide) _).mono ?_
    rintro e w3 ⟨rfl, rfl⟩
    try go_wp2_with fail
    refine hK.out _ _ (⟨S0.al _, cla11 S1, cla11 S2⟩) (fun hHeld => ?_)
    clear hK K'
    try simp only [Act.put, gA, gS, gZ, sA, sZ, sS]
    have e4 := cla11 (o := .cells (btC id 0) 79) c4
    have e5 := cla11 (o := .cells (btC id 0) 79) c5
    refine tk 10 (.pointer (some ⟨p, 0, none⟩)) rfl (.inl ⟨by rfl, ?_⟩) ?_
    · intro w9 hSw
      try dsimp only at hSw
      go_simp
      all_goals try decide
      all_goals try assumption
      all_goals try omega
    try simp only [Act.put, gA, gS, gZ, sA, sZ, sS]
    refine tk 11 (.pointer (some ⟨p, 5, none⟩)) rfl (.inl ⟨by rfl, ?_⟩) ?_
    · intro w9 hSw
      try dsimp only at hSw
      go_simp
      all_goals try decide
      all_goals try assumption
      all_goals try omega
    try simp only [Act.put, gA, gS, gZ, sA, sZ, sS]
    refine wpAnyH_ready (rs := [12]) (by kernel_rfl) (by simp) ?_
    refine AllReadyH.cons rfl (fun K' hK => ?_) AllReadyH.nil
    rw [if_pos (by rfl)]
    simp only [gA, gS, gZ]
    obtain ⟨S0, S1, S2⟩ := hHeld
    go_wp2_with fail
    refine hK.out _ _ (⟨((kx.set ⟨p, 5, none⟩ (.int .u8 (nxt 0 n)) (.inl (by simp))).al _).drew, cla11 (cset11 q0 rfl), cla11 (cset11 q0 rfl)⟩) (fun hHeld => ?_)
    clear hK K'
    try simp only [Act.put, gA, gS, gZ, sA, sZ, sS]
    refine wpAnyH_done (by kernel_rfl) ?_ _
    obtain ⟨ky, -, -⟩ := hHeld
    have q3 : (((x.setCell ⟨p, 5, none⟩ (.int .u8 (nxt 0 n))).alloc (.cells (btC id 0) 79)).drew).heap[p]? = some (.cells (prC id 0 P true due (nxt 0 n)) 81 (0, 0)) := ext11 (heap_setCell_same _ _ _ _ _ _ q0)
    have g3 : (((x.setCell ⟨p, 5, none⟩ (.int .u8 (nxt 0 n))).alloc (.cells (btC id 0) 79)).drew).heap[w.heap.size]? = some (.cells (frC 0 0 0 0 0 0 0 0 0 0 false) 39 (0, 0)) := ext11 ((Below.heap_setCell _ _ _ _ (by show w.heap.size ≠ p; omega)).trans g0)
    have b3 : (((x.setCell ⟨p, 5, none⟩ (.int .u8 (nxt 0 n))).alloc (.cells (btC id 0) 79)).drew).heap[w1.heap.size]? = some (.cells (frC id 0 0 0 0 0 0 0 0 0 false) 39 (0, 0)) := ext11 ((Below.heap_setCell _ _ _ _ (by show w1.heap.size ≠ p; omega)).trans Bb)
    generalize hy : (((x.setCell ⟨p, 5, none⟩ (.int .u8 (nxt 0 n))).alloc (.cells (btC id 0) 79)).drew : World) = y at q3 g3 b3 ky ⊢
    clear hy q0 g0 Bb kx e4 e5 lx z3 z4 z5 c0 c1 c2 c3 c4 c5
    have c0 : y.cell? ⟨p, 0, none⟩ = some (.int .u16 id) := by rw [cell_of_row y _ 0 _ _ _ q3]; rfl
    have c1 : y.cell? ⟨p, 1, none⟩ = some (.int .u8 0) := by rw [cell_of_row y _ 1 _ _ _ q3]; rfl
    have c2 : y.cell? ⟨p, 2, none⟩ = some (.int .i64 P) := by rw [cell_of_row y _ 2 _ _ _ q3]; rfl
    have c3 : y.cell? ⟨p, 3, none⟩ = some (.bool true) := by rw [cell_of_row y _ 3 _ _ _ q3]; rfl
    have c4 : y.cell? ⟨p, 4, none⟩ = some (.int .i64 due) := by rw [cell_of_row y _ 4 _ _ _ q3]; rfl
    have c5 : y.cell? ⟨p, 5, none⟩ = some (.int .u8 (nxt 0 n)) := by rw [cell_of_row y _ 5 _ _ _ q3]; rfl
    have z4 := froz11 y p 4 _ _ q3
    have ly : p < y.heap.size := lt_of_heap q3
    have b4 := fun v => (Below.heap_setCell y ⟨p, 4, none⟩ v _ (by show w1.heap.size ≠ p; omega)).trans b3
    have g4 := fun v => (Below.heap_setCell y ⟨p, 4, none⟩ v _ (by show w.heap.size ≠ p; omega)).trans g3
    have q4 := fun v => heap_setCell_same y p 4 _ _ v q3
    have hc := fun v j => cell_of_row ((y.setCell ⟨p, 4, none⟩ v).setRow w.heap.size (frC id 0 0 0 0 0 0 0 0 0 false)) w.heap.size j _ _ _ (setRow_heap _ _ _ (frC id 0 0 0 0 0 0 0 0 0 false) _ _ (g4 v))
    have fin := fun v => sh11 (B := w.heap.size) (C := frC id 0 0 0 0 0 0 0 0 0 false) (by omega) (q4 v)
    have finK := fun v => (ky.set ⟨p, 4, none⟩ v (.inl (by simp))).row w.heap.size (frC id 0 0 0 0 0 0 0 0 0 false) (.inr (Nat.le_refl _))
    obtain ⟨E1, E2, E3, E4, E5⟩ := EQ.out
    go_wp2_with (first | refine wpList_load_by rfl 39 _ rfl ⟨w1.heap.size, 0, none⟩ (frV id 0 0 0 0 0 0 0 0 0 false) rfl (loadF _ _ _ _ _ _ _ _ _ _ _ _ _ (b4 _)) ?_ | refine wpList_store_row rfl 39 _ _ rfl w.heap.size (frC id 0 0 0 0 0 0 0 0 0 false) rfl rfl 39 _ (g4 _) infoF rfl (frC_one _ _ _ _ _ _ _ _ _ _ _) ?_)
    refine bodyPost_ret (v := .tuple #[frV id 0 0 0 0 0 0 0 0 0 false, .bool true]) ?_ rfl ⟨rfl, fin _, finK _⟩
    simp [results, Try.results15, go_sem, hc]
  · rw [if_pos (by rfl)]
    simp only [gA, gS, gZ]
    obtain ⟨S0, S1, S2, S3⟩ := hHeld
    go_wp2_with fail
    refine hK.out _ _ (⟨S0.al _, cla11 S1, cla11 S2, cla11 S3⟩) (fun hHeld => ?_)
    clear hK K'
    try simp only [Act.put, gA, gS, gZ, sA, sZ, sS]
    have pa := ext11 (o := (.cells (frC 0 0 0 0 0 0 0 0 0 0 false) 39)) p0
    have fa := ext11 (o := (.cells (frC 0 0 0 0 0 0 0 0 0 0 false) 39)) f0
    have Ba := at11 (w.alloc (.cells (frC 0 0 0 0 0 0 0 0 0 0 false) 39)).drew (.cells (frC 0 0 0 0 0 0 0 0 0 0 false) 39) (w.heap.size + 1) (by simp)
    have lB : w.heap.size < w.heap.size + 1 := by first | omega | (have := hb1.size; simp at this; omega)
    refine wpAnyH_ready (rs := [8]) (by kernel_rfl) (by simp) ?_
    refine AllReadyH.cons rfl (fun K' hK => ?_) AllReadyH.nil
    rw [if_pos (by rfl)]
    simp only [gA, gS, gZ]
    obtain ⟨S0, S1, S2, S3⟩ := hHeld
    go_wp2_with fail
    refine (frame_0 _ _ hi _).mono ?_
    rintro e w1 ⟨rfl, hb1⟩
    try go_wp2_with fail
    refine hK.out _ _ (⟨S0.trans (Kp.of hb1), cl11 hb1 S1, cl11 hb1 S2, cl11 hb1 S3⟩) (fun hHeld => ?_)
    clear hK K'
    try simp only [Act.put, gA, gS, gZ, sA, sZ, sS]
    have p1 := blk11 hb1 pa
    have f1 := blk11 hb1 fa
    have B1 := blk11 hb1 Ba
    refine wpAnyH_ready (rs := [10]) (by kernel_rfl) (by simp) ?_
    refine AllReadyH.cons rfl (fun K' hK => ?_) AllReadyH.nil
    rw [if_pos (by rfl)]
    simp only [gA, gS, gZ]
    obtain ⟨S0, S1, S2, S3⟩ := hHeld
    refine wp_store_row 39 (.tmp 8) (.tmp 36) rfl (w.heap.size + 1) (frC id 0 0 0 0 0 0 0 0 0 false) rfl rfl 39 _ B1 infoF rfl (frC_one _ _ _ _ _ _ _ _ _ _ _) ?_
    refine hK.out _ _ (⟨S0.row _ _ (.inr (by omega)), sr11 (by omega) S1, sr11 (by omega) S2, sr11 (by omega) S3⟩) (fun hHeld => ?_)
    clear hK K'
    try simp only [Act.put, gA, gS, gZ, sA, sZ, sS]
    refine wpAnyH_done (by kernel_rfl) ?_ _
    have q0 := sh11 (B := w.heap.size + 1) (C := frC id 0 0 0 0 0 0 0 0 0 false) (by omega) p1
    have g0 := sh11 (B := w.heap.size + 1) (C := frC id 0 0 0 0 0 0 0 0 0 false) (by omega) f1
    have Bb := setRow_heap _ _ _ (frC id 0 0 0 0 0 0 0 0 0 false) _ _ B1
    have kx := hHeld.1
    clear hHeld
    generalize hx : w1.setRow (w.heap.size + 1) (frC id 0 0 0 0 0 0 0 0 0 false) = x at q0 g0 Bb kx ⊢
    clear hx
    clear p0 f0 p1 f1 hb1 Ba B1 c0 d0 c1 d1 c2 d2 c3 d3 c4 d4 c5 d5
    have c0 : x.cell? ⟨p, 0, none⟩ = some (.int .u16 id) := by rw [cell_of_row x _ 0 _ _ _ q0]; rfl
    have c1 : x.cell? ⟨p, 1, none⟩ = some (.int .u8 0) := by rw [cell_of_row x _ 1 _ _ _ q0]; rfl
    have c2 : x.cell? ⟨p, 2, none⟩ = some (.int .i64 P) := by rw [cell_of_row x _ 2 _ _ _ q0]; rfl
    have c3 : x.cell? ⟨p, 3, none⟩ = some (.bool true) := by rw [cell_of_row x _ 3 _ _ _ q0]; rfl
    have c4 : x.cell? ⟨p, 4, none⟩ = some (.int .i64 due) := by rw [cell_of_row x _ 4 _ _ _ q0]; rfl
    have c5 : x.cell? ⟨p, 5, none⟩ = some (.int .u8 n) := by rw [cell_of_row x _ 5 _ _ _ q0]; rfl
    have z3 := froz11 x p 3 _ _ q0
    have z4 := froz11 x p 4 _ _ q0
    have z5 := froz11 x p 5 _ _ q0
    have lx : p < x.heap.size := lt_of_heap q0
    go_wp2_with fail
    refine wp_region_held_drew (S := fun x => Kp [p] w x ∧ x.cell? ⟨p, 0, none⟩ = some (.int .u16 id) ∧ x.cell? ⟨p, 1, none⟩ = some (.int .u8 0)) (by kernel_rfl) (⟨kx.drew, c0, c1⟩) (fun hHeld => ?_)
    refine tk 0 (.pointer (some ⟨p, 0, none⟩)) rfl (.inl ⟨by rfl, ?_⟩) ?_
    · intro w9 hSw
      try dsimp only at hSw
      go_simp
      all_goals try decide
      all_goals try assumption
      all_goals try omega
    try simp only [Act.put, gA, gS, gZ, sA, sZ, sS]
    refine tk 1 (.pointer (some ⟨p, 0, none⟩)) rfl (.inl ⟨by rfl, ?_⟩) ?_
    · intro w9 hSw
      try dsimp only at hSw
      go_simp
      all_goals try decide
      all_goals try assumption
      all_goals try omega
    try simp only [Act.put, gA, gS, gZ, sA, sZ, sS]
    refine tk 2 (.pointer (some ⟨p, 0, none⟩)) rfl (.inl ⟨by rfl, ?_⟩) ?_
    · intro w9 hSw
      try dsimp only at hSw
      go_simp
      all_goals try decide
      all_goals try assumption
      all_goals try omega
    try simp only [Act.put, gA, gS, gZ, sA, sZ, sS]
    refine tk 3 (.pointer (some ⟨p, 0, none⟩)) rfl (.inl ⟨by rfl, ?_⟩) ?_
    · intro w9 hSw
      try dsimp only at hSw
      go_simp
      all_goals try decide
      all_goals try assumption
      all_goals try omega
    try simp only [Act.put, gA, gS, gZ, sA, sZ, sS]
    refine tk 4 (.agg #[.int .u16 id, .int .u8 0]) rfl (.inl ⟨by rfl, ?_⟩) ?_
    · intro w9 hSw
      try dsimp only at hSw
      go_simp
      all_goals try decide
      all_goals try assumption
      all_goals try omega
    try simp only [Act.put, gA, gS, gZ, sA, sZ, sS]
    refine tk 5 (.pointer (some ⟨p, 0, none⟩)) rfl (.inl ⟨by rfl, ?_⟩) ?_
    · intro w9 hSw
      try dsimp only at hSw
      go_simp
      all_goals try decide
      all_goals try assumption
      all_goals try omega
    try simp only [Act.put, gA, gS, gZ, sA, sZ, sS]
    refine tk 6 (.pointer (some ⟨p, 0, none⟩)) rfl (.inl ⟨by rfl, ?_⟩) ?_
    · intro w9 hSw
      try dsimp only at hSw
      go_simp
      all_goals try decide
      all_goals try assumption
      all_goals try omega
    try simp only [Act.put, gA, gS, gZ, sA, sZ, sS]
    refine tk 7 (.pointer (some ⟨p, 5, none⟩)) rfl (.inl ⟨by rfl, ?_⟩) ?_
    · intro w9 hSw
      try dsimp only at hSw
      go_simp
      all_goals try decide
      all_goals try assumption
      all_goals try omega
    try simp only [Act.put, gA, gS, gZ, sA, sZ, sS]
    refine wpAnyH_ready (rs := [8]) (by kernel_rfl) (by simp) ?_
    refine AllReadyH.cons rfl (fun K' hK => ?_) AllReadyH.nil
    rw [if_pos (by rfl)]
    simp only [gA, gS, gZ]
    go_wp2_with fail
    refine hK.out _ _ (hHeld) (fun hHeld => ?_)
    clear hK K'
    try simp only [Act.put, gA, gS, gZ, sA, sZ, sS]
    refine wpAnyH_ready (rs := [9]) (by kernel_rfl) (by simp) ?_
    refine AllReadyH.cons rfl (fun K' hK => ?_) AllReadyH.nil
    rw [if_pos (by rfl)]
    simp only [gA, gS, gZ]
    obtain ⟨S0, S1, S2⟩ := hHeld
    go_wp2_with fail
    refine (behind_any id 0 n hn.1 hn.2 (by decide) _).mono ?_
    rintro e w3 ⟨rfl, rfl⟩
    try go_wp2_with fail
    refine hK.out _ _ (⟨S0.al _, cla11 S1, cla11 S2⟩) (fun hHeld => ?_)
    clear hK K'
    try simp only [Act.put, gA, gS, gZ, sA, sZ, sS]
    have e4 := cla11 (o := .cells (btC id 0) 79) c4
    have e5 := cla11 (o := .cells (btC id 0) 79) c5
    refine tk 10 (.pointer (some ⟨p, 0, none⟩)) rfl (.inl ⟨by rfl, ?_⟩) ?_
    · intro w9 hSw
      try dsimp only at hSw
      go_simp
      all_goals try decide
      all_goals try assumption
      all_goals try omega
    try simp only [Act.put, gA, gS, gZ, sA, sZ, sS]
    refine tk 11 (.pointer (some ⟨p, 5, none⟩)) rfl (.inl ⟨by rfl, ?_⟩) ?_
    · intro w9 hSw
      try dsimp only at hSw
      go_simp
      all_goals try decide
      all_goals try assumption
      all_goals try omega
    try simp only [Act.put, gA, gS, gZ, sA, sZ, sS]
    refine wpAnyH_ready (rs := [12]) (by kernel_rfl) (by simp) ?_
    refine AllReadyH.cons rfl (fun K' hK => ?_) AllReadyH.nil
    rw [if_pos (by rfl)]
    simp only [gA, gS, gZ]
    obtain ⟨S0, S1, S2⟩ := hHeld
    go_wp2_with fail
    refine hK.out _ _ (⟨((kx.set ⟨p, 5, none⟩ (.int .u8 (nxt 0 n)) (.inl (by simp))).al _).drew, cla11 (cset11 q0 rfl), cla11 (cset11 q0 rfl)⟩) (fun hHeld => ?_)
    clear hK K'
    try simp only [Act.put, gA, gS, gZ, sA, sZ, sS]
    refine wpAnyH_done (by kernel_rfl) ?_ _
    obtain ⟨ky, -, -⟩ := hHeld
    have q3 : (((x.setCell ⟨p, 5, none⟩ (.int .u8 (nxt 0 n))).alloc (.cells (btC id 0) 79)).drew).heap[p]? = some (.cells (prC id 0 P true due (nxt 0 n)) 81 (0, 0)) := ext11 (heap_setCell_same _ _ _ _ _ _ q0)
    have g3 : (((x.setCell ⟨p, 5, none⟩ (.int .u8 (nxt 0 n))).alloc (.cells (btC id 0) 79)).drew).heap[w.heap.size]? = some (.cells (frC 0 0 0 0 0 0 0 0 0 0 false) 39 (0, 0)) := ext11 ((Below.heap_setCell _ _ _ _ (by show w.heap.size ≠ p; omega)).trans g0)
    have b3 : (((x.setCell ⟨p, 5, none⟩ (.int .u8 (nxt 0 n))).alloc (.cells (btC id 0) 79)).drew).heap[w.heap.size + 1]? = some (.cells (frC id 0 0 0 0 0 0 0 0 0 false) 39 (0, 0)) := ext11 ((Below.heap_setCell _ _ _ _ (by show w.heap.size + 1 ≠ p; omega)).trans Bb)
    generalize hy : (((x.setCell ⟨p, 5, none⟩ (.int .u8 (nxt 0 n))).alloc (.cells (btC id 0) 79)).drew : World) = y at q3 g3 b3 ky ⊢
    clear hy q0 g0 Bb kx e4 e5 lx z3 z4 z5 c0 c1 c2 c3 c4 c5
    have c0 : y.cell? ⟨p, 0, none⟩ = some (.int .u16 id) := by rw [cell_of_row y _ 0 _ _ _ q3]; rfl
    have c1 : y.cell? ⟨p, 1, none⟩ = some (.int .u8 0) := by rw [cell_of_row y _ 1 _ _ _ q3]; rfl
    have c2 : y.cell? ⟨p, 2, none⟩ = some (.int .i64 P) := by rw [cell_of_row y _ 2 _ _ _ q3]; rfl
    have c3 : y.cell? ⟨p, 3, none⟩ = some (.bool true) := by rw [cell_of_row y _ 3 _ _ _ q3]; rfl
    have c4 : y.cell? ⟨p, 4, none⟩ = some (.int .i64 due) := by rw [cell_of_row y _ 4 _ _ _ q3]; rfl
    have c5 : y.cell? ⟨p, 5, none⟩ = some (.int .u8 (nxt 0 n)) := by rw [cell_of_row y _ 5 _ _ _ q3]; rfl
    have z4 := froz11 y p 4 _ _ q3
    have ly : p < y.heap.size := lt_of_heap q3
    have b4 := fun v => (Below.heap_setCell y ⟨p, 4, none⟩ v _ (by show w.heap.size + 1 ≠ p; omega)).trans b3
    have g4 := fun v => (Below.heap_setCell y ⟨p, 4, none⟩ v _ (by show w.heap.size ≠ p; omega)).trans g3
    have q4 := fun v => heap_setCell_same y p 4 _ _ v q3
    have hc := fun v j => cell_of_row ((y.setCell ⟨p, 4, none⟩ v).setRow w.heap.size (frC id 0 0 0 0 0 0 0 0 0 false)) w.heap.size j _ _ _ (setRow_heap _ _ _ (frC id 0 0 0 0 0 0 0 0 0 false) _ _ (g4 v))
    have fin := fun v => sh11 (B := w.heap.size) (C := frC id 0 0 0 0 0 0 0 0 0 false) (by omega) (q4 v)
    have finK := fun v => (ky.set ⟨p, 4, none⟩ v (.inl (by simp))).row w.heap.size (frC id 0 0 0 0 0 0 0 0 0 false) (.inr (Nat.le_refl _))
    obtain ⟨E1, E2, E3, E4, E5⟩ := EQ.out
    go_wp2_with (first | refine wpList_load_by rfl 39 _ rfl ⟨w.heap.size + 1, 0, none⟩ (frV id 0 0 0 0 0 0 0 0 0 false) rfl (loadF _ _ _ _ _ _ _ _ _ _ _ _ _ (b4 _)) ?_ | refine wpList_store_row rfl 39 _ _ rfl w.heap.size (frC id 0 0 0 0 0 0 0 0 0 false) rfl rfl 39 _ (g4 _) infoF rfl (frC_one _ _ _ _ _ _ _ _ _ _ _) ?_)
    refine bodyPost_ret (v := .tuple #[frV id 0 0 0 0 0 0 0 0 0 false, .bool true]) ?_ rfl ⟨rfl, fin _, finK _⟩
    simp [results, Try.results15, go_sem, hc]
set_option linter.unusedSimpArgs false in
set_option maxHeartbeats 4000000 in
set_option maxRecDepth 100000 in
theorem tick_1 (p : Nat) (id top P due n now : Int) (ht : ¬ top = 0) (htt : top < 256) (hi : id ≤ 2047) (h : tmB now = true) (hd : due ≤ now) (hP : 1 ≤ P) (hP2 : P ≤ 1099511627776) (hn : 0 ≤ n ∧ n < 256) (hdu : 0 ≤ due) (w : World) (hp : w.heap[p]? = some (.cells (prC id top P true due n) 81 (0, 0))) : Calls Try.prog 15 #[.pointer (some ⟨p, 0, none⟩), .int .i64 now] w fun e w' => e = .returned (.tuple #[frV id 1 n 0 0 0 0 0 0 0 false, .bool true]) ∧ w'.heap[p]? = some (.cells (prC id top P true (due + ((now - due) / P + 1) * P) (nxt top n)) 81 (0, 0)) ∧ Kp [p] w w' := by
  have IT := fun W => isTime_any now W
  rw [h] at IT
  obtain ⟨t0, t1⟩ := tmB_of h
  clear h
  have hd' : ¬ now < due := by omega
  have lp : p < w.heap.size := lt_of_heap hp
  have lpp : Hid (p < w.heap.size) := lp
  have p0 := ext11 (o := (.cells (frC 0 0 0 0 0 0 0 0 0 0 false) 39)) hp
  have f0 := at11 w (.cells (frC 0 0 0 0 0 0 0 0 0 0 false) 39) w.heap.size rfl
  have DU := due_yes p id top P due n _ p0
  have c0 : w.cell? ⟨p, 0, none⟩ = some (.int .u16 id) := by rw [cell_of_row w _ 0 _ _ _ hp]; rfl
  have c1 : w.cell? ⟨p, 1, none⟩ = some (.int .u8 top) := by rw [cell_of_row w _ 1 _ _ _ hp]; rfl
  have c2 : w.cell? ⟨p, 2, none⟩ = some (.int .i64 P) := by rw [cell_of_row w _ 2 _ _ _ hp]; rfl
  have c3 : w.cell? ⟨p, 3, none⟩ = some (.bool true) := by rw [cell_of_row w _ 3 _ _ _ hp]; rfl
  have c4 : w.cell? ⟨p, 4, none⟩ = some (.int .i64 due) := by rw [cell_of_row w _ 4 _ _ _ hp]; rfl
  have c5 : w.cell? ⟨p, 5, none⟩ = some (.int .u8 n) := by rw [cell_of_row w _ 5 _ _ _ hp]; rfl
  have d0 := cla11 (o := (.cells (frC 0 0 0 0 0 0 0 0 0 0 false) 39)) c0
  have d1 := cla11 (o := (.cells (frC 0 0 0 0 0 0 0 0 0 0 false) 39)) c1
  have d2 := cla11 (o := (.cells (frC 0 0 0 0 0 0 0 0 0 0 false) 39)) c2
  have d3 := cla11 (o := (.cells (frC 0 0 0 0 0 0 0 0 0 0 false) 39)) c3
  have d4 := cla11 (o := (.cells (frC 0 0 0 0 0 0 0 0 0 0 false) 39)) c4
  have d5 := cla11 (o := (.cells (frC 0 0 0 0 0 0 0 0 0 0 false) 39)) c5
  have EQ : Hid (IntKind.i64.wrap (now - due) = now - due ∧ IntKind.i64.wrap ((now - due).tdiv P) = (now - due) / P ∧ IntKind.i64.wrap ((now - due) / P + 1) = (now - due) / P + 1 ∧ IntKind.i64.wrap (((now - due) / P + 1) * P) = ((now - due) / P + 1) * P ∧ IntKind.i64.wrap (due + ((now - due) / P + 1) * P) = due + ((now - due) / P + 1) * P) := tick_eqs now due P (by omega) t1 hd hP hP2 hdu
  go_enter Try.func15, Try.ntmps15
  go_wp2_with fail
  refine DU.mono ?_
  rintro e w1 ⟨rfl, rfl⟩
  clear DU
  go_wp2_with fail
  refine (IT _).mono ?_
  rintro e w1 ⟨rfl, rfl⟩
  go_wp2_with fail
  refine wp_region_held_drew (S := fun x => Kp [p] w x ∧ x.cell? ⟨p, 0, none⟩ = some (.int .u16 id) ∧ x.cell? ⟨p, 1, none⟩ = some (.int .u8 top) ∧ x.cell? ⟨p, 5, none⟩ = some (.int .u8 n)) (by kernel_rfl) (⟨((Kp.refl _ _).al _).drew, d0, d1, d5⟩) (fun hHeld => ?_)
  refine tk 0 (.pointer (some ⟨p, 0, none⟩)) rfl (.inl ⟨by rfl, ?_⟩) ?_
  · intro w9 hSw
    try dsimp only at hSw
    go_simp
    all_goals try decide
    all_goals try assumption
    all_goals try omega
  try simp only [Act.put, gA, gS, gZ, sA, sZ, sS]
  refine tk 1 (.pointer (some ⟨p, 0, none⟩)) rfl (.inl ⟨by rfl, ?_⟩) ?_
  · intro w9 hSw
    try dsimp only at hSw
    go_simp
    all_goals try decide
    all_goals try assumption
    all_goals try omega
  try simp only [Act.put, gA, gS, gZ, sA, sZ, sS]
  refine tk 2 (.pointer (some ⟨p, 0, none⟩)) rfl (.inl ⟨by rfl, ?_⟩) ?_
  · intro w9 hSw
    try dsimp only at hSw
    go_simp
    all_goals try decide
    all_goals try assumption
    all_goals try omega
  try simp only [Act.put, gA, gS, gZ, sA, sZ, sS]
  refine tk 3 (.agg #[.int .u16 id, .int .u8 top]) rfl (.inl ⟨by rfl, ?_⟩) ?_
  · intro w9 hSw
    try dsimp only at hSw
    go_simp
    all_goals try decide
    all_goals try assumption
    all_goals try omega
  try simp only [Act.put, gA, gS, gZ, sA, sZ, sS]
  refine tk 4 (.pointer (some ⟨p, 0, none⟩)) rfl (.inl ⟨by rfl, ?_⟩) ?_
  · intro w9 hSw
    try dsimp only at hSw
    go_simp
    all_goals try decide
    all_goals try assumption
    all_goals try omega
  try simp only [Act.put, gA, gS, gZ, sA, sZ, sS]
  refine tk 5 (.pointer (some ⟨p, 0, none⟩)) rfl (.inl ⟨by rfl, ?_⟩) ?_
  · intro w9 hSw
    try dsimp only at hSw
    go_simp
    all_goals try decide
    all_goals try assumption
    all_goals try omega
  try simp only [Act.put, gA, gS, gZ, sA, sZ, sS]
  refine tk 6 (.pointer (some ⟨p, 5, none⟩)) rfl (.inl ⟨by rfl, ?_⟩) ?_
  · intro w9 hSw
    try dsimp only at hSw
    go_simp
    all_goals try decide
    all_goals try assumption
    all_goals try omega
  try simp only [Act.put, gA, gS, gZ, sA, sZ, sS]
  refine tk 7 (.int .u8 n) rfl (.inl ⟨by rfl, ?_⟩) ?_
  · intro w9 hSw
    try dsimp only at hSw
    go_simp
    all_goals try decide
    all_goals try assumption
    all_goals try omega
  try simp only [Act.put, gA, gS, gZ, sA, sZ, sS]
  refine wpAnyH_ready (rs := [8, 9]) (by kernel_rfl) (by simp) ?_
  refine AllReadyH.cons rfl (fun K' hK => ?_) (AllReadyH.cons rfl (fun K' hK => ?_) AllReadyH.nil)
  · rw [if_pos (by rfl)]
    simp only [gA, gS, gZ]
    obtain ⟨S0, S1, S2, S3⟩ := hHeld
    go_wp2_with fail
    refine (frame_1 _ _ _ hi ht hn _).mono ?_
    rintro e w1 ⟨rfl, hb1⟩
    try go_wp2_with fail
    refine hK.out _ _ (⟨S0.trans (Kp.of hb1), cl11 hb1 S1, cl11 hb1 S2, cl11 hb1 S3⟩) (fun hHeld => ?_)
    clear hK K'
    try simp only [Act.put, gA, gS, gZ, sA, sZ, sS]
    have p1 := blk11 hb1 p0
    have f1 := blk11 hb1 f0
    refine wpAnyH_ready (rs := [9]) (by kernel_rfl) (by simp) ?_
    refine AllReadyH.cons rfl (fun K' hK => ?_) AllReadyH.nil
    rw [if_pos (by rfl)]
    simp only [gA, gS, gZ]
    obtain ⟨S0, S1, S2, S3⟩ := hHeld
    go_wp2_with fail
    refine hK.out _ _ (⟨S0.al _, cla11 S1, cla11 S2, cla11 S3⟩) (fun hHeld => ?_)
    clear hK K'
    try simp only [Act.put, gA, gS, gZ, sA, sZ, sS]
    have pa := ext11 (o := (.cells (frC 0 0 0 0 0 0 0 0 0 0 false) 39)) p1
    have fa := ext11 (o := (.cells (frC 0 0 0 0 0 0 0 0 0 0 false) 39)) f1
    have Ba := at11 w1 (.cells (frC 0 0 0 0 0 0 0 0 0 0 false) 39) (w1.heap.size) (by simp)
    have lB : w.heap.size < w1.heap.size := by first | omega | (have := hb1.size; simp at this; omega)
    refine wpAnyH_ready (rs := [10]) (by kernel_rfl) (by simp) ?_
    refine AllReadyH.cons rfl (fun K' hK => ?_) AllReadyH.nil
    rw [if_pos (by rfl)]
    simp only [gA, gS, gZ]
    obtain ⟨S0, S1, S2, S3⟩ := hHeld
    refine wp_store_row 39 (.tmp 8) (.tmp 36) rfl (w1.heap.size) (frC id 1 n 0 0 0 0 0 0 0 false) rfl rfl 39 _ Ba infoF rfl (frC_one _ _ _ _ _ _ _ _ _ _ _) ?_
    refine hK.out _ _ (⟨S0.row _ _ (.inr (by omega)), sr11 (by omega) S1, sr11 (by omega) S2, sr11 (by omega) S3⟩) (fun hHeld => ?_)
    clear hK K'
    try simp only [Act.put, gA, gS, gZ, sA, sZ, sS]
    refine wpAnyH_done (by kernel_rfl) ?_ _
    have q0 := sh11 (B := w1.heap.size) (C := frC id 1 n 0 0 0 0 0 0 0 false) (by omega) pa
    have g0 := sh11 (B := w1.heap.size) (C := frC id 1 n 0 0 0 0 0 0 0 false) (by omega) fa
    have Bb := setRow_heap _ _ _ (frC id 1 n 0 0 0 0 0 0 0 false) _ _ Ba
    have kx := hHeld.1
    clear hHeld
    generalize hx : (w1.alloc (.cells (frC 0 0 0 0 0 0 0 0 0 0 false) 39)).setRow w1.heap.size (frC id 1 n 0 0 0 0 0 0 0 false) = x at q0 g0 Bb kx ⊢
    clear hx
    clear p0 f0 p1 f1 hb1 Ba c0 d0 c1 d1 c2 d2 c3 d3 c4 d4 c5 d5
    have c0 : x.cell? ⟨p, 0, none⟩ = some (.int .u16 id) := by rw [cell_of_row x _ 0 _ _ _ q0]; rfl
    have c1 : x.cell? ⟨p, 1, none⟩ = some (.int .u8 top) := by rw [cell_of_row x _ 1 _ _ _ q0]; rfl
    have c2 : x.cell? ⟨p, 2, none⟩ = some (.int .i64 P) := by rw [cell_of_row x _ 2 _ _ _ q0]; rfl
    have c3 : x.cell? ⟨p, 3, none⟩ = some (.bool true) := by rw [cell_of_row x _ 3 _ _ _ q0]; rfl
    have c4 : x.cell? ⟨p, 4, none⟩ = some (.int .i64 due) := by rw [cell_of_row x _ 4 _ _ _ q0]; rfl
    have c5 : x.cell? ⟨p, 5, none⟩ = some (.int .u8 n) := by rw [cell_of_row x _ 5 _ _ _ q0]; rfl
    have z3 := froz11 x p 3 _ _ q0
    have z4 := froz11 x p 4 _ _ q0
    have z5 := froz11 x p 5 _ _ q0
    have lx : p < x.heap.size := lt_of_heap q0
    go_wp2_with fail
    refine wp_region_held_drew (S := fun x => Kp [p] w x ∧ x.cell? ⟨p, 0, none⟩ = some (.int .u16 id) ∧ x.cell? ⟨p, 1, none⟩ = some (.int .u8 top)) (by kernel_rfl) (⟨kx.drew, c0, c1⟩) (fun hHeld => ?_)
    refine tk 0 (.pointer (some ⟨p, 0, none⟩)) rfl (.inl ⟨by rfl, ?_⟩) ?_
    · intro w9 hSw
      try dsimp only at hSw
      go_simp
      all_goals try decide
      all_goals try assumption
      all_goals try omega
    try simp only [Act.put, gA, gS, gZ, sA, sZ, sS]
    refine tk 1 (.pointer (some ⟨p, 0, none⟩)) rfl (.inl ⟨by rfl, ?_⟩) ?_
    · intro w9 hSw
      try dsimp only at hSw
      go_simp
      all_goals try decide
      all_goals try assumption
      all_goals try omega
    try simp only [Act.put, gA, gS, gZ, sA, sZ, sS]
    refine tk 2 (.pointer (some ⟨p, 0, none⟩)) rfl (.inl ⟨by rfl, ?_⟩) ?_
    · intro w9 hSw
      try dsimp only at hSw
      go_simp
      all_goals try decide
      all_goals try assumption
      all_goals try omega
    try simp only [Act.put, gA, gS, gZ, sA, sZ, sS]
    refine tk 3 (.pointer (some ⟨p, 0, none⟩)) rfl (.inl ⟨by rfl, ?_⟩) ?_
    · intro w9 hSw
      try dsimp only at hSw
      go_simp
      all_goals try decide
      all_goals try assumption
      all_goals try omega
    try simp only [Act.put, gA, gS, gZ, sA, sZ, sS]
    refine tk 4 (.agg #[.int .u16 id, .int .u8 top]) rfl (.inl ⟨by rfl, ?_⟩) ?_
    · intro w9 hSw
      try dsimp only at hSw
      go_simp
      all_goals try decide
      all_goals try assumption
      all_goals try omega
    try simp only [Act.put, gA, gS, gZ, sA, sZ, sS]
    refine tk 5 (.pointer (some ⟨p, 0, none⟩)) rfl (.inl ⟨by rfl, ?_⟩) ?_
    · intro w9 hSw
      try dsimp only at hSw
      go_simp
      all_goals try decide
      all_goals try assumption
      all_goals try omega
    try simp only [Act.put, gA, gS, gZ, sA, sZ, sS]
    refine tk 6 (.pointer (some ⟨p, 0, none⟩)) rfl (.inl ⟨by rfl, ?_⟩) ?_
    · intro w9 hSw
      try dsimp only at hSw
      go_simp
      all_goals try decide
      all_goals try assumption
      all_goals try omega
    try simp only [Act.put, gA, gS, gZ, sA, sZ, sS]
    refine tk 7 (.pointer (some ⟨p, 5, none⟩)) rfl (.inl ⟨by rfl, ?_⟩) ?_
    · intro w9 hSw
      try dsimp only at hSw
      go_simp
      all_goals try decide
      all_goals try assumption
      all_goals try omega
    try simp only [Act.put, gA, gS, gZ, sA, sZ, sS]
    refine wpAnyH_ready (rs := [8]) (by kernel_rfl) (by simp) ?_
    refine AllReadyH.cons rfl (fun K' hK => ?_) AllReadyH.nil
    rw [if_pos (by rfl)]
    simp only [gA, gS, gZ]
    go_wp2_with fail
    refine hK.out _ _ (hHeld) (fun hHeld => ?_)
    clear hK K'
    try simp only [Act.put, gA, gS, gZ, sA, sZ, sS]
    refine wpAnyH_ready (rs := [9]) (by kernel_rfl) (by simp) ?_
    refine AllReadyH.cons rfl (fun K' hK => ?_) AllReadyH.nil
    rw [if_pos (by rfl)]
    simp only [gA, gS, gZ]
    obtain ⟨S0, S1, S2⟩ := hHeld
    go_wp2_with fail
    refine (behind_any id top n hn.1 hn.2 htt _).mono ?_
    rintro e w3 ⟨rfl, rfl⟩
    try go_wp2_with fail
    refine hK.out _ _ (⟨S0.al _, cla11 S1, cla11 S2⟩) (fun hHeld => ?_)
    clear hK K'
    try simp only [Act.put, gA, gS, gZ, sA, sZ, sS]
    have e4 := cla11 (o := .cells (btC id top) 79) c4
    have e5 := cla11 (o := .cells (btC id top) 79) c5
    refine tk 10 (.pointer (some ⟨p, 0, none⟩)) rfl (.inl ⟨by rfl, ?_⟩) ?_
    · intro w9 hSw
      try dsimp only at hSw
      go_simp
      all_goals try decide
      all_goals try assumption
      all_goals try omega
    try simp only [Act.put, gA, gS, gZ, sA, sZ, sS]
    refine tk 11 (.pointer (some ⟨p, 5, none⟩)) rfl (.inl ⟨by rfl, ?_⟩) ?_
    · intro w9 hSw
      try dsimp only at hSw
      go_simp
      all_goals try decide
      all_goals try assumption
      all_goals try omega
    try simp only [Act.put, gA, gS, gZ, sA, sZ, sS]
    refine wpAnyH_ready (rs := [12]) (by kernel_rfl) (by simp) ?_
    refine AllReadyH.cons rfl (fun K' hK => ?_) AllReadyH.nil
    rw [if_pos (by rfl)]
    simp only [gA, gS, gZ]
    obtain ⟨S0, S1, S2⟩ := hHeld
    go_wp2_with fail
    refine hK.out _ _ (⟨((kx.set ⟨p, 5, none⟩ (.int .u8 (nxt top n)) (.inl (by simp))).al _).drew, cla11 (cset11 q0 rfl), cla11 (cset11 q0 rfl)⟩) (fun hHeld => ?_)
    clear hK K'
    try simp only [Act.put, gA, gS, gZ, sA, sZ, sS]
    refine wpAnyH_done (by kernel_rfl) ?_ _
    obtain ⟨ky, -, -⟩ := hHeld
    have q3 : (((x.setCell ⟨p, 5, none⟩ (.int .u8 (nxt top n))).alloc (.cells (btC id top) 79)).drew).heap[p]? = some (.cells (prC id top P true due (nxt top n)) 81 (0, 0)) := ext11 (heap_setCell_same _ _ _ _ _ _ q0)
    have g3 : (((x.setCell ⟨p, 5, none⟩ (.int .u8 (nxt top n))).alloc (.cells (btC id top) 79)).drew).heap[w.heap.size]? = some (.cells (frC 0 0 0 0 0 0 0 0 0 0 false) 39 (0, 0)) := ext11 ((Below.heap_setCell _ _ _ _ (by show w.heap.size ≠ p; omega)).trans g0)
    have b3 : (((x.setCell ⟨p, 5, none⟩ (.int .u8 (nxt top n))).alloc (.cells (btC id top) 79)).drew).heap[w1.heap.size]? = some (.cells (frC id 1 n 0 0 0 0 0 0 0 false) 39 (0, 0)) := ext11 ((Below.heap_setCell _ _ _ _ (by show w1.heap.size ≠ p; omega)).trans Bb)
    generalize hy : (((x.setCell ⟨p, 5, none⟩ (.int .u8 (nxt top n))).alloc (.cells (btC id top) 79)).drew : World) = y at q3 g3 b3 ky ⊢
    clear hy q0 g0 Bb kx e4 e5 lx z3 z4 z5 c0 c1 c2 c3 c4 c5
    have c0 : y.cell? ⟨p, 0, none⟩ = some (.int .u16 id) := by rw [cell_of_row y _ 0 _ _ _ q3]; rfl
    have c1 : y.cell? ⟨p, 1, none⟩ = some (.int .u8 top) := by rw [cell_of_row y _ 1 _ _ _ q3]; rfl
    have c2 : y.cell? ⟨p, 2, none⟩ = some (.int .i64 P) := by rw [cell_of_row y _ 2 _ _ _ q3]; rfl
    have c3 : y.cell? ⟨p, 3, none⟩ = some (.bool true) := by rw [cell_of_row y _ 3 _ _ _ q3]; rfl
    have c4 : y.cell? ⟨p, 4, none⟩ = some (.int .i64 due) := by rw [cell_of_row y _ 4 _ _ _ q3]; rfl
    have c5 : y.cell? ⟨p, 5, none⟩ = some (.int .u8 (nxt top n)) := by rw [cell_of_row y _ 5 _ _ _ q3]; rfl
    have z4 := froz11 y p 4 _ _ q3
    have ly : p < y.heap.size := lt_of_heap q3
    have b4 := fun v => (Below.heap_setCell y ⟨p, 4, none⟩ v _ (by show w1.heap.size ≠ p; omega)).trans b3
    have g4 := fun v => (Below.heap_setCell y ⟨p, 4, none⟩ v _ (by show w.heap.size ≠ p; omega)).trans g3
    have q4 := fun v => heap_setCell_same y p 4 _ _ v q3
    have hc := fun v j => cell_of_row ((y.setCell ⟨p, 4, none⟩ v).setRow w.heap.size (frC id 1 n 0 0 0 0 0 0 0 false)) w.heap.size j _ _ _ (setRow_heap _ _ _ (frC id 1 n 0 0 0 0 0 0 0 false) _ _ (g4 v))
    have fin := fun v => sh11 (B := w.heap.size) (C := frC id 1 n 0 0 0 0 0 0 0 false) (by omega) (q4 v)
    have finK := fun v => (ky.set ⟨p, 4, none⟩ v (.inl (by simp))).row w.heap.size (frC id 1 n 0 0 0 0 0 0 0 false) (.inr (Nat.le_refl _))
    obtain ⟨E1, E2, E3, E4, E5⟩ := EQ.out
    go_wp2_with (first | refine wpList_load_by rfl 39 _ rfl ⟨w1.heap.size, 0, none⟩ (frV id 1 n 0 0 0 0 0 0 0 false) rfl (loadF _ _ _ _ _ _ _ _ _ _ _ _ _ (b4 _)) ?_ | refine wpList_store_row rfl 39 _ _ rfl w.heap.size (frC id 1 n 0 0 0 0 0 0 0 false) rfl rfl 39 _ (g4 _) infoF rfl (frC_one _ _ _ _ _ _ _ _ _ _ _) ?_)
    refine bodyPost_ret (v := .tuple #[frV id 1 n 0 0 0 0 0 0 0 false, .bool true]) ?_ rfl ⟨rfl, fin _, finK _⟩
    simp [results, Try.results15, go_sem, hc]
  · rw [if_pos (by rfl)]
    simp only [gA, gS, gZ]
    obtain ⟨S0, S1, S2, S3⟩ := hHeld
    go_wp2_with fail
    refine hK.out _ _ (⟨S0.al _, cla11 S1, cla11 S2, cla11 S3⟩) (fun hHeld => ?_)
    clear hK K'
    try simp only [Act.put, gA, gS, gZ, sA, sZ, sS]
    have pa := ext11 (o := (.cells (frC 0 0 0 0 0 0 0 0 0 0 false) 39)) p0
    have fa := ext11 (o := (.cells (frC 0 0 0 0 0 0 0 0 0 0 false) 39)) f0
    have Ba := at11 (w.alloc (.cells (frC 0 0 0 0 0 0 0 0 0 0 false) 39)).drew (.cells (frC 0 0 0 0 0 0 0 0 0 0 false) 39) (w.heap.size + 1) (by simp)
    have lB : w.heap.size < w.heap.size + 1 := by first | omega | (have := hb1.size; simp at this; omega)
    refine wpAnyH_ready (rs := [8]) (by kernel_rfl) (by simp) ?_
    refine AllReadyH.cons rfl (fun K' hK => ?_) AllReadyH.nil
    rw [if_pos (by rfl)]
    simp only [gA, gS, gZ]
    obtain ⟨S0, S1, S2, S3⟩ := hHeld
    go_wp2_with fail
    refine (frame_1 _ _ _ hi ht hn _).mono ?_
    rintro e w1 ⟨rfl, hb1⟩
    try go_wp2_with fail
    refine hK.out _ _ (⟨S0.trans (Kp.of hb1), cl11 hb1 S1, cl11 hb1 S2, cl11 hb1 S3⟩) (fun hHeld => ?_)
    clear hK K'
    try simp only [Act.put, gA, gS, gZ, sA, sZ, sS]
    have p1 := blk11 hb1 pa
    have f1 := blk11 hb1 fa
    have B1 := blk11 hb1 Ba
    refine wpAnyH_ready (rs := [10]) (by kernel_rfl) (by simp) ?_
    refine AllReadyH.cons rfl (fun K' hK => ?_) AllReadyH.nil
    rw [if_pos (by rfl)]
    simp only [gA, gS, gZ]
    obtain ⟨S0, S1, S2, S3⟩ := hHeld
    refine wp_store_row 39 (.tmp 8) (.tmp 36) rfl (w.heap.size + 1) (frC id 1 n 0 0 0 0 0 0 0 false) rfl rfl 39 _ B1 infoF rfl (frC_one _ _ _ _ _ _ _ _ _ _ _) ?_
    refine hK.out _ _ (⟨S0.row _ _ (.inr (by omega)), sr11 (by omega) S1, sr11 (by omega) S2, sr11 (by omega) S3⟩) (fun hHeld => ?_)
    clear hK K'
    try simp only [Act.put, gA, gS, gZ, sA, sZ, sS]
    refine wpAnyH_done (by kernel_rfl) ?_ _
    have q0 := sh11 (B := w.heap.size + 1) (C := frC id 1 n 0 0 0 0 0 0 0 false) (by omega) p1
    have g0 := sh11 (B := w.heap.size + 1) (C := frC id 1 n 0 0 0 0 0 0 0 false) (by omega) f1
    have Bb := setRow_heap _ _ _ (frC id 1 n 0 0 0 0 0 0 0 false) _ _ B1
    have kx := hHeld.1
    clear hHeld
    generalize hx : w1.setRow (w.heap.size + 1) (frC id 1 n 0 0 0 0 0 0 0 false) = x at q0 g0 Bb kx ⊢
    clear hx
    clear p0 f0 p1 f1 hb1 Ba B1 c0 d0 c1 d1 c2 d2 c3 d3 c4 d4 c5 d5
    have c0 : x.cell? ⟨p, 0, none⟩ = some (.int .u16 id) := by rw [cell_of_row x _ 0 _ _ _ q0]; rfl
    have c1 : x.cell? ⟨p, 1, none⟩ = some (.int .u8 top) := by rw [cell_of_row x _ 1 _ _ _ q0]; rfl
    have c2 : x.cell? ⟨p, 2, none⟩ = some (.int .i64 P) := by rw [cell_of_row x _ 2 _ _ _ q0]; rfl
    have c3 : x.cell? ⟨p, 3, none⟩ = some (.bool true) := by rw [cell_of_row x _ 3 _ _ _ q0]; rfl
    have c4 : x.cell? ⟨p, 4, none⟩ = some (.int .i64 due) := by rw [cell_of_row x _ 4 _ _ _ q0]; rfl
    have c5 : x.cell? ⟨p, 5, none⟩ = some (.int .u8 n) := by rw [cell_of_row x _ 5 _ _ _ q0]; rfl
    have z3 := froz11 x p 3 _ _ q0
    have z4 := froz11 x p 4 _ _ q0
    have z5 := froz11 x p 5 _ _ q0
    have lx : p < x.heap.size := lt_of_heap q0
    go_wp2_with fail
    refine wp_region_held_drew (S := fun x => Kp [p] w x ∧ x.cell? ⟨p, 0, none⟩ = some (.int .u16 id) ∧ x.cell? ⟨p, 1, none⟩ = some (.int .u8 top)) (by kernel_rfl) (⟨kx.drew, c0, c1⟩) (fun hHeld => ?_)
    refine tk 0 (.pointer (some ⟨p, 0, none⟩)) rfl (.inl ⟨by rfl, ?_⟩) ?_
    · intro w9 hSw
      try dsimp only at hSw
      go_simp
      all_goals try decide
      all_goals try assumption
      all_goals try omega
    try simp only [Act.put, gA, gS, gZ, sA, sZ, sS]
    refine tk 1 (.pointer (some ⟨p, 0, none⟩)) rfl (.inl ⟨by rfl, ?_⟩) ?_
    · intro w9 hSw
      try dsimp only at hSw
      go_simp
      all_goals try decide
      all_goals try assumption
      all_goals try omega
    try simp only [Act.put, gA, gS, gZ, sA, sZ, sS]
    refine tk 2 (.pointer (some ⟨p, 0, none⟩)) rfl (.inl ⟨by rfl, ?_⟩) ?_
    · intro w9 hSw
      try dsimp only at hSw
      go_simp
      all_goals try decide
      all_goals try assumption
      all_goals try omega
    try simp only [Act.put, gA, gS, gZ, sA, sZ, sS]
    refine tk 3 (.pointer (some ⟨p, 0, none⟩)) rfl (.inl ⟨by rfl, ?_⟩) ?_
    · intro w9 hSw
      try dsimp only at hSw
      go_simp
      all_goals try decide
      all_goals try assumption
      all_goals try omega
    try simp only [Act.put, gA, gS, gZ, sA, sZ, sS]
    refine tk 4 (.agg #[.int .u16 id, .int .u8 top]) rfl (.inl ⟨by rfl, ?_⟩) ?_
    · intro w9 hSw
      try dsimp only at hSw
      go_simp
      all_goals try decide
      all_goals try assumption
      all_goals try omega
    try simp only [Act.put, gA, gS, gZ, sA, sZ, sS]
    refine tk 5 (.pointer (some ⟨p, 0, none⟩)) rfl (.inl ⟨by rfl, ?_⟩) ?_
    · intro w9 hSw
      try dsimp only at hSw
      go_simp
      all_goals try decide
      all_goals try assumption
      all_goals try omega
    try simp only [Act.put, gA, gS, gZ, sA, sZ, sS]
    refine tk 6 (.pointer (some ⟨p, 0, none⟩)) rfl (.inl ⟨by rfl, ?_⟩) ?_
    · intro w9 hSw
      try dsimp only at hSw
      go_simp
      all_goals try decide
      all_goals try assumption
      all_goals try omega
    try simp only [Act.put, gA, gS, gZ, sA, sZ, sS]
    refine tk 7 (.pointer (some ⟨p, 5, none⟩)) rfl (.inl ⟨by rfl, ?_⟩) ?_
    · intro w9 hSw
      try dsimp only at hSw
      go_simp
      all_goals try decide
      all_goals try assumption
      all_goals try omega
    try simp only [Act.put, gA, gS, gZ, sA, sZ, sS]
    refine wpAnyH_ready (rs := [8]) (by kernel_rfl) (by simp) ?_
    refine AllReadyH.cons rfl (fun K' hK => ?_) AllReadyH.nil
    rw [if_pos (by rfl)]
    simp only [gA, gS, gZ]
    go_wp2_with fail
    refine hK.out _ _ (hHeld) (fun hHeld => ?_)
    clear hK K'
    try simp only [Act.put, gA, gS, gZ, sA, sZ, sS]
    refine wpAnyH_ready (rs := [9]) (by kernel_rfl) (by simp) ?_
    refine AllReadyH.cons rfl (fun K' hK => ?_) AllReadyH.nil
    rw [if_pos (by rfl)]
    simp only [gA, gS, gZ]
    obtain ⟨S0, S1, S2⟩ := hHeld
    go_wp2_with fail
    refine (behind_any id top n hn.1 hn.2 htt _).mono ?_
    rintro e w3 ⟨rfl, rfl⟩
    try go_wp2_with fail
    refine hK.out _ _ (⟨S0.al _, cla11 S1, cla11 S2⟩) (fun hHeld => ?_)
    clear hK K'
    try simp only [Act.put, gA, gS, gZ, sA, sZ, sS]
    have e4 := cla11 (o := .cells (btC id top) 79) c4
    have e5 := cla11 (o := .cells (btC id top) 79) c5
    refine tk 10 (.pointer (some ⟨p, 0, none⟩)) rfl (.inl ⟨by rfl, ?_⟩) ?_
    · intro w9 hSw
      try dsimp only at hSw
      go_simp
      all_goals try decide
      all_goals try assumption
      all_goals try omega
    try simp only [Act.put, gA, gS, gZ, sA, sZ, sS]
    refine tk 11 (.pointer (some ⟨p, 5, none⟩)) rfl (.inl ⟨by rfl, ?_⟩) ?_
    · intro w9 hSw
      try dsimp only at hSw
      go_simp
      all_goals try decide
      all_goals try assumption
      all_goals try omega
    try simp only [Act.put, gA, gS, gZ, sA, sZ, sS]
    refine wpAnyH_ready (rs := [12]) (by kernel_rfl) (by simp) ?_
    refine AllReadyH.cons rfl (fun K' hK => ?_) AllReadyH.nil
    rw [if_pos (by rfl)]
    simp only [gA, gS, gZ]
    obtain ⟨S0, S1, S2⟩ := hHeld
    go_wp2_with fail
    refine hK.out _ _ (⟨((kx.set ⟨p, 5, none⟩ (.int .u8 (nxt top n)) (.inl (by simp))).al _).drew, cla11 (cset11 q0 rfl), cla11 (cset11 q0 rfl)⟩) (fun hHeld => ?_)
    clear hK K'
    try simp only [Act.put, gA, gS, gZ, sA, sZ, sS]
    refine wpAnyH_done (by kernel_rfl) ?_ _
    obtain ⟨ky, -, -⟩ := hHeld
    have q3 : (((x.setCell ⟨p, 5, none⟩ (.int .u8 (nxt top n))).alloc (.cells (btC id top) 79)).drew).heap[p]? = some (.cells (prC id top P true due (nxt top n)) 81 (0, 0)) := ext11 (heap_setCell_same _ _ _ _ _ _ q0)
    have g3 : (((x.setCell ⟨p, 5, none⟩ (.int .u8 (nxt top n))).alloc (.cells (btC id top) 79)).drew).heap[w.heap.size]? = some (.cells (frC 0 0 0 0 0 0 0 0 0 0 false) 39 (0, 0)) := ext11 ((Below.heap_setCell _ _ _ _ (by show w.heap.size ≠ p; omega)).trans g0)
    have b3 : (((x.setCell ⟨p, 5, none⟩ (.int .u8 (nxt top n))).alloc (.cells (btC id top) 79)).drew).heap[w.heap.size + 1]? = some (.cells (frC id 1 n 0 0 0 0 0 0 0 false) 39 (0, 0)) := ext11 ((Below.heap_setCell _ _ _ _ (by show w.heap.size + 1 ≠ p; omega)).trans Bb)
    generalize hy : (((x.setCell ⟨p, 5, none⟩ (.int .u8 (nxt top n))).alloc (.cells (btC id top) 79)).drew : World) = y at q3 g3 b3 ky ⊢
    clear hy q0 g0 Bb kx e4 e5 lx z3 z4 z5 c0 c1 c2 c3 c4 c5
    have c0 : y.cell? ⟨p, 0, none⟩ = some (.int .u16 id) := by rw [cell_of_row y _ 0 _ _ _ q3]; rfl
    have c1 : y.cell? ⟨p, 1, none⟩ = some (.int .u8 top) := by rw [cell_of_row y _ 1 _ _ _ q3]; rfl
    have c2 : y.cell? ⟨p, 2, none⟩ = some (.int .i64 P) := by rw [cell_of_row y _ 2 _ _ _ q3]; rfl
    have c3 : y.cell? ⟨p, 3, none⟩ = some (.bool true) := by rw [cell_of_row y _ 3 _ _ _ q3]; rfl
    have c4 : y.cell? ⟨p, 4, none⟩ = some (.int .i64 due) := by rw [cell_of_row y _ 4 _ _ _ q3]; rfl
    have c5 : y.cell? ⟨p, 5, none⟩ = some (.int .u8 (nxt top n)) := by rw [cell_of_row y _ 5 _ _ _ q3]; rfl
    have z4 := froz11 y p 4 _ _ q3
    have ly : p < y.heap.size := lt_of_heap q3
    have b4 := fun v => (Below.heap_setCell y ⟨p, 4, none⟩ v _ (by show w.heap.size + 1 ≠ p; omega)).trans b3
    have g4 := fun v => (Below.heap_setCell y ⟨p, 4, none⟩ v _ (by show w.heap.size ≠ p; omega)).trans g3
    have q4 := fun v => heap_setCell_same y p 4 _ _ v q3
    have hc := fun v j => cell_of_row ((y.setCell ⟨p, 4, none⟩ v).setRow w.heap.size (frC id 1 n 0 0 0 0 0 0 0 false)) w.heap.size j _ _ _ (setRow_heap _ _ _ (frC id 1 n 0 0 0 0 0 0 0 false) _ _ (g4 v))
    have fin := fun v => sh11 (B := w.heap.size) (C := frC id 1 n 0 0 0 0 0 0 0 false) (by omega) (q4 v)
    have finK := fun v => (ky.set ⟨p, 4, none⟩ v (.inl (by simp))).row w.heap.size (frC id 1 n 0 0 0 0 0 0 0 false) (.inr (Nat.le_refl _))
    obtain ⟨E1, E2, E3, E4, E5⟩ := EQ.out
    go_wp2_with (first | refine wpList_load_by rfl 39 _ rfl ⟨w.heap.size + 1, 0, none⟩ (frV id 1 n 0 0 0 0 0 0 0 false) rfl (loadF _ _ _ _ _ _ _ _ _ _ _ _ _ (b4 _)) ?_ | refine wpList_store_row rfl 39 _ _ rfl w.heap.size (frC id 1 n 0 0 0 0 0 0 0 false) rfl rfl 39 _ (g4 _) infoF rfl (frC_one _ _ _ _ _ _ _ _ _ _ _) ?_)
    refine bodyPost_ret (v := .tuple #[frV id 1 n 0 0 0 0 0 0 0 false, .bool true]) ?_ rfl ⟨rfl, fin _, finK _⟩
    simp [results, Try.results15, go_sem, hc]
#print axioms tick_1
end Go.Proofs.Ytlijkgkkoahajaa
