/-
  Servers in memory: New, say, isMeant; a server that is not there.
-/
import Derived.Test.YtimnpdegoehblaaGreatDoorDd
import Derived.Test.YtimnpdegoehblaaGreatDoorTk9
namespace Go.Proofs.YtimnpdegoehblaaGreatDoor
open Go.RowKit

/-- A server's cells: no hook. -/
abbrev svC (A : Int) (dp : Nat) (wt : Int) (tp : Option Addr) : Array Value := #[.int .u8 A, .pointer (some ⟨dp, 0, none⟩), .nilIface, .int .i64 wt, .pointer tp]
/-- A transfer's cells. -/
abbrev stC (i s last waits : Int) (tg ck : Bool) (a : Option Addr) (len cap : Nat) (sz : Bool) (size next blk dn told : Int) : Array Value :=
  #[.int .u16 i, .int .u8 s, .int .i64 last, .int .u8 waits, .bool tg, .bool ck, .slice a len cap, .bool sz, .int .i64 size, .int .i64 next, .int .i64 blk, .int .i64 dn, .int .i64 told]

set_option linter.unusedSimpArgs false in
set_option maxHeartbeats 4000000 in
set_option maxRecDepth 100000 in
theorem snew_at (A wt : Int) (dp : Nat) (w : World) (h1 : 1 ≤ A) (h2 : A ≤ 127) (h3 : 1 ≤ wt) (h4 : wt ≤ 1099511627776) :
    Calls Tryz.prog 17 #[.int .u8 A, .pointer (some ⟨dp, 0, none⟩), .nilIface, .int .i64 wt] w fun e w' => e = .returned (.tuple #[.pointer (some ⟨w.heap.size, 0, none⟩), .int .i64 0]) ∧ w' = w.alloc (.cells (svC A dp wt none) 41) := by
  have b1 : ¬ A < 1 := by omega
  have b2 : ¬ 127 < A := by omega
  have b3 : ¬ wt < 1 := by omega
  have b4 : ¬ 1099511627776 < wt := by omega
  go_enter Tryz.func17, Tryz.ntmps17
  go_wp2_with fail
  go_ret2
  exact ⟨rfl, rfl⟩
set_option linter.unusedSimpArgs false in
set_option maxHeartbeats 4000000 in
set_option maxRecDepth 100000 in
theorem smust_ok (code : Int) (w : World) : Calls Tryz.prog 25 #[.bool true, .int .u32 code] w fun e w' => e = .returned (.tuple #[]) ∧ w' = w := by
  go_enter Tryz.func25, Tryz.ntmps25
  go_wp2_with fail
  go_end0
  exact ⟨rfl, rfl⟩
set_option linter.unusedSimpArgs false in
set_option maxHeartbeats 4000000 in
set_option maxRecDepth 100000 in
theorem heed_ok (w : World) : Calls Tryz.prog 81 #[.int .u32 0] w fun e w' => e = .returned (.tuple #[]) ∧ w' = w := by
  go_enter Tryz.func81, Tryz.ntmps81
  go_wp2_with fail
  refine (smust_ok _ _).mono ?_
  rintro e w1 ⟨rfl, rfl⟩
  go_wp2_with fail
  go_end0
  exact ⟨rfl, rfl⟩
set_option linter.unusedSimpArgs false in
set_option maxHeartbeats 4000000 in
set_option maxRecDepth 100000 in
theorem waitsFor_no (p : Nat) (A wt : Int) (dp : Nat) (k : Int) (w : World) (hp : w.heap[p]? = some (.cells (svC A dp wt none) 41 (0, 0))) : Calls Tryz.prog 22 #[.pointer (some ⟨p, 0, none⟩), .int .u8 k] w fun e w' => e = .returned (.bool false) ∧ w' = w := by
  have c4 : w.cell? ⟨p, 4, none⟩ = some (.pointer none) := by rw [cell_of_row w _ 4 _ _ _ hp]; rfl
  clear hp
  go_enter Tryz.func22, Tryz.ntmps22
  go_wp2_with fail
  go_ret
  exact ⟨rfl, rfl⟩
set_option linter.unusedSimpArgs false in
set_option maxHeartbeats 4000000 in
set_option maxRecDepth 100000 in
theorem reset_nil (w : World) : Calls Tryz.prog 4 #[.pointer none] w fun e w' => e = .returned (.tuple #[]) ∧ w' = w := by
  go_enter Tryz.func4, Tryz.ntmps4
  go_wp2_with fail
  go_end0
  exact ⟨rfl, rfl⟩
set_option linter.unusedSimpArgs false in
set_option maxHeartbeats 4000000 in
set_option maxRecDepth 100000 in
theorem sbusy_nil (w : World) : Calls Tryz.prog 5 #[.pointer none] w fun e w' => e = .returned (.tuple #[plV 0 0, .bool false]) ∧ Below w.heap.size w w' := by
  go_enter Tryz.func5, Tryz.ntmps5
  go_wp2_with fail
  exact bodyPost_ret (v := .tuple #[plV 0 0, .bool false]) (by simp [results, Tryz.results5, go_sem]) rfl ⟨rfl, (by repeat (first | exact Below.refl _ _ | apply Below.drew | apply Below.al))⟩
set_option linter.unusedSimpArgs false in
set_option maxHeartbeats 4000000 in
set_option maxRecDepth 100000 in
theorem stick_nil (now : Int) (w : World) : Calls Tryz.prog 7 #[.pointer none, .int .i64 now] w fun e w' => e = .returned (.slice none 0 0) ∧ Below w.heap.size w w' := by
  go_enter Tryz.func7, Tryz.ntmps7
  go_wp2_with fail
  refine wp_region_held_drew (S := fun x => Below w.heap.size w x) (by kernel_rfl) (Below.drew (Below.refl _ _)) (fun hHeld => ?_)
  refine tk 0 (.pointer none) rfl (.inl ⟨by rfl, ?_⟩) ?_
  · intro w9 hSw
    try dsimp only at hSw
    go_simp
    all_goals try decide
    all_goals try assumption
    all_goals try omega
  try simp only [Act.put, gA, gS, gZ, sA, sZ, sS]
  refine tk 1 (.bool true) rfl (.inl ⟨by rfl, ?_⟩) ?_
  · intro w9 hSw
    try dsimp only at hSw
    go_simp
    all_goals try decide
    all_goals try assumption
    all_goals try omega
  try simp only [Act.put, gA, gS, gZ, sA, sZ, sS]
  refine tk 2 (.bool true) rfl (.inl ⟨by rfl, ?_⟩) ?_
  · intro w9 hSw
    try dsimp only at hSw
    go_simp
    all_goals try decide
    all_goals try assumption
    all_goals try omega
  try simp only [Act.put, gA, gS, gZ, sA, sZ, sS]
  refine tk 3 undef rfl (.inr ⟨by rfl, rfl⟩) ?_
  try simp only [Act.put, gA, gS, gZ, sA, sZ, sS]
  refine tk 4 undef rfl (.inr ⟨by rfl, rfl⟩) ?_
  try simp only [Act.put, gA, gS, gZ, sA, sZ, sS]
  refine tk 5 undef rfl (.inr ⟨by rfl, rfl⟩) ?_
  try simp only [Act.put, gA, gS, gZ, sA, sZ, sS]
  refine tk 6 undef rfl (.inr ⟨by rfl, rfl⟩) ?_
  try simp only [Act.put, gA, gS, gZ, sA, sZ, sS]
  refine tk 7 undef rfl (.inr ⟨by rfl, rfl⟩) ?_
  try simp only [Act.put, gA, gS, gZ, sA, sZ, sS]
  refine tk 8 (.bool true) rfl (.inl ⟨by rfl, ?_⟩) ?_
  · intro w9 hSw
    try dsimp only at hSw
    go_simp
    all_goals try decide
    all_goals try assumption
    all_goals try omega
  try simp only [Act.put, gA, gS, gZ, sA, sZ, sS]
  refine tk 9 (.bool true) rfl (.inl ⟨by rfl, ?_⟩) ?_
  · intro w9 hSw
    try dsimp only at hSw
    go_simp
    all_goals try decide
    all_goals try assumption
    all_goals try omega
  try simp only [Act.put, gA, gS, gZ, sA, sZ, sS]
  refine tk 10 undef rfl (.inr ⟨by rfl, rfl⟩) ?_
  try simp only [Act.put, gA, gS, gZ, sA, sZ, sS]
  refine tk 11 undef rfl (.inr ⟨by rfl, rfl⟩) ?_
  try simp only [Act.put, gA, gS, gZ, sA, sZ, sS]
  refine tk 12 undef rfl (.inr ⟨by rfl, rfl⟩) ?_
  try simp only [Act.put, gA, gS, gZ, sA, sZ, sS]
  refine tk 13 undef rfl (.inr ⟨by rfl, rfl⟩) ?_
  try simp only [Act.put, gA, gS, gZ, sA, sZ, sS]
  refine tk 14 undef rfl (.inr ⟨by rfl, rfl⟩) ?_
  try simp only [Act.put, gA, gS, gZ, sA, sZ, sS]
  refine tk 15 undef rfl (.inr ⟨by rfl, rfl⟩) ?_
  try simp only [Act.put, gA, gS, gZ, sA, sZ, sS]
  refine tk 16 undef rfl (.inr ⟨by rfl, rfl⟩) ?_
  try simp only [Act.put, gA, gS, gZ, sA, sZ, sS]
  refine tk 17 undef rfl (.inr ⟨by rfl, rfl⟩) ?_
  try simp only [Act.put, gA, gS, gZ, sA, sZ, sS]
  refine tk 18 undef rfl (.inr ⟨by rfl, rfl⟩) ?_
  try simp only [Act.put, gA, gS, gZ, sA, sZ, sS]
  refine tk 19 undef rfl (.inr ⟨by rfl, rfl⟩) ?_
  try simp only [Act.put, gA, gS, gZ, sA, sZ, sS]
  refine tk 20 undef rfl (.inr ⟨by rfl, rfl⟩) ?_
  try simp only [Act.put, gA, gS, gZ, sA, sZ, sS]
  refine tk 21 undef rfl (.inr ⟨by rfl, rfl⟩) ?_
  try simp only [Act.put, gA, gS, gZ, sA, sZ, sS]
  refine tk 22 undef rfl (.inr ⟨by rfl, rfl⟩) ?_
  try simp only [Act.put, gA, gS, gZ, sA, sZ, sS]
  refine tk 23 undef rfl (.inr ⟨by rfl, rfl⟩) ?_
  try simp only [Act.put, gA, gS, gZ, sA, sZ, sS]
  refine tk 24 undef rfl (.inr ⟨by rfl, rfl⟩) ?_
  try simp only [Act.put, gA, gS, gZ, sA, sZ, sS]
  refine tk 25 (.bool true) rfl (.inl ⟨by rfl, ?_⟩) ?_
  · intro w9 hSw
    try dsimp only at hSw
    go_simp
    all_goals try decide
    all_goals try assumption
    all_goals try omega
  try simp only [Act.put, gA, gS, gZ, sA, sZ, sS]
  refine wpAnyH_done (by kernel_rfl) ?_ _
  go_wp2_with fail
  go_ret
  exact ⟨rfl, hHeld⟩
set_option linter.unusedSimpArgs false in
set_option maxHeartbeats 4000000 in
set_option maxRecDepth 100000 in
theorem shear_nil (id n d0 d1 d2 d3 d4 d5 d6 d7 : Int) (r : Bool) (now : Int) (w : World) : Calls Tryz.prog 6 #[.pointer none, frV id n d0 d1 d2 d3 d4 d5 d6 d7 r, .int .i64 now] w fun e w' => e = .returned (.slice none 0 0) ∧ Below w.heap.size w w' := by
  go_enter_defers Tryz.func6, Tryz.ntmps6
  go_wp2_with fail
  exact ⟨.slice none 0 0, (by simp [results, Tryz.results6, go_sem]), rfl, (by repeat (first | exact Below.refl _ _ | apply Below.drew | apply Below.al))⟩

set_option linter.unusedSimpArgs false in
set_option maxHeartbeats 4000000 in
set_option maxRecDepth 100000 in
theorem sframeOf_at (p : Nat) (A wt : Int) (dp : Nat) (tp : Option Addr) (b0 b1 b2 b3 b4 b5 b6 b7 : Int) (w : World) (hp : w.heap[p]? = some (.cells (svC A dp wt tp) 41 (0, 0))) (hA0 : 0 ≤ A) (hA : A ≤ 127) (ho : Oct [b0, b1, b2, b3, b4, b5, b6, b7]) :
    Calls Tryz.prog 40 #[.pointer (some ⟨p, 0, none⟩), arr8 b0 b1 b2 b3 b4 b5 b6 b7] w fun e w' => e = .returned (frV (1408 + A) 8 b0 b1 b2 b3 b4 b5 b6 b7 false) ∧ Below w.heap.size w w' := by
  have HM : Hid (∀ W B, W.heap[B]? = some (.cells (ar8 b0 b1 b2 b3 b4 b5 b6 b7) 23 (0, 0)) → Calls Tryz.prog 58 #[.int .u16 (1408 + A), .slice (some ⟨B, 0, none⟩) 8 8] W fun e w' => e = .returned (.tuple #[frV (1408 + A) 8 b0 b1 b2 b3 b4 b5 b6 b7 false, .int .i64 0]) ∧ Below W.heap.size W w') := fun W B h => by
    have := make_any (1408 + A) (some ⟨B, 0, none⟩) 8 8 [b0, b1, b2, b3, b4, b5, b6, b7] W (row8 W B b0 b1 b2 b3 b4 b5 b6 b7 ho h)
    rw [mkR_good _ _ (by omega) (by simp)] at this
    exact this
  have HP : Hid (w.heap[p]? = some (.cells (svC A dp wt tp) 41 (0, 0))) := hp
  have lp : p < w.heap.size := lt_of_heap hp
  clear hp ho
  have hw : IntKind.u16.wrap A = A := by simp [IntKind.wrap, IntKind.bits, IntKind.signed]; omega
  have hw2 : IntKind.u16.wrap (1408 + A) = 1408 + A := by simp [IntKind.wrap, IntKind.bits, IntKind.signed]; omega
  go_enter Tryz.func40, Tryz.ntmps40
  go_wp2_with fail
  refine wp_region_held_drew (S := fun x => Below w.heap.size w x ∧ x.heap[p]? = some (.cells (svC A dp wt tp) 41 (0, 0)) ∧ x.heap[w.heap.size]? = some (.cells (ar8 b0 b1 b2 b3 b4 b5 b6 b7) 23 (0, 0)) ∧ x.heap[w.heap.size + 1]? = some (.cells (frC 0 0 0 0 0 0 0 0 0 0 false) 25 (0, 0))) (by kernel_rfl) (⟨Below.drew (by repeat (first | exact Below.refl _ _ | apply Below.drew | apply Below.al)), ext11 (ext11 HP.out), ext11 (at11 _ _ _ rfl), at11 _ _ _ (by simp)⟩) (fun hHeld => ?_)
  refine tk 0 (.pointer (some ⟨p, 0, none⟩)) rfl (.inl ⟨by rfl, ?_⟩) ?_
  · intro w9 hSw
    try dsimp only at hSw
    go_simp
    all_goals try decide
    all_goals try assumption
    all_goals try omega
  try simp only [Act.put, gA, gS, gZ, sA, sZ, sS]
  refine tk 1 (.pointer (some ⟨p, 0, none⟩)) rfl (.inl ⟨by rfl, ?_⟩) ?_
  · intro w9 hSw
    try dsimp only at hSw
    go_simp
    all_goals try decide
    all_goals try assumption
    all_goals try omega
  try simp only [Act.put, gA, gS, gZ, sA, sZ, sS]
  refine tk 2 (.pointer (some ⟨p, 0, none⟩)) rfl (.inl ⟨by rfl, ?_⟩) ?_
  · intro w9 hSw
    try dsimp only at hSw
    go_simp
    all_goals try decide
    all_goals try assumption
    all_goals try omega
  try simp only [Act.put, gA, gS, gZ, sA, sZ, sS]
  refine tk 3 (.int .u8 A) rfl (.inl ⟨by rfl, ?_⟩) ?_
  · intro w9 hSw
    try dsimp only at hSw
    have c0 : w9.cell? ⟨p, 0, none⟩ = some (.int .u8 A) := by rw [cell_of_row _ _ 0 _ _ _ hSw.2.1]; rfl
    go_simp
    all_goals try assumption
  try simp only [Act.put, gA, gS, gZ, sA, sZ, sS]
  refine tk 4 (.int .u16 A) rfl (.inl ⟨by rfl, ?_⟩) ?_
  · intro w9 hSw
    try dsimp only at hSw
    go_simp
    all_goals try decide
    all_goals try assumption
    all_goals try omega
  try simp only [Act.put, gA, gS, gZ, sA, sZ, sS]
  refine tk 5 (.int .u16 (1408 + A)) rfl (.inl ⟨by rfl, ?_⟩) ?_
  · intro w9 hSw
    try dsimp only at hSw
    go_simp
    all_goals try decide
    all_goals try assumption
    all_goals try omega
  try simp only [Act.put, gA, gS, gZ, sA, sZ, sS]
  refine tk 6 (.slice (some ⟨w.heap.size, 0, none⟩) 8 8) rfl (.inl ⟨by rfl, ?_⟩) ?_
  · intro w9 hSw
    try dsimp only at hSw
    go_simp
    all_goals try decide
    all_goals try assumption
    all_goals try omega
  try simp only [Act.put, gA, gS, gZ, sA, sZ, sS]
  refine wpAnyH_ready (rs := [7, 11]) (by kernel_rfl) (by simp) ?_
  refine AllReadyH.cons rfl (fun K' hK => ?_) (AllReadyH.cons rfl (fun K' hK => ?_) AllReadyH.nil)
  · rw [if_pos (by rfl)]
    simp only [gA, gS, gZ]
    go_wp2_with fail
    refine (HM.out _ _ hHeld.2.2.1).mono ?_
    rintro e z ⟨rfl, hbx⟩
    try go_wp2_with fail
    refine hK.out _ _ (⟨Below.andThen hHeld.1 hbx, blk11 hbx hHeld.2.1, blk11 hbx hHeld.2.2.1, blk11 hbx hHeld.2.2.2⟩) (fun hHeld => ?_)
    clear hK K'
    try simp only [Act.put, gA, gS, gZ, sA, sZ, sS]
    refine tk 8 (.tuple #[frV (1408 + A) 8 b0 b1 b2 b3 b4 b5 b6 b7 false, .int .i64 0]) rfl (.inl ⟨by rfl, ?_⟩) ?_
    · intro w9 hSw
      try dsimp only at hSw
      go_simp
      all_goals try decide
      all_goals try assumption
      all_goals try omega
    try simp only [Act.put, gA, gS, gZ, sA, sZ, sS]
    refine tk 9 (frV (1408 + A) 8 b0 b1 b2 b3 b4 b5 b6 b7 false) rfl (.inl ⟨by rfl, ?_⟩) ?_
    · intro w9 hSw
      try dsimp only at hSw
      go_simp
      all_goals try decide
      all_goals try assumption
      all_goals try omega
    try simp only [Act.put, gA, gS, gZ, sA, sZ, sS]
    refine tk 10 (.int .i64 0) rfl (.inl ⟨by rfl, ?_⟩) ?_
    · intro w9 hSw
      try dsimp only at hSw
      go_simp
      all_goals try decide
      all_goals try assumption
      all_goals try omega
    try simp only [Act.put, gA, gS, gZ, sA, sZ, sS]
    have hz := (Array.getElem?_eq_some_iff.1 hHeld.2.2.2).1
    refine wpAnyH_ready (rs := [11]) (by kernel_rfl) (by simp) ?_
    refine AllReadyH.cons rfl (fun K' hK => ?_) AllReadyH.nil
    rw [if_pos (by rfl)]
    simp only [gA, gS, gZ]
    go_wp2_with fail
    refine hK.out _ _ (⟨Below.al hHeld.1 _, ext11 hHeld.2.1, ext11 hHeld.2.2.1, ext11 hHeld.2.2.2⟩) (fun hHeld => ?_)
    clear hK K'
    try simp only [Act.put, gA, gS, gZ, sA, sZ, sS]
    refine wpAnyH_ready (rs := [12]) (by kernel_rfl) (by simp) ?_
    refine AllReadyH.cons rfl (fun K' hK => ?_) AllReadyH.nil
    rw [if_pos (by rfl)]
    simp only [gA, gS, gZ]
    refine wp_store_by 25 _ _ rfl ⟨z.heap.size, 0, none⟩ _ rfl rfl (storeF _ _ _ (1408 + A) 8 b0 b1 b2 b3 b4 b5 b6 b7 false _ (at11 z (.cells (frC 0 0 0 0 0 0 0 0 0 0 false) 25) _ rfl) rfl) ?_
    refine hK.out _ _ (⟨below_setRow hHeld.1 (by omega) _, (setRow_other _ _ _ _ (by omega)).trans hHeld.2.1, (setRow_other _ _ _ _ (by omega)).trans hHeld.2.2.1, (setRow_other _ _ _ _ (by omega)).trans hHeld.2.2.2⟩) (fun hHeld => ?_)
    clear hK K'
    try simp only [Act.put, gA, gS, gZ, sA, sZ, sS]
    refine tk 13 (.int .i64 0) rfl (.inl ⟨by rfl, ?_⟩) ?_
    · intro w9 hSw
      try dsimp only at hSw
      go_simp
      all_goals try decide
      all_goals try assumption
      all_goals try omega
    try simp only [Act.put, gA, gS, gZ, sA, sZ, sS]
    refine wpAnyH_done (by kernel_rfl) ?_ _
    have hG2 := setRow_heap _ _ _ (frC (1408 + A) 8 b0 b1 b2 b3 b4 b5 b6 b7 false) _ _ (at11 z (.cells (frC 0 0 0 0 0 0 0 0 0 0 false) 25) _ rfl)
    go_wp2_with (first | (refine wpList_load_by rfl 25 _ rfl ⟨z.heap.size, 0, none⟩ _ rfl (loadF _ _ (1408 + A) 8 b0 b1 b2 b3 b4 b5 b6 b7 false _ hG2) ?_) | (refine wpList_store_by rfl 25 _ _ rfl ⟨w.heap.size + 1, 0, none⟩ _ rfl rfl (storeF _ _ _ (1408 + A) 8 b0 b1 b2 b3 b4 b5 b6 b7 false _ hHeld.2.2.2 rfl) ?_))
    have hc := fun j => cell_of_row _ (w.heap.size + 1) j _ _ _ (setRow_heap _ _ _ (frC (1408 + A) 8 b0 b1 b2 b3 b4 b5 b6 b7 false) _ _ hHeld.2.2.2)
    refine bodyPost_ret (v := frV (1408 + A) 8 b0 b1 b2 b3 b4 b5 b6 b7 false) ?_ rfl ⟨rfl, below_setRow hHeld.1 (Nat.le_succ _) _⟩
    simp [results, Tryz.results40, go_sem, hc]
  · rw [if_pos (by rfl)]
    simp only [gA, gS, gZ]
    go_wp2_with fail
    refine hK.out _ _ (⟨Below.al hHeld.1 _, ext11 hHeld.2.1, ext11 hHeld.2.2.1, ext11 hHeld.2.2.2⟩) (fun hHeld => ?_)
    clear hK K'
    try simp only [Act.put, gA, gS, gZ, sA, sZ, sS]
    refine wpAnyH_ready (rs := [7]) (by kernel_rfl) (by simp) ?_
    refine AllReadyH.cons rfl (fun K' hK => ?_) AllReadyH.nil
    rw [if_pos (by rfl)]
    simp only [gA, gS, gZ]
    go_wp2_with fail
    refine (HM.out _ _ hHeld.2.2.1).mono ?_
    rintro e z ⟨rfl, hbx⟩
    have hG := blk11 hbx (at11 _ _ (w.heap.size + 1 + 1) (by simp))
    try go_wp2_with fail
    refine hK.out _ _ (⟨Below.andThen hHeld.1 hbx, blk11 hbx hHeld.2.1, blk11 hbx hHeld.2.2.1, blk11 hbx hHeld.2.2.2⟩) (fun hHeld => ?_)
    clear hK K'
    try simp only [Act.put, gA, gS, gZ, sA, sZ, sS]
    refine tk 8 (.tuple #[frV (1408 + A) 8 b0 b1 b2 b3 b4 b5 b6 b7 false, .int .i64 0]) rfl (.inl ⟨by rfl, ?_⟩) ?_
    · intro w9 hSw
      try dsimp only at hSw
      go_simp
      all_goals try decide
      all_goals try assumption
      all_goals try omega
    try simp only [Act.put, gA, gS, gZ, sA, sZ, sS]
    refine tk 9 (frV (1408 + A) 8 b0 b1 b2 b3 b4 b5 b6 b7 false) rfl (.inl ⟨by rfl, ?_⟩) ?_
    · intro w9 hSw
      try dsimp only at hSw
      go_simp
      all_goals try decide
      all_goals try assumption
      all_goals try omega
    try simp only [Act.put, gA, gS, gZ, sA, sZ, sS]
    refine tk 10 (.int .i64 0) rfl (.inl ⟨by rfl, ?_⟩) ?_
    · intro w9 hSw
      try dsimp only at hSw
      go_simp
      all_goals try decide
      all_goals try assumption
      all_goals try omega
    try simp only [Act.put, gA, gS, gZ, sA, sZ, sS]
    refine wpAnyH_ready (rs := [12]) (by kernel_rfl) (by simp) ?_
    refine AllReadyH.cons rfl (fun K' hK => ?_) AllReadyH.nil
    rw [if_pos (by rfl)]
    simp only [gA, gS, gZ]
    refine wp_store_by 25 _ _ rfl ⟨(w.heap.size + 1 + 1), 0, none⟩ _ rfl rfl (storeF _ _ _ (1408 + A) 8 b0 b1 b2 b3 b4 b5 b6 b7 false _ (hG) rfl) ?_
    refine hK.out _ _ (⟨below_setRow hHeld.1 (by omega) _, (setRow_other _ _ _ _ (by omega)).trans hHeld.2.1, (setRow_other _ _ _ _ (by omega)).trans hHeld.2.2.1, (setRow_other _ _ _ _ (by omega)).trans hHeld.2.2.2⟩) (fun hHeld => ?_)
    clear hK K'
    try simp only [Act.put, gA, gS, gZ, sA, sZ, sS]
    refine tk 13 (.int .i64 0) rfl (.inl ⟨by rfl, ?_⟩) ?_
    · intro w9 hSw
      try dsimp only at hSw
      go_simp
      all_goals try decide
      all_goals try assumption
      all_goals try omega
    try simp only [Act.put, gA, gS, gZ, sA, sZ, sS]
    refine wpAnyH_done (by kernel_rfl) ?_ _
    have hG2 := setRow_heap _ _ _ (frC (1408 + A) 8 b0 b1 b2 b3 b4 b5 b6 b7 false) _ _ (hG)
    go_wp2_with (first | (refine wpList_load_by rfl 25 _ rfl ⟨(w.heap.size + 1 + 1), 0, none⟩ _ rfl (loadF _ _ (1408 + A) 8 b0 b1 b2 b3 b4 b5 b6 b7 false _ hG2) ?_) | (refine wpList_store_by rfl 25 _ _ rfl ⟨w.heap.size + 1, 0, none⟩ _ rfl rfl (storeF _ _ _ (1408 + A) 8 b0 b1 b2 b3 b4 b5 b6 b7 false _ hHeld.2.2.2 rfl) ?_))
    have hc := fun j => cell_of_row _ (w.heap.size + 1) j _ _ _ (setRow_heap _ _ _ (frC (1408 + A) 8 b0 b1 b2 b3 b4 b5 b6 b7 false) _ _ hHeld.2.2.2)
    refine bodyPost_ret (v := frV (1408 + A) 8 b0 b1 b2 b3 b4 b5 b6 b7 false) ?_ rfl ⟨rfl, below_setRow hHeld.1 (Nat.le_succ _) _⟩
    simp [results, Tryz.results40, go_sem, hc]

set_option linter.unusedSimpArgs false in
set_option maxHeartbeats 4000000 in
set_option maxRecDepth 100000 in
theorem say_at (p : Nat) (A wt : Int) (dp : Nat) (tp : Option Addr) (k i s : Int) (z : Bool) (n : Int) (q : Bool) (a2 : Option Addr) (len2 cap2 : Nat) (t l c : Bool) (b e u m o : Int) (b0 b1 b2 b3 b4 b5 b6 b7 : Int) (w : World) (hp : w.heap[p]? = some (.cells (svC A dp wt tp) 41 (0, 0))) (hA0 : 0 ≤ A) (hA : A ≤ 127) (ho : Oct [b0, b1, b2, b3, b4, b5, b6, b7])
    (HA : Hid (∀ W, Below w.heap.size w W → Calls Tryz.prog 37 #[cmV k i s z n q a2 len2 cap2 t l c b e u m o] W fun e w' => e = .returned (.tuple #[arr8 b0 b1 b2 b3 b4 b5 b6 b7, .int .i64 0]) ∧ Below W.heap.size W w')) :
    Calls Tryz.prog 21 #[.pointer (some ⟨p, 0, none⟩), cmV k i s z n q a2 len2 cap2 t l c b e u m o] w (OnePost w (frC (1408 + A) 8 b0 b1 b2 b3 b4 b5 b6 b7 false)) := by
  have HP : Hid (w.heap[p]? = some (.cells (svC A dp wt tp) 41 (0, 0))) := hp
  have HF : Hid (∀ W, W.heap[p]? = some (.cells (svC A dp wt tp) 41 (0, 0)) → Calls Tryz.prog 40 #[.pointer (some ⟨p, 0, none⟩), arr8 b0 b1 b2 b3 b4 b5 b6 b7] W fun e w' => e = .returned (frV (1408 + A) 8 b0 b1 b2 b3 b4 b5 b6 b7 false) ∧ Below W.heap.size W w') := fun W h => sframeOf_at p A wt dp tp b0 b1 b2 b3 b4 b5 b6 b7 W h hA0 hA ho
  clear hp ho
  go_enter Tryz.func21, Tryz.ntmps21
  go_wp2_with (refine wpList_load_by rfl 61 _ rfl ⟨w.heap.size, 0, none⟩ _ rfl (loadCM _ _ k i s z n q a2 len2 cap2 t l c b e u m o _ (at11 _ _ _ rfl)) ?_)
  with_reducible refine (HA.out _ (Below.al (Below.refl _ _) _)).mono ?_
  rintro r w1 ⟨rfl, hb⟩
  have B1 : Hid (Below w.heap.size w w1) := Below.andThen (Below.al (Below.refl _ _) _) hb
  have HP1 : Hid (w1.heap[p]? = some (.cells (svC A dp wt tp) 41 (0, 0))) := blk11 B1.out HP.out
  clear hb
  go_wp2_with (refine wpList_load_by rfl 23 _ rfl ⟨w1.heap.size, 0, none⟩ _ rfl (load8 _ _ b0 b1 b2 b3 b4 b5 b6 b7 _ (at11 _ _ _ rfl)) ?_)
  with_reducible refine (HF.out _ (ext11 HP1.out)).mono ?_
  rintro r w2 ⟨rfl, hb⟩
  have B2 : Hid (Below w.heap.size w w2) := Below.andThen (Below.al B1.out _) hb
  clear hb
  go_wp2_with (refine wpList_build1 rfl _ rfl rfl ?_)
  go_ret
  exact ⟨_, rfl, B2.out.size, at11 _ _ _ rfl, Below.al B2.out _⟩

theorem right8 (id b0 b1 b2 b3 b4 b5 b6 b7 : Int) (h : id ≤ 2047) : rightB id 8 [b0, b1, b2, b3, b4, b5, b6, b7] false = true := by
  simp [rightB, carL, h]
set_option linter.unusedSimpArgs false in
set_option maxHeartbeats 4000000 in
set_option maxRecDepth 100000 in
theorem sMeant_yes (p : Nat) (A wt : Int) (dp : Nat) (tp : Option Addr) (b0 b1 b2 b3 b4 b5 b6 b7 : Int) (w : World) (hp : w.heap[p]? = some (.cells (svC A dp wt tp) 41 (0, 0))) (hA0 : 0 ≤ A) (hA : A ≤ 127) (ho : Oct [b0, b1, b2, b3, b4, b5, b6, b7]) :
    Calls Tryz.prog 9 #[.pointer (some ⟨p, 0, none⟩), frV (1536 + A) 8 b0 b1 b2 b3 b4 b5 b6 b7 false] w fun e w' => e = .returned (.bool true) ∧ Below w.heap.size w w' := by
  have HR : Hid (∀ W, Calls Tryz.prog 20 #[frV (1536 + A) 8 b0 b1 b2 b3 b4 b5 b6 b7 false] W fun e w' => e = .returned (.bool true) ∧ Below W.heap.size W w') := fun W => by
    have := right_any (1536 + A) 8 b0 b1 b2 b3 b4 b5 b6 b7 false W ho
    rw [right8 _ _ _ _ _ _ _ _ _ (by omega)] at this
    exact this
  have HP : Hid (w.heap[p]? = some (.cells (svC A dp wt tp) 41 (0, 0))) := hp
  have lp : p < w.heap.size := lt_of_heap hp
  have hw : IntKind.u16.wrap A = A := by simp [IntKind.wrap, IntKind.bits, IntKind.signed]; omega
  have hw2 : IntKind.u16.wrap (1536 + A) = 1536 + A := by simp [IntKind.wrap, IntKind.bits, IntKind.signed]; omega
  clear hp ho
  go_enter Tryz.func9, Tryz.ntmps9
  go_wp2_with fail
  refine wp_region_held_drew (S := fun x => Below w.heap.size w x ∧ x.heap[p]? = some (.cells (svC A dp wt tp) 41 (0, 0)) ∧ x.heap[w.heap.size]? = some (.cells (frC (1536 + A) 8 b0 b1 b2 b3 b4 b5 b6 b7 false) 25 (0, 0))) (by kernel_rfl) (⟨Below.drew (by repeat (first | exact Below.refl _ _ | apply Below.drew | apply Below.al)), ext11 HP.out, at11 _ _ _ rfl⟩) (fun hHeld => ?_)
  refine tk 0 (frV (1536 + A) 8 b0 b1 b2 b3 b4 b5 b6 b7 false) rfl (.inl ⟨by rfl, ?_⟩) ?_
  · intro w9 hSw
    try dsimp only at hSw
    exact ex_load11 25 (.tmp 3) rfl _ _ rfl (loadF _ _ (1536 + A) 8 b0 b1 b2 b3 b4 b5 b6 b7 false _ hSw.2.2)
  try simp only [Act.put, gA, gS, gZ, sA, sZ, sS]
  refine wpAnyH_ready (rs := [1]) (by kernel_rfl) (by simp) ?_
  refine AllReadyH.cons rfl (fun K' hK => ?_) AllReadyH.nil
  rw [if_pos (by rfl)]
  simp only [gA, gS, gZ]
  go_wp2_with fail
  refine (HR.out _).mono ?_
  rintro e z ⟨rfl, hbx⟩
  try go_wp2_with fail
  refine hK.out _ _ (⟨Below.andThen hHeld.1 hbx, blk11 hbx hHeld.2.1, blk11 hbx hHeld.2.2⟩) (fun hHeld => ?_)
  clear hK K'
  try simp only [Act.put, gA, gS, gZ, sA, sZ, sS]
  refine tk 2 (.bool true) rfl (.inl ⟨by rfl, ?_⟩) ?_
  · intro w9 hSw
    try dsimp only at hSw
    go_simp
    all_goals try decide
    all_goals try assumption
    all_goals try omega
  try simp only [Act.put, gA, gS, gZ, sA, sZ, sS]
  refine tk 3 (.pointer (some ⟨w.heap.size, 0, none⟩)) rfl (.inl ⟨by rfl, ?_⟩) ?_
  · intro w9 hSw
    try dsimp only at hSw
    go_simp
    all_goals try decide
    all_goals try assumption
    all_goals try omega
  try simp only [Act.put, gA, gS, gZ, sA, sZ, sS]
  refine tk 4 (.int .u16 (1536 + A)) rfl (.inl ⟨by rfl, ?_⟩) ?_
  · intro w9 hSw
    try dsimp only at hSw
    have c0 : w9.cell? ⟨w.heap.size, 0, none⟩ = some (.int .u16 (1536 + A)) := by rw [cell_of_row _ _ 0 _ _ _ hSw.2.2]; rfl
    go_simp
    all_goals try assumption
  try simp only [Act.put, gA, gS, gZ, sA, sZ, sS]
  refine tk 5 (.pointer (some ⟨p, 0, none⟩)) rfl (.inl ⟨by rfl, ?_⟩) ?_
  · intro w9 hSw
    try dsimp only at hSw
    go_simp
    all_goals try decide
    all_goals try assumption
    all_goals try omega
  try simp only [Act.put, gA, gS, gZ, sA, sZ, sS]
  refine tk 6 (.pointer (some ⟨p, 0, none⟩)) rfl (.inl ⟨by rfl, ?_⟩) ?_
  · intro w9 hSw
    try dsimp only at hSw
    go_simp
    all_goals try decide
    all_goals try assumption
    all_goals try omega
  try simp only [Act.put, gA, gS, gZ, sA, sZ, sS]
  refine tk 7 (.pointer (some ⟨p, 0, none⟩)) rfl (.inl ⟨by rfl, ?_⟩) ?_
  · intro w9 hSw
    try dsimp only at hSw
    go_simp
    all_goals try decide
    all_goals try assumption
    all_goals try omega
  try simp only [Act.put, gA, gS, gZ, sA, sZ, sS]
  refine tk 8 (.int .u8 A) rfl (.inl ⟨by rfl, ?_⟩) ?_
  · intro w9 hSw
    try dsimp only at hSw
    have c0 : w9.cell? ⟨p, 0, none⟩ = some (.int .u8 A) := by rw [cell_of_row _ _ 0 _ _ _ hSw.2.1]; rfl
    go_simp
    all_goals try assumption
  try simp only [Act.put, gA, gS, gZ, sA, sZ, sS]
  refine tk 9 (.int .u16 A) rfl (.inl ⟨by rfl, ?_⟩) ?_
  · intro w9 hSw
    try dsimp only at hSw
    go_simp
    all_goals try decide
    all_goals try assumption
    all_goals try omega
  try simp only [Act.put, gA, gS, gZ, sA, sZ, sS]
  refine tk 10 (.int .u16 (1536 + A)) rfl (.inl ⟨by rfl, ?_⟩) ?_
  · intro w9 hSw
    try dsimp only at hSw
    go_simp
    all_goals try decide
    all_goals try assumption
    all_goals try omega
  try simp only [Act.put, gA, gS, gZ, sA, sZ, sS]
  refine tk 11 (.bool true) rfl (.inl ⟨by rfl, ?_⟩) ?_
  · intro w9 hSw
    try dsimp only at hSw
    go_simp
    all_goals try decide
    all_goals try assumption
    all_goals try omega
  try simp only [Act.put, gA, gS, gZ, sA, sZ, sS]
  refine tk 12 (.bool true) rfl (.inl ⟨by rfl, ?_⟩) ?_
  · intro w9 hSw
    try dsimp only at hSw
    go_simp
    all_goals try decide
    all_goals try assumption
    all_goals try omega
  try simp only [Act.put, gA, gS, gZ, sA, sZ, sS]
  refine tk 13 (.bool true) rfl (.inl ⟨by rfl, ?_⟩) ?_
  · intro w9 hSw
    try dsimp only at hSw
    go_simp
    all_goals try decide
    all_goals try assumption
    all_goals try omega
  try simp only [Act.put, gA, gS, gZ, sA, sZ, sS]
  refine tk 14 (.pointer (some ⟨w.heap.size, 10, none⟩)) rfl (.inl ⟨by rfl, ?_⟩) ?_
  · intro w9 hSw
    try dsimp only at hSw
    go_simp
    all_goals try decide
    all_goals try assumption
    all_goals try omega
  try simp only [Act.put, gA, gS, gZ, sA, sZ, sS]
  refine tk 15 (.bool false) rfl (.inl ⟨by rfl, ?_⟩) ?_
  · intro w9 hSw
    try dsimp only at hSw
    have c0 : w9.cell? ⟨w.heap.size, 10, none⟩ = some (.bool false) := by rw [cell_of_row _ _ 10 _ _ _ hSw.2.2]; rfl
    go_simp
    all_goals try assumption
  try simp only [Act.put, gA, gS, gZ, sA, sZ, sS]
  refine tk 16 (.bool true) rfl (.inl ⟨by rfl, ?_⟩) ?_
  · intro w9 hSw
    try dsimp only at hSw
    go_simp
    all_goals try decide
    all_goals try assumption
    all_goals try omega
  try simp only [Act.put, gA, gS, gZ, sA, sZ, sS]
  refine tk 17 (.bool true) rfl (.inl ⟨by rfl, ?_⟩) ?_
  · intro w9 hSw
    try dsimp only at hSw
    go_simp
    all_goals try decide
    all_goals try assumption
    all_goals try omega
  try simp only [Act.put, gA, gS, gZ, sA, sZ, sS]
  refine tk 18 (.bool true) rfl (.inl ⟨by rfl, ?_⟩) ?_
  · intro w9 hSw
    try dsimp only at hSw
    go_simp
    all_goals try decide
    all_goals try assumption
    all_goals try omega
  try simp only [Act.put, gA, gS, gZ, sA, sZ, sS]
  refine tk 19 (.pointer (some ⟨w.heap.size, 1, none⟩)) rfl (.inl ⟨by rfl, ?_⟩) ?_
  · intro w9 hSw
    try dsimp only at hSw
    go_simp
    all_goals try decide
    all_goals try assumption
    all_goals try omega
  try simp only [Act.put, gA, gS, gZ, sA, sZ, sS]
  refine tk 20 (.int .i64 8) rfl (.inl ⟨by rfl, ?_⟩) ?_
  · intro w9 hSw
    try dsimp only at hSw
    have c0 : w9.cell? ⟨w.heap.size, 1, none⟩ = some (.int .i64 8) := by rw [cell_of_row _ _ 1 _ _ _ hSw.2.2]; rfl
    go_simp
    all_goals try assumption
  try simp only [Act.put, gA, gS, gZ, sA, sZ, sS]
  refine tk 21 (.bool true) rfl (.inl ⟨by rfl, ?_⟩) ?_
  · intro w9 hSw
    try dsimp only at hSw
    go_simp
    all_goals try decide
    all_goals try assumption
    all_goals try omega
  try simp only [Act.put, gA, gS, gZ, sA, sZ, sS]
  refine tk 22 (.bool true) rfl (.inl ⟨by rfl, ?_⟩) ?_
  · intro w9 hSw
    try dsimp only at hSw
    go_simp
    all_goals try decide
    all_goals try assumption
    all_goals try omega
  try simp only [Act.put, gA, gS, gZ, sA, sZ, sS]
  refine tk 23 (.bool true) rfl (.inl ⟨by rfl, ?_⟩) ?_
  · intro w9 hSw
    try dsimp only at hSw
    go_simp
    all_goals try decide
    all_goals try assumption
    all_goals try omega
  try simp only [Act.put, gA, gS, gZ, sA, sZ, sS]
  refine wpAnyH_done (by kernel_rfl) ?_ _
  go_wp2_with fail
  go_ret
  exact ⟨rfl, hHeld.1⟩

set_option linter.unusedSimpArgs false in
set_option maxHeartbeats 4000000 in
set_option maxRecDepth 100000 in
theorem lask_at (k i s : Int) (z : Bool) (n : Int) (q : Bool) (a2 : Option Addr) (len2 cap2 : Nat) (t l c : Bool) (b e u m o : Int) (b0 b1 b2 b3 b4 b5 b6 b7 : Int) (w : World)
    (HB : Hid (∀ W, Below w.heap.size w W → Calls Tryz.prog 36 #[cmV k i s z n q a2 len2 cap2 t l c b e u m o] W fun e w' => e = .returned (.tuple #[arr8 b0 b1 b2 b3 b4 b5 b6 b7, .int .i64 0]) ∧ Below W.heap.size W w')) :
    Calls Tryz.prog 18 #[cmV k i s z n q a2 len2 cap2 t l c b e u m o] w fun e w' => e = .returned (frV 1541 8 b0 b1 b2 b3 b4 b5 b6 b7 false) ∧ Below w.heap.size w w' := by
  go_enter Tryz.func18, Tryz.ntmps18
  go_wp2_with (refine wpList_load_by rfl 61 _ rfl ⟨w.heap.size, 0, none⟩ _ rfl (loadCM _ _ k i s z n q a2 len2 cap2 t l c b e u m o _ (ext11 (at11 _ _ _ rfl))) ?_)
  with_reducible refine (HB.out _ (by repeat (first | exact Below.refl _ _ | apply Below.drew | apply Below.al))).mono ?_
  rintro r w1 ⟨rfl, hb⟩
  have B1 : Hid (Below w.heap.size w w1) := Below.andThen (by repeat (first | exact Below.refl _ _ | apply Below.drew | apply Below.al)) hb
  have RX1 : Hid (w1.heap[w.heap.size + 1]? = some (.cells (frC 0 0 0 0 0 0 0 0 0 0 false) 25 (0, 0))) := blk11 hb (at11 _ _ _ (by simp))
  have lr : w.heap.size + 1 < w1.heap.size := lt_of_heap RX1.out
  clear hb
  go_wp2_with (first | (refine wpList_load_by rfl 23 _ rfl ⟨w1.heap.size, 0, none⟩ _ rfl (load8 _ _ b0 b1 b2 b3 b4 b5 b6 b7 _ (at11 _ _ _ rfl)) ?_) | (refine wpList_store_by rfl 25 _ _ rfl ⟨w.heap.size + 1, 0, none⟩ _ rfl rfl (storeF _ _ _ 1541 8 b0 b1 b2 b3 b4 b5 b6 b7 false _ (ext11 RX1.out) rfl) ?_))
  have hc := fun j => cell_of_row _ (w.heap.size + 1) j _ _ _ (setRow_heap _ _ _ (frC 1541 8 b0 b1 b2 b3 b4 b5 b6 b7 false) _ _ (ext11 (o := .cells (ar8 b0 b1 b2 b3 b4 b5 b6 b7) 23) RX1.out))
  refine bodyPost_ret (v := frV 1541 8 b0 b1 b2 b3 b4 b5 b6 b7 false) ?_ rfl ⟨rfl, below_setRow (Below.al B1.out _) (Nat.le_succ _) _⟩
  simp [results, Tryz.results18, go_sem, hc]


set_option linter.unusedSimpArgs false in
set_option maxHeartbeats 4000000 in
set_option maxRecDepth 100000 in
theorem lans_at (k i s : Int) (z : Bool) (n : Int) (q : Bool) (a2 : Option Addr) (len2 cap2 : Nat) (t l c : Bool) (b e u m o : Int) (b0 b1 b2 b3 b4 b5 b6 b7 : Int) (w : World)
    (HB : Hid (∀ W, Below w.heap.size w W → Calls Tryz.prog 37 #[cmV k i s z n q a2 len2 cap2 t l c b e u m o] W fun e w' => e = .returned (.tuple #[arr8 b0 b1 b2 b3 b4 b5 b6 b7, .int .i64 0]) ∧ Below W.heap.size W w')) :
    Calls Tryz.prog 19 #[cmV k i s z n q a2 len2 cap2 t l c b e u m o] w fun e w' => e = .returned (frV 1413 8 b0 b1 b2 b3 b4 b5 b6 b7 false) ∧ Below w.heap.size w w' := by
  go_enter Tryz.func19, Tryz.ntmps19
  go_wp2_with (refine wpList_load_by rfl 61 _ rfl ⟨w.heap.size, 0, none⟩ _ rfl (loadCM _ _ k i s z n q a2 len2 cap2 t l c b e u m o _ (ext11 (at11 _ _ _ rfl))) ?_)
  with_reducible refine (HB.out _ (by repeat (first | exact Below.refl _ _ | apply Below.drew | apply Below.al))).mono ?_
  rintro r w1 ⟨rfl, hb⟩
  have B1 : Hid (Below w.heap.size w w1) := Below.andThen (by repeat (first | exact Below.refl _ _ | apply Below.drew | apply Below.al)) hb
  have RX1 : Hid (w1.heap[w.heap.size + 1]? = some (.cells (frC 0 0 0 0 0 0 0 0 0 0 false) 25 (0, 0))) := blk11 hb (at11 _ _ _ (by simp))
  have lr : w.heap.size + 1 < w1.heap.size := lt_of_heap RX1.out
  clear hb
  go_wp2_with (first | (refine wpList_load_by rfl 23 _ rfl ⟨w1.heap.size, 0, none⟩ _ rfl (load8 _ _ b0 b1 b2 b3 b4 b5 b6 b7 _ (at11 _ _ _ rfl)) ?_) | (refine wpList_store_by rfl 25 _ _ rfl ⟨w.heap.size + 1, 0, none⟩ _ rfl rfl (storeF _ _ _ 1413 8 b0 b1 b2 b3 b4 b5 b6 b7 false _ (ext11 RX1.out) rfl) ?_))
  have hc := fun j => cell_of_row _ (w.heap.size + 1) j _ _ _ (setRow_heap _ _ _ (frC 1413 8 b0 b1 b2 b3 b4 b5 b6 b7 false) _ _ (ext11 (o := .cells (ar8 b0 b1 b2 b3 b4 b5 b6 b7) 23) RX1.out))
  refine bodyPost_ret (v := frV 1413 8 b0 b1 b2 b3 b4 b5 b6 b7 false) ?_ rfl ⟨rfl, below_setRow (Below.al B1.out _) (Nat.le_succ _) _⟩
  simp [results, Tryz.results19, go_sem, hc]

end Go.Proofs.YtimnpdegoehblaaGreatDoor
