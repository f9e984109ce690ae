/-
  A client's first commands; a command's frame.
-/
import Derived.Test.YtenfbebdfodmdaaUb
import Derived.Deep.RegionHeld3
import Derived.Test.YtenfbebdfodmdaaTk9
namespace Go.Proofs.Ytenfbebdfodmdaa
open Go.RowKit

/-- The time that a now counts as. -/
def tmN (n : Int) : Int := if n < 0 then 0 else if 1099511627776 < n then 1099511627776 else n
set_option linter.unusedSimpArgs false in
set_option maxHeartbeats 4000000 in
set_option maxRecDepth 100000 in
theorem timeOf_any (n : Int) (w : World) : Calls Try.prog 20 #[.int .i64 n] w fun e w' => e = .returned (.int .i64 (tmN n)) ∧ w' = w := by
  by_cases h1 : n < 0
  · have e : tmN n = 0 := if_pos h1
    rw [e]
    have m1 : max n 0 = 0 := by omega
    go_enter Try.func20, Try.ntmps20
    go_wp2_with fail
    go_ret
    exact ⟨rfl, rfl⟩
  · by_cases h2 : 1099511627776 < n
    · have e : tmN n = 1099511627776 := by simp only [tmN, if_neg h1, if_pos h2]
      rw [e]
      have m1 : max n 0 = n := by omega
      have m2 : min n 1099511627776 = 1099511627776 := by omega
      go_enter Try.func20, Try.ntmps20
      go_wp2_with fail
      go_ret
      exact ⟨rfl, rfl⟩
    · have e : tmN n = n := by simp only [tmN, if_neg h1, if_neg h2]
      rw [e]
      have m1 : max n 0 = n := by omega
      have m2 : min n 1099511627776 = n := by omega
      go_enter Try.func20, Try.ntmps20
      go_wp2_with fail
      go_ret
      exact ⟨rfl, rfl⟩

set_option linter.unusedSimpArgs false in
set_option maxHeartbeats 4000000 in
set_option maxRecDepth 100000 in
theorem firstOfWrite_quick (i s : Int) (a : Option Addr) (len cap : Nat) (w : World) (h1 : 1 ≤ len) (h2 : len ≤ 4) :
    Calls Try.prog 15 #[plV i s, .slice a len cap, .int .u8 0] w fun e w' => e = .returned (cmV 1 i s true 0 true a len cap false false false 0 0 0 0 0) ∧ Below w.heap.size w w' := by
  have h1' : 1 ≤ (len : Int) := by omega
  have h2' : (len : Int) ≤ 4 := by omega
  have hw : IntKind.u32.wrap (len : Int) = (len : Int) := by simp [IntKind.wrap, IntKind.bits, IntKind.signed]; omega
  go_enter Try.func15, Try.ntmps15
  go_wp2_with fail
  exact bodyPost_ret (v := cmV 1 i s true 0 true a len cap false false false 0 0 0 0 0) (by simp [results, Try.results15, go_sem]) rfl ⟨rfl, (by repeat (first | exact Below.refl _ _ | apply Below.drew | apply Below.al))⟩

set_option linter.unusedSimpArgs false in
set_option maxHeartbeats 4000000 in
set_option maxRecDepth 100000 in
theorem firstOfRead_auto (i s : Int) (w : World) :
    Calls Try.prog 16 #[plV i s, .int .u8 0] w fun e w' => e = .returned (cmV 3 i s false 0 false none 0 0 false false false 0 0 0 0 0) ∧ Below w.heap.size w w' := by
  go_enter Try.func16, Try.ntmps16
  go_wp2_with fail
  exact bodyPost_ret (v := cmV 3 i s false 0 false none 0 0 false false false 0 0 0 0 0) (by simp [results, Try.results16, go_sem]) rfl ⟨rfl, (by repeat (first | exact Below.refl _ _ | apply Below.drew | apply Below.al))⟩

theorem row8 (W : World) (B : Nat) (b0 b1 b2 b3 b4 b5 b6 b7 : Int) (ho : Oct [b0, b1, b2, b3, b4, b5, b6, b7]) (h : W.heap[B]? = some (.cells (ar8 b0 b1 b2 b3 b4 b5 b6 b7) 23 (0, 0))) : Row W (some ⟨B, 0, none⟩) 8 [b0, b1, b2, b3, b4, b5, b6, b7] where
  size := rfl
  oct := ho
  at_ := fun _ => ⟨B, 0, rfl, fun i hi => by
    have h9 : i = 0 ∨ i = 1 ∨ i = 2 ∨ i = 3 ∨ i = 4 ∨ i = 5 ∨ i = 6 ∨ i = 7 := by omega
    rw [Nat.zero_add, cell_of_row W B i _ _ _ h]
    rcases h9 with rfl | rfl | rfl | rfl | rfl | rfl | rfl | rfl <;> rfl⟩
theorem loadF (w : World) (B : Nat) (id n d0 d1 d2 d3 d4 d5 d6 d7 : Int) (r : Bool) (T : TypeId) (h : w.heap[B]? = some (.cells (frC id n d0 d1 d2 d3 d4 d5 d6 d7 r) T (0, 0))) : (loadVar 25 ⟨B, 0, none⟩).run Try.prog w = .ok (frV id n d0 d1 d2 d3 d4 d5 d6 d7 r) w :=
  load_part 25 11 sizeF aggF w B 0 [.int .u16 id, .int .i64 n, .int .u8 d0, .int .u8 d1, .int .u8 d2, .int .u8 d3, .int .u8 d4, .int .u8 d5, .int .u8 d6, .int .u8 d7, .bool r] T h (by simp)
theorem storeF (w : World) (B : Nat) (C : Array Value) (id n d0 d1 d2 d3 d4 d5 d6 d7 : Int) (r : Bool) (T : TypeId) (h : w.heap[B]? = some (.cells C T (0, 0))) (hC : C.size = 11) : (storeVar 25 ⟨B, 0, none⟩ (frV id n d0 d1 d2 d3 d4 d5 d6 d7 r)).run Try.prog w = .ok () (w.setRow B (frC id n d0 d1 d2 d3 d4 d5 d6 d7 r)) :=
  run_storeVar_row w B T 25 C (frC id n d0 d1 d2 d3 d4 d5 d6 d7 r) h sizeF hC (frC_one _ _ _ _ _ _ _ _ _ _ _)

set_option linter.unusedSimpArgs false in
set_option maxHeartbeats 4000000 in
set_option maxRecDepth 100000 in
theorem frameOf_at (p : Nat) (A wt : Int) (tp rp : Option Addr) (b0 b1 b2 b3 b4 b5 b6 b7 : Int) (w : World) (hp : w.heap[p]? = some (.cells (clC A wt tp rp) 60 (0, 0))) (hA0 : 0 ≤ A) (hA : A ≤ 127) (ho : Oct [b0, b1, b2, b3, b4, b5, b6, b7]) :
    Calls Try.prog 37 #[.pointer (some ⟨p, 0, none⟩), arr8 b0 b1 b2 b3 b4 b5 b6 b7] w fun e w' => e = .returned (frV (1536 + A) 8 b0 b1 b2 b3 b4 b5 b6 b7 false) ∧ Below w.heap.size w w' := by
  have HM : Hid (∀ W B, W.heap[B]? = some (.cells (ar8 b0 b1 b2 b3 b4 b5 b6 b7) 23 (0, 0)) → Calls Try.prog 54 #[.int .u16 (1536 + A), .slice (some ⟨B, 0, none⟩) 8 8] W fun e w' => e = .returned (.tuple #[frV (1536 + A) 8 b0 b1 b2 b3 b4 b5 b6 b7 false, .int .i64 0]) ∧ Below W.heap.size W w') := fun W B h => by
    have := make_any (1536 + A) (some ⟨B, 0, none⟩) 8 8 [b0, b1, b2, b3, b4, b5, b6, b7] W (row8 W B b0 b1 b2 b3 b4 b5 b6 b7 ho h)
    rw [mkR_good _ _ (by omega) (by simp)] at this
    exact this
  have HP : Hid (w.heap[p]? = some (.cells (clC A wt tp rp) 60 (0, 0))) := hp
  have lp : p < w.heap.size := lt_of_heap hp
  clear hp ho
  have hw : IntKind.u16.wrap A = A := by simp [IntKind.wrap, IntKind.bits, IntKind.signed]; omega
  have hw2 : IntKind.u16.wrap (1536 + A) = 1536 + A := by simp [IntKind.wrap, IntKind.bits, IntKind.signed]; omega
  go_enter Try.func37, Try.ntmps37
  go_wp2_with fail
  refine wp_region_held_drew (S := fun x => Below w.heap.size w x ∧ x.heap[p]? = some (.cells (clC A wt tp rp) 60 (0, 0)) ∧ x.heap[w.heap.size]? = some (.cells (ar8 b0 b1 b2 b3 b4 b5 b6 b7) 23 (0, 0)) ∧ x.heap[w.heap.size + 1]? = some (.cells (frC 0 0 0 0 0 0 0 0 0 0 false) 25 (0, 0))) (by kernel_rfl) (⟨Below.drew (by repeat (first | exact Below.refl _ _ | apply Below.drew | apply Below.al)), ext11 (ext11 HP.out), ext11 (at11 _ _ _ rfl), at11 _ _ _ (by simp)⟩) (fun hHeld => ?_)
  refine tk 0 (.pointer (some ⟨p, 0, none⟩)) rfl (.inl ⟨by rfl, ?_⟩) ?_
  · intro w9 hSw
    try dsimp only at hSw
    go_simp
    all_goals try decide
    all_goals try assumption
    all_goals try omega
  try simp only [Act.put, gA, gS, gZ, sA, sZ, sS]
  refine tk 1 (.pointer (some ⟨p, 0, none⟩)) rfl (.inl ⟨by rfl, ?_⟩) ?_
  · intro w9 hSw
    try dsimp only at hSw
    go_simp
    all_goals try decide
    all_goals try assumption
    all_goals try omega
  try simp only [Act.put, gA, gS, gZ, sA, sZ, sS]
  refine tk 2 (.pointer (some ⟨p, 0, none⟩)) rfl (.inl ⟨by rfl, ?_⟩) ?_
  · intro w9 hSw
    try dsimp only at hSw
    go_simp
    all_goals try decide
    all_goals try assumption
    all_goals try omega
  try simp only [Act.put, gA, gS, gZ, sA, sZ, sS]
  refine tk 3 (.int .u8 A) rfl (.inl ⟨by rfl, ?_⟩) ?_
  · intro w9 hSw
    try dsimp only at hSw
    have c0 : w9.cell? ⟨p, 0, none⟩ = some (.int .u8 A) := by rw [cell_of_row _ _ 0 _ _ _ hSw.2.1]; rfl
    go_simp
    all_goals try assumption
  try simp only [Act.put, gA, gS, gZ, sA, sZ, sS]
  refine tk 4 (.int .u16 A) rfl (.inl ⟨by rfl, ?_⟩) ?_
  · intro w9 hSw
    try dsimp only at hSw
    go_simp
    all_goals try decide
    all_goals try assumption
    all_goals try omega
  try simp only [Act.put, gA, gS, gZ, sA, sZ, sS]
  refine tk 5 (.int .u16 (1536 + A)) rfl (.inl ⟨by rfl, ?_⟩) ?_
  · intro w9 hSw
    try dsimp only at hSw
    go_simp
    all_goals try decide
    all_goals try assumption
    all_goals try omega
  try simp only [Act.put, gA, gS, gZ, sA, sZ, sS]
  refine tk 6 (.slice (some ⟨w.heap.size, 0, none⟩) 8 8) rfl (.inl ⟨by rfl, ?_⟩) ?_
  · intro w9 hSw
    try dsimp only at hSw
    go_simp
    all_goals try decide
    all_goals try assumption
    all_goals try omega
  try simp only [Act.put, gA, gS, gZ, sA, sZ, sS]
  refine wpAnyH_ready (rs := [7, 11]) (by kernel_rfl) (by simp) ?_
  refine AllReadyH.cons rfl (fun K' hK => ?_) (AllReadyH.cons rfl (fun K' hK => ?_) AllReadyH.nil)
  · rw [if_pos (by rfl)]
    simp only [gA, gS, gZ]
    go_wp2_with fail
    refine (HM.out _ _ hHeld.2.2.1).mono ?_
    rintro e z ⟨rfl, hbx⟩
    try go_wp2_with fail
    refine hK.out _ _ (⟨Below.andThen hHeld.1 hbx, blk11 hbx hHeld.2.1, blk11 hbx hHeld.2.2.1, blk11 hbx hHeld.2.2.2⟩) (fun hHeld => ?_)
    clear hK K'
    try simp only [Act.put, gA, gS, gZ, sA, sZ, sS]
    refine tk 8 (.tuple #[frV (1536 + A) 8 b0 b1 b2 b3 b4 b5 b6 b7 false, .int .i64 0]) rfl (.inl ⟨by rfl, ?_⟩) ?_
    · intro w9 hSw
      try dsimp only at hSw
      go_simp
      all_goals try decide
      all_goals try assumption
      all_goals try omega
    try simp only [Act.put, gA, gS, gZ, sA, sZ, sS]
    refine tk 9 (frV (1536 + A) 8 b0 b1 b2 b3 b4 b5 b6 b7 false) rfl (.inl ⟨by rfl, ?_⟩) ?_
    · intro w9 hSw
      try dsimp only at hSw
      go_simp
      all_goals try decide
      all_goals try assumption
      all_goals try omega
    try simp only [Act.put, gA, gS, gZ, sA, sZ, sS]
    refine tk 10 (.int .i64 0) rfl (.inl ⟨by rfl, ?_⟩) ?_
    · intro w9 hSw
      try dsimp only at hSw
      go_simp
      all_goals try decide
      all_goals try assumption
      all_goals try omega
    try simp only [Act.put, gA, gS, gZ, sA, sZ, sS]
    have hz := (Array.getElem?_eq_some_iff.1 hHeld.2.2.2).1
    refine wpAnyH_ready (rs := [11]) (by kernel_rfl) (by simp) ?_
    refine AllReadyH.cons rfl (fun K' hK => ?_) AllReadyH.nil
    rw [if_pos (by rfl)]
    simp only [gA, gS, gZ]
    go_wp2_with fail
    refine hK.out _ _ (⟨Below.al hHeld.1 _, ext11 hHeld.2.1, ext11 hHeld.2.2.1, ext11 hHeld.2.2.2⟩) (fun hHeld => ?_)
    clear hK K'
    try simp only [Act.put, gA, gS, gZ, sA, sZ, sS]
    refine wpAnyH_ready (rs := [12]) (by kernel_rfl) (by simp) ?_
    refine AllReadyH.cons rfl (fun K' hK => ?_) AllReadyH.nil
    rw [if_pos (by rfl)]
    simp only [gA, gS, gZ]
    refine wp_store_by 25 _ _ rfl ⟨z.heap.size, 0, none⟩ _ rfl rfl (storeF _ _ _ (1536 + A) 8 b0 b1 b2 b3 b4 b5 b6 b7 false _ (at11 z (.cells (frC 0 0 0 0 0 0 0 0 0 0 false) 25) _ rfl) rfl) ?_
    refine hK.out _ _ (⟨below_setRow hHeld.1 (by omega) _, (setRow_other _ _ _ _ (by omega)).trans hHeld.2.1, (setRow_other _ _ _ _ (by omega)).trans hHeld.2.2.1, (setRow_other _ _ _ _ (by omega)).trans hHeld.2.2.2⟩) (fun hHeld => ?_)
    clear hK K'
    try simp only [Act.put, gA, gS, gZ, sA, sZ, sS]
    refine tk 13 (.int .i64 0) rfl (.inl ⟨by rfl, ?_⟩) ?_
    · intro w9 hSw
      try dsimp only at hSw
      go_simp
      all_goals try decide
      all_goals try assumption
      all_goals try omega
    try simp only [Act.put, gA, gS, gZ, sA, sZ, sS]
    refine wpAnyH_done (by kernel_rfl) ?_ _
    have hG2 := setRow_heap _ _ _ (frC (1536 + A) 8 b0 b1 b2 b3 b4 b5 b6 b7 false) _ _ (at11 z (.cells (frC 0 0 0 0 0 0 0 0 0 0 false) 25) _ rfl)
    go_wp2_with (first | (refine wpList_load_by rfl 25 _ rfl ⟨z.heap.size, 0, none⟩ _ rfl (loadF _ _ (1536 + A) 8 b0 b1 b2 b3 b4 b5 b6 b7 false _ hG2) ?_) | (refine wpList_store_by rfl 25 _ _ rfl ⟨w.heap.size + 1, 0, none⟩ _ rfl rfl (storeF _ _ _ (1536 + A) 8 b0 b1 b2 b3 b4 b5 b6 b7 false _ hHeld.2.2.2 rfl) ?_))
    have hc := fun j => cell_of_row _ (w.heap.size + 1) j _ _ _ (setRow_heap _ _ _ (frC (1536 + A) 8 b0 b1 b2 b3 b4 b5 b6 b7 false) _ _ hHeld.2.2.2)
    refine bodyPost_ret (v := frV (1536 + A) 8 b0 b1 b2 b3 b4 b5 b6 b7 false) ?_ rfl ⟨rfl, below_setRow hHeld.1 (Nat.le_succ _) _⟩
    simp [results, Try.results37, go_sem, hc]
  · rw [if_pos (by rfl)]
    simp only [gA, gS, gZ]
    go_wp2_with fail
    refine hK.out _ _ (⟨Below.al hHeld.1 _, ext11 hHeld.2.1, ext11 hHeld.2.2.1, ext11 hHeld.2.2.2⟩) (fun hHeld => ?_)
    clear hK K'
    try simp only [Act.put, gA, gS, gZ, sA, sZ, sS]
    refine wpAnyH_ready (rs := [7]) (by kernel_rfl) (by simp) ?_
    refine AllReadyH.cons rfl (fun K' hK => ?_) AllReadyH.nil
    rw [if_pos (by rfl)]
    simp only [gA, gS, gZ]
    go_wp2_with fail
    refine (HM.out _ _ hHeld.2.2.1).mono ?_
    rintro e z ⟨rfl, hbx⟩
    have hG := blk11 hbx (at11 _ _ (w.heap.size + 1 + 1) (by simp))
    try go_wp2_with fail
    refine hK.out _ _ (⟨Below.andThen hHeld.1 hbx, blk11 hbx hHeld.2.1, blk11 hbx hHeld.2.2.1, blk11 hbx hHeld.2.2.2⟩) (fun hHeld => ?_)
    clear hK K'
    try simp only [Act.put, gA, gS, gZ, sA, sZ, sS]
    refine tk 8 (.tuple #[frV (1536 + A) 8 b0 b1 b2 b3 b4 b5 b6 b7 false, .int .i64 0]) rfl (.inl ⟨by rfl, ?_⟩) ?_
    · intro w9 hSw
      try dsimp only at hSw
      go_simp
      all_goals try decide
      all_goals try assumption
      all_goals try omega
    try simp only [Act.put, gA, gS, gZ, sA, sZ, sS]
    refine tk 9 (frV (1536 + A) 8 b0 b1 b2 b3 b4 b5 b6 b7 false) rfl (.inl ⟨by rfl, ?_⟩) ?_
    · intro w9 hSw
      try dsimp only at hSw
      go_simp
      all_goals try decide
      all_goals try assumption
      all_goals try omega
    try simp only [Act.put, gA, gS, gZ, sA, sZ, sS]
    refine tk 10 (.int .i64 0) rfl (.inl ⟨by rfl, ?_⟩) ?_
    · intro w9 hSw
      try dsimp only at hSw
      go_simp
      all_goals try decide
      all_goals try assumption
      all_goals try omega
    try simp only [Act.put, gA, gS, gZ, sA, sZ, sS]
    refine wpAnyH_ready (rs := [12]) (by kernel_rfl) (by simp) ?_
    refine AllReadyH.cons rfl (fun K' hK => ?_) AllReadyH.nil
    rw [if_pos (by rfl)]
    simp only [gA, gS, gZ]
    refine wp_store_by 25 _ _ rfl ⟨(w.heap.size + 1 + 1), 0, none⟩ _ rfl rfl (storeF _ _ _ (1536 + A) 8 b0 b1 b2 b3 b4 b5 b6 b7 false _ (hG) rfl) ?_
    refine hK.out _ _ (⟨below_setRow hHeld.1 (by omega) _, (setRow_other _ _ _ _ (by omega)).trans hHeld.2.1, (setRow_other _ _ _ _ (by omega)).trans hHeld.2.2.1, (setRow_other _ _ _ _ (by omega)).trans hHeld.2.2.2⟩) (fun hHeld => ?_)
    clear hK K'
    try simp only [Act.put, gA, gS, gZ, sA, sZ, sS]
    refine tk 13 (.int .i64 0) rfl (.inl ⟨by rfl, ?_⟩) ?_
    · intro w9 hSw
      try dsimp only at hSw
      go_simp
      all_goals try decide
      all_goals try assumption
      all_goals try omega
    try simp only [Act.put, gA, gS, gZ, sA, sZ, sS]
    refine wpAnyH_done (by kernel_rfl) ?_ _
    have hG2 := setRow_heap _ _ _ (frC (1536 + A) 8 b0 b1 b2 b3 b4 b5 b6 b7 false) _ _ (hG)
    go_wp2_with (first | (refine wpList_load_by rfl 25 _ rfl ⟨(w.heap.size + 1 + 1), 0, none⟩ _ rfl (loadF _ _ (1536 + A) 8 b0 b1 b2 b3 b4 b5 b6 b7 false _ hG2) ?_) | (refine wpList_store_by rfl 25 _ _ rfl ⟨w.heap.size + 1, 0, none⟩ _ rfl rfl (storeF _ _ _ (1536 + A) 8 b0 b1 b2 b3 b4 b5 b6 b7 false _ hHeld.2.2.2 rfl) ?_))
    have hc := fun j => cell_of_row _ (w.heap.size + 1) j _ _ _ (setRow_heap _ _ _ (frC (1536 + A) 8 b0 b1 b2 b3 b4 b5 b6 b7 false) _ _ hHeld.2.2.2)
    refine bodyPost_ret (v := frV (1536 + A) 8 b0 b1 b2 b3 b4 b5 b6 b7 false) ?_ rfl ⟨rfl, below_setRow hHeld.1 (Nat.le_succ _) _⟩
    simp [results, Try.results37, go_sem, hc]
end Go.Proofs.Ytenfbebdfodmdaa
