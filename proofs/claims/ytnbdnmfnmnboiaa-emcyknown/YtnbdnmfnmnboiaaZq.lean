/-
  The document's Tick.
-/
import Derived.Test.YtnbdnmfnmnboiaaZp
import Derived.Test.YtnbdnmfnmnboiaaZj
import Derived.Test.YtnbdnmfnmnboiaaTk9
namespace Go.Proofs.Ytnbdnmfnmnboiaa
open Go.RowKit

theorem IsD.pop {w w' : World} {q g cap : Nat} {sv fv wv : Value} {S : ES} {t : Int} (h : IsD w q sv fv wv S t) (hg : wv.ownBlock = some g) (now : Int) (hn : tmB now = true) (hb : Below w.heap.size w w') {o' : Nat} (hO : OwnAt w 40 11 g o' (S.ws.length - 1) cap (flw S.A S.ws.tail)) :
    IsD (((w'.setCell ⟨q, 4, none⟩ (.slice (some ⟨g, o', none⟩) (S.ws.length - 1) cap)).setCell ⟨q, 5, none⟩ (.bool true)).setCell ⟨q, 6, none⟩ (.int .i64 now)) q sv fv (.slice (some ⟨g, o', none⟩) (S.ws.length - 1) cap) (S.popped now) now := by
  have hq : w'.heap[q]? = some (.cells #[.int .u8 S.A, .int .i64 S.I, sv, fv, wv, .bool S.told, .int .i64 t] 69 (0, 0)) := blk11 hb h.head
  have kk : Kp [q] w (((w'.setCell ⟨q, 4, none⟩ (.slice (some ⟨g, o', none⟩) (S.ws.length - 1) cap)).setCell ⟨q, 5, none⟩ (.bool true)).setCell ⟨q, 6, none⟩ (.int .i64 now)) := (((Kp.of hb).set _ _ (.inl (by simp))).set _ _ (.inl (by simp))).set _ _ (.inl (by simp))
  have hgq : g ≠ q := fun e => h.ws.ne h.head (by decide) (by rw [hg, e])
  have hb2 := tmB_of hn
  refine ⟨?_, ?_, ?_, ?_, popped_ok h.ok now hn, fun _ => rfl, hb2.1, hb2.2⟩
  · exact heap_setCell_same _ _ 6 _ _ _ (heap_setCell_same _ _ 5 _ _ _ (heap_setCell_same _ _ 4 _ _ _ hq))
  · exact h.st.kp kk (fun b hb => by have h1 := h.st.ne h.head (by decide); rw [hb] at h1; simpa using h1)
  · exact h.fs.kp kk (fun b hb => by have h1 := h.fs.ne h.head (by decide); rw [hb] at h1; simpa using h1)
  · have e : (S.popped now).ws.length = S.ws.length - 1 := by simp [ES.popped]
    show Own _ 40 11 _ (S.popped now).ws.length (flw S.A S.ws.tail)
    rw [e]
    refine Own.at_of (hO.same ?_)
    exact kk.block g hO.lt (by simpa using hgq)
set_option linter.unusedSimpArgs false in
set_option maxHeartbeats 4000000 in
set_option maxRecDepth 100000 in
theorem rtick_time {w : World} {q : Nat} {sv fv wv : Value} {S : ES} {t : Int} (h : IsD w q sv fv wv S t) (now : Int) (ht : tmB now = false) : Calls Try.prog 28 #[.pointer (some ⟨q, 0, none⟩), .int .i64 now] w fun e w' => e = .returned (.tuple #[zeroF, .bool false]) ∧ Below w.heap.size w w' := by
  obtain ⟨y, hy⟩ : ∃ y, y = w.alloc zFb := ⟨_, rfl⟩
  have K0 : Below w.heap.size w y := by rw [hy]; exact (by repeat (first | exact Below.refl _ _ | apply Below.drew | apply Below.al))
  have HY := h.next K0
  have f4 : y.heap[w.heap.size]? = some (.cells (frC 0 0 0 0 0 0 0 0 0 0 false) 40 (0, 0)) := by rw [hy]; exact at11 _ _ _ rfl
  have TM := fun W => time_any now W
  have y4 : y.cell? ⟨q, 4, none⟩ = some wv := HY.cell 4 wv rfl
  have y5 := HY.c5
  have y6 := HY.c6
  have y1 := HY.c1
  have lq := HY.lt
  obtain ⟨N, hN⟩ : ∃ N, Hid (N = S.ws.length) := ⟨_, rfl⟩
  obtain ⟨aw, cw, hwv⟩ : ∃ a cap, wv = .slice a N cap := by rw [hN.out]; exact h.ws.form
  rw [ht] at TM
  subst hwv
  clear h HY
  go_enter Try.func28, Try.ntmps28
  go_wp2_with fail
  rw [← hy]
  clear hy
  refine wp_region_held_drew (S := fun x1 => Below y.heap.size y x1 ∧ x1.cell? ⟨q, 4, none⟩ = some (.slice aw N cw) ∧ x1.cell? ⟨q, 5, none⟩ = some (.bool S.told) ∧ x1.cell? ⟨q, 6, none⟩ = some (.int .i64 t) ∧ x1.cell? ⟨q, 1, none⟩ = some (.int .i64 S.I)) (by kernel_rfl) (⟨Below.drew (Below.refl _ _), y4, y5, y6, y1⟩) (fun hHeld => ?_)
  refine tk 0 (.int .i64 now) rfl (.inl ⟨by rfl, ?_⟩) ?_
  · intro w9 hSw
    try dsimp only at hSw
    go_simp
    all_goals try decide
    all_goals try assumption
    all_goals try omega
  try simp only [Act.put, gA, gS, gZ, sA, sZ, sS]
  refine wpAnyH_ready (rs := [1]) (by kernel_rfl) (by simp) ?_
  refine AllReadyH.cons rfl (fun K' hK => ?_) AllReadyH.nil
  rw [if_pos (by rfl)]
  simp only [gA, gS, gZ]
  obtain ⟨S0, S1, S2, S3, S4⟩ := hHeld
  go_wp2_with fail
  refine (TM _).mono ?_
  rintro e w1 ⟨rfl, rfl⟩
  try go_wp2_with fail
  refine hK.out _ _ (⟨S0, S1, S2, S3, S4⟩) (fun hHeld => ?_)
  clear hK K'
  try simp only [Act.put, gA, gS, gZ, sA, sZ, sS]
  refine tk 2 (.bool true) rfl (.inl ⟨by rfl, ?_⟩) ?_
  · intro w9 hSw
    try dsimp only at hSw
    go_simp
    all_goals try decide
    all_goals try assumption
    all_goals try omega
  try simp only [Act.put, gA, gS, gZ, sA, sZ, sS]
  refine tk 3 (.bool true) rfl (.inl ⟨by rfl, ?_⟩) ?_
  · intro w9 hSw
    try dsimp only at hSw
    go_simp
    all_goals try decide
    all_goals try assumption
    all_goals try omega
  try simp only [Act.put, gA, gS, gZ, sA, sZ, sS]
  refine tk 4 undef rfl (.inr ⟨by rfl, rfl⟩) ?_
  try simp only [Act.put, gA, gS, gZ, sA, sZ, sS]
  refine tk 5 undef rfl (.inr ⟨by rfl, rfl⟩) ?_
  try simp only [Act.put, gA, gS, gZ, sA, sZ, sS]
  refine tk 6 undef rfl (.inr ⟨by rfl, rfl⟩) ?_
  try simp only [Act.put, gA, gS, gZ, sA, sZ, sS]
  refine tk 7 undef rfl (.inr ⟨by rfl, rfl⟩) ?_
  try simp only [Act.put, gA, gS, gZ, sA, sZ, sS]
  refine tk 8 undef rfl (.inr ⟨by rfl, rfl⟩) ?_
  try simp only [Act.put, gA, gS, gZ, sA, sZ, sS]
  refine tk 9 undef rfl (.inr ⟨by rfl, rfl⟩) ?_
  try simp only [Act.put, gA, gS, gZ, sA, sZ, sS]
  refine tk 10 (.bool true) rfl (.inl ⟨by rfl, ?_⟩) ?_
  · intro w9 hSw
    try dsimp only at hSw
    go_simp
    all_goals try decide
    all_goals try assumption
    all_goals try omega
  try simp only [Act.put, gA, gS, gZ, sA, sZ, sS]
  refine tk 11 (.bool true) rfl (.inl ⟨by rfl, ?_⟩) ?_
  · intro w9 hSw
    try dsimp only at hSw
    go_simp
    all_goals try decide
    all_goals try assumption
    all_goals try omega
  try simp only [Act.put, gA, gS, gZ, sA, sZ, sS]
  refine tk 12 undef rfl (.inr ⟨by rfl, rfl⟩) ?_
  try simp only [Act.put, gA, gS, gZ, sA, sZ, sS]
  refine tk 13 undef rfl (.inr ⟨by rfl, rfl⟩) ?_
  try simp only [Act.put, gA, gS, gZ, sA, sZ, sS]
  refine tk 14 undef rfl (.inr ⟨by rfl, rfl⟩) ?_
  try simp only [Act.put, gA, gS, gZ, sA, sZ, sS]
  refine tk 15 undef rfl (.inr ⟨by rfl, rfl⟩) ?_
  try simp only [Act.put, gA, gS, gZ, sA, sZ, sS]
  refine tk 16 undef rfl (.inr ⟨by rfl, rfl⟩) ?_
  try simp only [Act.put, gA, gS, gZ, sA, sZ, sS]
  refine tk 17 undef rfl (.inr ⟨by rfl, rfl⟩) ?_
  try simp only [Act.put, gA, gS, gZ, sA, sZ, sS]
  refine tk 18 undef rfl (.inr ⟨by rfl, rfl⟩) ?_
  try simp only [Act.put, gA, gS, gZ, sA, sZ, sS]
  refine tk 19 undef rfl (.inr ⟨by rfl, rfl⟩) ?_
  try simp only [Act.put, gA, gS, gZ, sA, sZ, sS]
  refine tk 20 undef rfl (.inr ⟨by rfl, rfl⟩) ?_
  try simp only [Act.put, gA, gS, gZ, sA, sZ, sS]
  refine tk 21 undef rfl (.inr ⟨by rfl, rfl⟩) ?_
  try simp only [Act.put, gA, gS, gZ, sA, sZ, sS]
  refine tk 22 undef rfl (.inr ⟨by rfl, rfl⟩) ?_
  try simp only [Act.put, gA, gS, gZ, sA, sZ, sS]
  refine tk 23 undef rfl (.inr ⟨by rfl, rfl⟩) ?_
  try simp only [Act.put, gA, gS, gZ, sA, sZ, sS]
  refine tk 24 undef rfl (.inr ⟨by rfl, rfl⟩) ?_
  try simp only [Act.put, gA, gS, gZ, sA, sZ, sS]
  refine tk 25 undef rfl (.inr ⟨by rfl, rfl⟩) ?_
  try simp only [Act.put, gA, gS, gZ, sA, sZ, sS]
  refine tk 26 undef rfl (.inr ⟨by rfl, rfl⟩) ?_
  try simp only [Act.put, gA, gS, gZ, sA, sZ, sS]
  refine tk 27 undef rfl (.inr ⟨by rfl, rfl⟩) ?_
  try simp only [Act.put, gA, gS, gZ, sA, sZ, sS]
  refine tk 28 undef rfl (.inr ⟨by rfl, rfl⟩) ?_
  try simp only [Act.put, gA, gS, gZ, sA, sZ, sS]
  refine tk 29 undef rfl (.inr ⟨by rfl, rfl⟩) ?_
  try simp only [Act.put, gA, gS, gZ, sA, sZ, sS]
  refine tk 30 undef rfl (.inr ⟨by rfl, rfl⟩) ?_
  try simp only [Act.put, gA, gS, gZ, sA, sZ, sS]
  refine tk 31 undef rfl (.inr ⟨by rfl, rfl⟩) ?_
  try simp only [Act.put, gA, gS, gZ, sA, sZ, sS]
  refine tk 32 undef rfl (.inr ⟨by rfl, rfl⟩) ?_
  try simp only [Act.put, gA, gS, gZ, sA, sZ, sS]
  refine tk 33 undef rfl (.inr ⟨by rfl, rfl⟩) ?_
  try simp only [Act.put, gA, gS, gZ, sA, sZ, sS]
  refine tk 34 undef rfl (.inr ⟨by rfl, rfl⟩) ?_
  try simp only [Act.put, gA, gS, gZ, sA, sZ, sS]
  refine tk 35 undef rfl (.inr ⟨by rfl, rfl⟩) ?_
  try simp only [Act.put, gA, gS, gZ, sA, sZ, sS]
  refine tk 36 undef rfl (.inr ⟨by rfl, rfl⟩) ?_
  try simp only [Act.put, gA, gS, gZ, sA, sZ, sS]
  refine tk 37 (.bool true) rfl (.inl ⟨by rfl, ?_⟩) ?_
  · intro w9 hSw
    try dsimp only at hSw
    go_simp
    all_goals try decide
    all_goals try assumption
    all_goals try omega
  try simp only [Act.put, gA, gS, gZ, sA, sZ, sS]
  refine wpAnyH_done (by kernel_rfl) ?_ _
  have B9 : Hid (Below w.heap.size w y.drew) := K0.drew
  clear hHeld y4 y5 y6 y1 TM
  have f4d : y.drew.heap[w.heap.size]? = some (.cells (frC 0 0 0 0 0 0 0 0 0 0 false) 40 (0, 0)) := f4
  generalize hz : y.drew = z at f4d B9 ⊢
  clear hz f4
  go_wp2_with (refine wpList_store_row rfl 40 _ _ rfl w.heap.size (frC 0 0 0 0 0 0 0 0 0 0 false) rfl rfl 40 _ f4d infoF rfl (frC_one _ _ _ _ _ _ _ _ _ _ _) ?_)
  have hc := fun j => cell_of_row _ w.heap.size j _ _ _ (setRow_heap _ _ _ (frC 0 0 0 0 0 0 0 0 0 0 false) _ _ f4d)
  refine bodyPost_ret (v := .tuple #[zeroF, .bool false]) ?_ rfl ⟨rfl, below_setRow B9.out (Nat.le_refl _) _⟩
  simp [results, Try.results28, go_sem, hc]
set_option linter.unusedSimpArgs false in
set_option maxHeartbeats 4000000 in
set_option maxRecDepth 100000 in
theorem rtick_empty {w : World} {q : Nat} {sv fv wv : Value} {S : ES} {t : Int} (h : IsD w q sv fv wv S t) (now : Int) (ht : tmB now = true) (h0 : S.ws = []) : Calls Try.prog 28 #[.pointer (some ⟨q, 0, none⟩), .int .i64 now] w fun e w' => e = .returned (.tuple #[zeroF, .bool false]) ∧ Below w.heap.size w w' := by
  obtain ⟨y, hy⟩ : ∃ y, y = w.alloc zFb := ⟨_, rfl⟩
  have K0 : Below w.heap.size w y := by rw [hy]; exact (by repeat (first | exact Below.refl _ _ | apply Below.drew | apply Below.al))
  have HY := h.next K0
  have f4 : y.heap[w.heap.size]? = some (.cells (frC 0 0 0 0 0 0 0 0 0 0 false) 40 (0, 0)) := by rw [hy]; exact at11 _ _ _ rfl
  have TM := fun W => time_any now W
  have y4 : y.cell? ⟨q, 4, none⟩ = some wv := HY.cell 4 wv rfl
  have y5 := HY.c5
  have y6 := HY.c6
  have y1 := HY.c1
  have lq := HY.lt
  obtain ⟨N, hN⟩ : ∃ N, Hid (N = S.ws.length) := ⟨_, rfl⟩
  obtain ⟨aw, cw, hwv⟩ : ∃ a cap, wv = .slice a N cap := by rw [hN.out]; exact h.ws.form
  rw [ht] at TM
  have n0 : N = 0 := by rw [hN.out, h0]; rfl
  subst n0
  clear h0 hN
  subst hwv
  clear h HY
  go_enter Try.func28, Try.ntmps28
  go_wp2_with fail
  rw [← hy]
  clear hy
  refine wp_region_held_drew (S := fun x1 => Below y.heap.size y x1 ∧ x1.cell? ⟨q, 4, none⟩ = some (.slice aw 0 cw) ∧ x1.cell? ⟨q, 5, none⟩ = some (.bool S.told) ∧ x1.cell? ⟨q, 6, none⟩ = some (.int .i64 t) ∧ x1.cell? ⟨q, 1, none⟩ = some (.int .i64 S.I)) (by kernel_rfl) (⟨Below.drew (Below.refl _ _), y4, y5, y6, y1⟩) (fun hHeld => ?_)
  refine tk 0 (.int .i64 now) rfl (.inl ⟨by rfl, ?_⟩) ?_
  · intro w9 hSw
    try dsimp only at hSw
    go_simp
    all_goals try decide
    all_goals try assumption
    all_goals try omega
  try simp only [Act.put, gA, gS, gZ, sA, sZ, sS]
  refine wpAnyH_ready (rs := [1]) (by kernel_rfl) (by simp) ?_
  refine AllReadyH.cons rfl (fun K' hK => ?_) AllReadyH.nil
  rw [if_pos (by rfl)]
  simp only [gA, gS, gZ]
  obtain ⟨S0, S1, S2, S3, S4⟩ := hHeld
  go_wp2_with fail
  refine (TM _).mono ?_
  rintro e w1 ⟨rfl, rfl⟩
  try go_wp2_with fail
  refine hK.out _ _ (⟨S0, S1, S2, S3, S4⟩) (fun hHeld => ?_)
  clear hK K'
  try simp only [Act.put, gA, gS, gZ, sA, sZ, sS]
  refine tk 2 (.bool false) rfl (.inl ⟨by rfl, ?_⟩) ?_
  · intro w9 hSw
    try dsimp only at hSw
    go_simp
    all_goals try decide
    all_goals try assumption
    all_goals try omega
  try simp only [Act.put, gA, gS, gZ, sA, sZ, sS]
  refine tk 3 (.bool false) rfl (.inl ⟨by rfl, ?_⟩) ?_
  · intro w9 hSw
    try dsimp only at hSw
    go_simp
    all_goals try decide
    all_goals try assumption
    all_goals try omega
  try simp only [Act.put, gA, gS, gZ, sA, sZ, sS]
  refine tk 4 (.pointer (some ⟨q, 0, none⟩)) rfl (.inl ⟨by rfl, ?_⟩) ?_
  · intro w9 hSw
    try dsimp only at hSw
    go_simp
    all_goals try decide
    all_goals try assumption
    all_goals try omega
  try simp only [Act.put, gA, gS, gZ, sA, sZ, sS]
  refine tk 5 (.pointer (some ⟨q, 0, none⟩)) rfl (.inl ⟨by rfl, ?_⟩) ?_
  · intro w9 hSw
    try dsimp only at hSw
    go_simp
    all_goals try decide
    all_goals try assumption
    all_goals try omega
  try simp only [Act.put, gA, gS, gZ, sA, sZ, sS]
  refine tk 6 (.pointer (some ⟨q, 4, none⟩)) rfl (.inl ⟨by rfl, ?_⟩) ?_
  · intro w9 hSw
    try dsimp only at hSw
    go_simp
    all_goals try decide
    all_goals try assumption
    all_goals try omega
  try simp only [Act.put, gA, gS, gZ, sA, sZ, sS]
  refine tk 7 (.slice aw 0 cw) rfl (.inl ⟨by rfl, ?_⟩) ?_
  · intro w9 hSw
    try dsimp only at hSw
    go_simp
    all_goals try decide
    all_goals try assumption
    all_goals try omega
  try simp only [Act.put, gA, gS, gZ, sA, sZ, sS]
  refine wpAnyH_ready (rs := [8]) (by kernel_rfl) (by simp) ?_
  refine AllReadyH.cons rfl (fun K' hK => ?_) AllReadyH.nil
  rw [if_pos (by rfl)]
  simp only [gA, gS, gZ]
  obtain ⟨S0, S1, S2, S3, S4⟩ := hHeld
  go_wp2_with fail
  refine hK.out _ _ (⟨S0, S1, S2, S3, S4⟩) (fun hHeld => ?_)
  clear hK K'
  try simp only [Act.put, gA, gS, gZ, sA, sZ, sS]
  refine tk 9 (.bool true) rfl (.inl ⟨by rfl, ?_⟩) ?_
  · intro w9 hSw
    try dsimp only at hSw
    go_simp
    all_goals try decide
    all_goals try assumption
    all_goals try omega
  try simp only [Act.put, gA, gS, gZ, sA, sZ, sS]
  refine tk 10 (.bool true) rfl (.inl ⟨by rfl, ?_⟩) ?_
  · intro w9 hSw
    try dsimp only at hSw
    go_simp
    all_goals try decide
    all_goals try assumption
    all_goals try omega
  try simp only [Act.put, gA, gS, gZ, sA, sZ, sS]
  refine tk 11 (.bool true) rfl (.inl ⟨by rfl, ?_⟩) ?_
  · intro w9 hSw
    try dsimp only at hSw
    go_simp
    all_goals try decide
    all_goals try assumption
    all_goals try omega
  try simp only [Act.put, gA, gS, gZ, sA, sZ, sS]
  refine tk 12 undef rfl (.inr ⟨by rfl, rfl⟩) ?_
  try simp only [Act.put, gA, gS, gZ, sA, sZ, sS]
  refine tk 13 undef rfl (.inr ⟨by rfl, rfl⟩) ?_
  try simp only [Act.put, gA, gS, gZ, sA, sZ, sS]
  refine tk 14 undef rfl (.inr ⟨by rfl, rfl⟩) ?_
  try simp only [Act.put, gA, gS, gZ, sA, sZ, sS]
  refine tk 15 undef rfl (.inr ⟨by rfl, rfl⟩) ?_
  try simp only [Act.put, gA, gS, gZ, sA, sZ, sS]
  refine tk 16 undef rfl (.inr ⟨by rfl, rfl⟩) ?_
  try simp only [Act.put, gA, gS, gZ, sA, sZ, sS]
  refine tk 17 undef rfl (.inr ⟨by rfl, rfl⟩) ?_
  try simp only [Act.put, gA, gS, gZ, sA, sZ, sS]
  refine tk 18 undef rfl (.inr ⟨by rfl, rfl⟩) ?_
  try simp only [Act.put, gA, gS, gZ, sA, sZ, sS]
  refine tk 19 undef rfl (.inr ⟨by rfl, rfl⟩) ?_
  try simp only [Act.put, gA, gS, gZ, sA, sZ, sS]
  refine tk 20 undef rfl (.inr ⟨by rfl, rfl⟩) ?_
  try simp only [Act.put, gA, gS, gZ, sA, sZ, sS]
  refine tk 21 undef rfl (.inr ⟨by rfl, rfl⟩) ?_
  try simp only [Act.put, gA, gS, gZ, sA, sZ, sS]
  refine tk 22 undef rfl (.inr ⟨by rfl, rfl⟩) ?_
  try simp only [Act.put, gA, gS, gZ, sA, sZ, sS]
  refine tk 23 undef rfl (.inr ⟨by rfl, rfl⟩) ?_
  try simp only [Act.put, gA, gS, gZ, sA, sZ, sS]
  refine tk 24 undef rfl (.inr ⟨by rfl, rfl⟩) ?_
  try simp only [Act.put, gA, gS, gZ, sA, sZ, sS]
  refine tk 25 undef rfl (.inr ⟨by rfl, rfl⟩) ?_
  try simp only [Act.put, gA, gS, gZ, sA, sZ, sS]
  refine tk 26 undef rfl (.inr ⟨by rfl, rfl⟩) ?_
  try simp only [Act.put, gA, gS, gZ, sA, sZ, sS]
  refine tk 27 undef rfl (.inr ⟨by rfl, rfl⟩) ?_
  try simp only [Act.put, gA, gS, gZ, sA, sZ, sS]
  refine tk 28 undef rfl (.inr ⟨by rfl, rfl⟩) ?_
  try simp only [Act.put, gA, gS, gZ, sA, sZ, sS]
  refine tk 29 undef rfl (.inr ⟨by rfl, rfl⟩) ?_
  try simp only [Act.put, gA, gS, gZ, sA, sZ, sS]
  refine tk 30 undef rfl (.inr ⟨by rfl, rfl⟩) ?_
  try simp only [Act.put, gA, gS, gZ, sA, sZ, sS]
  refine tk 31 undef rfl (.inr ⟨by rfl, rfl⟩) ?_
  try simp only [Act.put, gA, gS, gZ, sA, sZ, sS]
  refine tk 32 undef rfl (.inr ⟨by rfl, rfl⟩) ?_
  try simp only [Act.put, gA, gS, gZ, sA, sZ, sS]
  refine tk 33 undef rfl (.inr ⟨by rfl, rfl⟩) ?_
  try simp only [Act.put, gA, gS, gZ, sA, sZ, sS]
  refine tk 34 undef rfl (.inr ⟨by rfl, rfl⟩) ?_
  try simp only [Act.put, gA, gS, gZ, sA, sZ, sS]
  refine tk 35 undef rfl (.inr ⟨by rfl, rfl⟩) ?_
  try simp only [Act.put, gA, gS, gZ, sA, sZ, sS]
  refine tk 36 undef rfl (.inr ⟨by rfl, rfl⟩) ?_
  try simp only [Act.put, gA, gS, gZ, sA, sZ, sS]
  refine tk 37 (.bool true) rfl (.inl ⟨by rfl, ?_⟩) ?_
  · intro w9 hSw
    try dsimp only at hSw
    go_simp
    all_goals try decide
    all_goals try assumption
    all_goals try omega
  try simp only [Act.put, gA, gS, gZ, sA, sZ, sS]
  refine wpAnyH_done (by kernel_rfl) ?_ _
  have B9 : Hid (Below w.heap.size w y.drew) := K0.drew
  clear hHeld y4 y5 y6 y1 TM
  have f4d : y.drew.heap[w.heap.size]? = some (.cells (frC 0 0 0 0 0 0 0 0 0 0 false) 40 (0, 0)) := f4
  generalize hz : y.drew = z at f4d B9 ⊢
  clear hz f4
  go_wp2_with (refine wpList_store_row rfl 40 _ _ rfl w.heap.size (frC 0 0 0 0 0 0 0 0 0 0 false) rfl rfl 40 _ f4d infoF rfl (frC_one _ _ _ _ _ _ _ _ _ _ _) ?_)
  have hc := fun j => cell_of_row _ w.heap.size j _ _ _ (setRow_heap _ _ _ (frC 0 0 0 0 0 0 0 0 0 0 false) _ _ f4d)
  refine bodyPost_ret (v := .tuple #[zeroF, .bool false]) ?_ rfl ⟨rfl, below_setRow B9.out (Nat.le_refl _) _⟩
  simp [results, Try.results28, go_sem, hc]
set_option linter.unusedSimpArgs false in
set_option maxHeartbeats 4000000 in
set_option maxRecDepth 100000 in
theorem rtick_late {w : World} {q : Nat} {sv fv wv : Value} {S : ES} {t : Int} (h : IsD w q sv fv wv S t) (now : Int) (ht : tmB now = true) (h0 : S.ws ≠ []) (htd : S.told = true) (hl : now < t) : Calls Try.prog 28 #[.pointer (some ⟨q, 0, none⟩), .int .i64 now] w fun e w' => e = .returned (.tuple #[zeroF, .bool false]) ∧ Below w.heap.size w w' := by
  obtain ⟨y, hy⟩ : ∃ y, y = w.alloc zFb := ⟨_, rfl⟩
  have K0 : Below w.heap.size w y := by rw [hy]; exact (by repeat (first | exact Below.refl _ _ | apply Below.drew | apply Below.al))
  have HY := h.next K0
  have f4 : y.heap[w.heap.size]? = some (.cells (frC 0 0 0 0 0 0 0 0 0 0 false) 40 (0, 0)) := by rw [hy]; exact at11 _ _ _ rfl
  have TM := fun W => time_any now W
  have y4 : y.cell? ⟨q, 4, none⟩ = some wv := HY.cell 4 wv rfl
  have y5 := HY.c5
  have y6 := HY.c6
  have y1 := HY.c1
  have lq := HY.lt
  obtain ⟨N, hN⟩ : ∃ N, Hid (N = S.ws.length) := ⟨_, rfl⟩
  obtain ⟨aw, cw, hwv⟩ : ∃ a cap, wv = .slice a N cap := by rw [hN.out]; exact h.ws.form
  rw [ht] at TM
  rw [htd] at y5
  have n0 : ¬ (N : Int) = 0 := by rw [hN.out]; intro e; exact h0 (List.eq_nil_of_length_eq_zero (by omega))
  have N0 : 0 < N := by omega
  clear h0
  subst hwv
  clear h HY
  go_enter Try.func28, Try.ntmps28
  go_wp2_with fail
  rw [← hy]
  clear hy
  refine wp_region_held_drew (S := fun x1 => Below y.heap.size y x1 ∧ x1.cell? ⟨q, 4, none⟩ = some (.slice aw N cw) ∧ x1.cell? ⟨q, 5, none⟩ = some (.bool true) ∧ x1.cell? ⟨q, 6, none⟩ = some (.int .i64 t) ∧ x1.cell? ⟨q, 1, none⟩ = some (.int .i64 S.I)) (by kernel_rfl) (⟨Below.drew (Below.refl _ _), y4, y5, y6, y1⟩) (fun hHeld => ?_)
  refine tk 0 (.int .i64 now) rfl (.inl ⟨by rfl, ?_⟩) ?_
  · intro w9 hSw
    try dsimp only at hSw
    go_simp
    all_goals try decide
    all_goals try assumption
    all_goals try omega
  try simp only [Act.put, gA, gS, gZ, sA, sZ, sS]
  refine wpAnyH_ready (rs := [1]) (by kernel_rfl) (by simp) ?_
  refine AllReadyH.cons rfl (fun K' hK => ?_) AllReadyH.nil
  rw [if_pos (by rfl)]
  simp only [gA, gS, gZ]
  obtain ⟨S0, S1, S2, S3, S4⟩ := hHeld
  go_wp2_with fail
  refine (TM _).mono ?_
  rintro e w1 ⟨rfl, rfl⟩
  try go_wp2_with fail
  refine hK.out _ _ (⟨S0, S1, S2, S3, S4⟩) (fun hHeld => ?_)
  clear hK K'
  try simp only [Act.put, gA, gS, gZ, sA, sZ, sS]
  refine tk 2 (.bool false) rfl (.inl ⟨by rfl, ?_⟩) ?_
  · intro w9 hSw
    try dsimp only at hSw
    go_simp
    all_goals try decide
    all_goals try assumption
    all_goals try omega
  try simp only [Act.put, gA, gS, gZ, sA, sZ, sS]
  refine tk 3 (.bool false) rfl (.inl ⟨by rfl, ?_⟩) ?_
  · intro w9 hSw
    try dsimp only at hSw
    go_simp
    all_goals try decide
    all_goals try assumption
    all_goals try omega
  try simp only [Act.put, gA, gS, gZ, sA, sZ, sS]
  refine tk 4 (.pointer (some ⟨q, 0, none⟩)) rfl (.inl ⟨by rfl, ?_⟩) ?_
  · intro w9 hSw
    try dsimp only at hSw
    go_simp
    all_goals try decide
    all_goals try assumption
    all_goals try omega
  try simp only [Act.put, gA, gS, gZ, sA, sZ, sS]
  refine tk 5 (.pointer (some ⟨q, 0, none⟩)) rfl (.inl ⟨by rfl, ?_⟩) ?_
  · intro w9 hSw
    try dsimp only at hSw
    go_simp
    all_goals try decide
    all_goals try assumption
    all_goals try omega
  try simp only [Act.put, gA, gS, gZ, sA, sZ, sS]
  refine tk 6 (.pointer (some ⟨q, 4, none⟩)) rfl (.inl ⟨by rfl, ?_⟩) ?_
  · intro w9 hSw
    try dsimp only at hSw
    go_simp
    all_goals try decide
    all_goals try assumption
    all_goals try omega
  try simp only [Act.put, gA, gS, gZ, sA, sZ, sS]
  refine tk 7 (.slice aw N cw) rfl (.inl ⟨by rfl, ?_⟩) ?_
  · intro w9 hSw
    try dsimp only at hSw
    go_simp
    all_goals try decide
    all_goals try assumption
    all_goals try omega
  try simp only [Act.put, gA, gS, gZ, sA, sZ, sS]
  refine wpAnyH_ready (rs := [8]) (by kernel_rfl) (by simp) ?_
  refine AllReadyH.cons rfl (fun K' hK => ?_) AllReadyH.nil
  rw [if_pos (by rfl)]
  simp only [gA, gS, gZ]
  obtain ⟨S0, S1, S2, S3, S4⟩ := hHeld
  go_wp2_with fail
  refine hK.out _ _ (⟨S0, S1, S2, S3, S4⟩) (fun hHeld => ?_)
  clear hK K'
  try simp only [Act.put, gA, gS, gZ, sA, sZ, sS]
  refine tk 9 (.bool false) rfl (.inl ⟨by rfl, ?_⟩) ?_
  · intro w9 hSw
    try dsimp only at hSw
    go_simp
    all_goals try decide
    all_goals try assumption
    all_goals try omega
  try simp only [Act.put, gA, gS, gZ, sA, sZ, sS]
  refine tk 10 (.bool false) rfl (.inl ⟨by rfl, ?_⟩) ?_
  · intro w9 hSw
    try dsimp only at hSw
    go_simp
    all_goals try decide
    all_goals try assumption
    all_goals try omega
  try simp only [Act.put, gA, gS, gZ, sA, sZ, sS]
  refine tk 11 (.bool false) rfl (.inl ⟨by rfl, ?_⟩) ?_
  · intro w9 hSw
    try dsimp only at hSw
    go_simp
    all_goals try decide
    all_goals try assumption
    all_goals try omega
  try simp only [Act.put, gA, gS, gZ, sA, sZ, sS]
  refine tk 12 (.pointer (some ⟨q, 0, none⟩)) rfl (.inl ⟨by rfl, ?_⟩) ?_
  · intro w9 hSw
    try dsimp only at hSw
    go_simp
    all_goals try decide
    all_goals try assumption
    all_goals try omega
  try simp only [Act.put, gA, gS, gZ, sA, sZ, sS]
  refine tk 13 (.pointer (some ⟨q, 0, none⟩)) rfl (.inl ⟨by rfl, ?_⟩) ?_
  · intro w9 hSw
    try dsimp only at hSw
    go_simp
    all_goals try decide
    all_goals try assumption
    all_goals try omega
  try simp only [Act.put, gA, gS, gZ, sA, sZ, sS]
  refine tk 14 (.pointer (some ⟨q, 5, none⟩)) rfl (.inl ⟨by rfl, ?_⟩) ?_
  · intro w9 hSw
    try dsimp only at hSw
    go_simp
    all_goals try decide
    all_goals try assumption
    all_goals try omega
  try simp only [Act.put, gA, gS, gZ, sA, sZ, sS]
  refine tk 15 (.bool true) rfl (.inl ⟨by rfl, ?_⟩) ?_
  · intro w9 hSw
    try dsimp only at hSw
    go_simp
    all_goals try decide
    all_goals try assumption
    all_goals try omega
  try simp only [Act.put, gA, gS, gZ, sA, sZ, sS]
  refine tk 16 (.bool true) rfl (.inl ⟨by rfl, ?_⟩) ?_
  · intro w9 hSw
    try dsimp only at hSw
    go_simp
    all_goals try decide
    all_goals try assumption
    all_goals try omega
  try simp only [Act.put, gA, gS, gZ, sA, sZ, sS]
  refine tk 17 (.pointer (some ⟨q, 0, none⟩)) rfl (.inl ⟨by rfl, ?_⟩) ?_
  · intro w9 hSw
    try dsimp only at hSw
    go_simp
    all_goals try decide
    all_goals try assumption
    all_goals try omega
  try simp only [Act.put, gA, gS, gZ, sA, sZ, sS]
  refine tk 18 (.pointer (some ⟨q, 0, none⟩)) rfl (.inl ⟨by rfl, ?_⟩) ?_
  · intro w9 hSw
    try dsimp only at hSw
    go_simp
    all_goals try decide
    all_goals try assumption
    all_goals try omega
  try simp only [Act.put, gA, gS, gZ, sA, sZ, sS]
  refine tk 19 (.pointer (some ⟨q, 6, none⟩)) rfl (.inl ⟨by rfl, ?_⟩) ?_
  · intro w9 hSw
    try dsimp only at hSw
    go_simp
    all_goals try decide
    all_goals try assumption
    all_goals try omega
  try simp only [Act.put, gA, gS, gZ, sA, sZ, sS]
  refine tk 20 (.int .i64 t) rfl (.inl ⟨by rfl, ?_⟩) ?_
  · intro w9 hSw
    try dsimp only at hSw
    go_simp
    all_goals try decide
    all_goals try assumption
    all_goals try omega
  try simp only [Act.put, gA, gS, gZ, sA, sZ, sS]
  refine tk 21 (.int .i64 now) rfl (.inl ⟨by rfl, ?_⟩) ?_
  · intro w9 hSw
    try dsimp only at hSw
    go_simp
    all_goals try decide
    all_goals try assumption
    all_goals try omega
  try simp only [Act.put, gA, gS, gZ, sA, sZ, sS]
  refine tk 22 (.bool true) rfl (.inl ⟨by rfl, ?_⟩) ?_
  · intro w9 hSw
    try dsimp only at hSw
    go_simp
    all_goals try decide
    all_goals try assumption
    all_goals try omega
  try simp only [Act.put, gA, gS, gZ, sA, sZ, sS]
  refine tk 23 (.bool true) rfl (.inl ⟨by rfl, ?_⟩) ?_
  · intro w9 hSw
    try dsimp only at hSw
    go_simp
    all_goals try decide
    all_goals try assumption
    all_goals try omega
  try simp only [Act.put, gA, gS, gZ, sA, sZ, sS]
  refine tk 24 undef rfl (.inr ⟨by rfl, rfl⟩) ?_
  try simp only [Act.put, gA, gS, gZ, sA, sZ, sS]
  refine tk 25 undef rfl (.inr ⟨by rfl, rfl⟩) ?_
  try simp only [Act.put, gA, gS, gZ, sA, sZ, sS]
  refine tk 26 undef rfl (.inr ⟨by rfl, rfl⟩) ?_
  try simp only [Act.put, gA, gS, gZ, sA, sZ, sS]
  refine tk 27 undef rfl (.inr ⟨by rfl, rfl⟩) ?_
  try simp only [Act.put, gA, gS, gZ, sA, sZ, sS]
  refine tk 28 undef rfl (.inr ⟨by rfl, rfl⟩) ?_
  try simp only [Act.put, gA, gS, gZ, sA, sZ, sS]
  refine tk 29 undef rfl (.inr ⟨by rfl, rfl⟩) ?_
  try simp only [Act.put, gA, gS, gZ, sA, sZ, sS]
  refine tk 30 undef rfl (.inr ⟨by rfl, rfl⟩) ?_
  try simp only [Act.put, gA, gS, gZ, sA, sZ, sS]
  refine tk 31 undef rfl (.inr ⟨by rfl, rfl⟩) ?_
  try simp only [Act.put, gA, gS, gZ, sA, sZ, sS]
  refine tk 32 undef rfl (.inr ⟨by rfl, rfl⟩) ?_
  try simp only [Act.put, gA, gS, gZ, sA, sZ, sS]
  refine tk 33 undef rfl (.inr ⟨by rfl, rfl⟩) ?_
  try simp only [Act.put, gA, gS, gZ, sA, sZ, sS]
  refine tk 34 undef rfl (.inr ⟨by rfl, rfl⟩) ?_
  try simp only [Act.put, gA, gS, gZ, sA, sZ, sS]
  refine tk 35 (.bool true) rfl (.inl ⟨by rfl, ?_⟩) ?_
  · intro w9 hSw
    try dsimp only at hSw
    go_simp
    all_goals try decide
    all_goals try assumption
    all_goals try omega
  try simp only [Act.put, gA, gS, gZ, sA, sZ, sS]
  refine tk 36 (.bool true) rfl (.inl ⟨by rfl, ?_⟩) ?_
  · intro w9 hSw
    try dsimp only at hSw
    go_simp
    all_goals try decide
    all_goals try assumption
    all_goals try omega
  try simp only [Act.put, gA, gS, gZ, sA, sZ, sS]
  refine tk 37 (.bool true) rfl (.inl ⟨by rfl, ?_⟩) ?_
  · intro w9 hSw
    try dsimp only at hSw
    go_simp
    all_goals try decide
    all_goals try assumption
    all_goals try omega
  try simp only [Act.put, gA, gS, gZ, sA, sZ, sS]
  refine wpAnyH_done (by kernel_rfl) ?_ _
  have B9 : Hid (Below w.heap.size w y.drew) := K0.drew
  clear hHeld y4 y5 y6 y1 TM
  have f4d : y.drew.heap[w.heap.size]? = some (.cells (frC 0 0 0 0 0 0 0 0 0 0 false) 40 (0, 0)) := f4
  generalize hz : y.drew = z at f4d B9 ⊢
  clear hz f4
  go_wp2_with (refine wpList_store_row rfl 40 _ _ rfl w.heap.size (frC 0 0 0 0 0 0 0 0 0 0 false) rfl rfl 40 _ f4d infoF rfl (frC_one _ _ _ _ _ _ _ _ _ _ _) ?_)
  have hc := fun j => cell_of_row _ w.heap.size j _ _ _ (setRow_heap _ _ _ (frC 0 0 0 0 0 0 0 0 0 0 false) _ _ f4d)
  refine bodyPost_ret (v := .tuple #[zeroF, .bool false]) ?_ rfl ⟨rfl, below_setRow B9.out (Nat.le_refl _) _⟩
  simp [results, Try.results28, go_sem, hc]
set_option linter.unusedSimpArgs false in
set_option maxHeartbeats 4000000 in
set_option maxRecDepth 100000 in
theorem rtick_early {w : World} {q : Nat} {sv fv wv : Value} {S : ES} {t : Int} (h : IsD w q sv fv wv S t) (now : Int) (ht : tmB now = true) (h0 : S.ws ≠ []) (htd : S.told = true) (hl : ¬ now < t) (he : now - t < S.I) : Calls Try.prog 28 #[.pointer (some ⟨q, 0, none⟩), .int .i64 now] w fun e w' => e = .returned (.tuple #[zeroF, .bool false]) ∧ Below w.heap.size w w' := by
  obtain ⟨y, hy⟩ : ∃ y, y = w.alloc zFb := ⟨_, rfl⟩
  have K0 : Below w.heap.size w y := by rw [hy]; exact (by repeat (first | exact Below.refl _ _ | apply Below.drew | apply Below.al))
  have HY := h.next K0
  have f4 : y.heap[w.heap.size]? = some (.cells (frC 0 0 0 0 0 0 0 0 0 0 false) 40 (0, 0)) := by rw [hy]; exact at11 _ _ _ rfl
  have TM := fun W => time_any now W
  have y4 : y.cell? ⟨q, 4, none⟩ = some wv := HY.cell 4 wv rfl
  have y5 := HY.c5
  have y6 := HY.c6
  have y1 := HY.c1
  have lq := HY.lt
  obtain ⟨N, hN⟩ : ∃ N, Hid (N = S.ws.length) := ⟨_, rfl⟩
  obtain ⟨aw, cw, hwv⟩ : ∃ a cap, wv = .slice a N cap := by rw [hN.out]; exact h.ws.form
  have wS : IntKind.i64.wrap (now - t) = now - t := w64 _ (by have := tmB_of ht; have := h.a1; omega) (by have := tmB_of ht; have := h.a0; omega)
  rw [ht] at TM
  rw [htd] at y5
  have n0 : ¬ (N : Int) = 0 := by rw [hN.out]; intro e; exact h0 (List.eq_nil_of_length_eq_zero (by omega))
  have N0 : 0 < N := by omega
  clear h0
  subst hwv
  clear h HY
  go_enter Try.func28, Try.ntmps28
  go_wp2_with fail
  rw [← hy]
  clear hy
  refine wp_region_held_drew (S := fun x1 => Below y.heap.size y x1 ∧ x1.cell? ⟨q, 4, none⟩ = some (.slice aw N cw) ∧ x1.cell? ⟨q, 5, none⟩ = some (.bool true) ∧ x1.cell? ⟨q, 6, none⟩ = some (.int .i64 t) ∧ x1.cell? ⟨q, 1, none⟩ = some (.int .i64 S.I)) (by kernel_rfl) (⟨Below.drew (Below.refl _ _), y4, y5, y6, y1⟩) (fun hHeld => ?_)
  refine tk 0 (.int .i64 now) rfl (.inl ⟨by rfl, ?_⟩) ?_
  · intro w9 hSw
    try dsimp only at hSw
    go_simp
    all_goals try decide
    all_goals try assumption
    all_goals try omega
  try simp only [Act.put, gA, gS, gZ, sA, sZ, sS]
  refine wpAnyH_ready (rs := [1]) (by kernel_rfl) (by simp) ?_
  refine AllReadyH.cons rfl (fun K' hK => ?_) AllReadyH.nil
  rw [if_pos (by rfl)]
  simp only [gA, gS, gZ]
  obtain ⟨S0, S1, S2, S3, S4⟩ := hHeld
  go_wp2_with fail
  refine (TM _).mono ?_
  rintro e w1 ⟨rfl, rfl⟩
  try go_wp2_with fail
  refine hK.out _ _ (⟨S0, S1, S2, S3, S4⟩) (fun hHeld => ?_)
  clear hK K'
  try simp only [Act.put, gA, gS, gZ, sA, sZ, sS]
  refine tk 2 (.bool false) rfl (.inl ⟨by rfl, ?_⟩) ?_
  · intro w9 hSw
    try dsimp only at hSw
    go_simp
    all_goals try decide
    all_goals try assumption
    all_goals try omega
  try simp only [Act.put, gA, gS, gZ, sA, sZ, sS]
  refine tk 3 (.bool false) rfl (.inl ⟨by rfl, ?_⟩) ?_
  · intro w9 hSw
    try dsimp only at hSw
    go_simp
    all_goals try decide
    all_goals try assumption
    all_goals try omega
  try simp only [Act.put, gA, gS, gZ, sA, sZ, sS]
  refine tk 4 (.pointer (some ⟨q, 0, none⟩)) rfl (.inl ⟨by rfl, ?_⟩) ?_
  · intro w9 hSw
    try dsimp only at hSw
    go_simp
    all_goals try decide
    all_goals try assumption
    all_goals try omega
  try simp only [Act.put, gA, gS, gZ, sA, sZ, sS]
  refine tk 5 (.pointer (some ⟨q, 0, none⟩)) rfl (.inl ⟨by rfl, ?_⟩) ?_
  · intro w9 hSw
    try dsimp only at hSw
    go_simp
    all_goals try decide
    all_goals try assumption
    all_goals try omega
  try simp only [Act.put, gA, gS, gZ, sA, sZ, sS]
  refine tk 6 (.pointer (some ⟨q, 4, none⟩)) rfl (.inl ⟨by rfl, ?_⟩) ?_
  · intro w9 hSw
    try dsimp only at hSw
    go_simp
    all_goals try decide
    all_goals try assumption
    all_goals try omega
  try simp only [Act.put, gA, gS, gZ, sA, sZ, sS]
  refine tk 7 (.slice aw N cw) rfl (.inl ⟨by rfl, ?_⟩) ?_
  · intro w9 hSw
    try dsimp only at hSw
    go_simp
    all_goals try decide
    all_goals try assumption
    all_goals try omega
  try simp only [Act.put, gA, gS, gZ, sA, sZ, sS]
  refine wpAnyH_ready (rs := [8]) (by kernel_rfl) (by simp) ?_
  refine AllReadyH.cons rfl (fun K' hK => ?_) AllReadyH.nil
  rw [if_pos (by rfl)]
  simp only [gA, gS, gZ]
  obtain ⟨S0, S1, S2, S3, S4⟩ := hHeld
  go_wp2_with fail
  refine hK.out _ _ (⟨S0, S1, S2, S3, S4⟩) (fun hHeld => ?_)
  clear hK K'
  try simp only [Act.put, gA, gS, gZ, sA, sZ, sS]
  refine tk 9 (.bool false) rfl (.inl ⟨by rfl, ?_⟩) ?_
  · intro w9 hSw
    try dsimp only at hSw
    go_simp
    all_goals try decide
    all_goals try assumption
    all_goals try omega
  try simp only [Act.put, gA, gS, gZ, sA, sZ, sS]
  refine tk 10 (.bool false) rfl (.inl ⟨by rfl, ?_⟩) ?_
  · intro w9 hSw
    try dsimp only at hSw
    go_simp
    all_goals try decide
    all_goals try assumption
    all_goals try omega
  try simp only [Act.put, gA, gS, gZ, sA, sZ, sS]
  refine tk 11 (.bool false) rfl (.inl ⟨by rfl, ?_⟩) ?_
  · intro w9 hSw
    try dsimp only at hSw
    go_simp
    all_goals try decide
    all_goals try assumption
    all_goals try omega
  try simp only [Act.put, gA, gS, gZ, sA, sZ, sS]
  refine tk 12 (.pointer (some ⟨q, 0, none⟩)) rfl (.inl ⟨by rfl, ?_⟩) ?_
  · intro w9 hSw
    try dsimp only at hSw
    go_simp
    all_goals try decide
    all_goals try assumption
    all_goals try omega
  try simp only [Act.put, gA, gS, gZ, sA, sZ, sS]
  refine tk 13 (.pointer (some ⟨q, 0, none⟩)) rfl (.inl ⟨by rfl, ?_⟩) ?_
  · intro w9 hSw
    try dsimp only at hSw
    go_simp
    all_goals try decide
    all_goals try assumption
    all_goals try omega
  try simp only [Act.put, gA, gS, gZ, sA, sZ, sS]
  refine tk 14 (.pointer (some ⟨q, 5, none⟩)) rfl (.inl ⟨by rfl, ?_⟩) ?_
  · intro w9 hSw
    try dsimp only at hSw
    go_simp
    all_goals try decide
    all_goals try assumption
    all_goals try omega
  try simp only [Act.put, gA, gS, gZ, sA, sZ, sS]
  refine tk 15 (.bool true) rfl (.inl ⟨by rfl, ?_⟩) ?_
  · intro w9 hSw
    try dsimp only at hSw
    go_simp
    all_goals try decide
    all_goals try assumption
    all_goals try omega
  try simp only [Act.put, gA, gS, gZ, sA, sZ, sS]
  refine tk 16 (.bool true) rfl (.inl ⟨by rfl, ?_⟩) ?_
  · intro w9 hSw
    try dsimp only at hSw
    go_simp
    all_goals try decide
    all_goals try assumption
    all_goals try omega
  try simp only [Act.put, gA, gS, gZ, sA, sZ, sS]
  refine tk 17 (.pointer (some ⟨q, 0, none⟩)) rfl (.inl ⟨by rfl, ?_⟩) ?_
  · intro w9 hSw
    try dsimp only at hSw
    go_simp
    all_goals try decide
    all_goals try assumption
    all_goals try omega
  try simp only [Act.put, gA, gS, gZ, sA, sZ, sS]
  refine tk 18 (.pointer (some ⟨q, 0, none⟩)) rfl (.inl ⟨by rfl, ?_⟩) ?_
  · intro w9 hSw
    try dsimp only at hSw
    go_simp
    all_goals try decide
    all_goals try assumption
    all_goals try omega
  try simp only [Act.put, gA, gS, gZ, sA, sZ, sS]
  refine tk 19 (.pointer (some ⟨q, 6, none⟩)) rfl (.inl ⟨by rfl, ?_⟩) ?_
  · intro w9 hSw
    try dsimp only at hSw
    go_simp
    all_goals try decide
    all_goals try assumption
    all_goals try omega
  try simp only [Act.put, gA, gS, gZ, sA, sZ, sS]
  refine tk 20 (.int .i64 t) rfl (.inl ⟨by rfl, ?_⟩) ?_
  · intro w9 hSw
    try dsimp only at hSw
    go_simp
    all_goals try decide
    all_goals try assumption
    all_goals try omega
  try simp only [Act.put, gA, gS, gZ, sA, sZ, sS]
  refine tk 21 (.int .i64 now) rfl (.inl ⟨by rfl, ?_⟩) ?_
  · intro w9 hSw
    try dsimp only at hSw
    go_simp
    all_goals try decide
    all_goals try assumption
    all_goals try omega
  try simp only [Act.put, gA, gS, gZ, sA, sZ, sS]
  refine tk 22 (.bool false) rfl (.inl ⟨by rfl, ?_⟩) ?_
  · intro w9 hSw
    try dsimp only at hSw
    go_simp
    all_goals try decide
    all_goals try assumption
    all_goals try omega
  try simp only [Act.put, gA, gS, gZ, sA, sZ, sS]
  refine tk 23 (.bool false) rfl (.inl ⟨by rfl, ?_⟩) ?_
  · intro w9 hSw
    try dsimp only at hSw
    go_simp
    all_goals try decide
    all_goals try assumption
    all_goals try omega
  try simp only [Act.put, gA, gS, gZ, sA, sZ, sS]
  refine tk 24 (.int .i64 now) rfl (.inl ⟨by rfl, ?_⟩) ?_
  · intro w9 hSw
    try dsimp only at hSw
    go_simp
    all_goals try decide
    all_goals try assumption
    all_goals try omega
  try simp only [Act.put, gA, gS, gZ, sA, sZ, sS]
  refine tk 25 (.pointer (some ⟨q, 0, none⟩)) rfl (.inl ⟨by rfl, ?_⟩) ?_
  · intro w9 hSw
    try dsimp only at hSw
    go_simp
    all_goals try decide
    all_goals try assumption
    all_goals try omega
  try simp only [Act.put, gA, gS, gZ, sA, sZ, sS]
  refine tk 26 (.pointer (some ⟨q, 0, none⟩)) rfl (.inl ⟨by rfl, ?_⟩) ?_
  · intro w9 hSw
    try dsimp only at hSw
    go_simp
    all_goals try decide
    all_goals try assumption
    all_goals try omega
  try simp only [Act.put, gA, gS, gZ, sA, sZ, sS]
  refine tk 27 (.pointer (some ⟨q, 6, none⟩)) rfl (.inl ⟨by rfl, ?_⟩) ?_
  · intro w9 hSw
    try dsimp only at hSw
    go_simp
    all_goals try decide
    all_goals try assumption
    all_goals try omega
  try simp only [Act.put, gA, gS, gZ, sA, sZ, sS]
  refine tk 28 (.int .i64 t) rfl (.inl ⟨by rfl, ?_⟩) ?_
  · intro w9 hSw
    try dsimp only at hSw
    go_simp
    all_goals try decide
    all_goals try assumption
    all_goals try omega
  try simp only [Act.put, gA, gS, gZ, sA, sZ, sS]
  refine tk 29 (.int .i64 (now - t)) rfl (.inl ⟨by rfl, ?_⟩) ?_
  · intro w9 hSw
    try dsimp only at hSw
    go_simp
    all_goals try decide
    all_goals try assumption
    all_goals try omega
  try simp only [Act.put, gA, gS, gZ, sA, sZ, sS]
  refine tk 30 (.pointer (some ⟨q, 0, none⟩)) rfl (.inl ⟨by rfl, ?_⟩) ?_
  · intro w9 hSw
    try dsimp only at hSw
    go_simp
    all_goals try decide
    all_goals try assumption
    all_goals try omega
  try simp only [Act.put, gA, gS, gZ, sA, sZ, sS]
  refine tk 31 (.pointer (some ⟨q, 0, none⟩)) rfl (.inl ⟨by rfl, ?_⟩) ?_
  · intro w9 hSw
    try dsimp only at hSw
    go_simp
    all_goals try decide
    all_goals try assumption
    all_goals try omega
  try simp only [Act.put, gA, gS, gZ, sA, sZ, sS]
  refine tk 32 (.pointer (some ⟨q, 1, none⟩)) rfl (.inl ⟨by rfl, ?_⟩) ?_
  · intro w9 hSw
    try dsimp only at hSw
    go_simp
    all_goals try decide
    all_goals try assumption
    all_goals try omega
  try simp only [Act.put, gA, gS, gZ, sA, sZ, sS]
  refine tk 33 (.int .i64 S.I) rfl (.inl ⟨by rfl, ?_⟩) ?_
  · intro w9 hSw
    try dsimp only at hSw
    go_simp
    all_goals try decide
    all_goals try assumption
    all_goals try omega
  try simp only [Act.put, gA, gS, gZ, sA, sZ, sS]
  refine tk 34 (.bool true) rfl (.inl ⟨by rfl, ?_⟩) ?_
  · intro w9 hSw
    try dsimp only at hSw
    go_simp
    all_goals try decide
    all_goals try assumption
    all_goals try omega
  try simp only [Act.put, gA, gS, gZ, sA, sZ, sS]
  refine tk 35 (.bool true) rfl (.inl ⟨by rfl, ?_⟩) ?_
  · intro w9 hSw
    try dsimp only at hSw
    go_simp
    all_goals try decide
    all_goals try assumption
    all_goals try omega
  try simp only [Act.put, gA, gS, gZ, sA, sZ, sS]
  refine tk 36 (.bool true) rfl (.inl ⟨by rfl, ?_⟩) ?_
  · intro w9 hSw
    try dsimp only at hSw
    go_simp
    all_goals try decide
    all_goals try assumption
    all_goals try omega
  try simp only [Act.put, gA, gS, gZ, sA, sZ, sS]
  refine tk 37 (.bool true) rfl (.inl ⟨by rfl, ?_⟩) ?_
  · intro w9 hSw
    try dsimp only at hSw
    go_simp
    all_goals try decide
    all_goals try assumption
    all_goals try omega
  try simp only [Act.put, gA, gS, gZ, sA, sZ, sS]
  refine wpAnyH_done (by kernel_rfl) ?_ _
  have B9 : Hid (Below w.heap.size w y.drew) := K0.drew
  clear hHeld y4 y5 y6 y1 TM
  have f4d : y.drew.heap[w.heap.size]? = some (.cells (frC 0 0 0 0 0 0 0 0 0 0 false) 40 (0, 0)) := f4
  generalize hz : y.drew = z at f4d B9 ⊢
  clear hz f4
  go_wp2_with (refine wpList_store_row rfl 40 _ _ rfl w.heap.size (frC 0 0 0 0 0 0 0 0 0 0 false) rfl rfl 40 _ f4d infoF rfl (frC_one _ _ _ _ _ _ _ _ _ _ _) ?_)
  have hc := fun j => cell_of_row _ w.heap.size j _ _ _ (setRow_heap _ _ _ (frC 0 0 0 0 0 0 0 0 0 0 false) _ _ f4d)
  refine bodyPost_ret (v := .tuple #[zeroF, .bool false]) ?_ rfl ⟨rfl, below_setRow B9.out (Nat.le_refl _) _⟩
  simp [results, Try.results28, go_sem, hc]
set_option linter.unusedSimpArgs false in
set_option maxHeartbeats 4000000 in
set_option maxRecDepth 100000 in
theorem rtick_new {w : World} {q : Nat} {sv fv wv : Value} {S : ES} {t : Int} (h : IsD w q sv fv wv S t) (now : Int) (x : Wt) (l : List Wt) (hws : S.ws = x :: l) (ht : tmB now = true) (htd : S.told = false) : Calls Try.prog 28 #[.pointer (some ⟨q, 0, none⟩), .int .i64 now] w fun e w' => e = .returned (.tuple #[.agg (x.A S.A), .bool true]) ∧ DPost w w' q sv fv wv (S.popped now) := by
  have h0 : S.ws ≠ [] := by rw [hws]; simp
  obtain ⟨y, hy⟩ : ∃ y, y = w.alloc zFb := ⟨_, rfl⟩
  have K0 : Below w.heap.size w y := by rw [hy]; exact (by repeat (first | exact Below.refl _ _ | apply Below.drew | apply Below.al))
  have HY := h.next K0
  have f4 : y.heap[w.heap.size]? = some (.cells (frC 0 0 0 0 0 0 0 0 0 0 false) 40 (0, 0)) := by rw [hy]; exact at11 _ _ _ rfl
  have TM := fun W => time_any now W
  have y4 : y.cell? ⟨q, 4, none⟩ = some wv := HY.cell 4 wv rfl
  have y5 := HY.c5
  have y6 := HY.c6
  have y1 := HY.c1
  have lq := HY.lt
  obtain ⟨N, hN⟩ : ∃ N, Hid (N = S.ws.length) := ⟨_, rfl⟩
  obtain ⟨aw, cw, hwv⟩ : ∃ a cap, wv = .slice a N cap := by rw [hN.out]; exact h.ws.form
  rw [ht] at TM
  rw [htd] at y5
  have n0 : ¬ (N : Int) = 0 := by rw [hN.out]; intro e; exact h0 (List.eq_nil_of_length_eq_zero (by omega))
  have N0 : 0 < N := by omega
  obtain ⟨g, o, cap, hwv2, hO⟩ := HY.ws.pos (by rw [← hN.out]; exact N0)
  rw [← hN.out] at hwv2 hO
  obtain ⟨i9, hi9, hz9, hy9, hb9⟩ := info_parts infoFr
  obtain ⟨o', SL, hT, _⟩ := hO.tail elemSF elemSF' hi9 hy9 N0
  rw [flw_tail _ _ h0] at hT
  have HT : Hid (OwnAt y 40 11 g o' (N - 1) (cap - 1) (flw S.A S.ws.tail)) := hT
  obtain ⟨F0, hF0⟩ : ∃ F0, Hid (F0 = x.A S.A) := ⟨_, rfl⟩
  rw [← hF0.out]
  have F1 : Hid (F0.all (·.oneCell') = true ∧ F0 = x.A S.A) := ⟨by rw [hF0.out]; exact frC_one _ _ _ _ _ _ _ _ _ _ _, hF0.out⟩
  have HW : Hid (S.ws = x :: l ∧ tmB now = true) := ⟨hws, ht⟩
  subst hwv2
  have HYH : Hid (IsD y q sv fv (.slice (some ⟨g, o, none⟩) N cap) S t) := HY
  have HO : Hid (OwnAt y 40 11 g o N cap (flw S.A S.ws)) := hO
  have LW : Hid (q < w.heap.size ∧ g < w.heap.size ∧ (∀ b, sv.ownBlock = some b → b < w.heap.size) ∧ (∀ b, fv.ownBlock = some b → b < w.heap.size)) := ⟨h.lt, h.ws.lt g rfl, h.st.lt, h.fs.lt⟩
  clear h HY hO hT hwv hws h0 hi9 hz9 hy9 hb9
  go_enter Try.func28, Try.ntmps28
  go_wp2_with fail
  rw [← hy]
  clear hy
  refine wp_region_held_drew (S := fun x1 => Below y.heap.size y x1 ∧ x1.cell? ⟨q, 4, none⟩ = some (.slice (some ⟨g, o, none⟩) N cap) ∧ x1.cell? ⟨q, 5, none⟩ = some (.bool false) ∧ x1.cell? ⟨q, 6, none⟩ = some (.int .i64 t) ∧ x1.cell? ⟨q, 1, none⟩ = some (.int .i64 S.I)) (by kernel_rfl) (⟨Below.drew (Below.refl _ _), y4, y5, y6, y1⟩) (fun hHeld => ?_)
  refine tk 0 (.int .i64 now) rfl (.inl ⟨by rfl, ?_⟩) ?_
  · intro w9 hSw
    try dsimp only at hSw
    go_simp
    all_goals try decide
    all_goals try assumption
    all_goals try omega
  try simp only [Act.put, gA, gS, gZ, sA, sZ, sS]
  refine wpAnyH_ready (rs := [1]) (by kernel_rfl) (by simp) ?_
  refine AllReadyH.cons rfl (fun K' hK => ?_) AllReadyH.nil
  rw [if_pos (by rfl)]
  simp only [gA, gS, gZ]
  obtain ⟨S0, S1, S2, S3, S4⟩ := hHeld
  go_wp2_with fail
  refine (TM _).mono ?_
  rintro e w1 ⟨rfl, rfl⟩
  try go_wp2_with fail
  refine hK.out _ _ (⟨S0, S1, S2, S3, S4⟩) (fun hHeld => ?_)
  clear hK K'
  try simp only [Act.put, gA, gS, gZ, sA, sZ, sS]
  refine tk 2 (.bool false) rfl (.inl ⟨by rfl, ?_⟩) ?_
  · intro w9 hSw
    try dsimp only at hSw
    go_simp
    all_goals try decide
    all_goals try assumption
    all_goals try omega
  try simp only [Act.put, gA, gS, gZ, sA, sZ, sS]
  refine tk 3 (.bool false) rfl (.inl ⟨by rfl, ?_⟩) ?_
  · intro w9 hSw
    try dsimp only at hSw
    go_simp
    all_goals try decide
    all_goals try assumption
    all_goals try omega
  try simp only [Act.put, gA, gS, gZ, sA, sZ, sS]
  refine tk 4 (.pointer (some ⟨q, 0, none⟩)) rfl (.inl ⟨by rfl, ?_⟩) ?_
  · intro w9 hSw
    try dsimp only at hSw
    go_simp
    all_goals try decide
    all_goals try assumption
    all_goals try omega
  try simp only [Act.put, gA, gS, gZ, sA, sZ, sS]
  refine tk 5 (.pointer (some ⟨q, 0, none⟩)) rfl (.inl ⟨by rfl, ?_⟩) ?_
  · intro w9 hSw
    try dsimp only at hSw
    go_simp
    all_goals try decide
    all_goals try assumption
    all_goals try omega
  try simp only [Act.put, gA, gS, gZ, sA, sZ, sS]
  refine tk 6 (.pointer (some ⟨q, 4, none⟩)) rfl (.inl ⟨by rfl, ?_⟩) ?_
  · intro w9 hSw
    try dsimp only at hSw
    go_simp
    all_goals try decide
    all_goals try assumption
    all_goals try omega
  try simp only [Act.put, gA, gS, gZ, sA, sZ, sS]
  refine tk 7 (.slice (some ⟨g, o, none⟩) N cap) rfl (.inl ⟨by rfl, ?_⟩) ?_
  · intro w9 hSw
    try dsimp only at hSw
    go_simp
    all_goals try decide
    all_goals try assumption
    all_goals try omega
  try simp only [Act.put, gA, gS, gZ, sA, sZ, sS]
  refine wpAnyH_ready (rs := [8]) (by kernel_rfl) (by simp) ?_
  refine AllReadyH.cons rfl (fun K' hK => ?_) AllReadyH.nil
  rw [if_pos (by rfl)]
  simp only [gA, gS, gZ]
  obtain ⟨S0, S1, S2, S3, S4⟩ := hHeld
  go_wp2_with fail
  refine hK.out _ _ (⟨S0, S1, S2, S3, S4⟩) (fun hHeld => ?_)
  clear hK K'
  try simp only [Act.put, gA, gS, gZ, sA, sZ, sS]
  refine tk 9 (.bool false) rfl (.inl ⟨by rfl, ?_⟩) ?_
  · intro w9 hSw
    try dsimp only at hSw
    go_simp
    all_goals try decide
    all_goals try assumption
    all_goals try omega
  try simp only [Act.put, gA, gS, gZ, sA, sZ, sS]
  refine tk 10 (.bool false) rfl (.inl ⟨by rfl, ?_⟩) ?_
  · intro w9 hSw
    try dsimp only at hSw
    go_simp
    all_goals try decide
    all_goals try assumption
    all_goals try omega
  try simp only [Act.put, gA, gS, gZ, sA, sZ, sS]
  refine tk 11 (.bool false) rfl (.inl ⟨by rfl, ?_⟩) ?_
  · intro w9 hSw
    try dsimp only at hSw
    go_simp
    all_goals try decide
    all_goals try assumption
    all_goals try omega
  try simp only [Act.put, gA, gS, gZ, sA, sZ, sS]
  refine tk 12 (.pointer (some ⟨q, 0, none⟩)) rfl (.inl ⟨by rfl, ?_⟩) ?_
  · intro w9 hSw
    try dsimp only at hSw
    go_simp
    all_goals try decide
    all_goals try assumption
    all_goals try omega
  try simp only [Act.put, gA, gS, gZ, sA, sZ, sS]
  refine tk 13 (.pointer (some ⟨q, 0, none⟩)) rfl (.inl ⟨by rfl, ?_⟩) ?_
  · intro w9 hSw
    try dsimp only at hSw
    go_simp
    all_goals try decide
    all_goals try assumption
    all_goals try omega
  try simp only [Act.put, gA, gS, gZ, sA, sZ, sS]
  refine tk 14 (.pointer (some ⟨q, 5, none⟩)) rfl (.inl ⟨by rfl, ?_⟩) ?_
  · intro w9 hSw
    try dsimp only at hSw
    go_simp
    all_goals try decide
    all_goals try assumption
    all_goals try omega
  try simp only [Act.put, gA, gS, gZ, sA, sZ, sS]
  refine tk 15 (.bool false) rfl (.inl ⟨by rfl, ?_⟩) ?_
  · intro w9 hSw
    try dsimp only at hSw
    go_simp
    all_goals try decide
    all_goals try assumption
    all_goals try omega
  try simp only [Act.put, gA, gS, gZ, sA, sZ, sS]
  refine tk 16 (.bool false) rfl (.inl ⟨by rfl, ?_⟩) ?_
  · intro w9 hSw
    try dsimp only at hSw
    go_simp
    all_goals try decide
    all_goals try assumption
    all_goals try omega
  try simp only [Act.put, gA, gS, gZ, sA, sZ, sS]
  refine tk 17 undef rfl (.inr ⟨by rfl, rfl⟩) ?_
  try simp only [Act.put, gA, gS, gZ, sA, sZ, sS]
  refine tk 18 undef rfl (.inr ⟨by rfl, rfl⟩) ?_
  try simp only [Act.put, gA, gS, gZ, sA, sZ, sS]
  refine tk 19 undef rfl (.inr ⟨by rfl, rfl⟩) ?_
  try simp only [Act.put, gA, gS, gZ, sA, sZ, sS]
  refine tk 20 undef rfl (.inr ⟨by rfl, rfl⟩) ?_
  try simp only [Act.put, gA, gS, gZ, sA, sZ, sS]
  refine tk 21 undef rfl (.inr ⟨by rfl, rfl⟩) ?_
  try simp only [Act.put, gA, gS, gZ, sA, sZ, sS]
  refine tk 22 undef rfl (.inr ⟨by rfl, rfl⟩) ?_
  try simp only [Act.put, gA, gS, gZ, sA, sZ, sS]
  refine tk 23 undef rfl (.inr ⟨by rfl, rfl⟩) ?_
  try simp only [Act.put, gA, gS, gZ, sA, sZ, sS]
  refine tk 24 undef rfl (.inr ⟨by rfl, rfl⟩) ?_
  try simp only [Act.put, gA, gS, gZ, sA, sZ, sS]
  refine tk 25 undef rfl (.inr ⟨by rfl, rfl⟩) ?_
  try simp only [Act.put, gA, gS, gZ, sA, sZ, sS]
  refine tk 26 undef rfl (.inr ⟨by rfl, rfl⟩) ?_
  try simp only [Act.put, gA, gS, gZ, sA, sZ, sS]
  refine tk 27 undef rfl (.inr ⟨by rfl, rfl⟩) ?_
  try simp only [Act.put, gA, gS, gZ, sA, sZ, sS]
  refine tk 28 undef rfl (.inr ⟨by rfl, rfl⟩) ?_
  try simp only [Act.put, gA, gS, gZ, sA, sZ, sS]
  refine tk 29 undef rfl (.inr ⟨by rfl, rfl⟩) ?_
  try simp only [Act.put, gA, gS, gZ, sA, sZ, sS]
  refine tk 30 undef rfl (.inr ⟨by rfl, rfl⟩) ?_
  try simp only [Act.put, gA, gS, gZ, sA, sZ, sS]
  refine tk 31 undef rfl (.inr ⟨by rfl, rfl⟩) ?_
  try simp only [Act.put, gA, gS, gZ, sA, sZ, sS]
  refine tk 32 undef rfl (.inr ⟨by rfl, rfl⟩) ?_
  try simp only [Act.put, gA, gS, gZ, sA, sZ, sS]
  refine tk 33 undef rfl (.inr ⟨by rfl, rfl⟩) ?_
  try simp only [Act.put, gA, gS, gZ, sA, sZ, sS]
  refine tk 34 undef rfl (.inr ⟨by rfl, rfl⟩) ?_
  try simp only [Act.put, gA, gS, gZ, sA, sZ, sS]
  refine tk 35 undef rfl (.inr ⟨by rfl, rfl⟩) ?_
  try simp only [Act.put, gA, gS, gZ, sA, sZ, sS]
  refine tk 36 (.bool false) rfl (.inl ⟨by rfl, ?_⟩) ?_
  · intro w9 hSw
    try dsimp only at hSw
    go_simp
    all_goals try decide
    all_goals try assumption
    all_goals try omega
  try simp only [Act.put, gA, gS, gZ, sA, sZ, sS]
  refine tk 37 (.bool false) rfl (.inl ⟨by rfl, ?_⟩) ?_
  · intro w9 hSw
    try dsimp only at hSw
    go_simp
    all_goals try decide
    all_goals try assumption
    all_goals try omega
  try simp only [Act.put, gA, gS, gZ, sA, sZ, sS]
  refine wpAnyH_done (by kernel_rfl) ?_ _
  have B9 : Hid (Below w.heap.size w y.drew) := K0.drew
  clear hHeld y4 y5 y6 y1 TM
  have f4d : y.drew.heap[w.heap.size]? = some (.cells (frC 0 0 0 0 0 0 0 0 0 0 false) 40 (0, 0)) := f4
  have HD := HYH.out.next (Below.drew (Below.refl _ _))
  have OD := HO.out.same (w' := y.drew) rfl
  have TD := HT.out.same (w' := y.drew) rfl
  generalize hz : y.drew = y9 at f4d B9 HD OD TD ⊢
  clear hz f4
  have LD : (loadVar 40 ⟨g, o, none⟩).run Try.prog y9 = .ok (.agg F0) y9 := by rw [F1.out.2]; exact OwnAt.loadF (rest := flw S.A S.ws.tail) (by rw [HW.out.1] at OD ⊢; exact OD)
  have c4 : y9.cell? ⟨q, 4, none⟩ = some (.slice (some ⟨g, o, none⟩) N cap) := HD.cell 4 _ rfl
  have lq := HD.lt
  have lg := OD.lt
  have l4 := lt_of_heap f4d
  have FS : F0.size = 11 := by rw [F1.out.2]; rfl
  have N1 : (0 : Int) < (N : Int) := by omega
  have N2 : (1 : Int) ≤ (N : Int) := by omega
  have BZ : Below y9.heap.size y9 ((y9.alloc zFb).setRow y9.heap.size F0) := below_setRow (by repeat (first | exact Below.refl _ _ | apply Below.drew | apply Below.al)) (Nat.le_refl _) _
  obtain ⟨z, hz⟩ : ∃ z, z = (y9.alloc zFb).setRow y9.heap.size F0 := ⟨_, rfl⟩
  rw [← hz] at BZ
  have HZ := HD.next BZ
  have f8 : z.heap[y9.heap.size]? = some (.cells F0 40 (0, 0)) := by rw [hz]; exact setRow_heap _ _ _ F0 _ _ (at11 y9 zFb y9.heap.size rfl)
  have f4z : z.heap[w.heap.size]? = some (.cells (frC 0 0 0 0 0 0 0 0 0 0 false) 40 (0, 0)) := blk11 BZ f4d
  have z4 : z.cell? ⟨q, 4, none⟩ = some (.slice (some ⟨g, o, none⟩) N cap) := HZ.cell 4 _ rfl
  have z5 := HZ.c5
  have z6 := HZ.c6
  have y4z := HZ.fz 4
  have y5z := HZ.fz 5
  have y6z := HZ.fz 6
  have lz := HZ.lt
  have POP : Hid (IsD (((z.setCell ⟨q, 4, none⟩ (.slice (some ⟨g, o', none⟩) (N - 1) (cap - 1))).setCell ⟨q, 5, none⟩ (.bool true)).setCell ⟨q, 6, none⟩ (.int .i64 now)) q sv fv (.slice (some ⟨g, o', none⟩) (N - 1) (cap - 1)) (S.popped now) now) := by
    rw [hN.out] at TD ⊢
    exact IsD.pop HD rfl now HW.out.2 BZ TD
  have b8 : ∀ u1 u2 u3, (((z.setCell ⟨q, 4, none⟩ u1).setCell ⟨q, 5, none⟩ u2).setCell ⟨q, 6, none⟩ u3).heap[y9.heap.size]? = some (.cells F0 40 (0, 0)) := fun u1 u2 u3 => (Below.heap_setCell _ _ _ _ (by show y9.heap.size ≠ q; omega)).trans ((Below.heap_setCell _ _ _ _ (by show y9.heap.size ≠ q; omega)).trans ((Below.heap_setCell _ _ _ _ (by show y9.heap.size ≠ q; omega)).trans f8))
  have b4 : ∀ u1 u2 u3, (((z.setCell ⟨q, 4, none⟩ u1).setCell ⟨q, 5, none⟩ u2).setCell ⟨q, 6, none⟩ u3).heap[w.heap.size]? = some (.cells (frC 0 0 0 0 0 0 0 0 0 0 false) 40 (0, 0)) := fun u1 u2 u3 => (Below.heap_setCell _ _ _ _ (by have := LW.out; show w.heap.size ≠ q; omega)).trans ((Below.heap_setCell _ _ _ _ (by have := LW.out; show w.heap.size ≠ q; omega)).trans ((Below.heap_setCell _ _ _ _ (by have := LW.out; show w.heap.size ≠ q; omega)).trans f4z))
  have KW : Hid (Kp (fpD q sv fv (.slice (some ⟨g, o, none⟩) N cap)) w z) := Kp.of (Below.trans B9.out (BZ.mono B9.out.size))
  have HZE : Hid (z = (y9.alloc zFb).setRow y9.heap.size F0) := hz
  clear HZ f4z f8 BZ HD OD TD hz
  go_wp2_with (first
    | (refine wpList_load_by rfl 40 _ rfl ⟨g, o, none⟩ (.agg F0) rfl ?_ ?_
       · exact LD)
    | (refine wpList_load_by rfl 40 _ rfl ⟨y9.heap.size, 0, none⟩ (.agg F0) rfl ?_ ?_
       · exact loadA _ _ _ FS (b8 _ _ _))
    | (refine wpList_store_row rfl 40 _ _ rfl y9.heap.size F0 rfl rfl 40 (frC 0 0 0 0 0 0 0 0 0 0 false) ?_ ?_ ?_ F1.out.1 ?_
       · exact at11 y9 zFb y9.heap.size rfl
       · rw [FS]; exact infoF
       · rw [FS]; rfl
       rw [← HZE.out]
       clear c4 LD lg)
    | (refine wpList_store_row rfl 40 _ _ rfl w.heap.size F0 rfl rfl 40 (frC 0 0 0 0 0 0 0 0 0 0 false) ?_ ?_ ?_ F1.out.1 ?_
       · exact b4 _ _ _
       · rw [FS]; exact infoF
       · rw [FS]; rfl))
  have hc := fun j => cell_of_row _ w.heap.size j _ _ _ (setRow_heap _ _ _ F0 _ _ (b4 (.slice (some ⟨g, o', none⟩) (N - 1) (cap - 1)) (.bool true) (.int .i64 now)))
  have hE := hF0.out
  subst hE
  refine bodyPost_ret (v := .tuple #[.agg (x.A S.A), .bool true]) ?_ rfl ⟨rfl, sv, fv, _, now, POP.out.kp ((Kp.refl [w.heap.size] _).row _ _ (.inl (by simp))) ?_, ?_, ?_⟩
  · simp [results, Try.results28, go_sem, hc]
  · intro k hk hm
    have h1 := LW.out
    simp only [List.mem_cons, List.not_mem_nil, or_false] at hm
    subst hm
    simp only [List.mem_cons, List.mem_append, Option.mem_toList, Value.ownBlock, Option.some.injEq, Option.map_some] at hk
    rcases hk with hk | (hk | hk) | hk
    · omega
    · have := h1.2.2.1 _ hk; omega
    · have := h1.2.2.2 _ hk; omega
    · omega
  · intro b hb
    left
    simpa [Value.ownBlock] using hb
  · exact (((KW.out.set ⟨q, 4, none⟩ _ (.inl (by simp))).set ⟨q, 5, none⟩ _ (.inl (by simp))).set ⟨q, 6, none⟩ _ (.inl (by simp))).row w.heap.size _ (.inr (Nat.le_refl _))
set_option linter.unusedSimpArgs false in
set_option maxHeartbeats 4000000 in
set_option maxRecDepth 100000 in
theorem rtick_due {w : World} {q : Nat} {sv fv wv : Value} {S : ES} {t : Int} (h : IsD w q sv fv wv S t) (now : Int) (x : Wt) (l : List Wt) (hws : S.ws = x :: l) (ht : tmB now = true) (htd : S.told = true) (hl : ¬ now < t) (he : ¬ now - t < S.I) : Calls Try.prog 28 #[.pointer (some ⟨q, 0, none⟩), .int .i64 now] w fun e w' => e = .returned (.tuple #[.agg (x.A S.A), .bool true]) ∧ DPost w w' q sv fv wv (S.popped now) := by
  have h0 : S.ws ≠ [] := by rw [hws]; simp
  obtain ⟨y, hy⟩ : ∃ y, y = w.alloc zFb := ⟨_, rfl⟩
  have K0 : Below w.heap.size w y := by rw [hy]; exact (by repeat (first | exact Below.refl _ _ | apply Below.drew | apply Below.al))
  have HY := h.next K0
  have f4 : y.heap[w.heap.size]? = some (.cells (frC 0 0 0 0 0 0 0 0 0 0 false) 40 (0, 0)) := by rw [hy]; exact at11 _ _ _ rfl
  have TM := fun W => time_any now W
  have y4 : y.cell? ⟨q, 4, none⟩ = some wv := HY.cell 4 wv rfl
  have y5 := HY.c5
  have y6 := HY.c6
  have y1 := HY.c1
  have lq := HY.lt
  obtain ⟨N, hN⟩ : ∃ N, Hid (N = S.ws.length) := ⟨_, rfl⟩
  obtain ⟨aw, cw, hwv⟩ : ∃ a cap, wv = .slice a N cap := by rw [hN.out]; exact h.ws.form
  have wS : IntKind.i64.wrap (now - t) = now - t := w64 _ (by have := tmB_of ht; have := h.a1; omega) (by have := tmB_of ht; have := h.a0; omega)
  rw [ht] at TM
  rw [htd] at y5
  have n0 : ¬ (N : Int) = 0 := by rw [hN.out]; intro e; exact h0 (List.eq_nil_of_length_eq_zero (by omega))
  have N0 : 0 < N := by omega
  obtain ⟨g, o, cap, hwv2, hO⟩ := HY.ws.pos (by rw [← hN.out]; exact N0)
  rw [← hN.out] at hwv2 hO
  obtain ⟨i9, hi9, hz9, hy9, hb9⟩ := info_parts infoFr
  obtain ⟨o', SL, hT, _⟩ := hO.tail elemSF elemSF' hi9 hy9 N0
  rw [flw_tail _ _ h0] at hT
  have HT : Hid (OwnAt y 40 11 g o' (N - 1) (cap - 1) (flw S.A S.ws.tail)) := hT
  obtain ⟨F0, hF0⟩ : ∃ F0, Hid (F0 = x.A S.A) := ⟨_, rfl⟩
  rw [← hF0.out]
  have F1 : Hid (F0.all (·.oneCell') = true ∧ F0 = x.A S.A) := ⟨by rw [hF0.out]; exact frC_one _ _ _ _ _ _ _ _ _ _ _, hF0.out⟩
  have HW : Hid (S.ws = x :: l ∧ tmB now = true) := ⟨hws, ht⟩
  subst hwv2
  have HYH : Hid (IsD y q sv fv (.slice (some ⟨g, o, none⟩) N cap) S t) := HY
  have HO : Hid (OwnAt y 40 11 g o N cap (flw S.A S.ws)) := hO
  have LW : Hid (q < w.heap.size ∧ g < w.heap.size ∧ (∀ b, sv.ownBlock = some b → b < w.heap.size) ∧ (∀ b, fv.ownBlock = some b → b < w.heap.size)) := ⟨h.lt, h.ws.lt g rfl, h.st.lt, h.fs.lt⟩
  clear h HY hO hT hwv hws h0 hi9 hz9 hy9 hb9
  go_enter Try.func28, Try.ntmps28
  go_wp2_with fail
  rw [← hy]
  clear hy
  refine wp_region_held_drew (S := fun x1 => Below y.heap.size y x1 ∧ x1.cell? ⟨q, 4, none⟩ = some (.slice (some ⟨g, o, none⟩) N cap) ∧ x1.cell? ⟨q, 5, none⟩ = some (.bool true) ∧ x1.cell? ⟨q, 6, none⟩ = some (.int .i64 t) ∧ x1.cell? ⟨q, 1, none⟩ = some (.int .i64 S.I)) (by kernel_rfl) (⟨Below.drew (Below.refl _ _), y4, y5, y6, y1⟩) (fun hHeld => ?_)
  refine tk 0 (.int .i64 now) rfl (.inl ⟨by rfl, ?_⟩) ?_
  · intro w9 hSw
    try dsimp only at hSw
    go_simp
    all_goals try decide
    all_goals try assumption
    all_goals try omega
  try simp only [Act.put, gA, gS, gZ, sA, sZ, sS]
  refine wpAnyH_ready (rs := [1]) (by kernel_rfl) (by simp) ?_
  refine AllReadyH.cons rfl (fun K' hK => ?_) AllReadyH.nil
  rw [if_pos (by rfl)]
  simp only [gA, gS, gZ]
  obtain ⟨S0, S1, S2, S3, S4⟩ := hHeld
  go_wp2_with fail
  refine (TM _).mono ?_
  rintro e w1 ⟨rfl, rfl⟩
  try go_wp2_with fail
  refine hK.out _ _ (⟨S0, S1, S2, S3, S4⟩) (fun hHeld => ?_)
  clear hK K'
  try simp only [Act.put, gA, gS, gZ, sA, sZ, sS]
  refine tk 2 (.bool false) rfl (.inl ⟨by rfl, ?_⟩) ?_
  · intro w9 hSw
    try dsimp only at hSw
    go_simp
    all_goals try decide
    all_goals try assumption
    all_goals try omega
  try simp only [Act.put, gA, gS, gZ, sA, sZ, sS]
  refine tk 3 (.bool false) rfl (.inl ⟨by rfl, ?_⟩) ?_
  · intro w9 hSw
    try dsimp only at hSw
    go_simp
    all_goals try decide
    all_goals try assumption
    all_goals try omega
  try simp only [Act.put, gA, gS, gZ, sA, sZ, sS]
  refine tk 4 (.pointer (some ⟨q, 0, none⟩)) rfl (.inl ⟨by rfl, ?_⟩) ?_
  · intro w9 hSw
    try dsimp only at hSw
    go_simp
    all_goals try decide
    all_goals try assumption
    all_goals try omega
  try simp only [Act.put, gA, gS, gZ, sA, sZ, sS]
  refine tk 5 (.pointer (some ⟨q, 0, none⟩)) rfl (.inl ⟨by rfl, ?_⟩) ?_
  · intro w9 hSw
    try dsimp only at hSw
    go_simp
    all_goals try decide
    all_goals try assumption
    all_goals try omega
  try simp only [Act.put, gA, gS, gZ, sA, sZ, sS]
  refine tk 6 (.pointer (some ⟨q, 4, none⟩)) rfl (.inl ⟨by rfl, ?_⟩) ?_
  · intro w9 hSw
    try dsimp only at hSw
    go_simp
    all_goals try decide
    all_goals try assumption
    all_goals try omega
  try simp only [Act.put, gA, gS, gZ, sA, sZ, sS]
  refine tk 7 (.slice (some ⟨g, o, none⟩) N cap) rfl (.inl ⟨by rfl, ?_⟩) ?_
  · intro w9 hSw
    try dsimp only at hSw
    go_simp
    all_goals try decide
    all_goals try assumption
    all_goals try omega
  try simp only [Act.put, gA, gS, gZ, sA, sZ, sS]
  refine wpAnyH_ready (rs := [8]) (by kernel_rfl) (by simp) ?_
  refine AllReadyH.cons rfl (fun K' hK => ?_) AllReadyH.nil
  rw [if_pos (by rfl)]
  simp only [gA, gS, gZ]
  obtain ⟨S0, S1, S2, S3, S4⟩ := hHeld
  go_wp2_with fail
  refine hK.out _ _ (⟨S0, S1, S2, S3, S4⟩) (fun hHeld => ?_)
  clear hK K'
  try simp only [Act.put, gA, gS, gZ, sA, sZ, sS]
  refine tk 9 (.bool false) rfl (.inl ⟨by rfl, ?_⟩) ?_
  · intro w9 hSw
    try dsimp only at hSw
    go_simp
    all_goals try decide
    all_goals try assumption
    all_goals try omega
  try simp only [Act.put, gA, gS, gZ, sA, sZ, sS]
  refine tk 10 (.bool false) rfl (.inl ⟨by rfl, ?_⟩) ?_
  · intro w9 hSw
    try dsimp only at hSw
    go_simp
    all_goals try decide
    all_goals try assumption
    all_goals try omega
  try simp only [Act.put, gA, gS, gZ, sA, sZ, sS]
  refine tk 11 (.bool false) rfl (.inl ⟨by rfl, ?_⟩) ?_
  · intro w9 hSw
    try dsimp only at hSw
    go_simp
    all_goals try decide
    all_goals try assumption
    all_goals try omega
  try simp only [Act.put, gA, gS, gZ, sA, sZ, sS]
  refine tk 12 (.pointer (some ⟨q, 0, none⟩)) rfl (.inl ⟨by rfl, ?_⟩) ?_
  · intro w9 hSw
    try dsimp only at hSw
    go_simp
    all_goals try decide
    all_goals try assumption
    all_goals try omega
  try simp only [Act.put, gA, gS, gZ, sA, sZ, sS]
  refine tk 13 (.pointer (some ⟨q, 0, none⟩)) rfl (.inl ⟨by rfl, ?_⟩) ?_
  · intro w9 hSw
    try dsimp only at hSw
    go_simp
    all_goals try decide
    all_goals try assumption
    all_goals try omega
  try simp only [Act.put, gA, gS, gZ, sA, sZ, sS]
  refine tk 14 (.pointer (some ⟨q, 5, none⟩)) rfl (.inl ⟨by rfl, ?_⟩) ?_
  · intro w9 hSw
    try dsimp only at hSw
    go_simp
    all_goals try decide
    all_goals try assumption
    all_goals try omega
  try simp only [Act.put, gA, gS, gZ, sA, sZ, sS]
  refine tk 15 (.bool true) rfl (.inl ⟨by rfl, ?_⟩) ?_
  · intro w9 hSw
    try dsimp only at hSw
    go_simp
    all_goals try decide
    all_goals try assumption
    all_goals try omega
  try simp only [Act.put, gA, gS, gZ, sA, sZ, sS]
  refine tk 16 (.bool true) rfl (.inl ⟨by rfl, ?_⟩) ?_
  · intro w9 hSw
    try dsimp only at hSw
    go_simp
    all_goals try decide
    all_goals try assumption
    all_goals try omega
  try simp only [Act.put, gA, gS, gZ, sA, sZ, sS]
  refine tk 17 (.pointer (some ⟨q, 0, none⟩)) rfl (.inl ⟨by rfl, ?_⟩) ?_
  · intro w9 hSw
    try dsimp only at hSw
    go_simp
    all_goals try decide
    all_goals try assumption
    all_goals try omega
  try simp only [Act.put, gA, gS, gZ, sA, sZ, sS]
  refine tk 18 (.pointer (some ⟨q, 0, none⟩)) rfl (.inl ⟨by rfl, ?_⟩) ?_
  · intro w9 hSw
    try dsimp only at hSw
    go_simp
    all_goals try decide
    all_goals try assumption
    all_goals try omega
  try simp only [Act.put, gA, gS, gZ, sA, sZ, sS]
  refine tk 19 (.pointer (some ⟨q, 6, none⟩)) rfl (.inl ⟨by rfl, ?_⟩) ?_
  · intro w9 hSw
    try dsimp only at hSw
    go_simp
    all_goals try decide
    all_goals try assumption
    all_goals try omega
  try simp only [Act.put, gA, gS, gZ, sA, sZ, sS]
  refine tk 20 (.int .i64 t) rfl (.inl ⟨by rfl, ?_⟩) ?_
  · intro w9 hSw
    try dsimp only at hSw
    go_simp
    all_goals try decide
    all_goals try assumption
    all_goals try omega
  try simp only [Act.put, gA, gS, gZ, sA, sZ, sS]
  refine tk 21 (.int .i64 now) rfl (.inl ⟨by rfl, ?_⟩) ?_
  · intro w9 hSw
    try dsimp only at hSw
    go_simp
    all_goals try decide
    all_goals try assumption
    all_goals try omega
  try simp only [Act.put, gA, gS, gZ, sA, sZ, sS]
  refine tk 22 (.bool false) rfl (.inl ⟨by rfl, ?_⟩) ?_
  · intro w9 hSw
    try dsimp only at hSw
    go_simp
    all_goals try decide
    all_goals try assumption
    all_goals try omega
  try simp only [Act.put, gA, gS, gZ, sA, sZ, sS]
  refine tk 23 (.bool false) rfl (.inl ⟨by rfl, ?_⟩) ?_
  · intro w9 hSw
    try dsimp only at hSw
    go_simp
    all_goals try decide
    all_goals try assumption
    all_goals try omega
  try simp only [Act.put, gA, gS, gZ, sA, sZ, sS]
  refine tk 24 (.int .i64 now) rfl (.inl ⟨by rfl, ?_⟩) ?_
  · intro w9 hSw
    try dsimp only at hSw
    go_simp
    all_goals try decide
    all_goals try assumption
    all_goals try omega
  try simp only [Act.put, gA, gS, gZ, sA, sZ, sS]
  refine tk 25 (.pointer (some ⟨q, 0, none⟩)) rfl (.inl ⟨by rfl, ?_⟩) ?_
  · intro w9 hSw
    try dsimp only at hSw
    go_simp
    all_goals try decide
    all_goals try assumption
    all_goals try omega
  try simp only [Act.put, gA, gS, gZ, sA, sZ, sS]
  refine tk 26 (.pointer (some ⟨q, 0, none⟩)) rfl (.inl ⟨by rfl, ?_⟩) ?_
  · intro w9 hSw
    try dsimp only at hSw
    go_simp
    all_goals try decide
    all_goals try assumption
    all_goals try omega
  try simp only [Act.put, gA, gS, gZ, sA, sZ, sS]
  refine tk 27 (.pointer (some ⟨q, 6, none⟩)) rfl (.inl ⟨by rfl, ?_⟩) ?_
  · intro w9 hSw
    try dsimp only at hSw
    go_simp
    all_goals try decide
    all_goals try assumption
    all_goals try omega
  try simp only [Act.put, gA, gS, gZ, sA, sZ, sS]
  refine tk 28 (.int .i64 t) rfl (.inl ⟨by rfl, ?_⟩) ?_
  · intro w9 hSw
    try dsimp only at hSw
    go_simp
    all_goals try decide
    all_goals try assumption
    all_goals try omega
  try simp only [Act.put, gA, gS, gZ, sA, sZ, sS]
  refine tk 29 (.int .i64 (now - t)) rfl (.inl ⟨by rfl, ?_⟩) ?_
  · intro w9 hSw
    try dsimp only at hSw
    go_simp
    all_goals try decide
    all_goals try assumption
    all_goals try omega
  try simp only [Act.put, gA, gS, gZ, sA, sZ, sS]
  refine tk 30 (.pointer (some ⟨q, 0, none⟩)) rfl (.inl ⟨by rfl, ?_⟩) ?_
  · intro w9 hSw
    try dsimp only at hSw
    go_simp
    all_goals try decide
    all_goals try assumption
    all_goals try omega
  try simp only [Act.put, gA, gS, gZ, sA, sZ, sS]
  refine tk 31 (.pointer (some ⟨q, 0, none⟩)) rfl (.inl ⟨by rfl, ?_⟩) ?_
  · intro w9 hSw
    try dsimp only at hSw
    go_simp
    all_goals try decide
    all_goals try assumption
    all_goals try omega
  try simp only [Act.put, gA, gS, gZ, sA, sZ, sS]
  refine tk 32 (.pointer (some ⟨q, 1, none⟩)) rfl (.inl ⟨by rfl, ?_⟩) ?_
  · intro w9 hSw
    try dsimp only at hSw
    go_simp
    all_goals try decide
    all_goals try assumption
    all_goals try omega
  try simp only [Act.put, gA, gS, gZ, sA, sZ, sS]
  refine tk 33 (.int .i64 S.I) rfl (.inl ⟨by rfl, ?_⟩) ?_
  · intro w9 hSw
    try dsimp only at hSw
    go_simp
    all_goals try decide
    all_goals try assumption
    all_goals try omega
  try simp only [Act.put, gA, gS, gZ, sA, sZ, sS]
  refine tk 34 (.bool false) rfl (.inl ⟨by rfl, ?_⟩) ?_
  · intro w9 hSw
    try dsimp only at hSw
    go_simp
    all_goals try decide
    all_goals try assumption
    all_goals try omega
  try simp only [Act.put, gA, gS, gZ, sA, sZ, sS]
  refine tk 35 (.bool false) rfl (.inl ⟨by rfl, ?_⟩) ?_
  · intro w9 hSw
    try dsimp only at hSw
    go_simp
    all_goals try decide
    all_goals try assumption
    all_goals try omega
  try simp only [Act.put, gA, gS, gZ, sA, sZ, sS]
  refine tk 36 (.bool false) rfl (.inl ⟨by rfl, ?_⟩) ?_
  · intro w9 hSw
    try dsimp only at hSw
    go_simp
    all_goals try decide
    all_goals try assumption
    all_goals try omega
  try simp only [Act.put, gA, gS, gZ, sA, sZ, sS]
  refine tk 37 (.bool false) rfl (.inl ⟨by rfl, ?_⟩) ?_
  · intro w9 hSw
    try dsimp only at hSw
    go_simp
    all_goals try decide
    all_goals try assumption
    all_goals try omega
  try simp only [Act.put, gA, gS, gZ, sA, sZ, sS]
  refine wpAnyH_done (by kernel_rfl) ?_ _
  have B9 : Hid (Below w.heap.size w y.drew) := K0.drew
  clear hHeld y4 y5 y6 y1 TM
  have f4d : y.drew.heap[w.heap.size]? = some (.cells (frC 0 0 0 0 0 0 0 0 0 0 false) 40 (0, 0)) := f4
  have HD := HYH.out.next (Below.drew (Below.refl _ _))
  have OD := HO.out.same (w' := y.drew) rfl
  have TD := HT.out.same (w' := y.drew) rfl
  generalize hz : y.drew = y9 at f4d B9 HD OD TD ⊢
  clear hz f4
  have LD : (loadVar 40 ⟨g, o, none⟩).run Try.prog y9 = .ok (.agg F0) y9 := by rw [F1.out.2]; exact OwnAt.loadF (rest := flw S.A S.ws.tail) (by rw [HW.out.1] at OD ⊢; exact OD)
  have c4 : y9.cell? ⟨q, 4, none⟩ = some (.slice (some ⟨g, o, none⟩) N cap) := HD.cell 4 _ rfl
  have lq := HD.lt
  have lg := OD.lt
  have l4 := lt_of_heap f4d
  have FS : F0.size = 11 := by rw [F1.out.2]; rfl
  have N1 : (0 : Int) < (N : Int) := by omega
  have N2 : (1 : Int) ≤ (N : Int) := by omega
  have BZ : Below y9.heap.size y9 ((y9.alloc zFb).setRow y9.heap.size F0) := below_setRow (by repeat (first | exact Below.refl _ _ | apply Below.drew | apply Below.al)) (Nat.le_refl _) _
  obtain ⟨z, hz⟩ : ∃ z, z = (y9.alloc zFb).setRow y9.heap.size F0 := ⟨_, rfl⟩
  rw [← hz] at BZ
  have HZ := HD.next BZ
  have f8 : z.heap[y9.heap.size]? = some (.cells F0 40 (0, 0)) := by rw [hz]; exact setRow_heap _ _ _ F0 _ _ (at11 y9 zFb y9.heap.size rfl)
  have f4z : z.heap[w.heap.size]? = some (.cells (frC 0 0 0 0 0 0 0 0 0 0 false) 40 (0, 0)) := blk11 BZ f4d
  have z4 : z.cell? ⟨q, 4, none⟩ = some (.slice (some ⟨g, o, none⟩) N cap) := HZ.cell 4 _ rfl
  have z5 := HZ.c5
  have z6 := HZ.c6
  have y4z := HZ.fz 4
  have y5z := HZ.fz 5
  have y6z := HZ.fz 6
  have lz := HZ.lt
  have POP : Hid (IsD (((z.setCell ⟨q, 4, none⟩ (.slice (some ⟨g, o', none⟩) (N - 1) (cap - 1))).setCell ⟨q, 5, none⟩ (.bool true)).setCell ⟨q, 6, none⟩ (.int .i64 now)) q sv fv (.slice (some ⟨g, o', none⟩) (N - 1) (cap - 1)) (S.popped now) now) := by
    rw [hN.out] at TD ⊢
    exact IsD.pop HD rfl now HW.out.2 BZ TD
  have b8 : ∀ u1 u2 u3, (((z.setCell ⟨q, 4, none⟩ u1).setCell ⟨q, 5, none⟩ u2).setCell ⟨q, 6, none⟩ u3).heap[y9.heap.size]? = some (.cells F0 40 (0, 0)) := fun u1 u2 u3 => (Below.heap_setCell _ _ _ _ (by show y9.heap.size ≠ q; omega)).trans ((Below.heap_setCell _ _ _ _ (by show y9.heap.size ≠ q; omega)).trans ((Below.heap_setCell _ _ _ _ (by show y9.heap.size ≠ q; omega)).trans f8))
  have b4 : ∀ u1 u2 u3, (((z.setCell ⟨q, 4, none⟩ u1).setCell ⟨q, 5, none⟩ u2).setCell ⟨q, 6, none⟩ u3).heap[w.heap.size]? = some (.cells (frC 0 0 0 0 0 0 0 0 0 0 false) 40 (0, 0)) := fun u1 u2 u3 => (Below.heap_setCell _ _ _ _ (by have := LW.out; show w.heap.size ≠ q; omega)).trans ((Below.heap_setCell _ _ _ _ (by have := LW.out; show w.heap.size ≠ q; omega)).trans ((Below.heap_setCell _ _ _ _ (by have := LW.out; show w.heap.size ≠ q; omega)).trans f4z))
  have KW : Hid (Kp (fpD q sv fv (.slice (some ⟨g, o, none⟩) N cap)) w z) := Kp.of (Below.trans B9.out (BZ.mono B9.out.size))
  have HZE : Hid (z = (y9.alloc zFb).setRow y9.heap.size F0) := hz
  clear HZ f4z f8 BZ HD OD TD hz
  go_wp2_with (first
    | (refine wpList_load_by rfl 40 _ rfl ⟨g, o, none⟩ (.agg F0) rfl ?_ ?_
       · exact LD)
    | (refine wpList_load_by rfl 40 _ rfl ⟨y9.heap.size, 0, none⟩ (.agg F0) rfl ?_ ?_
       · exact loadA _ _ _ FS (b8 _ _ _))
    | (refine wpList_store_row rfl 40 _ _ rfl y9.heap.size F0 rfl rfl 40 (frC 0 0 0 0 0 0 0 0 0 0 false) ?_ ?_ ?_ F1.out.1 ?_
       · exact at11 y9 zFb y9.heap.size rfl
       · rw [FS]; exact infoF
       · rw [FS]; rfl
       rw [← HZE.out]
       clear c4 LD lg)
    | (refine wpList_store_row rfl 40 _ _ rfl w.heap.size F0 rfl rfl 40 (frC 0 0 0 0 0 0 0 0 0 0 false) ?_ ?_ ?_ F1.out.1 ?_
       · exact b4 _ _ _
       · rw [FS]; exact infoF
       · rw [FS]; rfl))
  have hc := fun j => cell_of_row _ w.heap.size j _ _ _ (setRow_heap _ _ _ F0 _ _ (b4 (.slice (some ⟨g, o', none⟩) (N - 1) (cap - 1)) (.bool true) (.int .i64 now)))
  have hE := hF0.out
  subst hE
  refine bodyPost_ret (v := .tuple #[.agg (x.A S.A), .bool true]) ?_ rfl ⟨rfl, sv, fv, _, now, POP.out.kp ((Kp.refl [w.heap.size] _).row _ _ (.inl (by simp))) ?_, ?_, ?_⟩
  · simp [results, Try.results28, go_sem, hc]
  · intro k hk hm
    have h1 := LW.out
    simp only [List.mem_cons, List.not_mem_nil, or_false] at hm
    subst hm
    simp only [List.mem_cons, List.mem_append, Option.mem_toList, Value.ownBlock, Option.some.injEq, Option.map_some] at hk
    rcases hk with hk | (hk | hk) | hk
    · omega
    · have := h1.2.2.1 _ hk; omega
    · have := h1.2.2.2 _ hk; omega
    · omega
  · intro b hb
    left
    simpa [Value.ownBlock] using hb
  · exact (((KW.out.set ⟨q, 4, none⟩ _ (.inl (by simp))).set ⟨q, 5, none⟩ _ (.inl (by simp))).set ⟨q, 6, none⟩ _ (.inl (by simp))).row w.heap.size _ (.inr (Nat.le_refl _))
end Go.Proofs.Ytnbdnmfnmnboiaa
