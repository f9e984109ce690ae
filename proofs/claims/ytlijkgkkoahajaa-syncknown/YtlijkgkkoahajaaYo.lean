/-
  The walk of the document's Hear, where one was heard ahead: how many lie between is counted.
-/
import Derived.Test.YtlijkgkkoahajaaYl
import Derived.Test.YtlijkgkkoahajaaTk9
namespace Go.Proofs.Ytlijkgkkoahajaa
open Go.RowKit

theorem gap_zero {top k n : Int} (h : nxt top k = n) : gap top k n = 0 := by
  unfold gap; rw [if_pos (by omega)]; omega
theorem gap_in {top k n : Int} (hk : 1 ≤ k ∧ k ≤ top) (hn : 1 ≤ n ∧ n ≤ top) : 0 ≤ gap top k n ∧ gap top k n < top := by
  obtain ⟨h1, h2⟩ := nxt_in hk.1 hk.2
  unfold gap; split <;> omega
theorem gap_step {top k n : Int} (hk : 1 ≤ k ∧ k ≤ top) (hn : 1 ≤ n ∧ n ≤ top) (h : ¬ nxt top k = n) : gap top (nxt top k) n + 1 = gap top k n := by
  obtain ⟨h1, h2⟩ := nxt_in hk.1 hk.2
  generalize hm : nxt top k = m at h1 h2 h
  have e : nxt top m = if top ≤ m then 1 else m + 1 := rfl
  unfold gap
  rw [hm, e]
  split <;> split <;> split <;> omega

set_option linter.unusedSimpArgs false in
set_option maxHeartbeats 4000000 in
set_option maxRecDepth 100000 in
theorem uright_2 (p : Nat) (id top W at_ n0 lo wg : Int) (d0 d1 d2 d3 d4 d5 d6 d7 now : Int) (h : tmB now = true) (ht : 0 < top) (h240 : top ≤ 240) (hl : 1 ≤ n0 ∧ n0 ≤ top) (h1 : 1 ≤ d0) (h2 : d0 ≤ top) (h3 : same8 d0 d1 d2 d3 d4 d5 d6 d7 d0 0 0 0 0 0 0 0 = true) (hlo : 0 ≤ lo ∧ lo ≤ 1000000) (w : World) (hp : w.heap[p]? = some (.cells (vsC id W top true at_ n0 lo wg) 58 (0, 0))) : Calls Try.prog 21 #[.pointer (some ⟨p, 0, none⟩), frV id 1 d0 d1 d2 d3 d4 d5 d6 d7 false, .int .i64 now] w fun e w' => e = .returned (.tuple #[.int .u8 d0, .bool true]) ∧ w'.heap[p]? = some (.cells (vsC id W top true now d0 (lo + gap top n0 d0) wg) 58 (0, 0)) ∧ Kp [p] w w' := by
  have IT := fun X => time_any now X
  rw [h] at IT
  clear h
  have hq1 := fun W => eql8 W d0 d1 d2 d3 d4 d5 d6 d7 d0 0 0 0 0 0 0 0
  rw [h3] at hq1
  clear h3
  have c0 : w.cell? ⟨p, 0, none⟩ = some (.int .u16 id) := by rw [cell_of_row w _ 0 _ _ _ hp]; rfl
  have c1 : w.cell? ⟨p, 1, none⟩ = some (.int .i64 W) := by rw [cell_of_row w _ 1 _ _ _ hp]; rfl
  have c2 : w.cell? ⟨p, 2, none⟩ = some (.int .u8 top) := by rw [cell_of_row w _ 2 _ _ _ hp]; rfl
  have c3 : w.cell? ⟨p, 3, none⟩ = some (.bool true) := by rw [cell_of_row w _ 3 _ _ _ hp]; rfl
  have c4 : w.cell? ⟨p, 4, none⟩ = some (.int .i64 at_) := by rw [cell_of_row w _ 4 _ _ _ hp]; rfl
  have c5 : w.cell? ⟨p, 5, none⟩ = some (.int .u8 n0) := by rw [cell_of_row w _ 5 _ _ _ hp]; rfl
  have c6 : w.cell? ⟨p, 6, none⟩ = some (.int .i64 lo) := by rw [cell_of_row w _ 6 _ _ _ hp]; rfl
  have c7 : w.cell? ⟨p, 7, none⟩ = some (.int .i64 wg) := by rw [cell_of_row w _ 7 _ _ _ hp]; rfl
  have lp : p < w.heap.size := lt_of_heap hp
  have z3 := froz11 w p 3 _ _ hp
  have z4 := froz11 w p 4 _ _ hp
  have z5 := froz11 w p 5 _ _ hp
  have HP : Hid (w.heap[p]? = some (.cells (vsC id W top true at_ n0 lo wg) 58 (0, 0))) := hp
  clear hp
  go_enter Try.func21, Try.ntmps21
  go_wp2_with fail
  refine wp_region_held_drew (S := fun x => Below w.heap.size w x ∧ x.cell? ⟨p, 0, none⟩ = some (.int .u16 id) ∧ x.cell? ⟨w.heap.size, 0, none⟩ = some (.int .u16 id) ∧ x.cell? ⟨w.heap.size, 10, none⟩ = some (.bool false)) (by kernel_rfl) (⟨Below.drew (Below.al (Below.refl _ _) _), cla11 c0, by simp [go_sem], by simp [go_sem]⟩) (fun hHeld => ?_)
  refine tk 0 (.pointer (some ⟨w.heap.size, 0, none⟩)) rfl (.inl ⟨by rfl, ?_⟩) ?_
  · intro w9 hSw
    try dsimp only at hSw
    go_simp
    all_goals try decide
    all_goals try assumption
    all_goals try omega
  try simp only [Act.put, gA, gS, gZ, sA, sZ, sS]
  refine tk 1 (.int .u16 id) rfl (.inl ⟨by rfl, ?_⟩) ?_
  · intro w9 hSw
    try dsimp only at hSw
    go_simp
    all_goals try decide
    all_goals try assumption
    all_goals try omega
  try simp only [Act.put, gA, gS, gZ, sA, sZ, sS]
  refine tk 2 (.pointer (some ⟨p, 0, none⟩)) rfl (.inl ⟨by rfl, ?_⟩) ?_
  · intro w9 hSw
    try dsimp only at hSw
    go_simp
    all_goals try decide
    all_goals try assumption
    all_goals try omega
  try simp only [Act.put, gA, gS, gZ, sA, sZ, sS]
  refine tk 3 (.pointer (some ⟨p, 0, none⟩)) rfl (.inl ⟨by rfl, ?_⟩) ?_
  · intro w9 hSw
    try dsimp only at hSw
    go_simp
    all_goals try decide
    all_goals try assumption
    all_goals try omega
  try simp only [Act.put, gA, gS, gZ, sA, sZ, sS]
  refine tk 4 (.pointer (some ⟨p, 0, none⟩)) rfl (.inl ⟨by rfl, ?_⟩) ?_
  · intro w9 hSw
    try dsimp only at hSw
    go_simp
    all_goals try decide
    all_goals try assumption
    all_goals try omega
  try simp only [Act.put, gA, gS, gZ, sA, sZ, sS]
  refine tk 5 (.int .u16 id) rfl (.inl ⟨by rfl, ?_⟩) ?_
  · intro w9 hSw
    try dsimp only at hSw
    go_simp
    all_goals try decide
    all_goals try assumption
    all_goals try omega
  try simp only [Act.put, gA, gS, gZ, sA, sZ, sS]
  refine tk 6 (.bool false) rfl (.inl ⟨by rfl, ?_⟩) ?_
  · intro w9 hSw
    try dsimp only at hSw
    go_simp
    all_goals try decide
    all_goals try assumption
    all_goals try omega
  try simp only [Act.put, gA, gS, gZ, sA, sZ, sS]
  refine tk 7 (.bool false) rfl (.inl ⟨by rfl, ?_⟩) ?_
  · intro w9 hSw
    try dsimp only at hSw
    go_simp
    all_goals try decide
    all_goals try assumption
    all_goals try omega
  try simp only [Act.put, gA, gS, gZ, sA, sZ, sS]
  refine tk 8 (.pointer (some ⟨w.heap.size, 10, none⟩)) rfl (.inl ⟨by rfl, ?_⟩) ?_
  · intro w9 hSw
    try dsimp only at hSw
    go_simp
    all_goals try decide
    all_goals try assumption
    all_goals try omega
  try simp only [Act.put, gA, gS, gZ, sA, sZ, sS]
  refine tk 9 (.bool false) rfl (.inl ⟨by rfl, ?_⟩) ?_
  · intro w9 hSw
    try dsimp only at hSw
    go_simp
    all_goals try decide
    all_goals try assumption
    all_goals try omega
  try simp only [Act.put, gA, gS, gZ, sA, sZ, sS]
  refine tk 10 (.bool false) rfl (.inl ⟨by rfl, ?_⟩) ?_
  · intro w9 hSw
    try dsimp only at hSw
    go_simp
    all_goals try decide
    all_goals try assumption
    all_goals try omega
  try simp only [Act.put, gA, gS, gZ, sA, sZ, sS]
  refine tk 11 (.bool false) rfl (.inl ⟨by rfl, ?_⟩) ?_
  · intro w9 hSw
    try dsimp only at hSw
    go_simp
    all_goals try decide
    all_goals try assumption
    all_goals try omega
  try simp only [Act.put, gA, gS, gZ, sA, sZ, sS]
  refine tk 12 (.int .i64 now) rfl (.inl ⟨by rfl, ?_⟩) ?_
  · intro w9 hSw
    try dsimp only at hSw
    go_simp
    all_goals try decide
    all_goals try assumption
    all_goals try omega
  try simp only [Act.put, gA, gS, gZ, sA, sZ, sS]
  refine wpAnyH_ready (rs := [13]) (by kernel_rfl) (by simp) ?_
  refine AllReadyH.cons rfl (fun K' hK => ?_) AllReadyH.nil
  rw [if_pos (by rfl)]
  simp only [gA, gS, gZ]
  go_wp2_with fail
  refine (IT _).mono ?_
  rintro e w3 ⟨rfl, rfl⟩
  try go_wp2_with fail
  refine hK.out _ _ (hHeld) (fun hHeld => ?_)
  clear hK K'
  try simp only [Act.put, gA, gS, gZ, sA, sZ, sS]
  refine tk 14 (.bool false) rfl (.inl ⟨by rfl, ?_⟩) ?_
  · intro w9 hSw
    try dsimp only at hSw
    go_simp
    all_goals try decide
    all_goals try assumption
    all_goals try omega
  try simp only [Act.put, gA, gS, gZ, sA, sZ, sS]
  refine tk 15 (.bool false) rfl (.inl ⟨by rfl, ?_⟩) ?_
  · intro w9 hSw
    try dsimp only at hSw
    go_simp
    all_goals try decide
    all_goals try assumption
    all_goals try omega
  try simp only [Act.put, gA, gS, gZ, sA, sZ, sS]
  refine wpAnyH_done (by kernel_rfl) ?_ _
  have kx := hHeld.1
  clear hHeld
  have GI := gap_in hl ⟨h1, h2⟩
  have W0 : World := (w.alloc (.cells (frC id 1 d0 d1 d2 d3 d4 d5 d6 d7 false) 39)).drew
  clear W0
  have INI : Hid ((w.alloc (.cells (frC id 1 d0 d1 d2 d3 d4 d5 d6 d7 false) 39)).drew.heap[p]? = some (.cells (vsC id W top true at_ n0 lo wg) 58 (0, 0)) ∧ Kp [p] w (w.alloc (.cells (frC id 1 d0 d1 d2 d3 d4 d5 d6 d7 false) 39)).drew) := ⟨ext11 HP.out, ((Kp.refl _ _).al _).drew⟩
  go_wp2_with fail
  go_loopw [10] (fun u wx => ∃ k L : Int, u = .int .u8 k ∧ (1 ≤ k ∧ k ≤ top) ∧ lo ≤ L ∧ L + gap top k d0 = lo + gap top n0 d0 ∧ wx.heap[p]? = some (.cells (vsC id W top true at_ n0 L wg) 58 (0, 0)) ∧ Kp [p] w wx) (fun u _ => (gap top (intOf u) d0).toNat)
  case atStart => exact ⟨n0, lo, rfl, hl, Int.le_refl _, rfl, INI.out.1, INI.out.2⟩
  case round =>
    clear INI z3 z4 z5 c0 c1 c2 c3 c4 c5 c6 c7 kx
    obtain ⟨k, L, rfl, hk, hL, hsum, hq, kq⟩ := hrel
    have hin := gap_in hk ⟨h1, h2⟩
    obtain ⟨m1, m2⟩ := nxt_in hk.1 hk.2
    have e2 : wr.cell? ⟨p, 2, none⟩ = some (.int .u8 top) := by rw [cell_of_row wr _ 2 _ _ _ hq]; rfl
    have e3 : wr.cell? ⟨p, 3, none⟩ = some (.bool true) := by rw [cell_of_row wr _ 3 _ _ _ hq]; rfl
    have e4 : wr.cell? ⟨p, 4, none⟩ = some (.int .i64 at_) := by rw [cell_of_row wr _ 4 _ _ _ hq]; rfl
    have e5 : wr.cell? ⟨p, 5, none⟩ = some (.int .u8 n0) := by rw [cell_of_row wr _ 5 _ _ _ hq]; rfl
    have e6 : wr.cell? ⟨p, 6, none⟩ = some (.int .i64 L) := by rw [cell_of_row wr _ 6 _ _ _ hq]; rfl
    have y3 := froz11 wr p 3 _ _ hq
    have y4 := froz11 wr p 4 _ _ hq
    have y5 := froz11 wr p 5 _ _ hq
    have y6 := froz11 wr p 6 _ _ hq
    have lpr : p < wr.heap.size := lt_of_heap hq
    have HQ : Hid (wr.heap[p]? = some (.cells (vsC id W top true at_ n0 L wg) 58 (0, 0)) ∧ Kp [p] w wr) := ⟨hq, kq⟩
    have FACT : Hid (lo ≤ L ∧ L + gap top k d0 = lo + gap top n0 d0 ∧ (1 ≤ k ∧ k ≤ top) ∧ 0 ≤ gap top k d0) := ⟨hL, hsum, hk, hin.1⟩
    have WL : IntKind.i64.wrap (L + 1) = L + 1 := w64 _ (by omega) (by omega)
    clear hq kq
    obtain ⟨nk, hnk⟩ : ∃ nk, Hid (nxt top k = nk) := ⟨_, rfl⟩
    have hcase : (top ≤ k ∧ nk = 1) ∨ (k < top ∧ nk = k + 1) := by have e := hnk.out; unfold nxt at e; split at e <;> omega
    have hnk1 : nk = nxt top k := hnk.out.symm
    have HN : Hid (nk = nxt top k) := hnk1
    clear hnk1 hnk m1 m2 hL hsum hin GI
    rcases hcase with ⟨hc, hv⟩ | ⟨hc, hv⟩
    · subst hv
      have k255 : k < 255 := by omega
      have cmp : top < k + 1 := by omega
      by_cases hd : 1 = d0
      · have hd2 : ((1 : Int) == d0) = true := by simpa using hd
        go_wp2_with fail
        go_ret2
        have Z := gap_zero (top := top) (k := k) (n := d0) (by rw [← HN.out]; exact hd)
        have LL : L = lo + gap top n0 d0 := by have := FACT.out.2.1; omega
        rw [← LL]
        exact ⟨rfl, heap_setCell_same _ _ _ _ _ _ (heap_setCell_same _ _ _ _ _ _ (heap_setCell_same _ _ _ _ _ _ HQ.out.1)), ((HQ.out.2.set ⟨p, 3, none⟩ _ (.inl (by simp))).set ⟨p, 4, none⟩ _ (.inl (by simp))).set ⟨p, 5, none⟩ _ (.inl (by simp))⟩
      · have hd2 : ((1 : Int) == d0) = false := by simpa using hd
        have ST := gap_step FACT.out.2.2.1 ⟨h1, h2⟩ (by rw [← HN.out]; exact hd)
        rw [← HN.out] at ST
        have DONE : Hid (((1 : Int) ≤ 1 ∧ 1 ≤ top) ∧ lo ≤ L + 1 ∧ L + 1 + gap top (1) d0 = lo + gap top n0 d0 ∧ (wr.setCell ⟨p, 6, none⟩ (.int .i64 (L + 1))).heap[p]? = some (.cells (vsC id W top true at_ n0 (L + 1) wg) 58 (0, 0)) ∧ Kp [p] w (wr.setCell ⟨p, 6, none⟩ (.int .i64 (L + 1)))) := ⟨by omega, by have := FACT.out.1; omega, by have := FACT.out.2.1; omega, heap_setCell_same _ _ _ _ _ _ HQ.out.1, HQ.out.2.set ⟨p, 6, none⟩ _ (.inl (by simp))⟩
        have MS : Hid ((gap top (1) d0).toNat < (gap top k d0).toNat) := by show _ < _; have := FACT.out.2.2.2; have hi2 := gap_in (k := 1) (n := d0) (top := top) (by omega) ⟨h1, h2⟩; omega
        clear ST FACT HQ HN
        go_wp2_with fail
        exact ⟨⟨_, _, rfl, DONE.out.1, DONE.out.2.1, DONE.out.2.2.1, DONE.out.2.2.2.1, DONE.out.2.2.2.2⟩, by simpa [intOf] using MS.out⟩
    · subst hv
      have k255 : k < 255 := by omega
      have cmp : ¬ top < k + 1 := by omega
      by_cases hd : k + 1 = d0
      · have hd2 : (k + 1 == d0) = true := by simpa using hd
        go_wp2_with fail
        go_ret2
        have Z := gap_zero (top := top) (k := k) (n := d0) (by rw [← HN.out]; exact hd)
        have LL : L = lo + gap top n0 d0 := by have := FACT.out.2.1; omega
        rw [← LL]
        exact ⟨rfl, heap_setCell_same _ _ _ _ _ _ (heap_setCell_same _ _ _ _ _ _ (heap_setCell_same _ _ _ _ _ _ HQ.out.1)), ((HQ.out.2.set ⟨p, 3, none⟩ _ (.inl (by simp))).set ⟨p, 4, none⟩ _ (.inl (by simp))).set ⟨p, 5, none⟩ _ (.inl (by simp))⟩
      · have hd2 : (k + 1 == d0) = false := by simpa using hd
        have ST := gap_step FACT.out.2.2.1 ⟨h1, h2⟩ (by rw [← HN.out]; exact hd)
        rw [← HN.out] at ST
        have DONE : Hid (((1 : Int) ≤ k + 1 ∧ k + 1 ≤ top) ∧ lo ≤ L + 1 ∧ L + 1 + gap top (k + 1) d0 = lo + gap top n0 d0 ∧ (wr.setCell ⟨p, 6, none⟩ (.int .i64 (L + 1))).heap[p]? = some (.cells (vsC id W top true at_ n0 (L + 1) wg) 58 (0, 0)) ∧ Kp [p] w (wr.setCell ⟨p, 6, none⟩ (.int .i64 (L + 1)))) := ⟨by omega, by have := FACT.out.1; omega, by have := FACT.out.2.1; omega, heap_setCell_same _ _ _ _ _ _ HQ.out.1, HQ.out.2.set ⟨p, 6, none⟩ _ (.inl (by simp))⟩
        have MS : Hid ((gap top (k + 1) d0).toNat < (gap top k d0).toNat) := by show _ < _; have := FACT.out.2.2.2; have hi2 := gap_in (k := k + 1) (n := d0) (top := top) (by omega) ⟨h1, h2⟩; omega
        clear ST FACT HQ HN
        go_wp2_with fail
        exact ⟨⟨_, _, rfl, DONE.out.1, DONE.out.2.1, DONE.out.2.2.1, DONE.out.2.2.2.1, DONE.out.2.2.2.2⟩, by simpa [intOf] using MS.out⟩
#print axioms uright_2
end Go.Proofs.Ytlijkgkkoahajaa
