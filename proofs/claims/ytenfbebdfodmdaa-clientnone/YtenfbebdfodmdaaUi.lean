/-
  An answer that ends a transfer is followed.
-/
import Derived.Test.YtenfbebdfodmdaaUg
import Derived.Test.YtenfbebdfodmdaaUh
import Derived.Test.YtenfbebdfodmdaaTk9
namespace Go.Proofs.Ytenfbebdfodmdaa
open Go.RowKit

set_option linter.unusedSimpArgs false in
set_option maxHeartbeats 4000000 in
set_option maxRecDepth 100000 in
theorem follow_1 (p T : Nat) (A wt : Int) (rp : Option Addr) (i s : Int) (last : Int) (tg ck : Bool) (a : Option Addr) (len cap : Nat) (sz : Bool) (size next dn asked : Int) (b0 b1 b2 b3 b4 b5 b6 b7 : Int) (w : World) (hp : w.heap[p]? = some (.cells (clC A wt (some ⟨T, 0, none⟩) rp) 60 (0, 0))) (hT : w.heap[T]? = some (.cells (trC i s true true last 1 tg ck a len cap sz size next dn asked) 65 (0, 0))) (hne : p ≠ T)
    (HAn : Hid (∀ W, Below w.heap.size w W → Calls Try.prog 31 #[arr8 b0 b1 b2 b3 b4 b5 b6 b7] W (fun e w' => ∃ a2 cap2, e = .returned (.tuple #[cmV 1 i s false 0 false a2 0 cap2 false false false 0 0 0 0 0, .int .i64 0]) ∧ Below W.heap.size W w'))) :
    Calls Try.prog 21 #[.pointer (some ⟨p, 0, none⟩), arr8 b0 b1 b2 b3 b4 b5 b6 b7] w (EndPost [p, T] w p A wt i s true none 0 0 0) := by
  have HP : Hid (w.heap[p]? = some (.cells (clC A wt (some ⟨T, 0, none⟩) rp) 60 (0, 0))) := hp
  have HT : Hid (w.heap[T]? = some (.cells (trC i s true true last 1 tg ck a len cap sz size next dn asked) 65 (0, 0))) := hT
  have lp : p < w.heap.size := lt_of_heap hp
  have lT : T < w.heap.size := lt_of_heap hT
  have c2 : w.cell? ⟨p, 2, none⟩ = some (.pointer (some ⟨T, 0, none⟩)) := by rw [cell_of_row w _ 2 _ _ _ hp]; rfl
  have t5 : w.cell? ⟨T, 5, none⟩ = some (.int .u8 1) := by rw [cell_of_row w _ 5 _ _ _ hT]; rfl
  clear hp hT
  go_enter Try.func21, Try.ntmps21
  go_wp2_with (refine wpList_load_by rfl 23 _ rfl ⟨w.heap.size, 0, none⟩ _ rfl (load8 _ _ b0 b1 b2 b3 b4 b5 b6 b7 _ (at11 _ _ _ rfl)) ?_)
  with_reducible refine (HAn.out _ (Below.al (Below.refl _ _) _)).mono ?_
  rintro r w1 ⟨a2, cap2, rfl, hb⟩
  have B1 : Hid (Below w.heap.size w w1) := Below.andThen (Below.al (Below.refl _ _) _) hb
  clear hb c2 t5
  go_wp2_with fail
  refine (must_ok11 _ _).mono ?_
  rintro r w9 ⟨rfl, rfl⟩
  go_wp2_with fail
  obtain ⟨W, HW⟩ : ∃ W, Hid (w1.alloc (.cells (cmC 1 i s false 0 false a2 0 cap2 false false false 0 0 0 0 0) 54) = W) := ⟨_, rfl⟩
  have HPW : Hid (W.heap[p]? = some (.cells (clC A wt (some ⟨T, 0, none⟩) rp) 60 (0, 0))) := by show _ = _; rw [← HW.out]; exact ext11 (blk11 B1.out HP.out)
  have HTW : Hid (W.heap[T]? = some (.cells (trC i s true true last 1 tg ck a len cap sz size next dn asked) 65 (0, 0))) := by show _ = _; rw [← HW.out]; exact ext11 (blk11 B1.out HT.out)
  have HCW : Hid (W.heap[w1.heap.size]? = some (.cells (cmC 1 i s false 0 false a2 0 cap2 false false false 0 0 0 0 0) 54 (0, 0))) := by show _ = _; rw [← HW.out]; exact at11 _ _ _ rfl
  have BW : Hid (Below w.heap.size w W) := by show Below _ _ _; rw [← HW.out]; exact Below.al B1.out _
  have LW1 : Hid (w1.heap.size ≤ W.heap.size) := by show _ ≤ _; rw [← HW.out]; simp
  rw [HW.out]
  refine wp_region_held_drew (S := fun x => Below W.heap.size W x) (by kernel_rfl) (Below.drew (Below.refl _ _)) (fun hHeld => ?_)
  refine tk 0 (.pointer (some ⟨p, 0, none⟩)) rfl (.inl ⟨by rfl, ?_⟩) ?_
  · intro w9 hSw
    try dsimp only at hSw
    go_simp
    all_goals try decide
    all_goals try assumption
    all_goals try omega
  try simp only [Act.put, gA, gS, gZ, sA, sZ, sS]
  refine tk 1 (.pointer (some ⟨p, 0, none⟩)) rfl (.inl ⟨by rfl, ?_⟩) ?_
  · intro w9 hSw
    try dsimp only at hSw
    go_simp
    all_goals try decide
    all_goals try assumption
    all_goals try omega
  try simp only [Act.put, gA, gS, gZ, sA, sZ, sS]
  refine tk 2 (.pointer (some ⟨p, 2, none⟩)) rfl (.inl ⟨by rfl, ?_⟩) ?_
  · intro w9 hSw
    try dsimp only at hSw
    go_simp
    all_goals try decide
    all_goals try assumption
    all_goals try omega
  try simp only [Act.put, gA, gS, gZ, sA, sZ, sS]
  refine tk 3 (.pointer (some ⟨T, 0, none⟩)) rfl (.inl ⟨by rfl, ?_⟩) ?_
  · intro w9 hSw
    try dsimp only at hSw
    have c0 : w9.cell? ⟨p, 2, none⟩ = some (.pointer (some ⟨T, 0, none⟩)) := by rw [cell_of_row _ _ 2 _ _ _ (blk11 hSw HPW.out)]; rfl
    go_simp
    all_goals try assumption
  try simp only [Act.put, gA, gS, gZ, sA, sZ, sS]
  refine tk 4 (cmV 1 i s false 0 false a2 0 cap2 false false false 0 0 0 0 0) rfl (.inl ⟨by rfl, ?_⟩) ?_
  · intro w9 hSw
    try dsimp only at hSw
    exact ex_load11 54 (.tmp 5) rfl _ _ rfl (loadCM _ _ 1 i s false 0 false a2 0 cap2 false false false 0 0 0 0 0 _ (blk11 hSw HCW.out))
  try simp only [Act.put, gA, gS, gZ, sA, sZ, sS]
  refine wpAnyH_ready (rs := [5]) (by kernel_rfl) (by simp) ?_
  refine AllReadyH.cons rfl (fun K' hK => ?_) AllReadyH.nil
  rw [if_pos (by rfl)]
  simp only [gA, gS, gZ]
  go_wp2_with fail
  refine (answered_1 T i s true last tg ck a len cap sz size next dn asked a2 cap2 _ (blk11 hHeld HTW.out)).mono ?_
  rintro e z ⟨rfl, hbx⟩
  try go_wp2_with fail
  refine hK.out _ _ (Below.andThen hHeld hbx) (fun hHeld => ?_)
  clear hK K'
  try simp only [Act.put, gA, gS, gZ, sA, sZ, sS]
  refine wpAnyH_ready (rs := [6]) (by kernel_rfl) (by simp) ?_
  refine AllReadyH.cons rfl (fun K' hK => ?_) AllReadyH.nil
  rw [if_pos (by rfl)]
  simp only [gA, gS, gZ]
  go_wp2_with fail
  refine (must_ok11 _ _).mono ?_
  rintro e z' ⟨rfl, rfl⟩
  try go_wp2_with fail
  refine hK.out _ _ (hHeld) (fun hHeld => ?_)
  clear hK K'
  try simp only [Act.put, gA, gS, gZ, sA, sZ, sS]
  refine wpAnyH_done (by kernel_rfl) ?_ _
  have HPX : Hid _ := blk11 hHeld HPW.out
  have HTX : Hid _ := blk11 hHeld HTW.out
  have HCX : Hid _ := blk11 hHeld HCW.out
  have B3 : Hid _ := Below.andThen BW.out hHeld
  have B4 : Hid _ := hHeld
  clear hHeld
  go_wp2_with (refine wpList_load_by rfl 54 _ rfl ⟨w1.heap.size, 0, none⟩ _ rfl (loadCM _ _ 1 i s false 0 false a2 0 cap2 false false false 0 0 0 0 0 _ HCX.out) ?_)
  with_reducible refine (goOn_1 p T A wt rp i s last tg ck a len cap sz size next dn asked a2 cap2 _ HPX.out HTX.out hne).mono ?_
  rintro e w2 ⟨g, rfl, hg1, hg2, hg3, hg4⟩
  have H4 : Hid _ := hg4
  have H3 : Hid _ := hg3
  have H2 : Hid _ := hg2
  have hg5 : w.heap.size ≤ g := Nat.le_trans B3.out.size hg1
  clear hg1 hg2 hg3 hg4
  go_wp2_with fail
  go_ret
  exact ⟨g, rfl, hg5, (Kp.of B3.out).trans H2.out, H3.out, H4.out⟩

set_option linter.unusedSimpArgs false in
set_option maxHeartbeats 4000000 in
set_option maxRecDepth 100000 in
theorem follow_3 (p T : Nat) (A wt : Int) (rp : Option Addr) (i s : Int) (q : Bool) (last : Int) (tg ck : Bool) (a : Option Addr) (len cap : Nat) (sz : Bool) (size next dn asked : Int) (len2 : Nat) (zs : List Int) (b0 b1 b2 b3 b4 b5 b6 b7 : Int) (w : World) (hp : w.heap[p]? = some (.cells (clC A wt (some ⟨T, 0, none⟩) rp) 60 (0, 0))) (hT : w.heap[T]? = some (.cells (trC i s false q last 3 tg ck a len cap sz size next dn asked) 65 (0, 0))) (hne : p ≠ T)
    (HAn : Hid (∀ W, Below w.heap.size w W → Calls Try.prog 31 #[arr8 b0 b1 b2 b3 b4 b5 b6 b7] W (fun e w' => ∃ a2 cap2, e = .returned (.tuple #[cmV 3 i s true 0 true a2 len2 cap2 false false false 0 0 0 0 0, .int .i64 0]) ∧ Told W w' a2 len2 cap2 zs ∧ Below W.heap.size W w'))) :
    Calls Try.prog 21 #[.pointer (some ⟨p, 0, none⟩), arr8 b0 b1 b2 b3 b4 b5 b6 b7] w (fun e w' => ∃ a2 cap2, EndPost [p, T] w p A wt i s false a2 len2 cap2 0 e w' ∧ Told w w' a2 len2 cap2 zs) := by
  have HP : Hid (w.heap[p]? = some (.cells (clC A wt (some ⟨T, 0, none⟩) rp) 60 (0, 0))) := hp
  have HT : Hid (w.heap[T]? = some (.cells (trC i s false q last 3 tg ck a len cap sz size next dn asked) 65 (0, 0))) := hT
  have lp : p < w.heap.size := lt_of_heap hp
  have lT : T < w.heap.size := lt_of_heap hT
  have c2 : w.cell? ⟨p, 2, none⟩ = some (.pointer (some ⟨T, 0, none⟩)) := by rw [cell_of_row w _ 2 _ _ _ hp]; rfl
  have t5 : w.cell? ⟨T, 5, none⟩ = some (.int .u8 3) := by rw [cell_of_row w _ 5 _ _ _ hT]; rfl
  clear hp hT
  go_enter Try.func21, Try.ntmps21
  go_wp2_with (refine wpList_load_by rfl 23 _ rfl ⟨w.heap.size, 0, none⟩ _ rfl (load8 _ _ b0 b1 b2 b3 b4 b5 b6 b7 _ (at11 _ _ _ rfl)) ?_)
  with_reducible refine (HAn.out _ (Below.al (Below.refl _ _) _)).mono ?_
  rintro r w1 ⟨a2, cap2, rfl, htold, hb⟩
  have HTD : Hid (Told _ w1 a2 len2 cap2 zs) := htold
  clear htold
  have B1 : Hid (Below w.heap.size w w1) := Below.andThen (Below.al (Below.refl _ _) _) hb
  clear hb c2 t5
  go_wp2_with fail
  refine (must_ok11 _ _).mono ?_
  rintro r w9 ⟨rfl, rfl⟩
  go_wp2_with fail
  obtain ⟨W, HW⟩ : ∃ W, Hid (w1.alloc (.cells (cmC 3 i s true 0 true a2 len2 cap2 false false false 0 0 0 0 0) 54) = W) := ⟨_, rfl⟩
  have HPW : Hid (W.heap[p]? = some (.cells (clC A wt (some ⟨T, 0, none⟩) rp) 60 (0, 0))) := by show _ = _; rw [← HW.out]; exact ext11 (blk11 B1.out HP.out)
  have HTW : Hid (W.heap[T]? = some (.cells (trC i s false q last 3 tg ck a len cap sz size next dn asked) 65 (0, 0))) := by show _ = _; rw [← HW.out]; exact ext11 (blk11 B1.out HT.out)
  have HCW : Hid (W.heap[w1.heap.size]? = some (.cells (cmC 3 i s true 0 true a2 len2 cap2 false false false 0 0 0 0 0) 54 (0, 0))) := by show _ = _; rw [← HW.out]; exact at11 _ _ _ rfl
  have BW : Hid (Below w.heap.size w W) := by show Below _ _ _; rw [← HW.out]; exact Below.al B1.out _
  have LW1 : Hid (w1.heap.size ≤ W.heap.size) := by show _ ≤ _; rw [← HW.out]; simp
  rw [HW.out]
  refine wp_region_held_drew (S := fun x => Below W.heap.size W x) (by kernel_rfl) (Below.drew (Below.refl _ _)) (fun hHeld => ?_)
  refine tk 0 (.pointer (some ⟨p, 0, none⟩)) rfl (.inl ⟨by rfl, ?_⟩) ?_
  · intro w9 hSw
    try dsimp only at hSw
    go_simp
    all_goals try decide
    all_goals try assumption
    all_goals try omega
  try simp only [Act.put, gA, gS, gZ, sA, sZ, sS]
  refine tk 1 (.pointer (some ⟨p, 0, none⟩)) rfl (.inl ⟨by rfl, ?_⟩) ?_
  · intro w9 hSw
    try dsimp only at hSw
    go_simp
    all_goals try decide
    all_goals try assumption
    all_goals try omega
  try simp only [Act.put, gA, gS, gZ, sA, sZ, sS]
  refine tk 2 (.pointer (some ⟨p, 2, none⟩)) rfl (.inl ⟨by rfl, ?_⟩) ?_
  · intro w9 hSw
    try dsimp only at hSw
    go_simp
    all_goals try decide
    all_goals try assumption
    all_goals try omega
  try simp only [Act.put, gA, gS, gZ, sA, sZ, sS]
  refine tk 3 (.pointer (some ⟨T, 0, none⟩)) rfl (.inl ⟨by rfl, ?_⟩) ?_
  · intro w9 hSw
    try dsimp only at hSw
    have c0 : w9.cell? ⟨p, 2, none⟩ = some (.pointer (some ⟨T, 0, none⟩)) := by rw [cell_of_row _ _ 2 _ _ _ (blk11 hSw HPW.out)]; rfl
    go_simp
    all_goals try assumption
  try simp only [Act.put, gA, gS, gZ, sA, sZ, sS]
  refine tk 4 (cmV 3 i s true 0 true a2 len2 cap2 false false false 0 0 0 0 0) rfl (.inl ⟨by rfl, ?_⟩) ?_
  · intro w9 hSw
    try dsimp only at hSw
    exact ex_load11 54 (.tmp 5) rfl _ _ rfl (loadCM _ _ 3 i s true 0 true a2 len2 cap2 false false false 0 0 0 0 0 _ (blk11 hSw HCW.out))
  try simp only [Act.put, gA, gS, gZ, sA, sZ, sS]
  refine wpAnyH_ready (rs := [5]) (by kernel_rfl) (by simp) ?_
  refine AllReadyH.cons rfl (fun K' hK => ?_) AllReadyH.nil
  rw [if_pos (by rfl)]
  simp only [gA, gS, gZ]
  go_wp2_with fail
  refine (answered_3 T i s q last tg ck a len cap sz size next dn asked a2 len2 cap2 _ (blk11 hHeld HTW.out)).mono ?_
  rintro e z ⟨rfl, hbx⟩
  try go_wp2_with fail
  refine hK.out _ _ (Below.andThen hHeld hbx) (fun hHeld => ?_)
  clear hK K'
  try simp only [Act.put, gA, gS, gZ, sA, sZ, sS]
  refine wpAnyH_ready (rs := [6]) (by kernel_rfl) (by simp) ?_
  refine AllReadyH.cons rfl (fun K' hK => ?_) AllReadyH.nil
  rw [if_pos (by rfl)]
  simp only [gA, gS, gZ]
  go_wp2_with fail
  refine (must_ok11 _ _).mono ?_
  rintro e z' ⟨rfl, rfl⟩
  try go_wp2_with fail
  refine hK.out _ _ (hHeld) (fun hHeld => ?_)
  clear hK K'
  try simp only [Act.put, gA, gS, gZ, sA, sZ, sS]
  refine wpAnyH_done (by kernel_rfl) ?_ _
  have HPX : Hid _ := blk11 hHeld HPW.out
  have HTX : Hid _ := blk11 hHeld HTW.out
  have HCX : Hid _ := blk11 hHeld HCW.out
  have B3 : Hid _ := Below.andThen BW.out hHeld
  have B4 : Hid _ := hHeld
  clear hHeld
  go_wp2_with (refine wpList_load_by rfl 54 _ rfl ⟨w1.heap.size, 0, none⟩ _ rfl (loadCM _ _ 3 i s true 0 true a2 len2 cap2 false false false 0 0 0 0 0 _ HCX.out) ?_)
  with_reducible refine (goOn_3 p T A wt rp i s q last tg ck a len cap sz size next dn asked a2 len2 cap2 _ HPX.out HTX.out hne).mono ?_
  rintro e w2 ⟨g, rfl, hg1, hg2, hg3, hg4⟩
  have H4 : Hid _ := hg4
  have H3 : Hid _ := hg3
  have H2 : Hid _ := hg2
  have hg5 : w.heap.size ≤ g := Nat.le_trans B3.out.size hg1
  clear hg1 hg2 hg3 hg4
  go_wp2_with fail
  go_ret
  refine ⟨a2, cap2, ⟨g, rfl, hg5, (Kp.of B3.out).trans H2.out, H3.out, H4.out⟩, HTD.out.keep11 (by simp) (fun g' h1 h2 => ?_)⟩
  have h3 : w.heap.size + 1 ≤ g' := by simpa using h1
  rw [H2.out.block g' (Nat.lt_of_lt_of_le h2 (Nat.le_trans LW1.out B4.out.size)) (by simp; omega), B4.out.block g' (Nat.lt_of_lt_of_le h2 LW1.out), ← HW.out]
  exact Below.heap_alloc _ _ _ h2

end Go.Proofs.Ytenfbebdfodmdaa
