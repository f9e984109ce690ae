/-
  A transfer ends.
-/
import Derived.Test.YtenfbebdfodmdaaUe
import Derived.Test.YtenfbebdfodmdaaTk9
namespace Go.Proofs.Ytenfbebdfodmdaa
open Go.RowKit

/-- A transfer ended: its result. -/
def EndPost (S : List Nat) (w : World) (p : Nat) (A wt i s : Int) (wr : Bool) (a : Option Addr) (len cap : Nat) (code : Int) (e : Ending) (w' : World) : Prop :=
  ∃ g, e = .returned (.slice none 0 0) ∧ w.heap.size ≤ g ∧ Kp S w w' ∧ w'.heap[p]? = some (.cells (clC A wt none (some ⟨g, 0, none⟩)) 60 (0, 0)) ∧ w'.heap[g]? = some (.cells (rsC i s wr a len cap code) 40 (0, 0))

set_option linter.unusedSimpArgs false in
set_option maxHeartbeats 4000000 in
set_option maxRecDepth 100000 in
theorem end_w (p T : Nat) (A wt : Int) (rp : Option Addr) (i s : Int) (q : Bool) (last waits : Int) (tg ck : Bool) (a : Option Addr) (len cap : Nat) (sz : Bool) (size next dn asked : Int) (code : Int) (w : World) (hp : w.heap[p]? = some (.cells (clC A wt (some ⟨T, 0, none⟩) rp) 60 (0, 0))) (hT : w.heap[T]? = some (.cells (trC i s true q last waits tg ck a len cap sz size next dn asked) 65 (0, 0))) :
    Calls Try.prog 29 #[.pointer (some ⟨p, 0, none⟩), .int .u32 code] w (EndPost [p] w p A wt i s true none 0 0 code) := by
  have HP : Hid (w.heap[p]? = some (.cells (clC A wt (some ⟨T, 0, none⟩) rp) 60 (0, 0))) := hp
  have HT : Hid (w.heap[T]? = some (.cells (trC i s true q last waits tg ck a len cap sz size next dn asked) 65 (0, 0))) := hT
  have lp : p < w.heap.size := lt_of_heap hp
  have lT : T < w.heap.size := lt_of_heap hT
  have c2 : w.cell? ⟨p, 2, none⟩ = some (.pointer (some ⟨T, 0, none⟩)) := by rw [cell_of_row w _ 2 _ _ _ hp]; rfl
  have c3 : w.cell? ⟨p, 3, none⟩ = some (.pointer rp) := by rw [cell_of_row w _ 3 _ _ _ hp]; rfl
  have z2 : w.frozen? ⟨p, 2, none⟩ = false := froz11 w p 2 _ _ hp
  have z3 : w.frozen? ⟨p, 3, none⟩ = false := froz11 w p 3 _ _ hp
  have t2 : w.cell? ⟨T, 2, none⟩ = some (.bool true) := by rw [cell_of_row w _ 2 _ _ _ hT]; rfl
  have t8 : w.cell? ⟨T, 8, none⟩ = some (.slice a len cap) := by rw [cell_of_row w _ 8 _ _ _ hT]; rfl
  clear hp hT
  go_enter Try.func29, Try.ntmps29
  go_wp2_with fail
  refine wp_region_held_drew (S := fun x => Kp [] w x ∧ x.heap[p]? = some (.cells (clC A wt (some ⟨T, 0, none⟩) rp) 60 (0, 0)) ∧ x.heap[T]? = some (.cells (trC i s true q last waits tg ck a len cap sz size next dn asked) 65 (0, 0))) (by kernel_rfl) (⟨Kp.drew (Kp.refl _ _), HP.out, HT.out⟩) (fun hHeld => ?_)
  refine tk 0 (.pointer (some ⟨T, 0, none⟩)) rfl (.inl ⟨by rfl, ?_⟩) ?_
  · intro w9 hSw
    try dsimp only at hSw
    go_simp
    all_goals try decide
    all_goals try assumption
    all_goals try omega
  try simp only [Act.put, gA, gS, gZ, sA, sZ, sS]
  refine tk 1 (.pointer (some ⟨T, 0, none⟩)) rfl (.inl ⟨by rfl, ?_⟩) ?_
  · intro w9 hSw
    try dsimp only at hSw
    go_simp
    all_goals try decide
    all_goals try assumption
    all_goals try omega
  try simp only [Act.put, gA, gS, gZ, sA, sZ, sS]
  refine tk 2 (.pointer (some ⟨T, 0, none⟩)) rfl (.inl ⟨by rfl, ?_⟩) ?_
  · intro w9 hSw
    try dsimp only at hSw
    go_simp
    all_goals try decide
    all_goals try assumption
    all_goals try omega
  try simp only [Act.put, gA, gS, gZ, sA, sZ, sS]
  refine tk 3 (plV i s) rfl (.inl ⟨by rfl, ?_⟩) ?_
  · intro w9 hSw
    try dsimp only at hSw
    exact ex_load11 27 (.tmp 13) rfl _ _ rfl (load_part 27 2 sizeP aggP _ T 0 [.int .u16 i, .int .u8 s, .bool true, .bool q, .int .i64 last, .int .u8 waits, .bool tg, .bool ck, .slice a len cap, .bool sz, .int .i64 size, .int .i64 next, .int .i64 dn, .int .i64 asked] _ hSw.2.2 (by simp))
  try simp only [Act.put, gA, gS, gZ, sA, sZ, sS]
  refine tk 4 (.pointer (some ⟨T, 0, none⟩)) rfl (.inl ⟨by rfl, ?_⟩) ?_
  · intro w9 hSw
    try dsimp only at hSw
    go_simp
    all_goals try decide
    all_goals try assumption
    all_goals try omega
  try simp only [Act.put, gA, gS, gZ, sA, sZ, sS]
  refine tk 5 (.pointer (some ⟨T, 0, none⟩)) rfl (.inl ⟨by rfl, ?_⟩) ?_
  · intro w9 hSw
    try dsimp only at hSw
    go_simp
    all_goals try decide
    all_goals try assumption
    all_goals try omega
  try simp only [Act.put, gA, gS, gZ, sA, sZ, sS]
  refine tk 6 (.pointer (some ⟨T, 2, none⟩)) rfl (.inl ⟨by rfl, ?_⟩) ?_
  · intro w9 hSw
    try dsimp only at hSw
    go_simp
    all_goals try decide
    all_goals try assumption
    all_goals try omega
  try simp only [Act.put, gA, gS, gZ, sA, sZ, sS]
  refine tk 7 (.bool true) rfl (.inl ⟨by rfl, ?_⟩) ?_
  · intro w9 hSw
    try dsimp only at hSw
    have c0 : w9.cell? ⟨T, 2, none⟩ = some (.bool true) := by rw [cell_of_row _ _ 2 _ _ _ hSw.2.2]; rfl
    go_simp
    all_goals try assumption
  try simp only [Act.put, gA, gS, gZ, sA, sZ, sS]
  refine tk 8 (.int .u32 code) rfl (.inl ⟨by rfl, ?_⟩) ?_
  · intro w9 hSw
    try dsimp only at hSw
    go_simp
    all_goals try decide
    all_goals try assumption
    all_goals try omega
  try simp only [Act.put, gA, gS, gZ, sA, sZ, sS]
  refine tk 9 (.agg (rsC i s true none 0 0 code)) rfl (.inl ⟨by rfl, ?_⟩) ?_
  · intro w9 hSw
    try dsimp only at hSw
    go_simp
    all_goals try decide
    all_goals try assumption
    all_goals try omega
  try simp only [Act.put, gA, gS, gZ, sA, sZ, sS]
  refine wpAnyH_ready (rs := [10]) (by kernel_rfl) (by simp) ?_
  refine AllReadyH.cons rfl (fun K' hK => ?_) AllReadyH.nil
  rw [if_pos (by rfl)]
  simp only [gA, gS, gZ]
  go_wp2_with fail
  refine hK.out _ _ (⟨hHeld.1.al _, ext11 hHeld.2.1, ext11 hHeld.2.2⟩) (fun hHeld => ?_)
  clear hK K'
  try simp only [Act.put, gA, gS, gZ, sA, sZ, sS]
  refine tk 11 (.pointer (some ⟨w.heap.size, 0, none⟩)) rfl (.inl ⟨by rfl, ?_⟩) ?_
  · intro w9 hSw
    try dsimp only at hSw
    go_simp
    all_goals try decide
    all_goals try assumption
    all_goals try omega
  try simp only [Act.put, gA, gS, gZ, sA, sZ, sS]
  refine wpAnyH_done (by kernel_rfl) ?_ _
  clear hHeld
  go_wp2_with fail
  go_ret
  exact ⟨w.heap.size, rfl, Nat.le_refl _, Kp.drew (Kp.al (Kp.set (Kp.set (Kp.refl _ _) _ _ (.inl (by simp))) _ _ (.inl (by simp))) _), ext11 (heap_setCell_same _ _ _ _ _ _ (heap_setCell_same _ _ _ _ _ _ HP.out)), at11 _ _ _ (by simp)⟩

set_option linter.unusedSimpArgs false in
set_option maxHeartbeats 4000000 in
set_option maxRecDepth 100000 in
theorem end_r (p T : Nat) (A wt : Int) (rp : Option Addr) (i s : Int) (q : Bool) (last waits : Int) (tg ck : Bool) (a : Option Addr) (len cap : Nat) (sz : Bool) (size next dn asked : Int) (code : Int) (w : World) (hp : w.heap[p]? = some (.cells (clC A wt (some ⟨T, 0, none⟩) rp) 60 (0, 0))) (hT : w.heap[T]? = some (.cells (trC i s false q last waits tg ck a len cap sz size next dn asked) 65 (0, 0))) (hc : code = 0) :
    Calls Try.prog 29 #[.pointer (some ⟨p, 0, none⟩), .int .u32 code] w (EndPost [p] w p A wt i s false a len cap code) := by
  have HP : Hid (w.heap[p]? = some (.cells (clC A wt (some ⟨T, 0, none⟩) rp) 60 (0, 0))) := hp
  have HT : Hid (w.heap[T]? = some (.cells (trC i s false q last waits tg ck a len cap sz size next dn asked) 65 (0, 0))) := hT
  have lp : p < w.heap.size := lt_of_heap hp
  have lT : T < w.heap.size := lt_of_heap hT
  have c2 : w.cell? ⟨p, 2, none⟩ = some (.pointer (some ⟨T, 0, none⟩)) := by rw [cell_of_row w _ 2 _ _ _ hp]; rfl
  have c3 : w.cell? ⟨p, 3, none⟩ = some (.pointer rp) := by rw [cell_of_row w _ 3 _ _ _ hp]; rfl
  have z2 : w.frozen? ⟨p, 2, none⟩ = false := froz11 w p 2 _ _ hp
  have z3 : w.frozen? ⟨p, 3, none⟩ = false := froz11 w p 3 _ _ hp
  have t2 : w.cell? ⟨T, 2, none⟩ = some (.bool false) := by rw [cell_of_row w _ 2 _ _ _ hT]; rfl
  have t8 : w.cell? ⟨T, 8, none⟩ = some (.slice a len cap) := by rw [cell_of_row w _ 8 _ _ _ hT]; rfl
  clear hp hT
  subst hc
  go_enter Try.func29, Try.ntmps29
  go_wp2_with fail
  refine wp_region_held_drew (S := fun x => Kp [] w x ∧ x.heap[p]? = some (.cells (clC A wt (some ⟨T, 0, none⟩) rp) 60 (0, 0)) ∧ x.heap[T]? = some (.cells (trC i s false q last waits tg ck a len cap sz size next dn asked) 65 (0, 0))) (by kernel_rfl) (⟨Kp.drew (Kp.refl _ _), HP.out, HT.out⟩) (fun hHeld => ?_)
  refine tk 0 (.pointer (some ⟨T, 0, none⟩)) rfl (.inl ⟨by rfl, ?_⟩) ?_
  · intro w9 hSw
    try dsimp only at hSw
    go_simp
    all_goals try decide
    all_goals try assumption
    all_goals try omega
  try simp only [Act.put, gA, gS, gZ, sA, sZ, sS]
  refine tk 1 (.pointer (some ⟨T, 0, none⟩)) rfl (.inl ⟨by rfl, ?_⟩) ?_
  · intro w9 hSw
    try dsimp only at hSw
    go_simp
    all_goals try decide
    all_goals try assumption
    all_goals try omega
  try simp only [Act.put, gA, gS, gZ, sA, sZ, sS]
  refine tk 2 (.pointer (some ⟨T, 0, none⟩)) rfl (.inl ⟨by rfl, ?_⟩) ?_
  · intro w9 hSw
    try dsimp only at hSw
    go_simp
    all_goals try decide
    all_goals try assumption
    all_goals try omega
  try simp only [Act.put, gA, gS, gZ, sA, sZ, sS]
  refine tk 3 (plV i s) rfl (.inl ⟨by rfl, ?_⟩) ?_
  · intro w9 hSw
    try dsimp only at hSw
    exact ex_load11 27 (.tmp 13) rfl _ _ rfl (load_part 27 2 sizeP aggP _ T 0 [.int .u16 i, .int .u8 s, .bool false, .bool q, .int .i64 last, .int .u8 waits, .bool tg, .bool ck, .slice a len cap, .bool sz, .int .i64 size, .int .i64 next, .int .i64 dn, .int .i64 asked] _ hSw.2.2 (by simp))
  try simp only [Act.put, gA, gS, gZ, sA, sZ, sS]
  refine tk 4 (.pointer (some ⟨T, 0, none⟩)) rfl (.inl ⟨by rfl, ?_⟩) ?_
  · intro w9 hSw
    try dsimp only at hSw
    go_simp
    all_goals try decide
    all_goals try assumption
    all_goals try omega
  try simp only [Act.put, gA, gS, gZ, sA, sZ, sS]
  refine tk 5 (.pointer (some ⟨T, 0, none⟩)) rfl (.inl ⟨by rfl, ?_⟩) ?_
  · intro w9 hSw
    try dsimp only at hSw
    go_simp
    all_goals try decide
    all_goals try assumption
    all_goals try omega
  try simp only [Act.put, gA, gS, gZ, sA, sZ, sS]
  refine tk 6 (.pointer (some ⟨T, 2, none⟩)) rfl (.inl ⟨by rfl, ?_⟩) ?_
  · intro w9 hSw
    try dsimp only at hSw
    go_simp
    all_goals try decide
    all_goals try assumption
    all_goals try omega
  try simp only [Act.put, gA, gS, gZ, sA, sZ, sS]
  refine tk 7 (.bool false) rfl (.inl ⟨by rfl, ?_⟩) ?_
  · intro w9 hSw
    try dsimp only at hSw
    have c0 : w9.cell? ⟨T, 2, none⟩ = some (.bool false) := by rw [cell_of_row _ _ 2 _ _ _ hSw.2.2]; rfl
    go_simp
    all_goals try assumption
  try simp only [Act.put, gA, gS, gZ, sA, sZ, sS]
  refine tk 8 (.int .u32 0) rfl (.inl ⟨by rfl, ?_⟩) ?_
  · intro w9 hSw
    try dsimp only at hSw
    go_simp
    all_goals try decide
    all_goals try assumption
    all_goals try omega
  try simp only [Act.put, gA, gS, gZ, sA, sZ, sS]
  refine tk 9 (.agg (rsC i s false none 0 0 0)) rfl (.inl ⟨by rfl, ?_⟩) ?_
  · intro w9 hSw
    try dsimp only at hSw
    go_simp
    all_goals try decide
    all_goals try assumption
    all_goals try omega
  try simp only [Act.put, gA, gS, gZ, sA, sZ, sS]
  refine wpAnyH_ready (rs := [10]) (by kernel_rfl) (by simp) ?_
  refine AllReadyH.cons rfl (fun K' hK => ?_) AllReadyH.nil
  rw [if_pos (by rfl)]
  simp only [gA, gS, gZ]
  go_wp2_with fail
  refine hK.out _ _ (⟨hHeld.1.al _, ext11 hHeld.2.1, ext11 hHeld.2.2⟩) (fun hHeld => ?_)
  clear hK K'
  try simp only [Act.put, gA, gS, gZ, sA, sZ, sS]
  refine tk 11 (.pointer (some ⟨w.heap.size, 0, none⟩)) rfl (.inl ⟨by rfl, ?_⟩) ?_
  · intro w9 hSw
    try dsimp only at hSw
    go_simp
    all_goals try decide
    all_goals try assumption
    all_goals try omega
  try simp only [Act.put, gA, gS, gZ, sA, sZ, sS]
  refine wpAnyH_done (by kernel_rfl) ?_ _
  clear hHeld
  go_wp2_with fail
  go_ret
  exact ⟨w.heap.size, rfl, Nat.le_refl _, Kp.drew (Kp.al (Kp.set (Kp.set (Kp.refl _ _) _ _ (.inl (by simp))) _ _ (.inl (by simp))) _), ext11 (heap_setCell_same _ _ _ _ _ _ (heap_setCell_same _ _ _ _ _ _ HP.out)), at11 _ _ _ (by simp)⟩

end Go.Proofs.Ytenfbebdfodmdaa
