/-
  Done, Hear and Tick of a client that is not there; a result that is taken.
-/
import Derived.Test.YtenfbebdfodmdaaUa
import Derived.Deep.RegionHeld3
import Derived.Test.YtenfbebdfodmdaaTk9
namespace Go.Proofs.Ytenfbebdfodmdaa
open Go.RowKit

theorem ext11 {W : World} {j : Nat} {o v : Obj} (h : W.heap[j]? = some v) : (W.alloc o).heap[j]? = some v := (Below.heap_alloc _ _ _ (Array.getElem?_eq_some_iff.1 h).1).trans h
theorem at11 (w : World) (o : Obj) (j : Nat) (h : j = w.heap.size) : (w.alloc o).heap[j]? = some o := by subst h; exact heap_new w o
theorem blk11 {W W' : World} {j : Nat} {v : Obj} (hb : Below W.heap.size W W') (h : W.heap[j]? = some v) : W'.heap[j]? = some v := (hb.block _ (Array.getElem?_eq_some_iff.1 h).1).trans h
theorem Kp.at {S : List Nat} {W W' : World} {j : Nat} {v : Obj} (hb : Kp S W W') (hj : j ∉ S) (h : W.heap[j]? = some v) : W'.heap[j]? = some v := (hb.block _ (Array.getElem?_eq_some_iff.1 h).1 hj).trans h
theorem froz11 (w : World) (B j : Nat) (C : Array Value) (T : TypeId) (h : w.heap[B]? = some (.cells C T (0, 0))) : w.frozen? ⟨B, j, none⟩ = false := by
  simp [World.frozen?, h]
theorem loadRS (w : World) (B : Nat) (i s : Int) (wr : Bool) (a : Option Addr) (len cap : Nat) (code : Int) (T : TypeId) (h : w.heap[B]? = some (.cells (rsC i s wr a len cap code) T (0, 0))) : (loadVar 40 ⟨B, 0, none⟩).run Try.prog w = .ok (.agg (rsC i s wr a len cap code)) w :=
  load_part 40 5 sizeRS aggRS w B 0 [.int .u16 i, .int .u8 s, .bool wr, .slice a len cap, .int .u32 code] T h (by simp)

set_option linter.unusedSimpArgs false in
set_option maxHeartbeats 4000000 in
set_option maxRecDepth 100000 in
theorem done_nil (w : World) : Calls Try.prog 6 #[.pointer none] w fun e w' => e = .returned (.tuple #[.agg (rsC 0 0 false none 0 0 0), .bool false]) ∧ Below w.heap.size w w' := by
  go_enter Try.func6, Try.ntmps6
  go_wp2_with fail
  exact bodyPost_ret (v := .tuple #[.agg (rsC 0 0 false none 0 0 0), .bool false]) (by simp [results, Try.results6, go_sem]) rfl ⟨rfl, (by repeat (first | exact Below.refl _ _ | apply Below.drew | apply Below.al))⟩

set_option linter.unusedSimpArgs false in
set_option maxHeartbeats 4000000 in
set_option maxRecDepth 100000 in
theorem done_at (p g : Nat) (A wt : Int) (tp : Option Addr) (i s : Int) (wr : Bool) (a : Option Addr) (len cap : Nat) (code : Int) (w : World) (hp : w.heap[p]? = some (.cells (clC A wt tp (some ⟨g, 0, none⟩)) 60 (0, 0))) (hg : w.heap[g]? = some (.cells (rsC i s wr a len cap code) 40 (0, 0))) :
    Calls Try.prog 6 #[.pointer (some ⟨p, 0, none⟩)] w fun e w' => e = .returned (.tuple #[.agg (rsC i s wr a len cap code), .bool true]) ∧ Kp [p] w w' ∧ w'.heap[p]? = some (.cells (clC A wt tp none) 60 (0, 0)) := by
  have c3 : w.cell? ⟨p, 3, none⟩ = some (.pointer (some ⟨g, 0, none⟩)) := by rw [cell_of_row w _ 3 _ _ _ hp]; rfl
  have z3 : w.frozen? ⟨p, 3, none⟩ = false := froz11 w p 3 _ _ hp
  have lp : p < w.heap.size := lt_of_heap hp
  have lg : g < w.heap.size := lt_of_heap hg
  have HP : Hid (w.heap[p]? = some (.cells (clC A wt tp (some ⟨g, 0, none⟩)) 60 (0, 0))) := hp
  have HG : Hid (w.heap[g]? = some (.cells (rsC i s wr a len cap code) 40 (0, 0))) := hg
  clear hp hg
  go_enter Try.func6, Try.ntmps6
  go_wp2_with (refine wpList_load_by rfl 40 _ rfl ⟨g, 0, none⟩ (.agg (rsC i s wr a len cap code)) rfl (loadRS _ g i s wr a len cap code _ (ext11 HG.out)) ?_)
  exact bodyPost_ret (v := .tuple #[.agg (rsC i s wr a len cap code), .bool true]) (by simp [results, Try.results6, go_sem]) rfl ⟨rfl, Kp.al (Kp.al (Kp.set (Kp.refl _ _) _ _ (.inl (by simp))) _) _, ext11 (ext11 (heap_setCell_same _ _ _ _ _ _ HP.out))⟩

set_option linter.unusedSimpArgs false in
set_option maxHeartbeats 4000000 in
set_option maxRecDepth 100000 in
theorem tick_nil (now : Int) (w : World) : Calls Try.prog 8 #[.pointer none, .int .i64 now] w fun e w' => e = .returned (.slice none 0 0) ∧ Below w.heap.size w w' := by
  go_enter Try.func8, Try.ntmps8
  go_wp2_with fail
  refine wp_region_held_drew (S := fun x => Below w.heap.size w x) (by kernel_rfl) (Below.drew (Below.refl _ _)) (fun hHeld => ?_)
  refine tk 0 (.pointer none) rfl (.inl ⟨by rfl, ?_⟩) ?_
  · intro w9 hSw
    try dsimp only at hSw
    go_simp
    all_goals try decide
    all_goals try assumption
    all_goals try omega
  try simp only [Act.put, gA, gS, gZ, sA, sZ, sS]
  refine wpAnyH_ready (rs := [1]) (by kernel_rfl) (by simp) ?_
  refine AllReadyH.cons rfl (fun K' hK => ?_) AllReadyH.nil
  rw [if_pos (by rfl)]
  simp only [gA, gS, gZ]
  go_wp2_with fail
  refine (busy_nil _).mono ?_
  rintro e z ⟨rfl, rfl⟩
  try go_wp2_with fail
  refine hK.out _ _ (hHeld) (fun hHeld => ?_)
  clear hK K'
  try simp only [Act.put, gA, gS, gZ, sA, sZ, sS]
  refine tk 2 (.bool true) rfl (.inl ⟨by rfl, ?_⟩) ?_
  · intro w9 hSw
    try dsimp only at hSw
    go_simp
    all_goals try decide
    all_goals try assumption
    all_goals try omega
  try simp only [Act.put, gA, gS, gZ, sA, sZ, sS]
  refine tk 3 (.bool true) rfl (.inl ⟨by rfl, ?_⟩) ?_
  · intro w9 hSw
    try dsimp only at hSw
    go_simp
    all_goals try decide
    all_goals try assumption
    all_goals try omega
  try simp only [Act.put, gA, gS, gZ, sA, sZ, sS]
  refine tk 4 undef rfl (.inr ⟨by rfl, rfl⟩) ?_
  try simp only [Act.put, gA, gS, gZ, sA, sZ, sS]
  refine tk 5 undef rfl (.inr ⟨by rfl, rfl⟩) ?_
  try simp only [Act.put, gA, gS, gZ, sA, sZ, sS]
  refine tk 6 undef rfl (.inr ⟨by rfl, rfl⟩) ?_
  try simp only [Act.put, gA, gS, gZ, sA, sZ, sS]
  refine tk 7 undef rfl (.inr ⟨by rfl, rfl⟩) ?_
  try simp only [Act.put, gA, gS, gZ, sA, sZ, sS]
  refine tk 8 undef rfl (.inr ⟨by rfl, rfl⟩) ?_
  try simp only [Act.put, gA, gS, gZ, sA, sZ, sS]
  refine tk 9 undef rfl (.inr ⟨by rfl, rfl⟩) ?_
  try simp only [Act.put, gA, gS, gZ, sA, sZ, sS]
  refine tk 10 undef rfl (.inr ⟨by rfl, rfl⟩) ?_
  try simp only [Act.put, gA, gS, gZ, sA, sZ, sS]
  refine tk 11 undef rfl (.inr ⟨by rfl, rfl⟩) ?_
  try simp only [Act.put, gA, gS, gZ, sA, sZ, sS]
  refine tk 12 undef rfl (.inr ⟨by rfl, rfl⟩) ?_
  try simp only [Act.put, gA, gS, gZ, sA, sZ, sS]
  refine tk 13 undef rfl (.inr ⟨by rfl, rfl⟩) ?_
  try simp only [Act.put, gA, gS, gZ, sA, sZ, sS]
  refine tk 14 undef rfl (.inr ⟨by rfl, rfl⟩) ?_
  try simp only [Act.put, gA, gS, gZ, sA, sZ, sS]
  refine tk 15 undef rfl (.inr ⟨by rfl, rfl⟩) ?_
  try simp only [Act.put, gA, gS, gZ, sA, sZ, sS]
  refine tk 16 undef rfl (.inr ⟨by rfl, rfl⟩) ?_
  try simp only [Act.put, gA, gS, gZ, sA, sZ, sS]
  refine tk 17 undef rfl (.inr ⟨by rfl, rfl⟩) ?_
  try simp only [Act.put, gA, gS, gZ, sA, sZ, sS]
  refine tk 18 undef rfl (.inr ⟨by rfl, rfl⟩) ?_
  try simp only [Act.put, gA, gS, gZ, sA, sZ, sS]
  refine tk 19 (.bool true) rfl (.inl ⟨by rfl, ?_⟩) ?_
  · intro w9 hSw
    try dsimp only at hSw
    go_simp
    all_goals try decide
    all_goals try assumption
    all_goals try omega
  try simp only [Act.put, gA, gS, gZ, sA, sZ, sS]
  refine wpAnyH_done (by kernel_rfl) ?_ _
  go_wp2_with fail
  go_ret
  exact ⟨rfl, hHeld⟩

set_option linter.unusedSimpArgs false in
set_option maxHeartbeats 4000000 in
set_option maxRecDepth 100000 in
theorem hear_nil (id n d0 d1 d2 d3 d4 d5 d6 d7 : Int) (r : Bool) (now : Int) (w : World) : Calls Try.prog 7 #[.pointer none, frV id n d0 d1 d2 d3 d4 d5 d6 d7 r, .int .i64 now] w fun e w' => e = .returned (.slice none 0 0) ∧ Below w.heap.size w w' := by
  go_enter_defers Try.func7, Try.ntmps7
  go_wp2_with fail
  refine (busy_nil _).mono ?_
  rintro e w1 ⟨rfl, rfl⟩
  go_wp2_with fail
  exact ⟨.slice none 0 0, (by simp [results, Try.results7, go_sem]), rfl, (by repeat (first | exact Below.refl _ _ | apply Below.drew | apply Below.al))⟩
end Go.Proofs.Ytenfbebdfodmdaa
